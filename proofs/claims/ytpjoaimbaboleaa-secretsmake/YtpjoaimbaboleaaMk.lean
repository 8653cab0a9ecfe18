/- SecretsMake: the law's acts and its list of handles. -/
import Derived.Test.YtpjoaimbaboleaaSt1
import Derived.Test.YtpjoaimbaboleaaSt2
import Derived.Test.YtpjoaimbaboleaaHw
namespace Go.Proofs.Ytpjoaimbaboleaa
open Go.RowKit Go.Shelf Go.Lib
set_option linter.unusedVariables false

/-- An act. -/
structure ActR where
  k : Int
  a : Int
  b : Int
  lb : ByteArray
  o : Option Addr
  l : List UInt8
  c : Nat
/-- Acts as they lie. -/
def Ac (W : World) (la : Option Addr) (A : List ActR) : Prop := ∀ (i : Nat) (hi : i < A.length), ∃ b off, la = some ⟨b, off, none⟩ ∧ W.cell? ⟨b, off + i * 5, none⟩ = some (.int .i64 A[i].k) ∧ W.cell? ⟨b, off + i * 5 + 1, none⟩ = some (.int .i64 A[i].a) ∧ W.cell? ⟨b, off + i * 5 + 2, none⟩ = some (.int .i64 A[i].b) ∧ W.cell? ⟨b, off + i * 5 + 3, none⟩ = some (.string A[i].lb) ∧ W.cell? ⟨b, off + i * 5 + 4, none⟩ = some (.slice A[i].o A[i].l.length A[i].c) ∧ Sl W A[i].o A[i].l ∧ A[i].l.length ≤ 140737488351232 ∧ A[i].lb.size ≤ 140737488351232 ∧ (-9223372036854775808 ≤ A[i].a ∧ A[i].a ≤ 9223372036854775807) ∧ (-9223372036854775808 ≤ A[i].b ∧ A[i].b ≤ 9223372036854775807)
/-- The five cells of an act. -/
def ac5 (r : ActR) : List Value := [.int .i64 r.k, .int .i64 r.a, .int .i64 r.b, .string r.lb, .slice r.o r.l.length r.c]
theorem step_c {W0 w : World} {V R : Nat} {L : List Tm} (h : Rs W0 w V L R L) (hO : Onc L) (hC : Cns L) (hle : L.length ≤ 90000) (H G : List UInt8) (hH : H.length = 16) (hG : G.length = 16) (r : ActR) (hS : Sl W0 r.o r.l) (hl0 : r.l.length ≤ 140737488351232) (hlb : r.lb.size ≤ 140737488351232) :
    Calls Try.prog 13 #[.pointer (some ⟨V, 0, none⟩), .pointer (some ⟨R, 0, none⟩), .agg (ac5 r).toArray, hv H, hv G] w (StP W0 V R L w) := by
  obtain ⟨k, a, b, lb, o, l, c⟩ := r
  show Calls Try.prog 13 #[.pointer (some ⟨V, 0, none⟩), .pointer (some ⟨R, 0, none⟩), .agg #[.int .i64 k, .int .i64 a, .int .i64 b, .string lb, .slice o l.length c], hv H, hv G] w (StP W0 V R L w)
  by_cases hk : 0 ≤ k ∧ k ≤ 8
  · rcases (show k = 0 ∨ k = 1 ∨ k = 2 ∨ k = 3 ∨ k = 4 ∨ k = 5 ∨ k = 6 ∨ k = 7 ∨ k = 8 by omega) with rfl | rfl | rfl | rfl | rfl | rfl | rfl | rfl | rfl
    · exact step0 h hO hC hle H G hH hG a b lb o c l hS hl0 hlb
    · exact step1 h hO hC hle H G hH hG a b lb o c l hS hl0 hlb
    · exact step2 h hO hC hle H G hH hG a b lb o c l hS hl0 hlb
    · exact step3 h hO hC hle H G hH hG a b lb o c l hS hl0 hlb
    · exact step4 h hO hC hle H G hH hG a b lb o c l hS hl0 hlb
    · exact step5 h hO hC hle H G hH hG a b lb o c l hS hl0 hlb
    · exact step6 h hO hC hle H G hH hG a b lb o c l hS hl0 hlb
    · exact step7 h hO hC hle H G hH hG a b lb o c l hS hl0 hlb
    · exact step8 h hO hC hle H G hH hG a b lb o c l hS hl0 hlb
  · exact stepn h hO hC hle H G hH hG k a b lb o c l hS hl0 hlb hk
theorem fresh_kc' {W0 w : World} {V : Nat} {L : List Tm} (h : Ag W0 w V L) (hle : L.length ≤ 1000000) : Calls Try.prog 10 #[.pointer (some ⟨V, 0, none⟩)] w fun e w' => e = .returned (hv (nameL L.length)) ∧ Ag W0 w' V (L ++ [fr]) ∧ Kc w w' := by
  obtain ⟨G, c, M, hv⟩ := h.va
  refine (fresh_c hv hle).mono ?_
  rintro e w' ⟨rfl, G', c', h1, h2, h3⟩
  exact ⟨rfl, ⟨h.bel.trans (h2.bel hv), G', c', M, h1⟩, Kc.of_vc h2 hv⟩
theorem rnew_kz {W0 w : World} {V R : Nat} {L0 L : List Tm} (h : Rs W0 w V L0 R L) (hle : L.length ≤ 100000) : Calls Try.prog 12 #[.pointer (some ⟨R, 0, none⟩)] w fun e w' => e = .returned (hv (nameL L.length)) ∧ Rs W0 w' V L0 R (L ++ [fr]) ∧ Kz w w' := by
  obtain ⟨g, d, hr⟩ := h.rv
  refine (rfresh_c hr hle h.ag.bel.size).mono ?_
  rintro e w' ⟨rfl, h1, h2, h3⟩
  exact ⟨rfl, ⟨h.ag.kx h3 h2, h1⟩, Kz.of_kx h2⟩
set_option maxRecDepth 100000 in
theorem names_c2 (w : World) : Calls Try.prog 9 #[] w fun e w' => e = .returned (.bool true) ∧ w' = w := by
  go_enter Try.func9, Try.ntmps9
  go_wp2
  go_ret
  exact ⟨rfl, rfl⟩
/-- What lies there ahead of a step. -/
structure Mw (W0 : World) (V R i : Nat) (L : List Tm) (Hs : List (List UInt8)) (g c : Nat) (w : World) : Prop where
  rs : Rs W0 w V L R L
  onc : Onc L
  cns : Cns L
  row : w.ownsRow W0.heap.size 29 16 (.slice (some ⟨g, 0, none⟩) Hs.length c) Hs.length (hrow Hs)
  h16 : H16 Hs
  h0 : Hs[0]? = some (nameL 1)
  len : Hs.length = 3 + i
  ll : L.length ≤ 2 + 2 * i
section
variable {W0 w w' : World} {V R i : Nat} {L : List Tm} {Hs : List (List UInt8)} {g c : Nat}
theorem Mw.go (h : Mw W0 V R i L Hs g c w) (hb : Below w.heap.size w w') : Mw W0 V R i L Hs g c w' :=
  ⟨h.rs.go hb, h.onc, h.cns, own_stay h.row fun k cs hk => heap_bel hk hb, h.h16, h.h0, h.len, h.ll⟩
theorem Mw.lt (h : Mw W0 V R i L Hs g c w) : g < w.heap.size := by
  obtain ⟨_, _, _, cs, hg⟩ := hr_own h.row
  exact (Array.getElem?_eq_some_iff.1 hg).1
theorem Mw.set (h : Mw W0 V R i L Hs g c w) {B : Nat} {cs : Array Value} (hB : w.heap[B]? = some (.cells cs 29 (0, 0))) (hge : W0.heap.size ≤ B) (hne : g ≠ B) (ds : Array Value) : Mw W0 V R i L Hs g c (w.setRow B ds) := by
  refine ⟨h.rs.setb hB ⟨by decide, by decide, by decide, by decide⟩ hge ds, h.onc, h.cns, ?_, h.h16, h.h0, h.len, h.ll⟩
  obtain ⟨h0, h1 | ⟨g', cap, cur, e, h2, h3, h4⟩⟩ := h.row
  · exact ⟨h0, .inl h1⟩
  · have hg : g' = g := by injection e with e _ _; injection e with e; injection e with e; exact e.symm
    refine ⟨h0, .inr ⟨g', cap, cur, e, h2, (setRow_other _ _ _ _ ?_).trans h3, h4⟩⟩
    rw [hg]
    exact hne
theorem Mw.at' (h : Mw W0 V R i L Hs g c w) {m : Nat} (hm : m < 3 + i) : ∃ X, X.length = 16 ∧ w.rangeAt g (m * 16) (hl X) := by
  have hlt : m < Hs.length := by rw [h.len]; exact hm
  exact ⟨Hs[m], h.h16 _ (List.getElem_mem hlt), hr_at h.h16 h.row (List.getElem?_eq_getElem hlt)⟩
theorem Mw.cap (h : Mw W0 V R i L Hs g c w) : 3 + i ≤ c ∧ c ≤ 9223372036854775807 := by
  obtain ⟨h1, h2, _⟩ := hr_own h.row
  rw [h.len] at h1
  unfold maxLen at h2
  exact ⟨h1, h2⟩
/-- One more. -/
theorem Mw.push (h : Mw W0 V R i L Hs g c w) {w1 w2 : World} (hk : Kq w w1) (hk2 : Below w1.heap.size w1 w2) {L' : List Tm} (hr : Rs W0 w1 V L' R L') (hO : Onc L') (hC : Cns L') (hl' : L'.length ≤ L.length + 2) {X : List UInt8} (hX : X.length = 16) {b : Nat} (hb : w2.heap[b]? = some (.cells (hl X).toArray 29 (0, 0))) (hi : i ≤ 5000) :
    ∃ g' c' w', (Builtin.append_ #[31, 31] 31 #[.slice (some ⟨g, 0, none⟩) (3 + i) c, .slice (some ⟨b, 0, none⟩) 1 1]).run Try.prog w2 = .ok (.slice (some ⟨g', 0, none⟩) (3 + (i + 1)) c') w' ∧ Mw W0 V R (i + 1) L' (Hs ++ [X]) g' c' w' := by
  have h1 := own_stay h.row fun k cs hg => heap_bel (hk _ _ _ _ hg (by decide) (by decide) (by decide) (by decide)) hk2
  have hr2 := hr.go hk2
  obtain ⟨g', c', w', r1, r2, r3, r4, r5, r6⟩ := hr_app h1 hX hb hr2.ag.bel.size (by rw [h.len]; omega)
  rw [h.len] at r1 r2
  rw [show 3 + i + 1 = 3 + (i + 1) by omega] at r1 r2
  obtain ⟨gr, dr, hrv⟩ := hr2.rv
  refine ⟨g', c', w', r1, ⟨⟨hr2.ag.kp r4 r3 (by decide) (by decide), gr, dr, hrv.keep fun b cs t hb ht => r3.cells hb (by rcases ht with rfl | rfl <;> decide)⟩, hO, hC, by rw [List.length_append, h.len, List.length_singleton, show 3 + i + 1 = 3 + (i + 1) by omega]; exact r2, h.h16.app hX, ?_, by rw [List.length_append, h.len, List.length_singleton]; omega, by have := h.ll; omega⟩⟩
  rw [List.getElem?_append_left (by rw [h.len]; omega)]
  exact h.h0
end
/-- The handle 9. -/
def n16 : List UInt8 := [9, 0, 0, 0, 0, 0, 0, 0, 0, 0, 0, 0, 0, 0, 0, 0]
theorem hv_n : Value.agg #[.int .u8 9, .int .u8 0, .int .u8 0, .int .u8 0, .int .u8 0, .int .u8 0, .int .u8 0, .int .u8 0, .int .u8 0, .int .u8 0, .int .u8 0, .int .u8 0, .int .u8 0, .int .u8 0, .int .u8 0, .int .u8 0] = hv n16 := rfl
theorem und35 : Try.prog.underlying 35 = some (.struct (Try.prog.fieldsOf 35)) := by kernel_rfl
theorem siz35 : (Try.prog.info? 35).map (·.size) = some 5 := by kernel_rfl
theorem ac_range {W : World} {b off : Nat} {r : ActR} (q0 : W.cell? ⟨b, off, none⟩ = some (.int .i64 r.k)) (q1 : W.cell? ⟨b, off + 1, none⟩ = some (.int .i64 r.a)) (q2 : W.cell? ⟨b, off + 2, none⟩ = some (.int .i64 r.b)) (q3 : W.cell? ⟨b, off + 3, none⟩ = some (.string r.lb)) (q4 : W.cell? ⟨b, off + 4, none⟩ = some (.slice r.o r.l.length r.c)) : W.rangeAt b off (ac5 r) := by
  intro j v hv
  have hj : j < 5 := (List.getElem?_eq_some_iff.1 hv).1
  rcases (show j = 0 ∨ j = 1 ∨ j = 2 ∨ j = 3 ∨ j = 4 by omega) with rfl | rfl | rfl | rfl | rfl
  · exact q0.trans hv
  · exact q1.trans hv
  · exact q2.trans hv
  · exact q3.trans hv
  · exact q4.trans hv
theorem tmod_fact (A : Int) (n : Nat) (h0 : 0 ≤ A) (hn : 0 < n) : ∃ m : Nat, A.tmod (n : Int) = (m : Int) ∧ m < n := by
  have h1 := Int.tmod_nonneg (n : Int) h0
  have h2 := Int.tmod_lt_of_pos A (show (0 : Int) < n by omega)
  exact ⟨(A.tmod n).toNat, by omega, by omega⟩
end Go.Proofs.Ytpjoaimbaboleaa
