/- The reference's ledger as it lies; New, time, Flight, Clear. -/
import Derived.Test.YtkjcapmhjhnckaaOS
namespace Go.Proofs.Ytkjcapmhjhnckaa
open Go.RowKit Go.Maps Go.Shelf
set_option linter.unusedVariables false
set_option maxRecDepth 100000

/-- The reference's ledger: all that was sent, each with its state; the greatest that arrived; now. -/
structure Rs where
  L : List (Pk × Int)
  g : Int
  t : Int
def qc (x : Pk × Int) : List Value := [.int .i64 x.1.n, .int .i64 x.1.a, .int .i64 x.1.s, .bool x.1.e, .int .i64 x.2]
def qs (L : List (Pk × Int)) : List Value := L.flatMap qc
theorem qs_app (a b : List (Pk × Int)) : qs (a ++ b) = qs a ++ qs b := by simp [qs]
theorem qs_len (L : List (Pk × Int)) : (qs L).length = L.length * 5 := by
  induction L with
  | nil => rfl
  | cons x t ih => simp only [qs, List.flatMap_cons, List.length_append, List.length_cons, qc, List.length_nil] at ih ⊢; omega
theorem qs_at {L : List (Pk × Int)} {i j : Nat} (h : i < L.length) (hj : j < 5) : (qs L)[i * 5 + j]? = (qc L[i])[j]? := by
  induction L generalizing i with
  | nil => simp at h
  | cons x t ih =>
    have e : qs (x :: t) = qc x ++ qs t := by simp [qs]
    rw [e]
    cases i with
    | zero =>
      rw [Nat.zero_mul, Nat.zero_add, List.getElem?_append_left (by simpa [qc] using hj)]
      rfl
    | succ i =>
      rw [List.getElem?_append_right (by simp [qc]; omega)]
      have := ih (i := i) (by simpa using h)
      simp only [List.getElem_cons_succ]
      rw [← this]
      congr 1
      simp [qc]
      omega
theorem qs_set {L : List (Pk × Int)} {i : Nat} (h : i < L.length) (v : Int) : (qs L).set (i * 5 + 4) (.int .i64 v) = qs (L.set i (L[i].1, v)) := by
  induction L generalizing i with
  | nil => simp at h
  | cons x t ih =>
    have e : ∀ (y : Pk × Int) l, qs (y :: l) = qc y ++ qs l := fun y l => by simp [qs]
    cases i with
    | zero => simp [e, qc]
    | succ i =>
      have := ih (i := i) (by simpa using h)
      rw [e, List.set_append_right _ _ (by simp [qc]; omega)]
      rw [show (i + 1) * 5 + 4 - (qc x).length = i * 5 + 4 by simp [qc]; omega, this]
      simp [e]
/-- A slice of the reference's packets as it lies. -/
def Qr (w : World) (o : Option Addr) (c : Nat) (L : List (Pk × Int)) : Prop := Rw 37 5 w o L.length c (qs L)
theorem Qr.cells {W : World} {o : Option Addr} {c : Nat} {L : List (Pk × Int)} (h : Qr W o c L) {i : Nat} (hi : i < L.length) : ∃ g off, o = some ⟨g, off, none⟩ ∧ W.cell? ⟨g, off + i * 5, none⟩ = some (.int .i64 L[i].1.n) ∧ W.cell? ⟨g, off + i * 5 + 1, none⟩ = some (.int .i64 L[i].1.a) ∧ W.cell? ⟨g, off + i * 5 + 2, none⟩ = some (.int .i64 L[i].1.s) ∧ W.cell? ⟨g, off + i * 5 + 3, none⟩ = some (.bool L[i].1.e) ∧ W.cell? ⟨g, off + i * 5 + 4, none⟩ = some (.int .i64 L[i].2) ∧ W.frozen? ⟨g, off + i * 5 + 4, none⟩ = false := by
  have key : ∀ (j : Nat) (v : Value), j < 5 → (qc L[i])[j]? = some v → ∃ g off, o = some ⟨g, off, none⟩ ∧ W.cell? ⟨g, off + i * 5 + j, none⟩ = some v ∧ W.frozen? ⟨g, off + i * 5 + j, none⟩ = false := by
    intro j v hj hv
    obtain ⟨g, off, e, c0, f0⟩ := Rw.cell h (j := i * 5 + j) (v := v) (by rw [qs_at hi hj]; exact hv)
    exact ⟨g, off, e, by rw [Nat.add_assoc]; exact c0, by rw [Nat.add_assoc]; exact f0⟩
  obtain ⟨g, off, rfl, c0, _⟩ := key 0 _ (by omega) rfl
  have one : ∀ (j : Nat) (v : Value), j < 5 → (qc L[i])[j]? = some v → W.cell? ⟨g, off + i * 5 + j, none⟩ = some v ∧ W.frozen? ⟨g, off + i * 5 + j, none⟩ = false := by
    intro j v hj hv
    obtain ⟨g1, off1, e1, c1, f1⟩ := key j v hj hv
    injection e1 with e1
    injection e1 with e1 e2
    subst e1 e2
    exact ⟨c1, f1⟩
  exact ⟨g, off, rfl, c0, (one 1 _ (by omega) rfl).1, (one 2 _ (by omega) rfl).1, (one 3 _ (by omega) rfl).1, (one 4 _ (by omega) rfl).1, (one 4 (.int .i64 L[i].2) (by omega) rfl).2⟩
structure Ra where
  b : Nat
  o : Option Addr
  c : Nat
def Ra.own (A : Ra) (k : Nat) : Prop := k = A.b ∨ Blk A.o k
/-- The reference's ledger as it lies. -/
structure Rl (W : World) (A : Ra) (R : Rs) : Prop where
  hb : W.heap[A.b]? = some (.cells #[.slice A.o R.L.length A.c, .int .i64 R.g, .int .i64 R.t] 72 (0, 0))
  row : Qr W A.o A.c R.L
section
variable {W W' : World} {A A' : Ra} {R R' : Rs}
theorem Rl.lt (h : Rl W A R) {k : Nat} (hk : A.own k) : k < W.heap.size := by
  rcases hk with rfl | hk
  · exact (Array.getElem?_eq_some_iff.1 h.hb).1
  · exact Rw.lt h.row hk
theorem Rl.bo (h : Rl W A R) : ¬ Blk A.o A.b := fun e => by
  obtain ⟨X, h1⟩ := Rw.ty h.row e
  rw [h.hb] at h1
  simp at h1
theorem Rl.keep (h : Rl W A R) (hk : ∀ k, A.own k → W'.heap[k]? = W.heap[k]?) : Rl W' A R :=
  ⟨(hk _ (.inl rfl)).trans h.hb, Rw.keep h.row fun j hj => hk j (.inr hj)⟩
theorem Rl.bel (h : Rl W A R) (hb : Below W.heap.size W W') : Rl W' A R := h.keep fun k hk => hb.block k (h.lt hk)
theorem Rl.chg (h : Rl W A R) {Y : Nat → Prop} (hc : Chg Y W W') (hy : ∀ k, A.own k → ¬ Y k) : Rl W' A R := h.keep fun k hk => hc.2.2.2.2 k (h.lt hk) (hy k hk)
theorem Rl.c0 (h : Rl W A R) : W.cell? ⟨A.b, 0, none⟩ = some (.slice A.o R.L.length A.c) := by simp [World.cell?, h.hb]
theorem Rl.c1 (h : Rl W A R) : W.cell? ⟨A.b, 1, none⟩ = some (.int .i64 R.g) := by simp [World.cell?, h.hb]
theorem Rl.c2 (h : Rl W A R) : W.cell? ⟨A.b, 2, none⟩ = some (.int .i64 R.t) := by simp [World.cell?, h.hb]
theorem Rl.fz (h : Rl W A R) (j : Nat) : W.frozen? ⟨A.b, j, none⟩ = false := by simp [World.frozen?, h.hb]
/-- What a call may turn. -/
structure Rp (A A' : Ra) (W W' : World) : Prop where
  b : A'.b = A.b
  chg : Chg A.own W W'
  own : ∀ k, A'.own k → A.own k ∨ W.heap.size ≤ k
theorem Rp.refl (A : Ra) (W : World) : Rp A A W W := ⟨rfl, Chg.refl _ _, fun _ h => .inl h⟩
theorem Rp.trans {A B C : Ra} {W X Y : World} (h : Rp A B W X) (k : Rp B C X Y) : Rp A C W Y :=
  ⟨k.b.trans h.b, h.chg.andThen k.chg (fun j hj hb => (h.own j hb).resolve_right (by omega)), fun j hj => by
    rcases k.own j hj with h1 | h1
    · exact h.own j h1
    · exact .inr (Nat.le_trans h.chg.2.2.2.1 h1)⟩
theorem Rp.below {A B : Ra} {W X Y : World} (h : Rp A B W X) (k : Below X.heap.size X Y) : Rp A B W Y := ⟨h.b, h.chg.below k, h.own⟩
theorem Rp.of_below {A : Ra} {W X : World} (k : Below W.heap.size W X) : Rp A A W X := (Rp.refl A W).below k
/-- A state set. -/
theorem Rl.mark (h : Rl W A R) {i : Nat} (hi : i < R.L.length) {g off : Nat} (ho : A.o = some ⟨g, off, none⟩) (v : Int) : Rl (W.setCell ⟨g, off + i * 5 + 4, none⟩ (.int .i64 v)) A { R with L := R.L.set i (R.L[i].1, v) } ∧ Rp A A W (W.setCell ⟨g, off + i * 5 + 4, none⟩ (.int .i64 v)) := by
  have hr := h.row
  unfold Qr at hr
  rw [ho] at hr
  obtain ⟨h1, h2⟩ := Rw.set hr (j := i * 5 + 4) (by rw [qs_len]; omega) (.int .i64 v)
  rw [qs_set hi, ← Nat.add_assoc] at h1
  rw [← Nat.add_assoc] at h2
  have hbo := h.bo
  rw [ho] at hbo
  refine ⟨⟨?_, ?_⟩, rfl, h2.mono (fun k _ hk => by rw [Ra.own, ho]; exact .inr hk), fun k hk => .inl hk⟩
  · rw [h2.blk h.hb hbo]; simp
  · unfold Qr
    simp only [List.length_set]
    rw [ho]
    exact h1
/-- Now, or the greatest, set. -/
theorem Rl.set (h : Rl W A R) (j : Nat) (v : Value) (hcs : (#[.slice A.o R.L.length A.c, .int .i64 R.g, .int .i64 R.t] : Array Value).setIfInBounds j v = #[.slice A.o R'.L.length A.c, .int .i64 R'.g, .int .i64 R'.t]) (hL : R'.L = R.L) : Rl (W.setCell ⟨A.b, j, none⟩ v) A R' ∧ Rp A A W (W.setCell ⟨A.b, j, none⟩ v) := by
  rw [setCell_eq_setRow W A.b j _ 72 (0, 0) _ h.hb]
  refine ⟨⟨?_, ?_⟩, rfl, Chg.setRow _ _ (.inl rfl), fun k hk => .inl hk⟩
  · rw [setRow_heap W A.b _ _ 72 (0, 0) h.hb, hcs]
  · rw [hL]; exact Rw.keep h.row fun k hk => setRow_other W A.b k _ (fun e => h.bo (e ▸ hk))
end
def rs0 : Rs := ⟨[], -1, 0⟩
theorem rnew_c (w : World) : Calls Try.prog 8 #[] w fun e w' => ∃ A, e = .returned (.pointer (some ⟨A.b, 0, none⟩)) ∧ Rl w' A rs0 ∧ Below w.heap.size w w' ∧ (∀ k, A.own k → w.heap.size ≤ k) := by
  go_enter Try.func8, Try.ntmps8
  go_wp2
  go_ret
  refine ⟨⟨w.heap.size, none, 0⟩, rfl, ⟨heap_alloc_new w _, Rw.nil _ _ _⟩, bel1 w _, ?_⟩
  rintro k (rfl | h)
  · exact Nat.le_refl _
  · exact h.no.elim
theorem names_c (w : World) : Calls Try.prog 9 #[] w fun e w' => e = .returned (.bool true) ∧ w' = w := by
  go_enter Try.func9, Try.ntmps9
  go_wp2
  go_ret
  exact ⟨rfl, rfl⟩
theorem rtime_c (n : Int) (w : World) : Calls Try.prog 29 #[.int .i64 n] w fun e w' => e = .returned (.bool (decide (0 ≤ n ∧ n ≤ 1125899906842624))) ∧ w' = w := by
  by_cases h1 : 0 ≤ n
  · by_cases h2 : n ≤ 1125899906842624
    · rw [decide_eq_true ⟨h1, h2⟩]
      go_enter Try.func29, Try.ntmps29
      go_wp2
      go_ret
      exact ⟨rfl, rfl⟩
    · rw [decide_eq_false (fun h => h2 h.2)]
      go_enter Try.func29, Try.ntmps29
      go_wp2
      go_ret
      exact ⟨rfl, rfl⟩
  · rw [decide_eq_false (fun h => h1 h.1)]
    go_enter Try.func29, Try.ntmps29
    go_wp2
    go_ret
    exact ⟨rfl, rfl⟩
/-- Flight, counted. -/
def fl1 (f : Int × Int × Int) (x : Pk × Int) : Int × Int × Int := (if x.2 = 0 then f.1 + x.1.s else f.1, if x.2 = 0 ∧ x.1.e = true then f.2.1 + 1 else f.2.1, if x.1.e = true then x.1.a else f.2.2)
def flt (L : List (Pk × Int)) : Int × Int × Int := L.foldl fl1 (0, 0, 0)
theorem flt_snoc (L : List (Pk × Int)) (x : Pk × Int) : flt (L ++ [x]) = fl1 (flt L) x := by simp [flt, List.foldl_append]
theorem flt_bound {L : List (Pk × Int)} (h : ∀ x ∈ L, x.1.ok) : 0 ≤ (flt L).1 ∧ (flt L).1 ≤ 65535 * L.length ∧ 0 ≤ (flt L).2.1 ∧ (flt L).2.1 ≤ L.length := by
  have key : ∀ (l : List (Pk × Int)) (f : Int × Int × Int) (m : Nat), (∀ x ∈ l, x.1.ok) → (0 ≤ f.1 ∧ f.1 ≤ 65535 * (m : Int) ∧ 0 ≤ f.2.1 ∧ f.2.1 ≤ m) → 0 ≤ (l.foldl fl1 f).1 ∧ (l.foldl fl1 f).1 ≤ 65535 * ((m + l.length : Nat) : Int) ∧ 0 ≤ (l.foldl fl1 f).2.1 ∧ (l.foldl fl1 f).2.1 ≤ ((m + l.length : Nat) : Int) := by
    intro l
    induction l with
    | nil => intro f m _ h; simpa using h
    | cons x t ih =>
      intro f m hx hf
      have h2 := hx x (by simp)
      have h3 := h2.s0
      have h4 := h2.s1
      have := ih (fl1 f x) (m + 1) (fun y hy => hx y (by simp [hy])) (by
        simp only [fl1]
        refine ⟨?_, ?_, ?_, ?_⟩ <;> split <;> omega)
      rw [List.foldl_cons, List.length_cons]
      rw [show m + (t.length + 1) = m + 1 + t.length by omega]
      exact this
  have := key L (0, 0, 0) 0 h (by simp)
  simpa [flt] using this
def FlR (W : World) (R : Rs) (e : Ending) (w' : World) : Prop := e = .returned (.tuple #[.int .i64 (flt R.L).1, .int .i64 (flt R.L).2.1, .int .i64 (flt R.L).2.2]) ∧ Below W.heap.size W w'
set_option maxHeartbeats 1000000 in
theorem rflight_c {W : World} {A : Ra} {R : Rs} (h : Rl W A R) (hok : ∀ x ∈ R.L, x.1.ok) (hl : R.L.length ≤ 4000000000000) : Calls Try.prog 21 #[.pointer (some ⟨A.b, 0, none⟩)] W (FlR W R) := by
  have HRL : Aside _ := h
  have HOK : Aside _ := hok
  obtain ⟨N, hN⟩ : ∃ N, R.L.length = N := ⟨_, rfl⟩
  have HN : Aside _ := hN
  rw [hN] at hl
  have HR : Aside (∀ w', Below W.heap.size W w' → FlR W R (.returned (.tuple #[.int .i64 (flt R.L).1, .int .i64 (flt R.L).2.1, .int .i64 (flt R.L).2.2])) w') := fun w' h => ⟨rfl, h⟩
  generalize FlR W R = RR at *
  clear h hok hN
  go_enter Try.func21, Try.ntmps21
  go_wp2
  go_loopg [5, 6, 7, 8] N (fun kx s5 s6 s7 s8 wr => ∃ (k : Nat) (f1 f2 f3 : Int), s5 = .int .i64 f1 ∧ s6 = .int .i64 f2 ∧ s7 = .int .i64 f3 ∧ s8 = .int .i64 (k : Int) ∧ k ≤ N ∧ N - k ≤ kx ∧ Aside (Below W.heap.size W wr ∧ flt (R.L.take k) = (f1, f2, f3)))
  case atStart => exact ⟨0, 0, 0, 0, rfl, rfl, rfl, rfl, by omega, by omega, Below.refl _ _, rfl⟩
  case round =>
    obtain ⟨k, f1, f2, f3, rfl, rfl, rfl, rfl, hk, hg, HI⟩ := hrel
    have c0 := (HRL.out.bel HI.out.1).c0
    rw [HN.out] at c0
    by_cases hlt : k < N
    · have hi : k < R.L.length := by rw [HN.out]; exact hlt
      obtain ⟨g, off, ho, q0, q1, q2, q3, q4, -⟩ := (HRL.out.bel HI.out.1).row.cells hi
      have HT : Aside (R.L.take (k + 1) = R.L.take k ++ [R.L[k]]) := List.take_succ_eq_append_getElem hi
      have pk := HOK.out _ (List.getElem_mem hi)
      have fb := flt_bound (L := R.L.take k) fun x hx => HOK.out x (List.mem_of_mem_take hx)
      rw [HI.out.2, List.length_take] at fb
      obtain ⟨fb1, fb2, fb3, fb4⟩ := fb
      simp only at fb1 fb2 fb3 fb4
      have z0 := pk.s0
      have z1 := pk.s1
      clear pk
      generalize R.L[k] = x at *
      obtain ⟨⟨xn, xa, xz, xe⟩, st⟩ := x
      simp only at q0 q1 q2 q3 q4 z0 z1
      generalize A.o = oo at *
      subst ho
      have i1 : (k : Int) < N := by omega
      have iw : IntKind.i64.wrap ((k : Int) + 1) = (k : Int) + 1 := wrp _ (by omega) (by omega)
      have ia : IntKind.i64.wrap (f1 + xz) = f1 + xz := wrp _ (by omega) (by omega)
      have ib : IntKind.i64.wrap (f2 + 1) = f2 + 1 := wrp _ (by omega) (by omega)
      have HB1 : Aside (Below W.heap.size W (wr.alloc (.cells #[.int .i64 xn, .int .i64 xa, .int .i64 xz, .bool xe, .int .i64 st] 37))) := bel_trans HI.out.1 (bel1 wr _)
      have HF : Aside (flt (R.L.take (k + 1)) = fl1 (f1, f2, f3) (⟨xn, xa, xz, xe⟩, st)) := by
        show flt _ = _
        rw [HT.out, flt_snoc, HI.out.2]
      clear hi HI HT fb1 fb2 fb3 fb4
      by_cases hst : st = 0
      · subst hst
        cases xe with
        | true =>
          go_wp2
          go_roundg (N - (k + 1))
          case measure => omega
          case rel => exact ⟨k + 1, _, _, _, rfl, rfl, rfl, rfl, by omega, Nat.le_refl _, HB1.out, by rw [HF.out]; simp [fl1]⟩
        | false =>
          go_wp2
          go_roundg (N - (k + 1))
          case measure => omega
          case rel => exact ⟨k + 1, _, _, _, rfl, rfl, rfl, rfl, by omega, Nat.le_refl _, HB1.out, by rw [HF.out]; simp [fl1]⟩
      · cases xe with
        | true =>
          go_wp2
          go_roundg (N - (k + 1))
          case measure => omega
          case rel => exact ⟨k + 1, _, _, _, rfl, rfl, rfl, rfl, by omega, Nat.le_refl _, HB1.out, by rw [HF.out]; simp [fl1, hst]⟩
        | false =>
          go_wp2
          go_roundg (N - (k + 1))
          case measure => omega
          case rel => exact ⟨k + 1, _, _, _, rfl, rfl, rfl, rfl, by omega, Nat.le_refl _, HB1.out, by rw [HF.out]; simp [fl1, hst]⟩
    · obtain rfl : k = N := by omega
      have i1 : ¬ (k : Int) < k := by omega
      have hf := HI.out.2
      rw [show R.L.take k = R.L by rw [← HN.out, List.take_length]] at hf
      have HE : Aside _ := HR.out wr HI.out.1
      rw [hf] at HE
      clear hf HI HR
      go_wp2
      refine bodyPost_ret (results_3 (fn := Try.f21) (a := 2) (b := 3) (c := 4) rfl _ _) rfl ?_
      exact HE.out
end Go.Proofs.Ytkjcapmhjhnckaa
