/- The reference's inbox: as it lies; New, raise, Grow, End, Ready. -/
import Derived.Test.YtpbiokcelglaaaaDoorCntB
import Derived.Test.YtpbiokcelglaaaaDoorLay
import Derived.BigQuiet
import Derived.Deep.QuietTactic
import Derived.Deep.RegionHeld3
namespace Go.Proofs.YtpbiokcelglaaaaDoor
open Go.RowKit Go.Maps
set_option linter.unusedVariables false

/-- Bytes with their places, as they lie. -/
def Cm (w : World) (ca : Option Addr) (cc : Nat) (L : List (Nat × UInt8)) : Prop :=
  L.length ≤ cc ∧ ((ca = none ∧ L = [] ∧ cc = 0) ∨ ∃ g off cur, ca = some ⟨g, off, none⟩ ∧ w.heap[g]? = some (.cells cur 62 (0, 0)) ∧ ∀ i (h : i < L.length), cur[off + i * 2]? = some (.int .i64 (L[i].1 : Int)) ∧ cur[off + i * 2 + 1]? = some (.int .u8 (L[i].2.toNat : Int)))
theorem Cm.cells {w : World} {ca : Option Addr} {cc : Nat} {L : List (Nat × UInt8)} (h : Cm w ca cc L) {i : Nat} (hi : i < L.length) : ∃ g off, ca = some ⟨g, off, none⟩ ∧ w.cell? ⟨g, off + i * 2, none⟩ = some (.int .i64 (L[i].1 : Int)) ∧ w.cell? ⟨g, off + i * 2 + 1, none⟩ = some (.int .u8 (L[i].2.toNat : Int)) := by
  rcases h.2 with ⟨_, rfl, _⟩ | ⟨g, off, cur, e, hg, hc⟩
  · simp at hi
  · obtain ⟨h1, h2⟩ := hc i hi
    exact ⟨g, off, e, by simp [World.cell?, hg, h1], by simp [World.cell?, hg, h2]⟩
theorem Cm.kept {w w' : World} {ca : Option Addr} {cc : Nat} {L : List (Nat × UInt8)} {X : Nat → Prop} (h : Cm w ca cc L) (hc : Chg X w w') (hx : ∀ g cur, w.heap[g]? = some (.cells cur 62 (0, 0)) → ¬ X g) : Cm w' ca cc L := by
  refine ⟨h.1, ?_⟩
  rcases h.2 with h0 | ⟨g, off, cur, e, hg, hcc⟩
  · exact .inl h0
  · exact .inr ⟨g, off, cur, e, (hc.2.2.2.2 g (Array.getElem?_eq_some_iff.1 hg).1 (hx g cur hg)).trans hg, hcc⟩
/-- The reference's inbox. -/
def Rf (w : World) (r : Nat) (rm p lm rc fi : Int) (kn : Bool) (ca : Option Addr) (cc : Nat) (L : List (Nat × UInt8)) : Prop :=
  w.heap[r]? = some (.cells #[.int .i64 rm, .int .i64 p, .int .i64 lm, .int .i64 rc, .int .i64 fi, .bool kn, .slice ca L.length cc] 45 (0, 0)) ∧ Cm w ca cc L
section
variable {w w' : World} {r : Nat} {rm p lm rc fi : Int} {kn : Bool} {ca : Option Addr} {cc : Nat} {L : List (Nat × UInt8)}
theorem Rf.lt (h : Rf w r rm p lm rc fi kn ca cc L) : r < w.heap.size := (Array.getElem?_eq_some_iff.1 h.1).1
theorem Rf.kept {X : Nat → Prop} (h : Rf w r rm p lm rc fi kn ca cc L) (hc : Chg X w w') (h1 : ¬ X r) (hx : ∀ g cur, w.heap[g]? = some (.cells cur 62 (0, 0)) → ¬ X g) : Rf w' r rm p lm rc fi kn ca cc L :=
  ⟨(hc.2.2.2.2 r h.lt h1).trans h.1, h.2.kept hc hx⟩
theorem Rf.c0 (h : Rf w r rm p lm rc fi kn ca cc L) : w.cell? ⟨r, 0, none⟩ = some (.int .i64 rm) := by simp [World.cell?, h.1]
theorem Rf.c1 (h : Rf w r rm p lm rc fi kn ca cc L) : w.cell? ⟨r, 1, none⟩ = some (.int .i64 p) := by simp [World.cell?, h.1]
theorem Rf.c2 (h : Rf w r rm p lm rc fi kn ca cc L) : w.cell? ⟨r, 2, none⟩ = some (.int .i64 lm) := by simp [World.cell?, h.1]
theorem Rf.c3 (h : Rf w r rm p lm rc fi kn ca cc L) : w.cell? ⟨r, 3, none⟩ = some (.int .i64 rc) := by simp [World.cell?, h.1]
theorem Rf.c4 (h : Rf w r rm p lm rc fi kn ca cc L) : w.cell? ⟨r, 4, none⟩ = some (.int .i64 fi) := by simp [World.cell?, h.1]
theorem Rf.c5 (h : Rf w r rm p lm rc fi kn ca cc L) : w.cell? ⟨r, 5, none⟩ = some (.bool kn) := by simp [World.cell?, h.1]
theorem Rf.c6 (h : Rf w r rm p lm rc fi kn ca cc L) : w.cell? ⟨r, 6, none⟩ = some (.slice ca L.length cc) := by simp [World.cell?, h.1]
theorem Rf.fz (h : Rf w r rm p lm rc fi kn ca cc L) (j : Nat) : w.frozen? ⟨r, j, none⟩ = false := by simp [World.frozen?, h.1]
theorem Rf.set (h : Rf w r rm p lm rc fi kn ca cc L) (j : Nat) (v : Value) (rm' p' lm' rc' fi' : Int) (kn' : Bool)
    (e : (#[.int .i64 rm, .int .i64 p, .int .i64 lm, .int .i64 rc, .int .i64 fi, .bool kn, .slice ca L.length cc] : Array Value).setIfInBounds j v = #[.int .i64 rm', .int .i64 p', .int .i64 lm', .int .i64 rc', .int .i64 fi', .bool kn', .slice ca L.length cc]) :
    Rf (w.setCell ⟨r, j, none⟩ v) r rm' p' lm' rc' fi' kn' ca cc L ∧ Chg (fun k => k = r) w (w.setCell ⟨r, j, none⟩ v) := by
  have hch : Chg (fun k => k = r) w (w.setCell ⟨r, j, none⟩ v) := by
    rw [setCell_eq_setRow w r j _ 45 (0, 0) _ h.1]
    exact ⟨rfl, rfl, rfl, by simp, fun k hk hx => setRow_other _ r k _ hx⟩
  refine ⟨⟨?_, h.2.kept hch (fun g cur hg e => ?_)⟩, hch⟩
  · rw [setCell_eq_setRow w r j _ 45 (0, 0) _ h.1, setRow_heap _ r _ _ 45 (0, 0) h.1, e]
  · subst e
    rw [h.1] at hg
    simp at hg
end
set_option maxRecDepth 100000 in
theorem rnew_c (rm : Int) (W : World) (h0 : 0 ≤ rm) (h1 : rm ≤ 1048576) : Calls Tryd.prog 8 #[.int .i64 rm] W fun e w' => e = .returned (.tuple #[.pointer (some ⟨W.heap.size, 0, none⟩), .int .i64 0]) ∧ Rf w' W.heap.size rm 0 rm 0 0 false none 0 [] ∧ Chg (fun _ => False) W w' := by
  have i1 : ¬ rm < 0 := by omega
  have i2 : ¬ (1048576 : Int) < rm := by omega
  go_enter Tryd.func8, Tryd.ntmps8
  go_wp2
  go_ret2
  refine ⟨rfl, ⟨heap_alloc_new W _, by simp, .inl ⟨rfl, rfl, rfl⟩⟩, (Chg.refl _ _).alloc _⟩
theorem rnew_no (rm : Int) (W : World) (h : rm < 0 ∨ 1048576 < rm) : Calls Tryd.prog 8 #[.int .i64 rm] W fun e w' => e = .returned (.tuple #[.pointer none, .int .i64 2]) ∧ w' = W := by
  rcases h with h | h
  · go_enter Tryd.func8, Tryd.ntmps8
    go_wp2
    go_ret2
    exact ⟨rfl, rfl⟩
  · have i1 : ¬ rm < 0 := by omega
    go_enter Tryd.func8, Tryd.ntmps8
    go_wp2
    go_ret2
    exact ⟨rfl, rfl⟩
section
variable {w w' : World} {r : Nat} {rm p lm rc fi : Int} {kn : Bool} {ca : Option Addr} {cc : Nat} {L : List (Nat × UInt8)}
theorem Rf.drew (h : Rf w r rm p lm rc fi kn ca cc L) (n : Nat) : Rf (w.drewN n) r rm p lm rc fi kn ca cc L := h
theorem chg_drew (w : World) (n : Nat) (X : Nat → Prop) : Chg X w (w.drewN n) := ⟨rfl, rfl, rfl, Nat.le_refl _, fun _ _ _ => rfl⟩
set_option maxRecDepth 100000 in
set_option maxHeartbeats 400000 in
theorem rraise_c (h : Rf w r rm p lm rc fi kn ca cc L) (mx : Int) (hw : IntKind.i64.wrap (p + rm) = p + rm) (hmx : (if lm < p + rm then p + rm else lm) = mx) : Calls Tryd.prog 30 #[.pointer (some ⟨r, 0, none⟩)] w fun e w' => e = .returned (.tuple #[]) ∧ Rf w' r rm p mx rc fi kn ca cc L ∧ Chg (fun k => k = r) w w' := by
  have H : Aside (Rf w r rm p lm rc fi kn ca cc L) := h
  have c0 := h.c0
  have c1 := h.c1
  have c2 := h.c2
  have f2 := h.fz 2
  clear h
  by_cases hlt : lm < p + rm
  · rw [if_pos hlt] at hmx
    subst hmx
    go_enter Tryd.func30, Tryd.ntmps30
    go_wp2_with fail
    go_quiet (fail)
    go_wp2_with fail
    go_region
    obtain ⟨g1, g2⟩ := Rf.set (Rf.drew H.out nq) 2 (.int .i64 (p + rm)) rm p (p + rm) rc fi kn rfl
    exact bodyPost_end (results_none rfl _ _ _) rfl ⟨rfl, g1, g2⟩
  · rw [if_neg hlt] at hmx
    subst hmx
    go_enter Tryd.func30, Tryd.ntmps30
    go_wp2_with fail
    go_quiet (fail)
    go_wp2
    exact bodyPost_end (results_none rfl _ _ _) rfl ⟨rfl, Rf.drew H.out nq, chg_drew _ _ _⟩
set_option maxRecDepth 100000 in
theorem rgrow_ok (h : Rf w r rm p lm rc fi kn ca cc L) (rm' mx : Int) (h0 : 0 ≤ rm') (h1 : rm' ≤ 1048576) (hw : IntKind.i64.wrap (p + rm') = p + rm') (hmx : (if lm < p + rm' then p + rm' else lm) = mx) : Calls Tryd.prog 17 #[.pointer (some ⟨r, 0, none⟩), .int .i64 rm'] w fun e w' => e = .returned (.int .i64 0) ∧ Rf w' r rm' p mx rc fi kn ca cc L ∧ Chg (fun k => k = r) w w' := by
  obtain ⟨g1, g2⟩ := Rf.set h 0 (.int .i64 rm') rm' p lm rc fi kn rfl
  have RC : Aside _ := rraise_c g1 mx hw hmx
  have G2 : Aside _ := g2
  have i1 : ¬ rm' < 0 := by omega
  have i2 : ¬ (1048576 : Int) < rm' := by omega
  have f0 := h.fz 0
  have c0 := h.c0
  clear h g1 g2
  go_enter Tryd.func17, Tryd.ntmps17
  go_wp2_with fail
  refine Calls.mono RC.out ?_
  rintro e w1 ⟨rfl, k1, k2⟩
  have K1 : Aside (Rf w1 r rm' p mx rc fi kn ca cc L) := k1
  have K2 : Aside (Chg (fun k => k = r) w w1) := Chg.trans G2.out k2
  clear k1 k2
  go_wp2
  go_ret
  exact ⟨rfl, K1.out, K2.out⟩
set_option maxRecDepth 100000 in
theorem rgrow_no (rm' : Int) (w : World) (r : Nat) (h : rm' < 0 ∨ 1048576 < rm') : Calls Tryd.prog 17 #[.pointer (some ⟨r, 0, none⟩), .int .i64 rm'] w fun e w' => e = .returned (.int .i64 2) ∧ w' = w := by
  rcases h with h | h
  · go_enter Tryd.func17, Tryd.ntmps17
    go_wp2
    go_ret
    exact ⟨rfl, rfl⟩
  · have i1 : ¬ rm' < 0 := by omega
    go_enter Tryd.func17, Tryd.ntmps17
    go_wp2
    go_ret
    exact ⟨rfl, rfl⟩
set_option maxRecDepth 100000 in
set_option maxHeartbeats 400000 in
theorem rready_c (h : Rf w r rm (p : Int) lm rc fi kn ca cc L) (n0 : Nat) (hp : 0 ≤ p ∧ p ≤ 4000000000000000000) (hcc : L.length ≤ 4000000000) (hn : n0 ≤ L.length) (h1 : ∀ i (hi : i < L.length), i < n0 → (L[i].1 : Int) = p + i) (h2 : ∀ hi : n0 < L.length, (L[n0].1 : Int) ≠ p + n0) : Calls Tryd.prog 20 #[.pointer (some ⟨r, 0, none⟩)] w fun e w' => e = .returned (.int .i64 n0) ∧ ∃ nq, w' = w.drewN nq := by
  have H : Aside (Rf w r rm p lm rc fi kn ca cc L) := h
  have H1 : Aside _ := h1
  have H2 : Aside _ := h2
  clear h h1 h2
  go_enter Tryd.func20, Tryd.ntmps20
  go_wp2_with fail
  go_loopg [3] (L.length + 1) (fun kx s3 wr => ∃ n : Nat, s3 = .int .i64 n ∧ n ≤ n0 ∧ L.length + 1 - n ≤ kx ∧ Aside (∃ nq, wr = w.drewN nq))
  case atStart => exact ⟨0, rfl, Nat.zero_le _, by omega, 0, rfl⟩
  case round =>
    obtain ⟨n, rfl, hnn, hkx, HW⟩ := hrel
    have hr : Rf wr r rm p lm rc fi kn ca cc L := by obtain ⟨nq, rfl⟩ := HW.out; exact H.out
    have c1 := hr.c1
    have c6 := hr.c6
    by_cases hlt : n < L.length
    · obtain ⟨g, off, rfl, q1, q2⟩ := hr.2.cells hlt
      have i1 : (n : Int) < (L.length : Int) := by omega
      have w1 : IntKind.i64.wrap (p + (n : Int)) = p + (n : Int) := by rw [IntKind.wrap_i64]; omega
      by_cases hn0 : n < n0
      · have e1 : ((L[n].1 : Int) == p + (n : Int)) = true := by rw [H1.out n hlt hn0]; simp
        have e2 : (L[n].1 : Int) = p + (n : Int) := H1.out n hlt hn0
        have E2 : Aside _ := e2
        generalize (L[n].1 : Int) = A at q1 e1 e2
        clear hr q2 e2 E2
        go_wp2_with fail
        go_quiet (fail)
        go_wp2_with fail
        go_roundg (L.length + 1 - (n + 1))
        case measure => omega
        case rel => exact ⟨n + 1, by simp, by omega, Nat.le_refl _, by obtain ⟨k', hk'⟩ := HW.out; exact ⟨k' + nq, by rw [hk', World.drewN_drewN]⟩⟩
      · obtain rfl : n = n0 := by omega
        have e1 : ((L[n].1 : Int) == p + (n : Int)) = false := by simpa using H2.out hlt
        have e2 : ¬ (L[n].1 : Int) = p + (n : Int) := H2.out hlt
        generalize (L[n].1 : Int) = A at q1 e1 e2
        clear hr q2
        go_wp2_with fail
        go_quiet (fail)
        go_wp2
        go_ret
        exact ⟨rfl, by obtain ⟨k', hk'⟩ := HW.out; exact ⟨k' + nq, by rw [hk', World.drewN_drewN]⟩⟩
    · obtain rfl : n = n0 := by omega
      have i1 : ¬ (n : Int) < (L.length : Int) := by omega
      clear hr
      go_wp2_with fail
      go_quiet (fail)
      go_wp2
      go_ret
      exact ⟨rfl, by obtain ⟨k', hk'⟩ := HW.out; exact ⟨k' + nq, by rw [hk', World.drewN_drewN]⟩⟩
end
end Go.Proofs.YtpbiokcelglaaaaDoor
