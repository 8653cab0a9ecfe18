/- The reference's inbox: End. -/
import Derived.Test.YtpbiokcelglaaaaDoorRfB
namespace Go.Proofs.YtpbiokcelglaaaaDoor
open Go.RowKit Go.Maps
set_option linter.unusedVariables false

theorem rend_arg (r : Nat) (n : Int) (w : World) (h : n < 0 ∨ 4611686018427387903 < n) : Calls Tryd.prog 15 #[.pointer (some ⟨r, 0, none⟩), .int .i64 n] w fun e w' => e = .returned (.int .i64 2) ∧ w' = w := by
  by_cases h0 : n < 0
  · clear h
    go_enter Tryd.func15, Tryd.ntmps15
    go_wp2
    go_ret
    exact ⟨rfl, rfl⟩
  · have h1 : 4611686018427387903 < n := by omega
    clear h
    go_enter Tryd.func15, Tryd.ntmps15
    go_wp2
    go_ret
    exact ⟨rfl, rfl⟩
section
variable {w w' : World} {r : Nat} {rm p fi : Int} {rc lm : Nat} {kn : Bool} {ca : Option Addr} {cc : Nat} {L : List (Nat × UInt8)}
theorem rend_final (h : Rf w r rm p lm rc fi kn ca cc L) (n : Nat) (hn : n ≤ 4611686018427387903) (hfi : kn = true → fi = rc) (hc : (kn = true ∧ rc < n) ∨ n < rc) : Calls Tryd.prog 15 #[.pointer (some ⟨r, 0, none⟩), .int .i64 n] w fun e w' => e = .returned (.int .i64 33) ∧ w' = w := by
  have i1 : ¬ (n : Int) < 0 := by omega
  have i2 : ¬ (4611686018427387903 : Int) < (n : Int) := by omega
  have c3 := h.c3
  have c4 := h.c4
  have c5 := h.c5
  clear h
  cases kn with
  | true =>
    obtain rfl := hfi rfl
    have j1 : ((rc : Int) == (n : Int)) = false := by simp; omega
    have j2 : ¬ (rc : Int) = (n : Int) := by omega
    clear hc hfi
    go_enter Tryd.func15, Tryd.ntmps15
    go_wp2
    go_ret
    exact ⟨rfl, rfl⟩
  | false =>
    have hc' : n < rc := by
      rcases hc with ⟨e, _⟩ | e
      · cases e
      · exact e
    have j1 : (n : Int) < (rc : Int) := by omega
    clear hc hfi
    go_enter Tryd.func15, Tryd.ntmps15
    go_wp2
    go_ret
    exact ⟨rfl, rfl⟩
theorem rend_flow (h : Rf w r rm p lm rc fi kn ca cc L) (n : Nat) (hn : n ≤ 4611686018427387903) (hfi : kn = true → fi = rc) (h1 : kn = true → n ≤ rc) (h2 : rc ≤ n) (h3 : lm < n) : Calls Tryd.prog 15 #[.pointer (some ⟨r, 0, none⟩), .int .i64 n] w fun e w' => e = .returned (.int .i64 30) ∧ w' = w := by
  have i1 : ¬ (n : Int) < 0 := by omega
  have i2 : ¬ (4611686018427387903 : Int) < (n : Int) := by omega
  have i3 : (lm : Int) < (n : Int) := by omega
  have i4 : ¬ (n : Int) < (rc : Int) := by omega
  have c2 := h.c2
  have c3 := h.c3
  have c4 := h.c4
  have c5 := h.c5
  clear h
  cases kn with
  | true =>
    obtain rfl := hfi rfl
    have := h1 rfl
    obtain rfl : rc = n := by omega
    clear hfi h1 h2 this
    go_enter Tryd.func15, Tryd.ntmps15
    go_wp2
    go_ret
    exact ⟨rfl, rfl⟩
  | false =>
    clear hfi h1 h2
    go_enter Tryd.func15, Tryd.ntmps15
    go_wp2
    go_ret
    exact ⟨rfl, rfl⟩
set_option maxRecDepth 100000 in
theorem rend_ok (h : Rf w r rm p lm rc fi kn ca cc L) (n : Nat) (hn : n ≤ 4611686018427387903) (hfi : kn = true → fi = rc) (h1 : kn = true → n ≤ rc) (h2 : rc ≤ n) (h3 : n ≤ lm) : Calls Tryd.prog 15 #[.pointer (some ⟨r, 0, none⟩), .int .i64 n] w fun e w' => e = .returned (.int .i64 0) ∧ Rf w' r rm p lm n n true ca cc L ∧ Chg (fun k => k = r) w w' := by
  have i1 : ¬ (n : Int) < 0 := by omega
  have i2 : ¬ (4611686018427387903 : Int) < (n : Int) := by omega
  have i3 : ¬ (lm : Int) < (n : Int) := by omega
  have i4 : ¬ (n : Int) < (rc : Int) := by omega
  have g0 := Rf.set h 5 (.bool true) rm p lm rc fi true rfl
  have g1 := Rf.set g0.1 4 (.int .i64 n) rm p lm rc n true rfl
  have g2 := Rf.set g1.1 3 (.int .i64 n) rm p lm n n true rfl
  have HF : Aside (Rf (((w.setCell ⟨r, 5, none⟩ (.bool true)).setCell ⟨r, 4, none⟩ (.int .i64 n)).setCell ⟨r, 3, none⟩ (.int .i64 n)) r rm p lm n n true ca cc L) := g2.1
  have HC : Aside (Chg (fun k => k = r) w (((w.setCell ⟨r, 5, none⟩ (.bool true)).setCell ⟨r, 4, none⟩ (.int .i64 n)).setCell ⟨r, 3, none⟩ (.int .i64 n))) := Chg.trans (Chg.trans g0.2 g1.2) g2.2
  have c2 := h.c2
  have c3 := h.c3
  have c4 := h.c4
  have c5 := h.c5
  have f3 := h.fz 3
  have f4 := h.fz 4
  have f5 := h.fz 5
  clear h g0 g1 g2
  cases kn with
  | true =>
    obtain rfl := hfi rfl
    have := h1 rfl
    obtain rfl : rc = n := by omega
    clear hfi h1 h2 this
    go_enter Tryd.func15, Tryd.ntmps15
    go_wp2
    go_ret
    exact ⟨rfl, HF.out, HC.out⟩
  | false =>
    clear hfi h1 h2
    go_enter Tryd.func15, Tryd.ntmps15
    go_wp2
    go_ret
    exact ⟨rfl, HF.out, HC.out⟩
end
end Go.Proofs.YtpbiokcelglaaaaDoor
