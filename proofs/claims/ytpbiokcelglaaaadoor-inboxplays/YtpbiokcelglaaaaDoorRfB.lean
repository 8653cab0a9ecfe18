/- The reference's inbox: Put, End. -/
import Derived.Test.YtpbiokcelglaaaaDoorRput
namespace Go.Proofs.YtpbiokcelglaaaaDoor
open Go.RowKit Go.Maps
set_option linter.unusedVariables false

theorem Chg.none {X : Nat → Prop} {a b : World} (h : Chg (fun _ => False) a b) : Chg X a b := ⟨h.1, h.2.1, h.2.2.1, h.2.2.2.1, fun j hj _ => h.2.2.2.2 j hj (fun e => e)⟩
/-- A byte comes. -/
theorem rput_c {w : World} {r : Nat} {rm lm rc fi : Int} {p M : Nat} {kn : Bool} {ca : Option Addr} {cc : Nat} {V : Nat → Option UInt8} (at' : Nat) (x : UInt8) (h : Rf w r rm p lm rc fi kn ca cc (came V p M)) (hM : M ≤ 10000000) (hat : at' < p + M) :
    Calls Tryd.prog 27 #[.pointer (some ⟨r, 0, none⟩), .agg #[.int .i64 at', .int .u8 (x.toNat : Int)]] w fun e w' => e = .returned (.tuple #[]) ∧ (∃ ca' cc', Rf w' r rm p lm rc fi kn ca' cc' (came (if at' < p then V else put1 V at' x) p M)) ∧ Chg (fun k => k = r) w w' := by
  have hl := came_le V p M
  by_cases hp : at' < p
  · rw [if_pos hp]
    refine (rput_read (L1 := []) at' x h (by simpa using Nat.le_trans hl hM) (fun y hy => ?_) rfl hp).mono ?_
    · have := came_mem hy; omega
    · rintro e w' ⟨rfl, h1, h2⟩
      exact ⟨rfl, ⟨ca, cc, h1⟩, h2.none⟩
  · rw [if_neg hp]
    have hs := came_split V p M at' (by omega) hat
    have hbig : ∀ y ∈ came V (at' + 1) (p + M - (at' + 1)), at' < y.1 := fun y hy => by have := came_mem hy; omega
    cases hv : V at' with
    | some z =>
      rw [put1_some (by rw [hv]; rfl)]
      have hla := came_last_some (p := p) (by omega) hv
      have h' := h
      rw [hs] at h'
      refine (rput_same at' x h' (by rw [← hs]; omega) hbig _ _ hla rfl (by omega)).mono ?_
      rintro e w' ⟨rfl, h1, h2⟩
      rw [← hs] at h1
      exact ⟨rfl, ⟨ca, cc, h1⟩, h2.none⟩
    | none =>
      obtain ⟨e1, e2⟩ := came_put1 p M at' x (by omega) hat hv
      rw [e2]
      have h' := h
      rw [e1] at h'
      have hlt : ∀ y ∈ came V p (at' - p), y.1 < at' := fun y hy => by have := came_mem hy; omega
      have hln : (came V p (at' - p) ++ came V (at' + 1) (p + M - (at' + 1))).length ≤ 10000000 := by rw [← e1]; omega
      rcases List.eq_nil_or_concat (came V p (at' - p)) with h0 | ⟨L0, y, h0⟩
      · exact rput_first at' x h' hln hbig h0 (by omega)
      · rw [List.concat_eq_append] at h0
        exact rput_mid at' x h' hln hbig L0 y h0 (hlt y (by rw [h0]; simp)) (by omega)
theorem rput_arg (r : Nat) (o : Int) (N cap : Nat) (la : Option Addr) (fin : Bool) (w : World) (h : o < 0 ∨ 4611686018427387903 - (N : Int) < o) (hN : N ≤ 4611686018427387903) :
    Calls Tryd.prog 11 #[.pointer (some ⟨r, 0, none⟩), .int .i64 o, .slice la N cap, .bool fin] w fun e w' => e = .returned (.int .i64 2) ∧ w' = w := by
  have i0 : IntKind.i64.wrap (4611686018427387903 - (N : Int)) = 4611686018427387903 - (N : Int) := by rw [IntKind.wrap_i64]; omega
  rcases h with h | h
  · go_enter Tryd.func11, Tryd.ntmps11
    go_wp2
    go_ret
    exact ⟨rfl, rfl⟩
  · by_cases h0 : o < 0
    · go_enter Tryd.func11, Tryd.ntmps11
      go_wp2
      go_ret
      exact ⟨rfl, rfl⟩
    · go_enter Tryd.func11, Tryd.ntmps11
      go_wp2
      go_ret
      exact ⟨rfl, rfl⟩
section
variable {w w' : World} {r : Nat} {rm p lm fi : Int} {rc : Nat} {kn : Bool} {ca : Option Addr} {cc : Nat} {L : List (Nat × UInt8)}
set_option maxRecDepth 100000 in
set_option maxHeartbeats 400000 in
theorem rput_final (h : Rf w r rm p lm rc fi kn ca cc L) (o N cap : Nat) (la : Option Addr) (fin : Bool) (ho : o + N ≤ 4611686018427387903) (hfi : kn = true → fi = rc) (hc : (kn = true ∧ rc < o + N) ∨ (fin = true ∧ o + N < rc)) :
    Calls Tryd.prog 11 #[.pointer (some ⟨r, 0, none⟩), .int .i64 o, .slice la N cap, .bool fin] w fun e w' => e = .returned (.int .i64 33) ∧ w' = w := by
  have i0 : IntKind.i64.wrap (4611686018427387903 - (N : Int)) = 4611686018427387903 - (N : Int) := by rw [IntKind.wrap_i64]; omega
  have i1 : ¬ (4611686018427387903 - (N : Int)) < (o : Int) := by omega
  have i2 : IntKind.i64.wrap ((o : Int) + (N : Int)) = (o : Int) + (N : Int) := by rw [IntKind.wrap_i64]; omega
  have c3 := h.c3
  have c4 := h.c4
  have c5 := h.c5
  clear h
  cases kn with
  | true =>
    obtain rfl := hfi rfl
    by_cases hlt : rc < o + N
    · have j1 : (rc : Int) < (o : Int) + (N : Int) := by omega
      clear hc
      go_enter Tryd.func11, Tryd.ntmps11
      go_wp2
      go_ret
      exact ⟨rfl, rfl⟩
    · have hc' : fin = true ∧ o + N < rc := by (rcases hc with ⟨_, e⟩ | e; exact absurd e hlt; exact e)
      obtain ⟨rfl, hlt2⟩ := hc'
      have j1 : ¬ (rc : Int) < (o : Int) + (N : Int) := by omega
      have j2 : (((o : Int) + (N : Int)) == (rc : Int)) = false := by simp; omega
      have j3 : ¬ ((o : Int) + (N : Int)) = (rc : Int) := by omega
      clear hc
      go_enter Tryd.func11, Tryd.ntmps11
      go_wp2
      go_ret
      exact ⟨rfl, rfl⟩
  | false =>
    have hc' : fin = true ∧ o + N < rc := by
      rcases hc with ⟨e, _⟩ | e
      · cases e
      · exact e
    obtain ⟨rfl, hlt2⟩ := hc'
    have j1 : (o : Int) + (N : Int) < (rc : Int) := by omega
    clear hc hfi
    go_enter Tryd.func11, Tryd.ntmps11
    go_wp2
    go_ret
    exact ⟨rfl, rfl⟩
end
end Go.Proofs.YtpbiokcelglaaaaDoor
