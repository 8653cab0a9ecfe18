/- LedgerOnce: again; rows of numbers; two lists of packets in one. -/
import Derived.Test.YtkjcapmhjhnckaaOn
namespace Go.Proofs.Ytkjcapmhjhnckaa
open Go.RowKit Go.Maps Go.Shelf
set_option linter.unusedVariables false
set_option maxRecDepth 100000

def is (D : List Int) : List Value := D.map fun d => .int .i64 d
theorem is_at {D : List Int} {k : Nat} (h : k < D.length) : (is D)[k]? = some (.int .i64 D[k]) := by simp [is, h]
/-- A slice of numbers as it lies. -/
def Nr (w : World) (o : Option Addr) (c : Nat) (D : List Int) : Prop := Rw 3 1 w o D.length c (is D)
def AgR (W : World) (r : Ending) (w' : World) : Prop := r = .returned (.bool false) ∧ Below W.heap.size W w'
set_option maxHeartbeats 1000000 in
theorem again_c {W : World} {o o' : Option Addr} {c c' : Nat} {D : List Int} {ps : List Pk} (hd : Nr W o c D) (hp : Pr W o' c' ps) (hD : D.length ≤ 4000000000000) (hl : ps.length ≤ 4000000000000) (h1 : ∀ p ∈ ps, p.n ∉ D) (h2 : (ps.map fun p => p.n).Nodup) :
    Calls Try.prog 24 #[.slice o D.length c, .slice o' ps.length c'] W (AgR W) := by
  have HD : Aside (∀ X, Below W.heap.size W X → ∀ k i, k < D.length → i < ps.length → ∃ (g off g' off' : Nat) (x y : Int), o = some ⟨g, off, none⟩ ∧ o' = some ⟨g', off', none⟩ ∧ X.cell? ⟨g, off + k, none⟩ = some (.int .i64 x) ∧ X.cell? ⟨g', off' + i * 4, none⟩ = some (.int .i64 y) ∧ x ≠ y) := by
    intro X hX k i hk hi
    obtain ⟨g, off, e1, c1, _⟩ := (Rw.bel hd hX).cell (is_at hk)
    obtain ⟨g', off', e2, c2, _⟩ := (hp.bel hX).cells hi
    exact ⟨g, off, g', off', _, _, e1, e2, c1, c2, fun e => h1 _ (List.getElem_mem hi) (e ▸ List.getElem_mem hk)⟩
  have HP : Aside (∀ X, Below W.heap.size W X → ∀ k i, k < i → i < ps.length → ∃ (g' off' : Nat) (x y : Int), o' = some ⟨g', off', none⟩ ∧ X.cell? ⟨g', off' + k * 4, none⟩ = some (.int .i64 x) ∧ X.cell? ⟨g', off' + i * 4, none⟩ = some (.int .i64 y) ∧ x ≠ y) := by
    intro X hX k i hk hi
    obtain ⟨g, off, e1, c1, _⟩ := (hp.bel hX).cells (i := k) (by omega)
    obtain ⟨g', off', e2, c2, _⟩ := (hp.bel hX).cells hi
    rw [e1] at e2
    injection e2 with e2
    injection e2 with e2 e3
    subst e2 e3
    have := (List.pairwise_iff_getElem.1 h2) k i (by simp; omega) (by simpa using hi) hk
    exact ⟨g, off, _, _, e1, c1, c2, by simpa using this⟩
  have HR : Aside (∀ w', Below W.heap.size W w' → AgR W (.returned (.bool false)) w') := fun w' h => ⟨rfl, h⟩
  generalize AgR W = RR at *
  generalize D.length = N at *
  generalize ps.length = M at *
  clear hd hp h1 h2
  go_enter Try.func24, Try.ntmps24
  go_wp2
  go_loopg [5] M (fun kx s5 wr => ∃ i : Nat, s5 = .int .i64 (i : Int) ∧ i ≤ M ∧ M - i ≤ kx ∧ Aside (Below W.heap.size W wr))
  case atStart => exact ⟨0, rfl, by omega, by omega, Below.refl _ _⟩
  case round =>
    obtain ⟨i, rfl, hi, hg, HB⟩ := hrel
    by_cases hlt : i < M
    · have i1 : (i : Int) < M := by omega
      have iw : IntKind.i64.wrap ((i : Int) + 1) = (i : Int) + 1 := wrp _ (by omega) (by omega)
      go_wp2
      go_loopg [6] N (fun kx s6 wr => ∃ k : Nat, s6 = .int .i64 (k : Int) ∧ k ≤ N ∧ N - k ≤ kx ∧ Aside (Below W.heap.size W wr))
      case atStart => exact ⟨0, rfl, by omega, by omega, HB.out⟩
      case round =>
        rename_i wq sq
        obtain ⟨k, rfl, hk, hgk, HB2⟩ := hrel
        by_cases hkt : k < N
        · obtain ⟨g, off, g', off', x, y, rfl, rfl, c1, c2, hxy⟩ := HD.out _ HB2.out k i hkt hlt
          have j1 : (k : Int) < N := by omega
          have jw : IntKind.i64.wrap ((k : Int) + 1) = (k : Int) + 1 := wrp _ (by omega) (by omega)
          go_wp2_with fail
          go_quiet (fail)
          go_wp2
          go_roundg (N - (k + 1))
          case measure => omega
          case rel => exact ⟨k + 1, rfl, by omega, Nat.le_refl _, below_drewN HB2.out _⟩
        · obtain rfl : k = N := by omega
          have j1 : ¬ (k : Int) < k := by omega
          go_wp2
          go_loopg [7] i (fun kx s7 wr => ∃ k : Nat, s7 = .int .i64 (k : Int) ∧ k ≤ i ∧ i - k ≤ kx ∧ Aside (Below W.heap.size W wr))
          case atStart => exact ⟨0, rfl, by omega, by omega, HB2.out⟩
          case round =>
            obtain ⟨k2, rfl, hk2, hgk2, HB3⟩ := hrel
            by_cases hkt2 : k2 < i
            · obtain ⟨g', off', x, y, rfl, c1, c2, hxy⟩ := HP.out _ HB3.out k2 i hkt2 hlt
              have j2 : (k2 : Int) < i := by omega
              have jw2 : IntKind.i64.wrap ((k2 : Int) + 1) = (k2 : Int) + 1 := wrp _ (by omega) (by omega)
              have j3 : (k2 : Int) < M := by omega
              go_wp2_with fail
              go_quiet (fail)
              go_wp2
              go_roundg (i - (k2 + 1))
              case measure => omega
              case rel => exact ⟨k2 + 1, rfl, by omega, Nat.le_refl _, below_drewN HB3.out _⟩
            · obtain rfl : k2 = i := by omega
              have j2 : ¬ (k2 : Int) < k2 := by omega
              go_wp2
              go_roundg (M - (k2 + 1))
              case measure => omega
              case rel => exact ⟨k2 + 1, rfl, by omega, Nat.le_refl _, HB3.out⟩
    · obtain rfl : i = M := by omega
      have i1 : ¬ (i : Int) < i := by omega
      go_wp2
      exact HR.out _ HB.out
end Go.Proofs.Ytkjcapmhjhnckaa
