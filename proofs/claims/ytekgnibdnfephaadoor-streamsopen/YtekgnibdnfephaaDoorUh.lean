/- StreamsOpen: the walk. -/
import Derived.Test.YtekgnibdnfephaaDoorUg
import Derived.Test.YtekgnibdnfephaaDoorRa
import Derived.Deep.RegionHeld
import Derived.Deep.RegionHeld3
import Derived.Deep.Cut
namespace Go.Proofs.YtekgnibdnfephaaDoor
open Go.RowKit Go.Maps
set_option linter.unusedVariables false

theorem Lc.sz {c s : Lm} {w X : World} (h : Lc c s w X) : w.heap.size + 1 ≤ X.heap.size := (Array.getElem?_eq_some_iff.1 h.bx).1
theorem uLim : Tryd.prog.underlying 23 = some (.struct (Tryd.prog.fieldsOf 23)) := u23
theorem iLim : (Tryd.prog.info? 23).map (·.size) = some 6 := i23
theorem i6 (z : Lm) : (Tryd.prog.info? 23).map (·.size) = some z.v.toArray.size := i23
theorem one6 (z : Lm) : z.v.toArray.all (·.oneCell') = true := by kernel_rfl
theorem Mk.mem {n0 : Nat} {X : World} {l : List (Nat × Obj)} (h : Mk n0 X l) {b : Nat} {o : Obj} (hm : (b, o) ∈ l) : X.heap[b]? = some o := h.at_ _ hm
theorem two_set {c s a b : Lm} {w X : World} {l : List (Nat × Obj)} {pa pb : Nat} {za zb : Array Value} (hl : Lc c s w X) (hm : Mk (w.heap.size + 1) X l) (ha : (pa, Obj.cells za 23 (0, 0)) ∈ l) (hb : (pb, Obj.cells zb 23 (0, 0)) ∈ l) (hne : pa ≠ pb) :
    Lc c s w (X.setRow pa a.v.toArray) ∧ (X.setRow pa a.v.toArray).heap[pb]? = some (.cells zb 23 (0, 0)) ∧ Lc c s w ((X.setRow pa a.v.toArray).setRow pb b.v.toArray) ∧ Lb a b w pa pb ((X.setRow pa a.v.toArray).setRow pb b.v.toArray) ∧ w.heap.size ≤ pa ∧ w.heap.size ≤ pb := by
  have h1 := hm.mem ha
  have h2 := hm.mem hb
  have k1 := hm.lo _ ha
  have k2 := hm.lo _ hb
  simp only at k1 k2
  have l1 : Lc c s w (X.setRow pa a.v.toArray) := lc_set hl (by omega) (by omega)
  exact ⟨l1, (setRow_other _ _ _ _ (by omega)).trans h2, lc_set l1 (by omega) (by omega), Lb.made hl h1 h2 hne (by omega) (by omega), by omega, by omega⟩
theorem ids_get (M i : Nat) (s u : Bool) (h : i < (ids 0 M s u).length) : (ids 0 M s u)[i] = sid i s u := by
  simp [ids]
theorem acc_step {a : Lm} {w X : World} {k : Bks} {u : Bool} {M i : Nat} (h : L2 a w k (ids 0 M false u) i X) (hi : i < M) :
    Calls Tryd.prog 9 #[.pointer (some ⟨k.T, 0, none⟩)] X fun e w' => e = .returned (.tuple #[.int .i64 (sid i false u), .bool true]) ∧ L2 a w k (ids 0 M false u) (i + 1) w' := by
  have hl : i < (ids 0 M false u).length := by rw [ids_len]; exact hi
  have := h.step hl
  rwa [ids_get] at this
/-- The limit while streams are opened: n until n are opened, M behind. -/
def lim (n M i : Nat) : Nat := if i ≤ n then n else M
theorem lim_lt {n M i : Nat} (h : i < M) (hn : i ≠ n) : i < lim n M i := by unfold lim; split <;> omega
theorem lim_le {n M i : Nat} (h : n ≤ M) : lim n M i ≤ M := by unfold lim; split <;> omega
theorem lim_up {n M i : Nat} (hn : i ≠ n) : lim n M (i + 1) = lim n M i := by unfold lim; split <;> split <;> omega
theorem lim_at (n M : Nat) : lim n M n = n := by simp [lim]
theorem lim_on (n M : Nat) : lim n M (n + 1) = M := by unfold lim; split <;> omega
theorem lim_end {n M : Nat} (h : n ≤ M) : lim n M M = M := by unfold lim; split <;> omega
end Go.Proofs.YtekgnibdnfephaaDoor
