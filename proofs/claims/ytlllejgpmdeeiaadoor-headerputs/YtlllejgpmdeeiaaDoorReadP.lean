/- What header.Read answers; slices.Clone beside a header's block. -/
import Derived.Test.YtlllejgpmdeeiaaDoorLook
import Derived.Test.YtlllejgpmdeeiaaDoorClone
namespace Go.Proofs.YtlllejgpmdeeiaaDoor
open Go.ChangeShapes Go.WideShapes Go.ChangeAt Go.RowKit
set_option linter.unusedVariables false

/-- What Read answers. -/
def ReadP (w w' : World) (l : List UInt8) (ids : Int) (cs : Array Value) (a E : Int) : Prop :=
  Below w.heap.size w w' ∧ ((E ≠ 0 ∧ parse l ids = none ∧ cs = zr ∧ a = 0) ∨
    (E = 0 ∧ ∃ p dv sv tv lv, parse l ids = some p ∧ cs = (hc p.k p.ver dv sv tv p.len p.ph lv (bc p.tag)).toArray ∧ a = p.at' ∧
      By w.heap.size w' dv (piece l p.d) ∧ By w.heap.size w' sv (piece l p.s) ∧ By w.heap.size w' tv (piece l p.t) ∧ Lv w.heap.size w' lv p.lst))

/-- slices.Clone beside a header's block H: what is kept, as rules for the walk. -/
theorem clone_c (H b off : Nat) (l : List UInt8) (o : Option (Nat × Nat)) (w0 W : World) (hs : Sl w0 (some ⟨b, off, none⟩) l) (hr : inR l o) (hl : l.length ≤ 140737488355327) (hbH : b < H) (hH : (W.cell? ⟨H, 0, none⟩).isSome = true) (hk : ∀ j, W.cell? ⟨b, j, none⟩ = w0.cell? ⟨b, j, none⟩) :
    Calls Tryd.prog 28 #[.slice (pvo b off o) (pvn o) (pvn o)] W fun e w' => ∃ oa cp, e = .returned (.slice oa (pvn o) cp) ∧ (∀ j, w'.cell? ⟨H, j, none⟩ = W.cell? ⟨H, j, none⟩) ∧ (∀ j, w'.frozen? ⟨H, j, none⟩ = W.frozen? ⟨H, j, none⟩) ∧ (∀ j, w'.cell? ⟨b, j, none⟩ = W.cell? ⟨b, j, none⟩) ∧
      Hid (By W.heap.size w' (.slice oa (pvn o) cp) (piece l o)) ∧ Hid (Below W.heap.size W w') := by
  have hsl : Sl W (some ⟨b, off, none⟩) l := by
    intro j hj
    obtain ⟨b', off', he, hc⟩ := hs j hj
    simp only [Option.some.injEq, Addr.mk.injEq] at he
    obtain ⟨rfl, rfl, _⟩ := he
    exact ⟨b, off, rfl, (hk _).trans hc⟩
  have hlt : H < W.heap.size := by
    obtain ⟨v, hv⟩ := Option.isSome_iff_exists.1 hH
    exact World.block_lt_of_cell? W _ hv
  have hn : pvn o ≤ l.length := by
    cases o with
    | none => simp [pvn]
    | some x => have : x.1 + x.2 ≤ l.length := hr; show x.2 ≤ l.length; omega
  refine (clone_any (pvo b off o) (piece l o) (pvn o) (pvn o) W (pv_sl hsl hr) (piece_len hr) (by omega) pv_nil).mono ?_
  rintro e w' ⟨oa, cp, rfl, hby, hb⟩
  exact ⟨oa, cp, rfl, fun j => hb.cell hlt, fun j => hb.frozen hlt, fun j => hb.cell (p := ⟨b, j, none⟩) (by show b < _; omega), hby, hb⟩

end Go.Proofs.YtlllejgpmdeeiaaDoor
