/- params: the reader's take. Written by tools/gen-params-nn.py. params: the reader's take of a number that is new. Written by tools/gen-params-no.py. params: the reader's take of a number that is new and has a row. Written by tools/gen-params-np.py. params: the reader's take, whole. params: the reader's parameter, where there is none to take. params: the reader's parameter, where its bytes end too early. params: the reader's parameter, where there is one to take. -/
import Derived.Test.YtcppnellgkbndaaDoorNm
namespace Go.Proofs.YtcppnellgkbndaaDoor
open Go.ChangeShapes Go.WideShapes Go.ChangeAt Go.RowKit
set_option linter.unusedVariables false
set_option maxRecDepth 100000

section
variable {w : World} {B : Pl4} {p0 p : Ps} {o : Option Addr} {n c : Nat} {a : Int} {s : Bool} {m : Nat} {S : Int → Bool}
/-- What take leaves. -/
def TkP (B : Pl4) (p0 p : Ps) (o : Option Addr) (n c : Nat) (a : Int) (s : Bool) (m : Nat) (S : Int → Bool) (uv : Value) (q : Int) (X : List UInt8) (w : World) (e : Ending) (w' : World) : Prop :=
  ∃ ev S' p' m', e = .returned ev ∧ Tk B.P p0 uv s q X S p ev S' p' ∧ Rds w' B p0 p' o n c a s m' S' ∧ m' ≤ m + 1 ∧ Gs (fun k => k = B.P ∨ k = B.mb) w w'
theorem take_twice (h : Rds w B p0 p o n c a s m S) (q : Int) (hq : (Lit.int .i64 q).wf = true) (uv : Value) (X : List UInt8) (ao : Option Addr) (cc : Nat) (hS : S q = true) :
    Calls Tryd.prog 43 #[.pointer (some ⟨B.R, 0, none⟩), .int .i64 q, .slice ao X.length cc] w (TkP B p0 p o n c a s m S uv q X w) := by
  obtain ⟨W1, hW1⟩ : ∃ W1, w.alloc (.cells #[.int .i64 q] 3) = W1 := ⟨_, rfl⟩
  have hB : Below w.heap.size w W1 := by rw [← hW1]; exact bel1 w _
  have d0 : W1.cell? ⟨w.heap.size, 0, none⟩ = some (.int .i64 q) := by rw [← hW1]; exact cell_new w _ 3 0 _ rfl
  have h1 := h.bel hB
  have HX : Aside (∀ X, Below W1.heap.size W1 X → X.cell? ⟨w.heap.size, 0, none⟩ = some (.int .i64 q) ∧ X.cell? ⟨B.R, 3, none⟩ = some (.map (some B.mb)) ∧ (Instr.lookup 71 (.map (some B.mb)) (.int .i64 q) true).run Tryd.prog X = .ok (.tuple #[.agg #[], .bool true]) X) :=
    fun X hX => ⟨cell_bel d0 hX, (h1.rd.bel hX).c3, hS ▸ (h1.came.bel hX).look q hq⟩
  have HKA := HX.out _ (bel1 W1 (.cells #[] 107)).drew
  have HKA : Aside _ := HKA
  have HE : Aside (TkP B p0 p o n c a s m S uv q X w (.returned (.iface 26 (.int .i64 13))) (W1.alloc (.cells #[] 107)).drew) := by
    have hb := bel_trans hB (bel1 W1 (.cells #[] 107)).drew
    exact ⟨_, S, p, m, rfl, .inl ⟨hS, rfl, rfl, rfl⟩, h.bel hb, by omega, Gs.of_below hb⟩
  clear h h1 hB d0
  generalize X.length = xl at *
  go_enter Tryd.func43, Tryd.ntmps43
  go_wp2_with fail
  refine wp_region_held_drew (S := fun X : World => X.cell? ⟨w.heap.size, 0, none⟩ = some (.int .i64 q) ∧ X.cell? ⟨B.R, 3, none⟩ = some (.map (some B.mb)) ∧ (Instr.lookup 71 (.map (some B.mb)) (.int .i64 q) true).run Tryd.prog X = .ok (.tuple #[.agg #[], .bool true]) X) (by kernel_rfl) (HX.out _ (Below.refl W1.heap.size W1).drew) (fun hHeld => ?_)
  refine wpAnyH_take (i := 0) (v := .pointer (some ⟨B.R, 0, none⟩)) rfl (by kernel_rfl) (by kernel_rfl) (by kernel_rfl) (fun _ _ _ h => h) (Or.inl ⟨by rfl, by intro w hs; go_simp⟩) hHeld ?_
  refine norm_any' (fun K hK => ?_)
  go_simp
  refine hK _ _ ?_
  clear hK K
  refine wpAnyH_take (i := 1) (v := .pointer (some ⟨B.R, 0, none⟩)) rfl (by kernel_rfl) (by kernel_rfl) (by kernel_rfl) (fun _ _ _ h => h) (Or.inl ⟨by rfl, by intro w hs; go_simp⟩) hHeld ?_
  refine norm_any' (fun K hK => ?_)
  go_simp
  refine hK _ _ ?_
  clear hK K
  refine wpAnyH_take (i := 2) (v := .pointer (some ⟨B.R, 3, none⟩)) rfl (by kernel_rfl) (by kernel_rfl) (by kernel_rfl) (fun _ _ _ h => h) (Or.inl ⟨by rfl, by intro w hs; go_simp⟩) hHeld ?_
  refine norm_any' (fun K hK => ?_)
  go_simp
  refine hK _ _ ?_
  clear hK K
  refine wpAnyH_take (i := 3) (v := .map (some B.mb)) rfl (by kernel_rfl) (by kernel_rfl) (by kernel_rfl) (fun _ _ _ h => h) (Or.inl ⟨by rfl, by rintro w ⟨s0, s1, s2⟩; go_simp⟩) hHeld ?_
  refine norm_any' (fun K hK => ?_)
  go_simp
  refine hK _ _ ?_
  clear hK K
  refine wpAnyH_take (i := 4) (v := .int .i64 q) rfl (by kernel_rfl) (by kernel_rfl) (by kernel_rfl) (fun _ _ _ h => h) (Or.inl ⟨by rfl, by rintro w ⟨s0, s1, s2⟩; go_simp⟩) hHeld ?_
  refine norm_any' (fun K hK => ?_)
  go_simp
  refine hK _ _ ?_
  clear hK K
  refine wpAnyH_take (i := 5) (v := .tuple #[.agg #[], .bool true]) rfl (by kernel_rfl) (by kernel_rfl) (by kernel_rfl) (fun _ _ _ h => h) (Or.inl ⟨by rfl, by rintro w ⟨s0, s1, s2⟩; go_simp⟩) hHeld ?_
  refine norm_any' (fun K hK => ?_)
  go_simp
  refine hK _ _ ?_
  clear hK K
  refine wpAnyH_take (i := 6) (v := .tuple #[.agg #[], .bool true]) rfl (by kernel_rfl) (by kernel_rfl) (by kernel_rfl) (fun _ _ _ h => h) (Or.inl ⟨by rfl, by intro w hs; go_simp⟩) hHeld ?_
  refine norm_any' (fun K hK => ?_)
  go_simp
  refine hK _ _ ?_
  clear hK K
  refine wpAnyH_take (i := 7) (v := .agg #[]) rfl (by kernel_rfl) (by kernel_rfl) (by kernel_rfl) (fun _ _ _ h => h) (Or.inl ⟨by rfl, by intro w hs; go_simp⟩) hHeld ?_
  refine norm_any' (fun K hK => ?_)
  go_simp
  refine hK _ _ ?_
  clear hK K
  refine wpAnyH_take (i := 8) (v := .bool true) rfl (by kernel_rfl) (by kernel_rfl) (by kernel_rfl) (fun _ _ _ h => h) (Or.inl ⟨by rfl, by intro w hs; go_simp⟩) hHeld ?_
  refine norm_any' (fun K hK => ?_)
  go_simp
  refine hK _ _ ?_
  clear hK K
  refine wpAnyH_ready (rs := [9]) (by kernel_rfl) (by simp) (AllReadyH.cons rfl (fun K hK => ?_) AllReadyH.nil)
  go_simp
  refine hK.out _ _ HKA.out (fun hHeld => ?_)
  clear hK K
  refine norm_any' (fun K hK => ?_)
  go_simp
  refine hK _ _ ?_
  clear hK K
  refine wpAnyH_ready (rs := [10]) (by kernel_rfl) (by simp) (AllReadyH.cons rfl (fun K hK => ?_) AllReadyH.nil)
  go_simp
  refine hK.out _ _ HKA.out (fun hHeld => ?_)
  clear hK K
  refine norm_any' (fun K hK => ?_)
  go_simp
  refine hK _ _ ?_
  clear hK K
  refine wpAnyH_take (i := 11) (v := .bool true) rfl (by kernel_rfl) (by kernel_rfl) (by kernel_rfl) (fun _ _ _ h => h) (Or.inl ⟨by rfl, by intro w hs; go_simp⟩) hHeld ?_
  refine norm_any' (fun K hK => ?_)
  go_simp
  refine hK _ _ ?_
  clear hK K
  refine wpAnyH_done (by kernel_rfl) ?_ _
  clear hHeld HKA HX
  go_wp2
  go_ret
  exact HE.out
end
end Go.Proofs.YtcppnellgkbndaaDoor
namespace Go.Proofs.YtcppnellgkbndaaDoor
open Go.ChangeShapes Go.WideShapes Go.ChangeAt Go.RowKit
set_option linter.unusedVariables false
set_option maxRecDepth 100000

section
variable {w : World} {B : Pl4} {p0 p : Ps} {o : Option Addr} {n c : Nat} {a : Int} {s : Bool} {m : Nat} {S : Int → Bool}
theorem take_none (h : Rds w B p0 p o n c a s m S) (q : Int) (hq : (Lit.int .i64 q).wf = true) (uv : Value) (hu : w.cell? ⟨1, 0, none⟩ = some uv) (h1m : 1 < B.mb) (hm : m < 9000000000000000000) (X : List UInt8) (ao : Option Addr) (cc : Nat) (hS : S q = false) (hix : ixE (rwL B.P p0) q = none) :
    Calls Tryd.prog 43 #[.pointer (some ⟨B.R, 0, none⟩), .int .i64 q, .slice ao X.length cc] w (TkP B p0 p o n c a s m S uv q X w) := by
  obtain ⟨W1, hW1⟩ : ∃ W1, w.alloc (.cells #[.int .i64 q] 3) = W1 := ⟨_, rfl⟩
  have hB : Below w.heap.size w W1 := by rw [← hW1]; exact bel1 w _
  have d0 : W1.cell? ⟨w.heap.size, 0, none⟩ = some (.int .i64 q) := by rw [← hW1]; exact cell_new w _ 3 0 _ rfl
  have h1 := h.bel hB
  have HX : Aside (∀ X, Below W1.heap.size W1 X → X.cell? ⟨w.heap.size, 0, none⟩ = some (.int .i64 q) ∧ X.cell? ⟨B.R, 3, none⟩ = some (.map (some B.mb)) ∧ (Instr.lookup 71 (.map (some B.mb)) (.int .i64 q) true).run Tryd.prog X = .ok (.tuple #[.agg #[], .bool false]) X) :=
    fun X hX => ⟨cell_bel d0 hX, (h1.rd.bel hX).c3, hS ▸ (h1.came.bel hX).look q hq⟩
  obtain ⟨W2, hW2⟩ : ∃ W2, (W1.alloc (.cells #[] 107)).drew = W2 := ⟨_, rfl⟩
  have hb2 : Below W1.heap.size W1 W2 := by rw [← hW2]; exact (bel1 W1 (.cells #[] 107)).drew
  have HKA := HX.out W2 hb2
  have HKA : Aside _ := HKA
  have hb2' := bel_trans hb2 (Below.refl W2.heap.size W2).drew
  have h2 := h1.bel hb2'
  obtain ⟨W3, hput, hc3, hg3⟩ := h2.came.put q hq hm
  have h3 := h2.stepM hg3 hc3
  have hbw : Below w.heap.size w W2.drew := bel_trans hB hb2'
  have hmb : B.mb < w.heap.size := h.came.lt
  have e0 : W2.drew.cell? ⟨w.heap.size, 0, none⟩ = some (.int .i64 q) := cell_bel d0 hb2'
  have e3 : W3.cell? ⟨w.heap.size, 0, none⟩ = some (.int .i64 q) := hg3.cell e0 (by omega)
  have u3 : W3.cell? ⟨1, 0, none⟩ = some uv := hg3.cell (cell_bel hu hbw) (by omega)
  have HS3 : Aside (W3.cell? ⟨w.heap.size, 0, none⟩ = some (.int .i64 q) ∧ W3.cell? ⟨B.R, 3, none⟩ = some (.map (some B.mb))) := ⟨e3, h3.rd.c3⟩
  have HM : Aside (W2.drew.cell? ⟨w.heap.size, 0, none⟩ = some (.int .i64 q) ∧ W2.drew.cell? ⟨B.R, 3, none⟩ = some (.map (some B.mb)) ∧ (Instr.mapUpdate 71 (.map (some B.mb)) (.int .i64 q) (.agg #[])).run Tryd.prog W2.drew = .ok () W3) := ⟨e0, h2.rd.c3, hput⟩
  have hix3 := ixn_c (c := 17) h3.fs e3 (Nat.le_of_eq (rwL_len _ _))
  rw [rwL_len] at hix3
  unfold IxN at hix3
  rw [hix] at hix3
  have r4 := h3.rd.c4
  have HE : Aside (∀ W4, Below W3.heap.size W3 W4 → W4.cell? ⟨1, 0, none⟩ = some uv ∧ TkP B p0 p o n c a s m S uv q X w (.returned uv) W4) := fun W4 hb4 =>
    ⟨cell_bel u3 hb4, uv, _, p, m + 1, rfl, .inr ⟨hS, rfl, .inl ⟨hix, rfl, rfl⟩⟩, h3.bel hb4, by omega, ((Gs.of_below hbw).trans (hg3.mono (fun k hk => .inr hk))).trans (Gs.of_below hb4)⟩
  clear h h1 hB d0 hb2 hb2' h2 hc3 hg3 h3 hbw e0 e3 u3 hu hput hS
  generalize X.length = xl at *
  go_enter Tryd.func43, Tryd.ntmps43
  go_wp2_with fail
  refine wp_region_held_drew (S := fun X : World => X.cell? ⟨w.heap.size, 0, none⟩ = some (.int .i64 q) ∧ X.cell? ⟨B.R, 3, none⟩ = some (.map (some B.mb)) ∧ (Instr.lookup 71 (.map (some B.mb)) (.int .i64 q) true).run Tryd.prog X = .ok (.tuple #[.agg #[], .bool false]) X) (by kernel_rfl) (HX.out _ (Below.refl W1.heap.size W1).drew) (fun hHeld => ?_)
  refine wpAnyH_take (i := 0) (v := .pointer (some ⟨B.R, 0, none⟩)) rfl (by kernel_rfl) (by kernel_rfl) (by kernel_rfl) (fun _ _ _ h => h) (Or.inl ⟨by rfl, by intro w hs; go_simp⟩) hHeld ?_
  refine norm_any' (fun K hK => ?_)
  go_simp
  refine hK _ _ ?_
  clear hK K
  refine wpAnyH_take (i := 1) (v := .pointer (some ⟨B.R, 0, none⟩)) rfl (by kernel_rfl) (by kernel_rfl) (by kernel_rfl) (fun _ _ _ h => h) (Or.inl ⟨by rfl, by intro w hs; go_simp⟩) hHeld ?_
  refine norm_any' (fun K hK => ?_)
  go_simp
  refine hK _ _ ?_
  clear hK K
  refine wpAnyH_take (i := 2) (v := .pointer (some ⟨B.R, 3, none⟩)) rfl (by kernel_rfl) (by kernel_rfl) (by kernel_rfl) (fun _ _ _ h => h) (Or.inl ⟨by rfl, by intro w hs; go_simp⟩) hHeld ?_
  refine norm_any' (fun K hK => ?_)
  go_simp
  refine hK _ _ ?_
  clear hK K
  refine wpAnyH_take (i := 3) (v := .map (some B.mb)) rfl (by kernel_rfl) (by kernel_rfl) (by kernel_rfl) (fun _ _ _ h => h) (Or.inl ⟨by rfl, by rintro w ⟨s0, s1, s2⟩; go_simp⟩) hHeld ?_
  refine norm_any' (fun K hK => ?_)
  go_simp
  refine hK _ _ ?_
  clear hK K
  refine wpAnyH_take (i := 4) (v := .int .i64 q) rfl (by kernel_rfl) (by kernel_rfl) (by kernel_rfl) (fun _ _ _ h => h) (Or.inl ⟨by rfl, by rintro w ⟨s0, s1, s2⟩; go_simp⟩) hHeld ?_
  refine norm_any' (fun K hK => ?_)
  go_simp
  refine hK _ _ ?_
  clear hK K
  refine wpAnyH_take (i := 5) (v := .tuple #[.agg #[], .bool false]) rfl (by kernel_rfl) (by kernel_rfl) (by kernel_rfl) (fun _ _ _ h => h) (Or.inl ⟨by rfl, by rintro w ⟨s0, s1, s2⟩; go_simp⟩) hHeld ?_
  refine norm_any' (fun K hK => ?_)
  go_simp
  refine hK _ _ ?_
  clear hK K
  refine wpAnyH_take (i := 6) (v := .tuple #[.agg #[], .bool false]) rfl (by kernel_rfl) (by kernel_rfl) (by kernel_rfl) (fun _ _ _ h => h) (Or.inl ⟨by rfl, by intro w hs; go_simp⟩) hHeld ?_
  refine norm_any' (fun K hK => ?_)
  go_simp
  refine hK _ _ ?_
  clear hK K
  refine wpAnyH_take (i := 7) (v := .agg #[]) rfl (by kernel_rfl) (by kernel_rfl) (by kernel_rfl) (fun _ _ _ h => h) (Or.inl ⟨by rfl, by intro w hs; go_simp⟩) hHeld ?_
  refine norm_any' (fun K hK => ?_)
  go_simp
  refine hK _ _ ?_
  clear hK K
  refine wpAnyH_take (i := 8) (v := .bool false) rfl (by kernel_rfl) (by kernel_rfl) (by kernel_rfl) (fun _ _ _ h => h) (Or.inl ⟨by rfl, by intro w hs; go_simp⟩) hHeld ?_
  refine norm_any' (fun K hK => ?_)
  go_simp
  refine hK _ _ ?_
  clear hK K
  refine wpAnyH_ready (rs := [9]) (by kernel_rfl) (by simp) (AllReadyH.cons rfl (fun K hK => ?_) AllReadyH.nil)
  go_simp
  refine hK.out _ _ HKA.out (fun hHeld => ?_)
  clear hK K
  refine norm_any' (fun K hK => ?_)
  go_simp
  refine hK _ _ ?_
  clear hK K
  refine wpAnyH_ready (rs := [10]) (by kernel_rfl) (by simp) (AllReadyH.cons rfl (fun K hK => ?_) AllReadyH.nil)
  go_simp
  refine hK.out _ _ HKA.out (fun hHeld => ?_)
  clear hK K
  refine norm_any' (fun K hK => ?_)
  go_simp
  refine hK _ _ ?_
  clear hK K
  refine wpAnyH_take (i := 11) (v := .bool false) rfl (by kernel_rfl) (by kernel_rfl) (by kernel_rfl) (fun _ _ _ h => h) (Or.inl ⟨by rfl, by intro w hs; go_simp⟩) hHeld ?_
  refine norm_any' (fun K hK => ?_)
  go_simp
  refine hK _ _ ?_
  clear hK K
  refine wpAnyH_done (by kernel_rfl) ?_ _
  clear hHeld HKA HX
  go_wp2_with fail
  refine wp_region_held_drew (S := fun X : World => X.cell? ⟨w.heap.size, 0, none⟩ = some (.int .i64 q) ∧ X.cell? ⟨B.R, 3, none⟩ = some (.map (some B.mb))) (by kernel_rfl) ⟨HM.out.1, HM.out.2.1⟩ (fun hHeld => ?_)
  refine wpAnyH_take (i := 0) (v := .pointer (some ⟨B.R, 0, none⟩)) rfl (by kernel_rfl) (by kernel_rfl) (by kernel_rfl) (fun _ _ _ h => h) (Or.inl ⟨by rfl, by intro w hs; go_simp⟩) hHeld ?_
  refine norm_any' (fun K hK => ?_)
  go_simp
  refine hK _ _ ?_
  clear hK K
  refine wpAnyH_take (i := 1) (v := .pointer (some ⟨B.R, 0, none⟩)) rfl (by kernel_rfl) (by kernel_rfl) (by kernel_rfl) (fun _ _ _ h => h) (Or.inl ⟨by rfl, by intro w hs; go_simp⟩) hHeld ?_
  refine norm_any' (fun K hK => ?_)
  go_simp
  refine hK _ _ ?_
  clear hK K
  refine wpAnyH_take (i := 2) (v := .pointer (some ⟨B.R, 3, none⟩)) rfl (by kernel_rfl) (by kernel_rfl) (by kernel_rfl) (fun _ _ _ h => h) (Or.inl ⟨by rfl, by intro w hs; go_simp⟩) hHeld ?_
  refine norm_any' (fun K hK => ?_)
  go_simp
  refine hK _ _ ?_
  clear hK K
  refine wpAnyH_take (i := 3) (v := .map (some B.mb)) rfl (by kernel_rfl) (by kernel_rfl) (by kernel_rfl) (fun _ _ _ h => h) (Or.inl ⟨by rfl, by rintro w ⟨s0, s1⟩; go_simp⟩) hHeld ?_
  refine norm_any' (fun K hK => ?_)
  go_simp
  refine hK _ _ ?_
  clear hK K
  refine wpAnyH_take (i := 4) (v := .int .i64 q) rfl (by kernel_rfl) (by kernel_rfl) (by kernel_rfl) (fun _ _ _ h => h) (Or.inl ⟨by rfl, by rintro w ⟨s0, s1⟩; go_simp⟩) hHeld ?_
  refine norm_any' (fun K hK => ?_)
  go_simp
  refine hK _ _ ?_
  clear hK K
  refine wpAnyH_take (i := 5) (v := .agg #[]) rfl (by kernel_rfl) (by kernel_rfl) (by kernel_rfl) (fun _ _ _ h => h) (Or.inl ⟨by rfl, by intro w hs; go_simp⟩) hHeld ?_
  refine norm_any' (fun K hK => ?_)
  go_simp
  refine hK _ _ ?_
  clear hK K
  have hput := HM.out.2.2
  refine wpAnyH_ready (rs := [6]) (by kernel_rfl) (by simp) (AllReadyH.cons rfl (fun K hK => ?_) AllReadyH.nil)
  go_simp
  refine hK.out _ _ HS3.out (fun hHeld => ?_)
  clear hK K
  refine norm_any' (fun K hK => ?_)
  go_simp
  refine hK _ _ ?_
  clear hK K
  refine wpAnyH_done (by kernel_rfl) ?_ _
  clear hHeld hput HM
  go_wp2_with fail
  refine Calls.mono hix3 ?_
  rintro e W4 ⟨rfl, hb4⟩
  obtain ⟨u4, hE⟩ := HE.out W4 hb4
  have HF : Aside _ := hE
  clear hE HE hb4 hix3
  go_wp2
  go_ret
  exact HF.out
end
end Go.Proofs.YtcppnellgkbndaaDoor
namespace Go.Proofs.YtcppnellgkbndaaDoor
open Go.ChangeShapes Go.WideShapes Go.ChangeAt Go.RowKit
set_option linter.unusedVariables false
set_option maxRecDepth 100000

section
variable {w : World} {B : Pl4} {p0 p : Ps} {o : Option Addr} {n c : Nat} {a : Int} {s : Bool} {m : Nat} {S : Int → Bool}
set_option maxHeartbeats 2000000 in
theorem take_row (h : Rds w B p0 p o n c a s m S) (q : Int) (hq : (Lit.int .i64 q).wf = true) (uv : Value) (hm : m < 9000000000000000000) (X : List UInt8) (ao : Option Addr) (cc : Nat) (hi : InA w B.P ao X cc) (hsep : ∀ x, ao = some x → X ≠ [] → x.block ≠ B.mb) (hS : S q = false) (k : Nat) (hk17 : k < 17) (hix : ixE (rwL B.P p0) q = some k) :
    Calls Tryd.prog 43 #[.pointer (some ⟨B.R, 0, none⟩), .int .i64 q, .slice ao X.length cc] w (TkP B p0 p o n c a s m S uv q X w) := by
  obtain ⟨W1, hW1⟩ : ∃ W1, w.alloc (.cells #[.int .i64 q] 3) = W1 := ⟨_, rfl⟩
  have hB : Below w.heap.size w W1 := by rw [← hW1]; exact bel1 w _
  have d0 : W1.cell? ⟨w.heap.size, 0, none⟩ = some (.int .i64 q) := by rw [← hW1]; exact cell_new w _ 3 0 _ rfl
  have h1 := h.bel hB
  have HX : Aside (∀ X, Below W1.heap.size W1 X → X.cell? ⟨w.heap.size, 0, none⟩ = some (.int .i64 q) ∧ X.cell? ⟨B.R, 3, none⟩ = some (.map (some B.mb)) ∧ (Instr.lookup 71 (.map (some B.mb)) (.int .i64 q) true).run Tryd.prog X = .ok (.tuple #[.agg #[], .bool false]) X) :=
    fun X hX => ⟨cell_bel d0 hX, (h1.rd.bel hX).c3, hS ▸ (h1.came.bel hX).look q hq⟩
  obtain ⟨W2, hW2⟩ : ∃ W2, (W1.alloc (.cells #[] 107)).drew = W2 := ⟨_, rfl⟩
  have hb2 : Below W1.heap.size W1 W2 := by rw [← hW2]; exact (bel1 W1 (.cells #[] 107)).drew
  have HKA := HX.out W2 hb2
  have HKA : Aside _ := HKA
  have hb2' := bel_trans hb2 (Below.refl W2.heap.size W2).drew
  have h2 := h1.bel hb2'
  obtain ⟨W3, hput, hc3, hg3⟩ := h2.came.put q hq hm
  have h3 := h2.stepM hg3 hc3
  have hbw : Below w.heap.size w W2.drew := bel_trans hB hb2'
  have hmb : B.mb < w.heap.size := h.came.lt
  have e0 : W2.drew.cell? ⟨w.heap.size, 0, none⟩ = some (.int .i64 q) := cell_bel d0 hb2'
  have e3 : W3.cell? ⟨w.heap.size, 0, none⟩ = some (.int .i64 q) := hg3.cell e0 (by omega)
  have HS3 : Aside (W3.cell? ⟨w.heap.size, 0, none⟩ = some (.int .i64 q) ∧ W3.cell? ⟨B.R, 3, none⟩ = some (.map (some B.mb))) := ⟨e3, h3.rd.c3⟩
  have HM : Aside (W2.drew.cell? ⟨w.heap.size, 0, none⟩ = some (.int .i64 q) ∧ W2.drew.cell? ⟨B.R, 3, none⟩ = some (.map (some B.mb)) ∧ (Instr.mapUpdate 71 (.map (some B.mb)) (.int .i64 q) (.agg #[])).run Tryd.prog W2.drew = .ok () W3) := ⟨e0, h2.rd.c3, hput⟩
  have hix3 := ixn_c (c := 17) h3.fs e3 (Nat.le_of_eq (rwL_len _ _))
  rw [rwL_len] at hix3
  unfold IxN at hix3
  rw [hix] at hix3
  simp only [ixV] at hix3
  have r4 := h3.rd.c4
  obtain ⟨r, hr, f, hmet, heg, hcall⟩ := tab_rd B.P p0 (X := X) h.pq.r16 k hk17
  have hkl : k < (rwL B.P p0).length := by rw [rwL_len]; exact hk17
  have hrk : (rwL B.P p0)[k] = r := by
    have := List.getElem?_eq_getElem hkl
    rw [hr] at this
    exact (Option.some.inj this).symm
  have hi3 : InA W3 B.P ao X cc := ⟨hg3.sl (Sl_below (Sl_below hi.sl hB) hb2') hsep, hi.sep, hi.nil, hi.len⟩
  have hgw : Gs (fun k => k = B.P ∨ k = B.mb) w W3 := (Gs.of_below hbw).trans (hg3.mono (fun k hk => .inr hk))
  obtain ⟨y, hy⟩ : ∃ y, (s || !r.sv) = y := ⟨_, rfl⟩
  obtain ⟨ok, hok⟩ : ∃ ok, rdOk k X = ok := ⟨_, rfl⟩
  obtain ⟨rn, sv, mu, TT, v, al, th⟩ := r
  dsimp only at hmet hcall hy
  have HW8 : Aside (∀ X', Below W3.heap.size W3 X' → ((fun X : World => X.cell? ⟨B.R, 4, none⟩ = some (.slice (some ⟨B.g, 0, none⟩) 17 17) ∧ X.cell? ⟨B.g, k * 4, none⟩ = some (.int .i64 rn) ∧ X.cell? ⟨B.g, k * 4 + 1, none⟩ = some (.bool sv) ∧ X.cell? ⟨B.g, k * 4 + 2, none⟩ = some (.bool mu) ∧ X.cell? ⟨B.g, k * 4 + 3, none⟩ = some (.iface TT v) ∧ X.cell? ⟨B.R, 2, none⟩ = some (.bool s)) X') ∧
      (Calls Tryd.prog 27 #[.agg #[.int .i64 rn, .bool sv, .bool mu, .iface TT v], .bool s] X' fun e w' => e = .returned (.bool y) ∧ Below X'.heap.size X' w') ∧
      (y = false → TkP B p0 p o n c a s m S uv q X w (.returned (.iface 26 (.int .i64 11))) X') ∧
      (y = true → Calls Tryd.prog f #[v, .slice ao X.length cc] X' fun e w' => e = .returned (.bool ok) ∧ ((fun X : World => X.cell? ⟨B.R, 4, none⟩ = some (.slice (some ⟨B.g, 0, none⟩) 17 17) ∧ X.cell? ⟨B.g, k * 4, none⟩ = some (.int .i64 rn) ∧ X.cell? ⟨B.g, k * 4 + 1, none⟩ = some (.bool sv) ∧ X.cell? ⟨B.g, k * 4 + 2, none⟩ = some (.bool mu) ∧ X.cell? ⟨B.g, k * 4 + 3, none⟩ = some (.iface TT v) ∧ X.cell? ⟨B.R, 2, none⟩ = some (.bool s)) w') ∧ (TkP B p0 p o n c a s m S uv q X w (.returned (if ok then .nilIface else .iface 26 (.int .i64 11))) w'))) := by
    intro X' hX
    have hx := h3.bel hX
    have hcells : ∀ (Y : World) (pp : Ps), Rds Y B p0 pp o n c a s (m + 1) (fun x => x == q || S x) → ((fun X : World => X.cell? ⟨B.R, 4, none⟩ = some (.slice (some ⟨B.g, 0, none⟩) 17 17) ∧ X.cell? ⟨B.g, k * 4, none⟩ = some (.int .i64 rn) ∧ X.cell? ⟨B.g, k * 4 + 1, none⟩ = some (.bool sv) ∧ X.cell? ⟨B.g, k * 4 + 2, none⟩ = some (.bool mu) ∧ X.cell? ⟨B.g, k * 4 + 3, none⟩ = some (.iface TT v) ∧ X.cell? ⟨B.R, 2, none⟩ = some (.bool s)) Y) := by
      intro Y pp hY
      obtain ⟨f0, f1, f2, f3⟩ := hY.fs k hkl
      rw [hrk] at f0 f1 f2 f3
      exact ⟨hY.rd.c4, f0, f1, f2, f3, hY.rd.c2⟩
    refine ⟨hcells X' p hx, ?_, fun hyf => ?_, fun hyt => ?_⟩
    · rw [← hy]; exact isOf_c rn sv mu s (.iface TT v) X'
    · exact ⟨_, _, p, m + 1, rfl, .inr ⟨hS, rfl, .inr ⟨k, _, hix, hr, .inl ⟨hy.trans hyf, rfl, rfl⟩⟩⟩, hx, by omega, hgw.trans (Gs.of_below hX)⟩
    · refine (hcall X' ao cc hx.pq hx.tb ⟨Sl_below hi3.sl hX, hi3.sep, hi3.nil, hi3.len⟩).mono ?_
      rintro e w' ⟨rfl, ⟨p', hq', hp'⟩, hgs⟩
      have hy' := hx.stepP hgs hp'
      exact ⟨by rw [hok], hcells w' p' hy', _, _, p', m + 1, rfl, .inr ⟨hS, rfl, .inr ⟨k, _, hix, hr, .inr ⟨hy.trans hyt, hq', by rw [hok]⟩⟩⟩, hy', by omega, (hgw.trans (Gs.of_below hX)).trans (hgs.mono (fun k hk => .inl hk))⟩
  clear hcall hi hi3 hsep hgw hrk hr hok hy
  clear h h1 hB d0 hb2 hb2' h2 hc3 hg3 h3 hbw e0 e3 hput hS hq hm
  generalize X.length = xl at *
  have i17 : (k : Int) < 17 := by omega
  have i0 : ¬ (k : Int) < 0 := by omega
  cases y
  · go_enter Tryd.func43, Tryd.ntmps43
    go_wp2_with fail
    refine wp_region_held_drew (S := fun X : World => X.cell? ⟨w.heap.size, 0, none⟩ = some (.int .i64 q) ∧ X.cell? ⟨B.R, 3, none⟩ = some (.map (some B.mb)) ∧ (Instr.lookup 71 (.map (some B.mb)) (.int .i64 q) true).run Tryd.prog X = .ok (.tuple #[.agg #[], .bool false]) X) (by kernel_rfl) (HX.out _ (Below.refl W1.heap.size W1).drew) (fun hHeld => ?_)
    refine wpAnyH_take (i := 0) (v := .pointer (some ⟨B.R, 0, none⟩)) rfl (by kernel_rfl) (by kernel_rfl) (by kernel_rfl) (fun _ _ _ h => h) (Or.inl ⟨by rfl, by intro w hs; go_simp⟩) hHeld ?_
    refine norm_any' (fun K hK => ?_)
    go_simp
    refine hK _ _ ?_
    clear hK K
    refine wpAnyH_take (i := 1) (v := .pointer (some ⟨B.R, 0, none⟩)) rfl (by kernel_rfl) (by kernel_rfl) (by kernel_rfl) (fun _ _ _ h => h) (Or.inl ⟨by rfl, by intro w hs; go_simp⟩) hHeld ?_
    refine norm_any' (fun K hK => ?_)
    go_simp
    refine hK _ _ ?_
    clear hK K
    refine wpAnyH_take (i := 2) (v := .pointer (some ⟨B.R, 3, none⟩)) rfl (by kernel_rfl) (by kernel_rfl) (by kernel_rfl) (fun _ _ _ h => h) (Or.inl ⟨by rfl, by intro w hs; go_simp⟩) hHeld ?_
    refine norm_any' (fun K hK => ?_)
    go_simp
    refine hK _ _ ?_
    clear hK K
    refine wpAnyH_take (i := 3) (v := .map (some B.mb)) rfl (by kernel_rfl) (by kernel_rfl) (by kernel_rfl) (fun _ _ _ h => h) (Or.inl ⟨by rfl, by rintro w ⟨s0, s1, s2⟩; go_simp⟩) hHeld ?_
    refine norm_any' (fun K hK => ?_)
    go_simp
    refine hK _ _ ?_
    clear hK K
    refine wpAnyH_take (i := 4) (v := .int .i64 q) rfl (by kernel_rfl) (by kernel_rfl) (by kernel_rfl) (fun _ _ _ h => h) (Or.inl ⟨by rfl, by rintro w ⟨s0, s1, s2⟩; go_simp⟩) hHeld ?_
    refine norm_any' (fun K hK => ?_)
    go_simp
    refine hK _ _ ?_
    clear hK K
    refine wpAnyH_take (i := 5) (v := .tuple #[.agg #[], .bool false]) rfl (by kernel_rfl) (by kernel_rfl) (by kernel_rfl) (fun _ _ _ h => h) (Or.inl ⟨by rfl, by rintro w ⟨s0, s1, s2⟩; go_simp⟩) hHeld ?_
    refine norm_any' (fun K hK => ?_)
    go_simp
    refine hK _ _ ?_
    clear hK K
    refine wpAnyH_take (i := 6) (v := .tuple #[.agg #[], .bool false]) rfl (by kernel_rfl) (by kernel_rfl) (by kernel_rfl) (fun _ _ _ h => h) (Or.inl ⟨by rfl, by intro w hs; go_simp⟩) hHeld ?_
    refine norm_any' (fun K hK => ?_)
    go_simp
    refine hK _ _ ?_
    clear hK K
    refine wpAnyH_take (i := 7) (v := .agg #[]) rfl (by kernel_rfl) (by kernel_rfl) (by kernel_rfl) (fun _ _ _ h => h) (Or.inl ⟨by rfl, by intro w hs; go_simp⟩) hHeld ?_
    refine norm_any' (fun K hK => ?_)
    go_simp
    refine hK _ _ ?_
    clear hK K
    refine wpAnyH_take (i := 8) (v := .bool false) rfl (by kernel_rfl) (by kernel_rfl) (by kernel_rfl) (fun _ _ _ h => h) (Or.inl ⟨by rfl, by intro w hs; go_simp⟩) hHeld ?_
    refine norm_any' (fun K hK => ?_)
    go_simp
    refine hK _ _ ?_
    clear hK K
    refine wpAnyH_ready (rs := [9]) (by kernel_rfl) (by simp) (AllReadyH.cons rfl (fun K hK => ?_) AllReadyH.nil)
    go_simp
    refine hK.out _ _ HKA.out (fun hHeld => ?_)
    clear hK K
    refine norm_any' (fun K hK => ?_)
    go_simp
    refine hK _ _ ?_
    clear hK K
    refine wpAnyH_ready (rs := [10]) (by kernel_rfl) (by simp) (AllReadyH.cons rfl (fun K hK => ?_) AllReadyH.nil)
    go_simp
    refine hK.out _ _ HKA.out (fun hHeld => ?_)
    clear hK K
    refine norm_any' (fun K hK => ?_)
    go_simp
    refine hK _ _ ?_
    clear hK K
    refine wpAnyH_take (i := 11) (v := .bool false) rfl (by kernel_rfl) (by kernel_rfl) (by kernel_rfl) (fun _ _ _ h => h) (Or.inl ⟨by rfl, by intro w hs; go_simp⟩) hHeld ?_
    refine norm_any' (fun K hK => ?_)
    go_simp
    refine hK _ _ ?_
    clear hK K
    refine wpAnyH_done (by kernel_rfl) ?_ _
    clear hHeld HKA HX
    go_wp2_with fail
    refine wp_region_held_drew (S := fun X : World => X.cell? ⟨w.heap.size, 0, none⟩ = some (.int .i64 q) ∧ X.cell? ⟨B.R, 3, none⟩ = some (.map (some B.mb))) (by kernel_rfl) ⟨HM.out.1, HM.out.2.1⟩ (fun hHeld => ?_)
    refine wpAnyH_take (i := 0) (v := .pointer (some ⟨B.R, 0, none⟩)) rfl (by kernel_rfl) (by kernel_rfl) (by kernel_rfl) (fun _ _ _ h => h) (Or.inl ⟨by rfl, by intro w hs; go_simp⟩) hHeld ?_
    refine norm_any' (fun K hK => ?_)
    go_simp
    refine hK _ _ ?_
    clear hK K
    refine wpAnyH_take (i := 1) (v := .pointer (some ⟨B.R, 0, none⟩)) rfl (by kernel_rfl) (by kernel_rfl) (by kernel_rfl) (fun _ _ _ h => h) (Or.inl ⟨by rfl, by intro w hs; go_simp⟩) hHeld ?_
    refine norm_any' (fun K hK => ?_)
    go_simp
    refine hK _ _ ?_
    clear hK K
    refine wpAnyH_take (i := 2) (v := .pointer (some ⟨B.R, 3, none⟩)) rfl (by kernel_rfl) (by kernel_rfl) (by kernel_rfl) (fun _ _ _ h => h) (Or.inl ⟨by rfl, by intro w hs; go_simp⟩) hHeld ?_
    refine norm_any' (fun K hK => ?_)
    go_simp
    refine hK _ _ ?_
    clear hK K
    refine wpAnyH_take (i := 3) (v := .map (some B.mb)) rfl (by kernel_rfl) (by kernel_rfl) (by kernel_rfl) (fun _ _ _ h => h) (Or.inl ⟨by rfl, by rintro w ⟨s0, s1⟩; go_simp⟩) hHeld ?_
    refine norm_any' (fun K hK => ?_)
    go_simp
    refine hK _ _ ?_
    clear hK K
    refine wpAnyH_take (i := 4) (v := .int .i64 q) rfl (by kernel_rfl) (by kernel_rfl) (by kernel_rfl) (fun _ _ _ h => h) (Or.inl ⟨by rfl, by rintro w ⟨s0, s1⟩; go_simp⟩) hHeld ?_
    refine norm_any' (fun K hK => ?_)
    go_simp
    refine hK _ _ ?_
    clear hK K
    refine wpAnyH_take (i := 5) (v := .agg #[]) rfl (by kernel_rfl) (by kernel_rfl) (by kernel_rfl) (fun _ _ _ h => h) (Or.inl ⟨by rfl, by intro w hs; go_simp⟩) hHeld ?_
    refine norm_any' (fun K hK => ?_)
    go_simp
    refine hK _ _ ?_
    clear hK K
    have hput := HM.out.2.2
    refine wpAnyH_ready (rs := [6]) (by kernel_rfl) (by simp) (AllReadyH.cons rfl (fun K hK => ?_) AllReadyH.nil)
    go_simp
    refine hK.out _ _ HS3.out (fun hHeld => ?_)
    clear hK K
    refine norm_any' (fun K hK => ?_)
    go_simp
    refine hK _ _ ?_
    clear hK K
    refine wpAnyH_done (by kernel_rfl) ?_ _
    clear hHeld hput HM
    go_wp2_with fail
    refine Calls.mono hix3 ?_
    rintro e W4 ⟨rfl, hb4⟩
    have HB4 : Aside (Below W3.heap.size W3 W4.drew) := hb4.drew
    clear hb4 hix3
    go_wp2_with fail
    refine wp_region_held_drew (S := (fun X : World => X.cell? ⟨B.R, 4, none⟩ = some (.slice (some ⟨B.g, 0, none⟩) 17 17) ∧ X.cell? ⟨B.g, k * 4, none⟩ = some (.int .i64 rn) ∧ X.cell? ⟨B.g, k * 4 + 1, none⟩ = some (.bool sv) ∧ X.cell? ⟨B.g, k * 4 + 2, none⟩ = some (.bool mu) ∧ X.cell? ⟨B.g, k * 4 + 3, none⟩ = some (.iface TT v) ∧ X.cell? ⟨B.R, 2, none⟩ = some (.bool s))) (by kernel_rfl) (HW8.out W4.drew HB4.out).1 (fun hHeld => ?_)
    refine wpAnyH_take (i := 0) (v := .pointer (some ⟨B.R, 0, none⟩)) rfl (by kernel_rfl) (by kernel_rfl) (by kernel_rfl) (fun _ _ _ h => h) (Or.inl ⟨by rfl, by intro w hs; go_simp⟩) hHeld ?_
    refine norm_any' (fun K hK => ?_)
    go_simp
    refine hK _ _ ?_
    clear hK K
    refine wpAnyH_take (i := 1) (v := .pointer (some ⟨B.R, 0, none⟩)) rfl (by kernel_rfl) (by kernel_rfl) (by kernel_rfl) (fun _ _ _ h => h) (Or.inl ⟨by rfl, by intro w hs; go_simp⟩) hHeld ?_
    refine norm_any' (fun K hK => ?_)
    go_simp
    refine hK _ _ ?_
    clear hK K
    refine wpAnyH_take (i := 2) (v := .pointer (some ⟨B.R, 4, none⟩)) rfl (by kernel_rfl) (by kernel_rfl) (by kernel_rfl) (fun _ _ _ h => h) (Or.inl ⟨by rfl, by intro w hs; go_simp⟩) hHeld ?_
    refine norm_any' (fun K hK => ?_)
    go_simp
    refine hK _ _ ?_
    clear hK K
    refine wpAnyH_take (i := 3) (v := .slice (some ⟨B.g, 0, none⟩) 17 17) rfl (by kernel_rfl) (by kernel_rfl) (by kernel_rfl) (fun _ _ _ h => h) (Or.inl ⟨by rfl, by rintro w ⟨s0, s1, s2, s3, s4, s5⟩; go_simp⟩) hHeld ?_
    refine norm_any' (fun K hK => ?_)
    go_simp
    refine hK _ _ ?_
    clear hK K
    refine wpAnyH_take (i := 4) (v := .int .i64 (k : Int)) rfl (by kernel_rfl) (by kernel_rfl) (by kernel_rfl) (fun _ _ _ h => h) (Or.inl ⟨by rfl, by intro w hs; go_simp⟩) hHeld ?_
    refine norm_any' (fun K hK => ?_)
    go_simp
    refine hK _ _ ?_
    clear hK K
    refine wpAnyH_take (i := 5) (v := .pointer (some ⟨B.g, k * 4, none⟩)) rfl (by kernel_rfl) (by kernel_rfl) (by kernel_rfl) (fun _ _ _ h => h) (Or.inl ⟨by rfl, by intro w hs; go_simp⟩) hHeld ?_
    refine norm_any' (fun K hK => ?_)
    go_simp
    refine hK _ _ ?_
    clear hK K
    refine wpAnyH_take (i := 6) (v := .agg #[.int .i64 rn, .bool sv, .bool mu, .iface TT v]) rfl (by kernel_rfl) (by kernel_rfl) (by kernel_rfl) (fun _ _ _ h => h) (Or.inl ⟨by rfl, by rintro w ⟨s0, s1, s2, s3, s4, s5⟩; go_simp⟩) hHeld ?_
    refine norm_any' (fun K hK => ?_)
    go_simp
    refine hK _ _ ?_
    clear hK K
    refine wpAnyH_take (i := 7) (v := .pointer (some ⟨B.R, 0, none⟩)) rfl (by kernel_rfl) (by kernel_rfl) (by kernel_rfl) (fun _ _ _ h => h) (Or.inl ⟨by rfl, by intro w hs; go_simp⟩) hHeld ?_
    refine norm_any' (fun K hK => ?_)
    go_simp
    refine hK _ _ ?_
    clear hK K
    refine wpAnyH_take (i := 8) (v := .pointer (some ⟨B.R, 0, none⟩)) rfl (by kernel_rfl) (by kernel_rfl) (by kernel_rfl) (fun _ _ _ h => h) (Or.inl ⟨by rfl, by intro w hs; go_simp⟩) hHeld ?_
    refine norm_any' (fun K hK => ?_)
    go_simp
    refine hK _ _ ?_
    clear hK K
    refine wpAnyH_take (i := 9) (v := .pointer (some ⟨B.R, 2, none⟩)) rfl (by kernel_rfl) (by kernel_rfl) (by kernel_rfl) (fun _ _ _ h => h) (Or.inl ⟨by rfl, by intro w hs; go_simp⟩) hHeld ?_
    refine norm_any' (fun K hK => ?_)
    go_simp
    refine hK _ _ ?_
    clear hK K
    refine wpAnyH_take (i := 10) (v := .bool s) rfl (by kernel_rfl) (by kernel_rfl) (by kernel_rfl) (fun _ _ _ h => h) (Or.inl ⟨by rfl, by rintro w ⟨s0, s1, s2, s3, s4, s5⟩; go_simp⟩) hHeld ?_
    refine norm_any' (fun K hK => ?_)
    go_simp
    refine hK _ _ ?_
    clear hK K
    refine wpAnyH_ready (rs := [11]) (by kernel_rfl) (by simp) (AllReadyH.cons rfl (fun K hK => ?_) AllReadyH.nil)
    go_simp
    refine Calls.mono (HW8.out W4.drew HB4.out).2.1 ?_
    rintro e W5 ⟨rfl, hb5⟩
    have HB5 : Aside (Below W3.heap.size W3 W5) := bel_trans HB4.out hb5
    clear hb5
    refine hK.out _ _ (HW8.out W5 HB5.out).1 (fun hHeld => ?_)
    clear hK K
    refine norm_any' (fun K hK => ?_)
    go_simp
    refine hK _ _ ?_
    clear hK K
    refine wpAnyH_take (i := 12) (v := .bool true) rfl (by kernel_rfl) (by kernel_rfl) (by kernel_rfl) (fun _ _ _ h => h) (Or.inl ⟨by rfl, by intro w hs; go_simp⟩) hHeld ?_
    refine norm_any' (fun K hK => ?_)
    go_simp
    refine hK _ _ ?_
    clear hK K
    refine wpAnyH_take (i := 13) (v := .bool true) rfl (by kernel_rfl) (by kernel_rfl) (by kernel_rfl) (fun _ _ _ h => h) (Or.inl ⟨by rfl, by intro w hs; go_simp⟩) hHeld ?_
    refine norm_any' (fun K hK => ?_)
    go_simp
    refine hK _ _ ?_
    clear hK K
    refine wpAnyH_take (i := 14) (v := undef) rfl (by kernel_rfl) (by kernel_rfl) (by kernel_rfl) (fun _ _ _ h => h) (Or.inr ⟨by rfl, rfl⟩) hHeld ?_
    refine norm_any' (fun K hK => ?_)
    go_simp
    refine hK _ _ ?_
    clear hK K
    refine wpAnyH_take (i := 15) (v := undef) rfl (by kernel_rfl) (by kernel_rfl) (by kernel_rfl) (fun _ _ _ h => h) (Or.inr ⟨by rfl, rfl⟩) hHeld ?_
    refine norm_any' (fun K hK => ?_)
    go_simp
    refine hK _ _ ?_
    clear hK K
    refine wpAnyH_take (i := 16) (v := undef) rfl (by kernel_rfl) (by kernel_rfl) (by kernel_rfl) (fun _ _ _ h => h) (Or.inr ⟨by rfl, rfl⟩) hHeld ?_
    refine norm_any' (fun K hK => ?_)
    go_simp
    refine hK _ _ ?_
    clear hK K
    refine wpAnyH_take (i := 17) (v := undef) rfl (by kernel_rfl) (by kernel_rfl) (by kernel_rfl) (fun _ _ _ h => h) (Or.inr ⟨by rfl, rfl⟩) hHeld ?_
    refine norm_any' (fun K hK => ?_)
    go_simp
    refine hK _ _ ?_
    clear hK K
    refine wpAnyH_take (i := 18) (v := undef) rfl (by kernel_rfl) (by kernel_rfl) (by kernel_rfl) (fun _ _ _ h => h) (Or.inr ⟨by rfl, rfl⟩) hHeld ?_
    refine norm_any' (fun K hK => ?_)
    go_simp
    refine hK _ _ ?_
    clear hK K
    refine wpAnyH_take (i := 19) (v := undef) rfl (by kernel_rfl) (by kernel_rfl) (by kernel_rfl) (fun _ _ _ h => h) (Or.inr ⟨by rfl, rfl⟩) hHeld ?_
    refine norm_any' (fun K hK => ?_)
    go_simp
    refine hK _ _ ?_
    clear hK K
    refine wpAnyH_take (i := 20) (v := undef) rfl (by kernel_rfl) (by kernel_rfl) (by kernel_rfl) (fun _ _ _ h => h) (Or.inr ⟨by rfl, rfl⟩) hHeld ?_
    refine norm_any' (fun K hK => ?_)
    go_simp
    refine hK _ _ ?_
    clear hK K
    refine wpAnyH_take (i := 21) (v := undef) rfl (by kernel_rfl) (by kernel_rfl) (by kernel_rfl) (fun _ _ _ h => h) (Or.inr ⟨by rfl, rfl⟩) hHeld ?_
    refine norm_any' (fun K hK => ?_)
    go_simp
    refine hK _ _ ?_
    clear hK K
    refine wpAnyH_take (i := 22) (v := undef) rfl (by kernel_rfl) (by kernel_rfl) (by kernel_rfl) (fun _ _ _ h => h) (Or.inr ⟨by rfl, rfl⟩) hHeld ?_
    refine norm_any' (fun K hK => ?_)
    go_simp
    refine hK _ _ ?_
    clear hK K
    refine wpAnyH_take (i := 23) (v := undef) rfl (by kernel_rfl) (by kernel_rfl) (by kernel_rfl) (fun _ _ _ h => h) (Or.inr ⟨by rfl, rfl⟩) hHeld ?_
    refine norm_any' (fun K hK => ?_)
    go_simp
    refine hK _ _ ?_
    clear hK K
    refine wpAnyH_take (i := 24) (v := undef) rfl (by kernel_rfl) (by kernel_rfl) (by kernel_rfl) (fun _ _ _ h => h) (Or.inr ⟨by rfl, rfl⟩) hHeld ?_
    refine norm_any' (fun K hK => ?_)
    go_simp
    refine hK _ _ ?_
    clear hK K
    refine wpAnyH_take (i := 25) (v := .bool true) rfl (by kernel_rfl) (by kernel_rfl) (by kernel_rfl) (fun _ _ _ h => h) (Or.inl ⟨by rfl, by intro w hs; go_simp⟩) hHeld ?_
    refine norm_any' (fun K hK => ?_)
    go_simp
    refine hK _ _ ?_
    clear hK K
    refine wpAnyH_done (by kernel_rfl) ?_ _
    clear hHeld
    have HF : Aside _ := (HW8.out W5 HB5.out).2.2.1 (by first | trivial | rfl)
    clear HW8
    go_wp2
    go_ret
    exact HF.out
  · go_enter Tryd.func43, Tryd.ntmps43
    go_wp2_with fail
    refine wp_region_held_drew (S := fun X : World => X.cell? ⟨w.heap.size, 0, none⟩ = some (.int .i64 q) ∧ X.cell? ⟨B.R, 3, none⟩ = some (.map (some B.mb)) ∧ (Instr.lookup 71 (.map (some B.mb)) (.int .i64 q) true).run Tryd.prog X = .ok (.tuple #[.agg #[], .bool false]) X) (by kernel_rfl) (HX.out _ (Below.refl W1.heap.size W1).drew) (fun hHeld => ?_)
    refine wpAnyH_take (i := 0) (v := .pointer (some ⟨B.R, 0, none⟩)) rfl (by kernel_rfl) (by kernel_rfl) (by kernel_rfl) (fun _ _ _ h => h) (Or.inl ⟨by rfl, by intro w hs; go_simp⟩) hHeld ?_
    refine norm_any' (fun K hK => ?_)
    go_simp
    refine hK _ _ ?_
    clear hK K
    refine wpAnyH_take (i := 1) (v := .pointer (some ⟨B.R, 0, none⟩)) rfl (by kernel_rfl) (by kernel_rfl) (by kernel_rfl) (fun _ _ _ h => h) (Or.inl ⟨by rfl, by intro w hs; go_simp⟩) hHeld ?_
    refine norm_any' (fun K hK => ?_)
    go_simp
    refine hK _ _ ?_
    clear hK K
    refine wpAnyH_take (i := 2) (v := .pointer (some ⟨B.R, 3, none⟩)) rfl (by kernel_rfl) (by kernel_rfl) (by kernel_rfl) (fun _ _ _ h => h) (Or.inl ⟨by rfl, by intro w hs; go_simp⟩) hHeld ?_
    refine norm_any' (fun K hK => ?_)
    go_simp
    refine hK _ _ ?_
    clear hK K
    refine wpAnyH_take (i := 3) (v := .map (some B.mb)) rfl (by kernel_rfl) (by kernel_rfl) (by kernel_rfl) (fun _ _ _ h => h) (Or.inl ⟨by rfl, by rintro w ⟨s0, s1, s2⟩; go_simp⟩) hHeld ?_
    refine norm_any' (fun K hK => ?_)
    go_simp
    refine hK _ _ ?_
    clear hK K
    refine wpAnyH_take (i := 4) (v := .int .i64 q) rfl (by kernel_rfl) (by kernel_rfl) (by kernel_rfl) (fun _ _ _ h => h) (Or.inl ⟨by rfl, by rintro w ⟨s0, s1, s2⟩; go_simp⟩) hHeld ?_
    refine norm_any' (fun K hK => ?_)
    go_simp
    refine hK _ _ ?_
    clear hK K
    refine wpAnyH_take (i := 5) (v := .tuple #[.agg #[], .bool false]) rfl (by kernel_rfl) (by kernel_rfl) (by kernel_rfl) (fun _ _ _ h => h) (Or.inl ⟨by rfl, by rintro w ⟨s0, s1, s2⟩; go_simp⟩) hHeld ?_
    refine norm_any' (fun K hK => ?_)
    go_simp
    refine hK _ _ ?_
    clear hK K
    refine wpAnyH_take (i := 6) (v := .tuple #[.agg #[], .bool false]) rfl (by kernel_rfl) (by kernel_rfl) (by kernel_rfl) (fun _ _ _ h => h) (Or.inl ⟨by rfl, by intro w hs; go_simp⟩) hHeld ?_
    refine norm_any' (fun K hK => ?_)
    go_simp
    refine hK _ _ ?_
    clear hK K
    refine wpAnyH_take (i := 7) (v := .agg #[]) rfl (by kernel_rfl) (by kernel_rfl) (by kernel_rfl) (fun _ _ _ h => h) (Or.inl ⟨by rfl, by intro w hs; go_simp⟩) hHeld ?_
    refine norm_any' (fun K hK => ?_)
    go_simp
    refine hK _ _ ?_
    clear hK K
    refine wpAnyH_take (i := 8) (v := .bool false) rfl (by kernel_rfl) (by kernel_rfl) (by kernel_rfl) (fun _ _ _ h => h) (Or.inl ⟨by rfl, by intro w hs; go_simp⟩) hHeld ?_
    refine norm_any' (fun K hK => ?_)
    go_simp
    refine hK _ _ ?_
    clear hK K
    refine wpAnyH_ready (rs := [9]) (by kernel_rfl) (by simp) (AllReadyH.cons rfl (fun K hK => ?_) AllReadyH.nil)
    go_simp
    refine hK.out _ _ HKA.out (fun hHeld => ?_)
    clear hK K
    refine norm_any' (fun K hK => ?_)
    go_simp
    refine hK _ _ ?_
    clear hK K
    refine wpAnyH_ready (rs := [10]) (by kernel_rfl) (by simp) (AllReadyH.cons rfl (fun K hK => ?_) AllReadyH.nil)
    go_simp
    refine hK.out _ _ HKA.out (fun hHeld => ?_)
    clear hK K
    refine norm_any' (fun K hK => ?_)
    go_simp
    refine hK _ _ ?_
    clear hK K
    refine wpAnyH_take (i := 11) (v := .bool false) rfl (by kernel_rfl) (by kernel_rfl) (by kernel_rfl) (fun _ _ _ h => h) (Or.inl ⟨by rfl, by intro w hs; go_simp⟩) hHeld ?_
    refine norm_any' (fun K hK => ?_)
    go_simp
    refine hK _ _ ?_
    clear hK K
    refine wpAnyH_done (by kernel_rfl) ?_ _
    clear hHeld HKA HX
    go_wp2_with fail
    refine wp_region_held_drew (S := fun X : World => X.cell? ⟨w.heap.size, 0, none⟩ = some (.int .i64 q) ∧ X.cell? ⟨B.R, 3, none⟩ = some (.map (some B.mb))) (by kernel_rfl) ⟨HM.out.1, HM.out.2.1⟩ (fun hHeld => ?_)
    refine wpAnyH_take (i := 0) (v := .pointer (some ⟨B.R, 0, none⟩)) rfl (by kernel_rfl) (by kernel_rfl) (by kernel_rfl) (fun _ _ _ h => h) (Or.inl ⟨by rfl, by intro w hs; go_simp⟩) hHeld ?_
    refine norm_any' (fun K hK => ?_)
    go_simp
    refine hK _ _ ?_
    clear hK K
    refine wpAnyH_take (i := 1) (v := .pointer (some ⟨B.R, 0, none⟩)) rfl (by kernel_rfl) (by kernel_rfl) (by kernel_rfl) (fun _ _ _ h => h) (Or.inl ⟨by rfl, by intro w hs; go_simp⟩) hHeld ?_
    refine norm_any' (fun K hK => ?_)
    go_simp
    refine hK _ _ ?_
    clear hK K
    refine wpAnyH_take (i := 2) (v := .pointer (some ⟨B.R, 3, none⟩)) rfl (by kernel_rfl) (by kernel_rfl) (by kernel_rfl) (fun _ _ _ h => h) (Or.inl ⟨by rfl, by intro w hs; go_simp⟩) hHeld ?_
    refine norm_any' (fun K hK => ?_)
    go_simp
    refine hK _ _ ?_
    clear hK K
    refine wpAnyH_take (i := 3) (v := .map (some B.mb)) rfl (by kernel_rfl) (by kernel_rfl) (by kernel_rfl) (fun _ _ _ h => h) (Or.inl ⟨by rfl, by rintro w ⟨s0, s1⟩; go_simp⟩) hHeld ?_
    refine norm_any' (fun K hK => ?_)
    go_simp
    refine hK _ _ ?_
    clear hK K
    refine wpAnyH_take (i := 4) (v := .int .i64 q) rfl (by kernel_rfl) (by kernel_rfl) (by kernel_rfl) (fun _ _ _ h => h) (Or.inl ⟨by rfl, by rintro w ⟨s0, s1⟩; go_simp⟩) hHeld ?_
    refine norm_any' (fun K hK => ?_)
    go_simp
    refine hK _ _ ?_
    clear hK K
    refine wpAnyH_take (i := 5) (v := .agg #[]) rfl (by kernel_rfl) (by kernel_rfl) (by kernel_rfl) (fun _ _ _ h => h) (Or.inl ⟨by rfl, by intro w hs; go_simp⟩) hHeld ?_
    refine norm_any' (fun K hK => ?_)
    go_simp
    refine hK _ _ ?_
    clear hK K
    have hput := HM.out.2.2
    refine wpAnyH_ready (rs := [6]) (by kernel_rfl) (by simp) (AllReadyH.cons rfl (fun K hK => ?_) AllReadyH.nil)
    go_simp
    refine hK.out _ _ HS3.out (fun hHeld => ?_)
    clear hK K
    refine norm_any' (fun K hK => ?_)
    go_simp
    refine hK _ _ ?_
    clear hK K
    refine wpAnyH_done (by kernel_rfl) ?_ _
    clear hHeld hput HM
    go_wp2_with fail
    refine Calls.mono hix3 ?_
    rintro e W4 ⟨rfl, hb4⟩
    have HB4 : Aside (Below W3.heap.size W3 W4.drew) := hb4.drew
    clear hb4 hix3
    go_wp2_with fail
    refine wp_region_held_drew (S := (fun X : World => X.cell? ⟨B.R, 4, none⟩ = some (.slice (some ⟨B.g, 0, none⟩) 17 17) ∧ X.cell? ⟨B.g, k * 4, none⟩ = some (.int .i64 rn) ∧ X.cell? ⟨B.g, k * 4 + 1, none⟩ = some (.bool sv) ∧ X.cell? ⟨B.g, k * 4 + 2, none⟩ = some (.bool mu) ∧ X.cell? ⟨B.g, k * 4 + 3, none⟩ = some (.iface TT v) ∧ X.cell? ⟨B.R, 2, none⟩ = some (.bool s))) (by kernel_rfl) (HW8.out W4.drew HB4.out).1 (fun hHeld => ?_)
    refine wpAnyH_take (i := 0) (v := .pointer (some ⟨B.R, 0, none⟩)) rfl (by kernel_rfl) (by kernel_rfl) (by kernel_rfl) (fun _ _ _ h => h) (Or.inl ⟨by rfl, by intro w hs; go_simp⟩) hHeld ?_
    refine norm_any' (fun K hK => ?_)
    go_simp
    refine hK _ _ ?_
    clear hK K
    refine wpAnyH_take (i := 1) (v := .pointer (some ⟨B.R, 0, none⟩)) rfl (by kernel_rfl) (by kernel_rfl) (by kernel_rfl) (fun _ _ _ h => h) (Or.inl ⟨by rfl, by intro w hs; go_simp⟩) hHeld ?_
    refine norm_any' (fun K hK => ?_)
    go_simp
    refine hK _ _ ?_
    clear hK K
    refine wpAnyH_take (i := 2) (v := .pointer (some ⟨B.R, 4, none⟩)) rfl (by kernel_rfl) (by kernel_rfl) (by kernel_rfl) (fun _ _ _ h => h) (Or.inl ⟨by rfl, by intro w hs; go_simp⟩) hHeld ?_
    refine norm_any' (fun K hK => ?_)
    go_simp
    refine hK _ _ ?_
    clear hK K
    refine wpAnyH_take (i := 3) (v := .slice (some ⟨B.g, 0, none⟩) 17 17) rfl (by kernel_rfl) (by kernel_rfl) (by kernel_rfl) (fun _ _ _ h => h) (Or.inl ⟨by rfl, by rintro w ⟨s0, s1, s2, s3, s4, s5⟩; go_simp⟩) hHeld ?_
    refine norm_any' (fun K hK => ?_)
    go_simp
    refine hK _ _ ?_
    clear hK K
    refine wpAnyH_take (i := 4) (v := .int .i64 (k : Int)) rfl (by kernel_rfl) (by kernel_rfl) (by kernel_rfl) (fun _ _ _ h => h) (Or.inl ⟨by rfl, by intro w hs; go_simp⟩) hHeld ?_
    refine norm_any' (fun K hK => ?_)
    go_simp
    refine hK _ _ ?_
    clear hK K
    refine wpAnyH_take (i := 5) (v := .pointer (some ⟨B.g, k * 4, none⟩)) rfl (by kernel_rfl) (by kernel_rfl) (by kernel_rfl) (fun _ _ _ h => h) (Or.inl ⟨by rfl, by intro w hs; go_simp⟩) hHeld ?_
    refine norm_any' (fun K hK => ?_)
    go_simp
    refine hK _ _ ?_
    clear hK K
    refine wpAnyH_take (i := 6) (v := .agg #[.int .i64 rn, .bool sv, .bool mu, .iface TT v]) rfl (by kernel_rfl) (by kernel_rfl) (by kernel_rfl) (fun _ _ _ h => h) (Or.inl ⟨by rfl, by rintro w ⟨s0, s1, s2, s3, s4, s5⟩; go_simp⟩) hHeld ?_
    refine norm_any' (fun K hK => ?_)
    go_simp
    refine hK _ _ ?_
    clear hK K
    refine wpAnyH_take (i := 7) (v := .pointer (some ⟨B.R, 0, none⟩)) rfl (by kernel_rfl) (by kernel_rfl) (by kernel_rfl) (fun _ _ _ h => h) (Or.inl ⟨by rfl, by intro w hs; go_simp⟩) hHeld ?_
    refine norm_any' (fun K hK => ?_)
    go_simp
    refine hK _ _ ?_
    clear hK K
    refine wpAnyH_take (i := 8) (v := .pointer (some ⟨B.R, 0, none⟩)) rfl (by kernel_rfl) (by kernel_rfl) (by kernel_rfl) (fun _ _ _ h => h) (Or.inl ⟨by rfl, by intro w hs; go_simp⟩) hHeld ?_
    refine norm_any' (fun K hK => ?_)
    go_simp
    refine hK _ _ ?_
    clear hK K
    refine wpAnyH_take (i := 9) (v := .pointer (some ⟨B.R, 2, none⟩)) rfl (by kernel_rfl) (by kernel_rfl) (by kernel_rfl) (fun _ _ _ h => h) (Or.inl ⟨by rfl, by intro w hs; go_simp⟩) hHeld ?_
    refine norm_any' (fun K hK => ?_)
    go_simp
    refine hK _ _ ?_
    clear hK K
    refine wpAnyH_take (i := 10) (v := .bool s) rfl (by kernel_rfl) (by kernel_rfl) (by kernel_rfl) (fun _ _ _ h => h) (Or.inl ⟨by rfl, by rintro w ⟨s0, s1, s2, s3, s4, s5⟩; go_simp⟩) hHeld ?_
    refine norm_any' (fun K hK => ?_)
    go_simp
    refine hK _ _ ?_
    clear hK K
    refine wpAnyH_ready (rs := [11]) (by kernel_rfl) (by simp) (AllReadyH.cons rfl (fun K hK => ?_) AllReadyH.nil)
    go_simp
    refine Calls.mono (HW8.out W4.drew HB4.out).2.1 ?_
    rintro e W5 ⟨rfl, hb5⟩
    have HB5 : Aside (Below W3.heap.size W3 W5) := bel_trans HB4.out hb5
    clear hb5
    refine hK.out _ _ (HW8.out W5 HB5.out).1 (fun hHeld => ?_)
    clear hK K
    refine norm_any' (fun K hK => ?_)
    go_simp
    refine hK _ _ ?_
    clear hK K
    refine wpAnyH_take (i := 12) (v := .bool false) rfl (by kernel_rfl) (by kernel_rfl) (by kernel_rfl) (fun _ _ _ h => h) (Or.inl ⟨by rfl, by intro w hs; go_simp⟩) hHeld ?_
    refine norm_any' (fun K hK => ?_)
    go_simp
    refine hK _ _ ?_
    clear hK K
    refine wpAnyH_take (i := 13) (v := .bool false) rfl (by kernel_rfl) (by kernel_rfl) (by kernel_rfl) (fun _ _ _ h => h) (Or.inl ⟨by rfl, by intro w hs; go_simp⟩) hHeld ?_
    refine norm_any' (fun K hK => ?_)
    go_simp
    refine hK _ _ ?_
    clear hK K
    refine wpAnyH_take (i := 14) (v := .pointer (some ⟨B.R, 0, none⟩)) rfl (by kernel_rfl) (by kernel_rfl) (by kernel_rfl) (fun _ _ _ h => h) (Or.inl ⟨by rfl, by intro w hs; go_simp⟩) hHeld ?_
    refine norm_any' (fun K hK => ?_)
    go_simp
    refine hK _ _ ?_
    clear hK K
    refine wpAnyH_take (i := 15) (v := .pointer (some ⟨B.R, 0, none⟩)) rfl (by kernel_rfl) (by kernel_rfl) (by kernel_rfl) (fun _ _ _ h => h) (Or.inl ⟨by rfl, by intro w hs; go_simp⟩) hHeld ?_
    refine norm_any' (fun K hK => ?_)
    go_simp
    refine hK _ _ ?_
    clear hK K
    refine wpAnyH_take (i := 16) (v := .pointer (some ⟨B.R, 4, none⟩)) rfl (by kernel_rfl) (by kernel_rfl) (by kernel_rfl) (fun _ _ _ h => h) (Or.inl ⟨by rfl, by intro w hs; go_simp⟩) hHeld ?_
    refine norm_any' (fun K hK => ?_)
    go_simp
    refine hK _ _ ?_
    clear hK K
    refine wpAnyH_take (i := 17) (v := .slice (some ⟨B.g, 0, none⟩) 17 17) rfl (by kernel_rfl) (by kernel_rfl) (by kernel_rfl) (fun _ _ _ h => h) (Or.inl ⟨by rfl, by rintro w ⟨s0, s1, s2, s3, s4, s5⟩; go_simp⟩) hHeld ?_
    refine norm_any' (fun K hK => ?_)
    go_simp
    refine hK _ _ ?_
    clear hK K
    refine wpAnyH_take (i := 18) (v := .int .i64 (k : Int)) rfl (by kernel_rfl) (by kernel_rfl) (by kernel_rfl) (fun _ _ _ h => h) (Or.inl ⟨by rfl, by intro w hs; go_simp⟩) hHeld ?_
    refine norm_any' (fun K hK => ?_)
    go_simp
    refine hK _ _ ?_
    clear hK K
    refine wpAnyH_take (i := 19) (v := .pointer (some ⟨B.g, k * 4, none⟩)) rfl (by kernel_rfl) (by kernel_rfl) (by kernel_rfl) (fun _ _ _ h => h) (Or.inl ⟨by rfl, by intro w hs; go_simp⟩) hHeld ?_
    refine norm_any' (fun K hK => ?_)
    go_simp
    refine hK _ _ ?_
    clear hK K
    refine wpAnyH_take (i := 20) (v := .pointer (some ⟨B.g, k * 4 + 3, none⟩)) rfl (by kernel_rfl) (by kernel_rfl) (by kernel_rfl) (fun _ _ _ h => h) (Or.inl ⟨by rfl, by intro w hs; go_simp⟩) hHeld ?_
    refine norm_any' (fun K hK => ?_)
    go_simp
    refine hK _ _ ?_
    clear hK K
    refine wpAnyH_take (i := 21) (v := .iface TT v) rfl (by kernel_rfl) (by kernel_rfl) (by kernel_rfl) (fun _ _ _ h => h) (Or.inl ⟨by rfl, by rintro w ⟨s0, s1, s2, s3, s4, s5⟩; go_simp⟩) hHeld ?_
    refine norm_any' (fun K hK => ?_)
    go_simp
    refine hK _ _ ?_
    clear hK K
    refine wpAnyH_take (i := 22) (v := .slice ao xl cc) rfl (by kernel_rfl) (by kernel_rfl) (by kernel_rfl) (fun _ _ _ h => h) (Or.inl ⟨by rfl, by intro w hs; go_simp⟩) hHeld ?_
    refine norm_any' (fun K hK => ?_)
    go_simp
    refine hK _ _ ?_
    clear hK K
    refine wpAnyH_ready (rs := [23]) (by kernel_rfl) (by simp) (AllReadyH.cons rfl (fun K hK => ?_) AllReadyH.nil)
    go_simp
    refine Calls.mono ((HW8.out W5 HB5.out).2.2.2 (by first | trivial | rfl)) ?_
    rintro e W6 ⟨rfl, hs6, ht6⟩
    have HT6 : Aside _ := ht6
    clear ht6
    refine hK.out _ _ hs6 (fun hHeld => ?_)
    clear hK K
    refine norm_any' (fun K hK => ?_)
    go_simp
    refine hK _ _ ?_
    clear hK K
    refine wpAnyH_take (i := 24) (v := .bool (!ok)) rfl (by kernel_rfl) (by kernel_rfl) (by kernel_rfl) (fun _ _ _ h => h) (Or.inl ⟨by rfl, by intro w hs; go_simp⟩) hHeld ?_
    refine norm_any' (fun K hK => ?_)
    go_simp
    refine hK _ _ ?_
    clear hK K
    refine wpAnyH_take (i := 25) (v := .bool (!ok)) rfl (by kernel_rfl) (by kernel_rfl) (by kernel_rfl) (fun _ _ _ h => h) (Or.inl ⟨by rfl, by intro w hs; go_simp⟩) hHeld ?_
    refine norm_any' (fun K hK => ?_)
    go_simp
    refine hK _ _ ?_
    clear hK K
    refine wpAnyH_done (by kernel_rfl) ?_ _
    clear hHeld
    clear HW8
    cases ok
    · go_wp2
      go_ret
      exact HT6.out
    · go_wp2
      go_ret
      exact HT6.out
end
end Go.Proofs.YtcppnellgkbndaaDoor
namespace Go.Proofs.YtcppnellgkbndaaDoor
open Go.ChangeShapes Go.WideShapes Go.ChangeAt Go.RowKit
set_option linter.unusedVariables false
set_option maxRecDepth 100000

section
variable {w : World} {B : Pl4} {p0 p : Ps} {o : Option Addr} {n c : Nat} {a : Int} {s : Bool} {m : Nat} {S : Int → Bool}
theorem take_c (h : Rds w B p0 p o n c a s m S) (q : Int) (hq : (Lit.int .i64 q).wf = true) (uv : Value) (hu : w.cell? ⟨1, 0, none⟩ = some uv) (h1m : 1 < B.mb) (hm : m < 9000000000000000000) (X : List UInt8) (ao : Option Addr) (cc : Nat) (hi : InA w B.P ao X cc) (hsep : ∀ x, ao = some x → X ≠ [] → x.block ≠ B.mb) :
    Calls Tryd.prog 43 #[.pointer (some ⟨B.R, 0, none⟩), .int .i64 q, .slice ao X.length cc] w (TkP B p0 p o n c a s m S uv q X w) := by
  cases hS : S q with
  | true => exact take_twice h q hq uv X ao cc hS
  | false =>
    cases hix : ixE (rwL B.P p0) q with
    | none => exact take_none h q hq uv hu h1m hm X ao cc hS hix
    | some k =>
      refine take_row h q hq uv hm X ao cc hi hsep hS k ?_ hix
      obtain ⟨hk, _⟩ := List.findIdx?_eq_some_iff_getElem.1 hix
      rw [rwL_len] at hk
      exact hk
theorem eg43 : ∀ args w, (callFunc 43 args).run Tryd.prog w = .ok (.enter 43 args) w := enters_of Tryd.func43 (by kernel_rfl) rfl
/-- What errors.Is answers of what take answers: fault tells the same number. -/
theorem fault_num (e : Int) (w : World) (he : e = 10 ∨ e = 13 ∨ e = 11) : Calls Tryd.prog 31 #[.iface 26 (.int .i64 e)] w fun r w' => r = .returned (.int .i64 e) ∧ Below w.heap.size w w' := by
  refine (fault_c _ _ _ _ w (is_num e 10) (is_num e 13) (is_num e 11)).mono ?_
  rintro r w' ⟨rfl, hb⟩
  rcases he with rfl | rfl | rfl <;> exact ⟨rfl, hb⟩
theorem fault_nil (w : World) : Calls Tryd.prog 31 #[.nilIface] w fun r w' => r = .returned (.int .i64 0) ∧ Below w.heap.size w w' :=
  fault_c _ _ _ _ w (is_nil 10) (is_nil 13) (is_nil 11)
theorem fault_unknown (x : Option Addr) (w : World) : Calls Tryd.prog 31 #[.iface 138 (.pointer x)] w fun r w' => r = .returned (.int .i64 0) ∧ Below w.heap.size w w' :=
  fault_c _ _ _ _ w (is_ptr x 10) (is_ptr x 13) (is_ptr x 11)
end
end Go.Proofs.YtcppnellgkbndaaDoor
namespace Go.Proofs.YtcppnellgkbndaaDoor
open Go.ChangeShapes Go.WideShapes Go.ChangeAt Go.RowKit
set_option linter.unusedVariables false
set_option maxRecDepth 100000

section
variable {w : World} {B : Pl4} {p0 p : Ps} {o : Option Addr} {c : Nat} {a : Int} {s : Bool} {m : Nat} {S : Int → Bool} {l : List UInt8}
theorem drew1 (w : World) : Below w.heap.size w w.drew := (Below.refl w.heap.size w).drew
theorem par_first (h : Rds w B p0 p o l.length c a s m S) (hs : Sl w o l) (hl : l.length ≤ 9223372036854775000) (he : vE l a ≠ 0) :
    Calls Tryd.prog 32 #[.pointer (some ⟨B.R, 0, none⟩)] w fun e w' => e = .returned (.iface 26 (.int .i64 (vE l a))) ∧ Below w.heap.size w w' := by
  have hv := (var_any o l c a w.drew h.tb (Sl_below hs (drew1 w)) hl)
  have hd := h.bel (drew1 w)
  have d0 := hd.rd.c0
  have d1 := hd.rd.c1
  have HB : Aside (Below w.heap.size w w.drew) := drew1 w
  clear h hs hl hd
  have he' : (vE l a == 0) = false := by simpa using he
  have he2 : (vE l a != 0) = true := by simpa using he
  clear he
  generalize vE l a = er at *
  generalize vV l a = x at *
  generalize vN l a = y at *
  generalize l.length = n at *
  go_enter Tryd.func32, Tryd.ntmps32
  go_wp2_with fail
  go_region_held3 (fun X => X.cell? ⟨B.R, 0, none⟩ = some (.slice o n c) ∧ X.cell? ⟨B.R, 1, none⟩ = some (.int .i64 a)) (exact ⟨d0, d1⟩) (first | (go_at_call 42; refine hv.mono ?_; rintro e w' ⟨rfl, hw⟩; subst w'))
  go_wp2
  go_ret
  exact ⟨rfl, HB.out⟩
theorem par_second (h : Rds w B p0 p o l.length c a s m S) (hs : Sl w o l) (hl : l.length ≤ 9223372036854775000) (he : vE l a = 0) (he2 : vE l (vN l a) ≠ 0) :
    Calls Tryd.prog 32 #[.pointer (some ⟨B.R, 0, none⟩)] w fun e w' => e = .returned (.iface 26 (.int .i64 (vE l (vN l a)))) ∧ Below w.heap.size w w' := by
  have hv := (var_any o l c a w.drew h.tb (Sl_below hs (drew1 w)) hl)
  have hv2 := (var_any o l c (vN l a) w.drew h.tb (Sl_below hs (drew1 w)) hl)
  have hd := h.bel (drew1 w)
  have d0 := hd.rd.c0
  have d1 := hd.rd.c1
  have HB : Aside (Below w.heap.size w w.drew) := drew1 w
  clear h hs hl hd
  have he' : (vE l (vN l a) == 0) = false := by simpa using he2
  have he3 : (vE l (vN l a) != 0) = true := by simpa using he2
  rw [he] at hv
  clear he he2
  generalize vE l (vN l a) = er at *
  generalize vV l (vN l a) = x2 at *
  generalize vN l (vN l a) = y2 at *
  generalize vV l a = x at *
  generalize vN l a = y at *
  generalize l.length = n at *
  go_enter Tryd.func32, Tryd.ntmps32
  go_wp2_with fail
  go_region_held3 (fun X => X.cell? ⟨B.R, 0, none⟩ = some (.slice o n c) ∧ X.cell? ⟨B.R, 1, none⟩ = some (.int .i64 a)) (exact ⟨d0, d1⟩) (first | (go_at_call 42; refine hv.mono ?_; rintro e w' ⟨rfl, hw⟩; subst w'))
  go_wp2_with fail
  refine hv2.mono ?_
  rintro e w' ⟨rfl, hw⟩
  subst w'
  go_wp2
  go_ret
  exact ⟨rfl, HB.out⟩
end
end Go.Proofs.YtcppnellgkbndaaDoor
namespace Go.Proofs.YtcppnellgkbndaaDoor
open Go.ChangeShapes Go.WideShapes Go.ChangeAt Go.RowKit
set_option linter.unusedVariables false
set_option maxRecDepth 100000

theorem v_rng {l : List UInt8} {a : Int} (h : vE l a = 0) : 0 ≤ a ∧ a < vN l a ∧ vN l a ≤ l.length ∧ 0 ≤ vV l a ∧ vV l a ≤ 4611686018427387903 := by
  unfold vE at h
  by_cases h1 : a < 0 ∨ (l.length : Int) < a
  · rw [if_pos h1] at h; cases h
  · rw [if_neg h1] at h
    by_cases ho : vOk l a
    · have hv : vV l a = _ := if_pos ho
      have hn : vN l a = _ := if_pos ho
      rw [hv, hn]
      obtain ⟨a0, a1, a2⟩ := ho
      have hw1 : 0 < wd l a.toNat := Nat.pow_pos (by decide)
      have hw8 : wd l a.toNat ≤ 8 := by
        unfold wd
        have : (l.getD a.toNat 0).toNat / 64 ≤ 3 := by have := (l.getD a.toNat 0).toNat_lt; omega
        exact Nat.pow_le_pow_right (by decide) this
      have hm : num (sub l a.toNat (wd l a.toNat)) % 2 ^ (8 * wd l a.toNat - 2) < 2 ^ (8 * wd l a.toNat - 2) := Nat.mod_lt _ (Nat.pow_pos (by decide))
      have hp : 2 ^ (8 * wd l a.toNat - 2) ≤ 2 ^ 62 := Nat.pow_le_pow_right (by decide) (by omega)
      have hp' : (2 : Nat) ^ 62 = 4611686018427387904 := by decide
      refine ⟨a0, by omega, a2, by omega, ?_⟩
      have : num (sub l a.toNat (wd l a.toNat)) % 2 ^ (8 * wd l a.toNat - 2) ≤ 4611686018427387903 := by omega
      clear hm hp hp'
      generalize num (sub l a.toNat (wd l a.toNat)) % 2 ^ (8 * wd l a.toNat - 2) = z at *
      clear hw1 hw8 a0 a1 a2 h1 h hv hn
      omega
    · rw [if_neg ho] at h; cases h
section
variable {w : World} {B : Pl4} {p0 p : Ps} {o : Option Addr} {c : Nat} {a : Int} {s : Bool} {m : Nat} {S : Int → Bool} {l : List UInt8}
theorem par_end (h : Rds w B p0 p o l.length c a s m S) (hs : Sl w o l) (hl : l.length ≤ 9223372036854775000) (he : vE l a = 0) (he2 : vE l (vN l a) = 0) (hgt : (l.length : Int) - vN l (vN l a) < vV l (vN l a)) :
    Calls Tryd.prog 32 #[.pointer (some ⟨B.R, 0, none⟩)] w fun e w' => e = .returned (.iface 26 (.int .i64 10)) ∧ Below w.heap.size w w' := by
  have hv := (var_any o l c a w.drew h.tb (Sl_below hs (drew1 w)) hl)
  have hv2 := (var_any o l c (vN l a) w.drew h.tb (Sl_below hs (drew1 w)) hl)
  have hd := h.bel (drew1 w)
  have d0 := hd.rd.c0
  have d1 := hd.rd.c1
  have HB : Aside (Below w.heap.size w w.drew) := drew1 w
  obtain ⟨r1, r2, r3, r4, r5⟩ := v_rng he2
  clear h hs hd
  rw [he] at hv
  rw [he2] at hv2
  clear he he2
  generalize vV l (vN l a) = x2 at *
  generalize vN l (vN l a) = y2 at *
  generalize vV l a = x at *
  generalize vN l a = y at *
  generalize l.length = n at *
  have iw : IntKind.i64.wrap ((n : Int) - y2) = (n : Int) - y2 := by rw [IntKind.wrap_i64]; omega
  clear r1 r2 r3 r4 r5 hl
  go_enter Tryd.func32, Tryd.ntmps32
  go_wp2_with fail
  go_region_held3 (fun X => X.cell? ⟨B.R, 0, none⟩ = some (.slice o n c) ∧ X.cell? ⟨B.R, 1, none⟩ = some (.int .i64 a)) (exact ⟨d0, d1⟩) (first | (go_at_call 42; refine hv.mono ?_; rintro e w' ⟨rfl, hw⟩; subst w'))
  go_wp2_with fail
  refine hv2.mono ?_
  rintro e w' ⟨rfl, hw⟩
  subst w'
  go_wp2
  go_ret
  exact ⟨rfl, HB.out⟩
end
end Go.Proofs.YtcppnellgkbndaaDoor
namespace Go.Proofs.YtcppnellgkbndaaDoor
open Go.ChangeShapes Go.WideShapes Go.ChangeAt Go.RowKit
set_option linter.unusedVariables false
set_option maxRecDepth 100000

section
variable {w : World} {B : Pl4} {p0 p : Ps} {b off c : Nat} {a : Int} {s : Bool} {m : Nat} {S : Int → Bool} {l : List UInt8}
/-- What parameter leaves of one that is taken: its number q, its bytes those of l from Y, X2 many. -/
def PaT (B : Pl4) (p0 p : Ps) (b off n c : Nat) (s : Bool) (m : Nat) (S : Int → Bool) (uv : Value) (q : Int) (l : List UInt8) (Y X2 : Nat) (w : World) (ev : Value) (w' : World) : Prop :=
  ∃ S' p' m', Tk B.P p0 uv s q (sub l Y X2) S p ev S' p' ∧ Rds w' B p0 p' (some ⟨b, off, none⟩) n c ((Y : Int) + X2) s m' S' ∧ m' ≤ m + 1 ∧ Gs (fun k => k = B.P ∨ k = B.mb ∨ k = B.R) w w'
theorem par_take (h : Rds w B p0 p (some ⟨b, off, none⟩) l.length c a s m S) (hs : ∀ j (hj : j < l.length), w.cell? ⟨b, off + j, none⟩ = some (.int .u8 (l[j].toNat))) (hl : l.length ≤ 140737488351232) (hlc : l.length ≤ c) (hc : c ≤ 9223372036854775807) (hbP : b ≠ B.P) (hbR : b ≠ B.R) (hbM : b ≠ B.mb)
    (uv : Value) (hu : w.cell? ⟨1, 0, none⟩ = some uv) (h1m : 1 < B.mb ∧ 1 < B.R) (hm : m < 9000000000000000000) (he : vE l a = 0) (Y X2 : Nat) (hY : vN l (vN l a) = Y) (hX2 : vV l (vN l a) = X2) (he2 : vE l (vN l a) = 0) (hle : Y + X2 ≤ l.length) :
    Calls Tryd.prog 32 #[.pointer (some ⟨B.R, 0, none⟩)] w fun e w' => ∃ ev, e = .returned ev ∧ PaT B p0 p b off l.length c s m S uv (vV l a) l Y X2 w ev w' := by
  have hsl : Sl w (some ⟨b, off, none⟩) l := fun j hj => ⟨b, off, rfl, hs j hj⟩
  have hv := (var_any (some ⟨b, off, none⟩) l c a w.drew h.tb (Sl_below hsl (drew1 w)) (by omega))
  have hv2 := (var_any (some ⟨b, off, none⟩) l c (vN l a) w.drew h.tb (Sl_below hsl (drew1 w)) (by omega))
  have hd := h.bel (drew1 w)
  have d0 := hd.rd.c0
  have d1 := hd.rd.c1
  have d1f := hd.rd.fr 1
  obtain ⟨_, _, _, q4, q5⟩ := v_rng he
  obtain ⟨W2, hW2⟩ : ∃ W2, w.drew.setCell ⟨B.R, 1, none⟩ (.int .i64 ((Y : Int) + X2)) = W2 := ⟨_, rfl⟩
  have hg2 : Gs (fun k => k = B.R) w.drew W2 := by rw [← hW2]; exact Gs.set _ rfl
  have hr2 : Rds W2 B p0 p (some ⟨b, off, none⟩) l.length c ((Y : Int) + X2) s m S := by rw [← hW2]; exact hd.stepA _
  have hr3 := hr2.bel (drew1 W2)
  have hc2 : ∀ j (hj : j < l.length), W2.drew.cell? ⟨b, off + j, none⟩ = some (.int .u8 (l[j].toNat)) := fun j hj => cell_bel (hg2.cell (cell_bel (hs j hj) (drew1 w)) hbR) (drew1 W2)
  obtain ⟨z, hz⟩ : ∃ z, (if c = Y then off else off + Y) = z := ⟨_, rfl⟩
  have hsub : Sl W2.drew (some ⟨b, z, none⟩) (sub l Y X2) := by
    by_cases hcy : c = Y
    · intro j hj
      rw [sub_length l Y X2 hle] at hj
      omega
    · rw [if_neg hcy] at hz
      subst hz
      exact Sl_sub Y X2 hc2 hle
  have hu2 : W2.drew.cell? ⟨1, 0, none⟩ = some uv := cell_bel (hg2.cell (cell_bel hu (drew1 w)) (by have := h1m.2; omega)) (drew1 W2)
  have hsn := sub_length l Y X2 hle
  have htk := take_c hr3 (vV l a) (wfI (by omega) (by omega)) uv hu2 h1m.1 hm (sub l Y X2) (some ⟨b, z, none⟩) (c - Y) ⟨hsub, (fun x hx _ => by injection hx with hx; rw [← hx]; exact hbP), (fun h => nomatch h), (by rw [hsn]; omega)⟩ (fun x hx _ => by injection hx with hx; rw [← hx]; exact hbM)
  rw [hsn] at htk
  have hcall : Calls Tryd.prog 43 #[.pointer (some ⟨B.R, 0, none⟩), .int .i64 (vV l a), .slice (some ⟨b, z, none⟩) X2 (c - Y)] W2.drew fun e w' => ∃ ev, e = .returned ev ∧ w'.cell? ⟨B.R, 0, none⟩ = some (.slice (some ⟨b, off, none⟩) l.length c) ∧ w'.cell? ⟨B.R, 1, none⟩ = some (.int .i64 ((Y : Int) + X2)) ∧ PaT B p0 p b off l.length c s m S uv (vV l a) l Y X2 w ev w' := by
    refine htk.mono ?_
    rintro e w' ⟨ev, S', p', m', rfl, t1, t2, t3, t4⟩
    exact ⟨ev, rfl, t2.rd.c0, t2.rd.c1, S', p', m', t1, t2, t3, (((Gs.of_below (drew1 w)).trans (hg2.mono fun k hk => .inr (.inr hk))).trans (Gs.of_below (drew1 W2))).trans (t4.mono fun k hk => hk.elim .inl fun h => .inr (.inl h))⟩
  have e0 := hr3.rd.c0
  have e1 := hr3.rd.c1
  clear h hs hsl hd hg2 hr2 hr3 hc2 hsub hu2 htk hbP hbR hbM hu h1m hm hsn
  rw [he] at hv
  rw [he2, hX2, hY] at hv2
  clear he he2 hX2 hY
  have HP : Aside (PaT B p0 p b off l.length c s m S uv (vV l a) l Y X2 w = PaT B p0 p b off l.length c s m S uv (vV l a) l Y X2 w) := rfl
  clear HP
  generalize PaT B p0 p b off l.length c s m S uv (vV l a) l Y X2 w = RR at *
  generalize vV l a = x at *
  generalize vN l a = y at *
  generalize l.length = n at *
  have iw : IntKind.i64.wrap ((n : Int) - (Y : Int)) = (n : Int) - (Y : Int) := by rw [IntKind.wrap_i64]; omega
  have iw2 : IntKind.i64.wrap ((Y : Int) + (X2 : Int)) = (Y : Int) + (X2 : Int) := by rw [IntKind.wrap_i64]; omega
  have hng : ¬ (n : Int) - (Y : Int) < (X2 : Int) := by omega
  have HCY : Aside ((if c = Y then off else off + Y) = z) := hz
  clear hz
  clear q4 q5
  go_enter Tryd.func32, Tryd.ntmps32
  go_wp2_with fail
  go_region_held3 (fun X => X.cell? ⟨B.R, 0, none⟩ = some (.slice (some ⟨b, off, none⟩) n c) ∧ X.cell? ⟨B.R, 1, none⟩ = some (.int .i64 a)) (exact ⟨d0, d1⟩) (first | (go_at_call 42; refine hv.mono ?_; rintro e w' ⟨rfl, hw⟩; subst w'))
  go_wp2_with fail
  refine hv2.mono ?_
  rintro e w' ⟨rfl, hw⟩
  subst w'
  go_wp2_with fail
  have s1 : (Y : Int) + (X2 : Int) ≤ (c : Int) := by omega
  have s2 : (Y : Int) ≤ (Y : Int) + (X2 : Int) := by omega
  have s3 : ((Y : Int) + (X2 : Int) - (Y : Int)).toNat = X2 := by omega
  have s4 : ((c : Int) - (Y : Int)).toNat = c - Y := by omega
  refine wp_region_held_drew (S := fun X : World => X.cell? ⟨B.R, 0, none⟩ = some (.slice (some ⟨b, off, none⟩) n c) ∧ X.cell? ⟨B.R, 1, none⟩ = some (.int .i64 ((Y : Int) + (X2 : Int)))) (by kernel_rfl) ⟨e0, e1⟩ (fun hHeld => ?_)
  refine wpAnyH_take (i := 0) (v := .pointer (some ⟨B.R, 0, none⟩)) rfl (by kernel_rfl) (by kernel_rfl) (by kernel_rfl) (fun _ _ _ h => h) (Or.inl ⟨by rfl, by intro w hs; go_simp⟩) hHeld ?_
  refine norm_any' (fun K hK => ?_)
  go_simp
  refine hK _ _ ?_
  clear hK K
  refine wpAnyH_take (i := 1) (v := .int .i64 x) rfl (by kernel_rfl) (by kernel_rfl) (by kernel_rfl) (fun _ _ _ h => h) (Or.inl ⟨by rfl, by intro w hs; go_simp⟩) hHeld ?_
  refine norm_any' (fun K hK => ?_)
  go_simp
  refine hK _ _ ?_
  clear hK K
  refine wpAnyH_take (i := 2) (v := .pointer (some ⟨B.R, 0, none⟩)) rfl (by kernel_rfl) (by kernel_rfl) (by kernel_rfl) (fun _ _ _ h => h) (Or.inl ⟨by rfl, by intro w hs; go_simp⟩) hHeld ?_
  refine norm_any' (fun K hK => ?_)
  go_simp
  refine hK _ _ ?_
  clear hK K
  refine wpAnyH_take (i := 3) (v := .pointer (some ⟨B.R, 0, none⟩)) rfl (by kernel_rfl) (by kernel_rfl) (by kernel_rfl) (fun _ _ _ h => h) (Or.inl ⟨by rfl, by intro w hs; go_simp⟩) hHeld ?_
  refine norm_any' (fun K hK => ?_)
  go_simp
  refine hK _ _ ?_
  clear hK K
  refine wpAnyH_take (i := 4) (v := .pointer (some ⟨B.R, 0, none⟩)) rfl (by kernel_rfl) (by kernel_rfl) (by kernel_rfl) (fun _ _ _ h => h) (Or.inl ⟨by rfl, by intro w hs; go_simp⟩) hHeld ?_
  refine norm_any' (fun K hK => ?_)
  go_simp
  refine hK _ _ ?_
  clear hK K
  refine wpAnyH_take (i := 5) (v := .slice (some ⟨b, off, none⟩) n c) rfl (by kernel_rfl) (by kernel_rfl) (by kernel_rfl) (fun _ _ _ h => h) (Or.inl ⟨by rfl, by rintro w ⟨s0, s1⟩; go_simp⟩) hHeld ?_
  refine norm_any' (fun K hK => ?_)
  go_simp
  refine hK _ _ ?_
  clear hK K
  refine wpAnyH_take (i := 6) (v := .int .i64 (Y : Int)) rfl (by kernel_rfl) (by kernel_rfl) (by kernel_rfl) (fun _ _ _ h => h) (Or.inl ⟨by rfl, by intro w hs; go_simp⟩) hHeld ?_
  refine norm_any' (fun K hK => ?_)
  go_simp
  refine hK _ _ ?_
  clear hK K
  refine wpAnyH_take (i := 7) (v := .pointer (some ⟨B.R, 0, none⟩)) rfl (by kernel_rfl) (by kernel_rfl) (by kernel_rfl) (fun _ _ _ h => h) (Or.inl ⟨by rfl, by intro w hs; go_simp⟩) hHeld ?_
  refine norm_any' (fun K hK => ?_)
  go_simp
  refine hK _ _ ?_
  clear hK K
  refine wpAnyH_take (i := 8) (v := .pointer (some ⟨B.R, 0, none⟩)) rfl (by kernel_rfl) (by kernel_rfl) (by kernel_rfl) (fun _ _ _ h => h) (Or.inl ⟨by rfl, by intro w hs; go_simp⟩) hHeld ?_
  refine norm_any' (fun K hK => ?_)
  go_simp
  refine hK _ _ ?_
  clear hK K
  refine wpAnyH_take (i := 9) (v := .pointer (some ⟨B.R, 1, none⟩)) rfl (by kernel_rfl) (by kernel_rfl) (by kernel_rfl) (fun _ _ _ h => h) (Or.inl ⟨by rfl, by intro w hs; go_simp⟩) hHeld ?_
  refine norm_any' (fun K hK => ?_)
  go_simp
  refine hK _ _ ?_
  clear hK K
  refine wpAnyH_take (i := 10) (v := .int .i64 ((Y : Int) + (X2 : Int))) rfl (by kernel_rfl) (by kernel_rfl) (by kernel_rfl) (fun _ _ _ h => h) (Or.inl ⟨by rfl, by rintro w ⟨s0, s1⟩; go_simp⟩) hHeld ?_
  refine norm_any' (fun K hK => ?_)
  go_simp
  refine hK _ _ ?_
  clear hK K
  refine wpAnyH_take (i := 11) (v := .slice (some ⟨b, z, none⟩) X2 (c - Y)) rfl (by kernel_rfl) (by kernel_rfl) (by kernel_rfl) (fun _ _ _ h => h) (Or.inl ⟨by rfl, by intro w hs; go_simp; exact ⟨by rw [← HCY.out]; split <;> rfl, by omega⟩⟩) hHeld ?_
  refine norm_any' (fun K hK => ?_)
  go_simp
  refine hK _ _ ?_
  clear hK K
  refine wpAnyH_ready (rs := [12]) (by kernel_rfl) (by simp) (AllReadyH.cons rfl (fun K hK => ?_) AllReadyH.nil)
  go_simp
  refine Calls.mono hcall ?_
  rintro e w6 ⟨ev, rfl, k0, k1, hR⟩
  have HR : Aside _ := hR
  clear hR hcall
  refine hK.out _ _ ⟨k0, k1⟩ (fun hHeld => ?_)
  clear hK K
  refine norm_any' (fun K hK => ?_)
  go_simp
  refine hK _ _ ?_
  clear hK K
  refine wpAnyH_take (i := 13) (v := ev) rfl (by kernel_rfl) (by kernel_rfl) (by kernel_rfl) (fun _ _ _ h => h) (Or.inl ⟨by rfl, by intro w hs; go_simp⟩) hHeld ?_
  refine norm_any' (fun K hK => ?_)
  go_simp
  refine hK _ _ ?_
  clear hK K
  refine wpAnyH_done (by kernel_rfl) ?_ _
  clear hHeld
  go_wp2
  go_ret
  exact ⟨_, rfl, HR.out⟩
end
end Go.Proofs.YtcppnellgkbndaaDoor
