/- params: which row of the table has a number; rows whose number came or not. params: the map of the numbers that came. params: the reader as it lies; whether one that must be said was not. params: whether one that must be said was not. params: parameters on the way of being read: what the values' methods 'read' leave. params: the table's rows, read: whether they may, and what they leave. Written by tools/gen-params-nl.py. params: all that lies while parameters are read, and what a step leaves as it is. -/
import Derived.Test.YtcppnellgkbndaaDoorNf
import Derived.Maps.Own
import Derived.Maps.OwnOps
import Derived.Maps.OwnSet
import Derived.Maps.Views
namespace Go.Proofs.YtcppnellgkbndaaDoor
open Go.ChangeShapes Go.WideShapes Go.ChangeAt Go.RowKit
set_option linter.unusedVariables false
set_option maxRecDepth 100000

theorem hit_c (n : Int) (sv mu : Bool) (v : Value) (nb : Nat) (q : Int) (w : World) (hs : w.cell? ⟨nb, 0, none⟩ = some (.int .i64 q)) : Calls Tryd.prog 54 #[.agg (fieldA n sv mu v), .pointer (some ⟨nb, 0, none⟩)] w fun e w' => e = .returned (.bool (n == q)) ∧ Below w.heap.size w w' := by
  obtain ⟨W1, hW1, hB, hH, d0, d1, d2, d3⟩ := field_cells n sv mu v w
  have HB : Aside (Below w.heap.size w W1) := hB
  have hq : W1.cell? ⟨nb, 0, none⟩ = some (.int .i64 q) := cell_bel hs hB
  clear hB hH d1 d2 d3 hs
  unfold fieldA at *
  go_enter Tryd.func54, Tryd.ntmps54
  go_wp2
  go_ret
  exact ⟨rfl, HB.out⟩
theorem eg54 : ∀ args w, (callFunc 54 args).run Tryd.prog w = .ok (.enter 54 args) w := enters_of Tryd.func54 (by kernel_rfl) rfl
/-- Where the row of a number stands. -/
def ixE (L : List Row) (q : Int) : Option Nat := L.findIdx? fun r => r.n == q
def ixV (i : Option Nat) : Int := match i with | some k => k | none => -1
def IxN (W : World) (q : Int) (L : List Row) (r : Ending) (w' : World) : Prop := r = .returned (.int .i64 (ixV (ixE L q))) ∧ Below W.heap.size W w'
set_option maxHeartbeats 1000000 in
theorem ixn_c {W : World} {g nb c : Nat} {q : Int} {L : List Row} (h : Fs W g L) (hs : W.cell? ⟨nb, 0, none⟩ = some (.int .i64 q)) (hl : L.length ≤ 17) : Calls Tryd.prog 40 #[.slice (some ⟨g, 0, none⟩) L.length c, .func (.func 54) #[] #[.pointer (some ⟨nb, 0, none⟩)]] W (IxN W q L) := by
  have HP : Aside (Fs W g L) := h
  have HS : Aside (W.cell? ⟨nb, 0, none⟩ = some (.int .i64 q)) := hs
  obtain ⟨N, hN⟩ : ∃ N, L.length = N := ⟨_, rfl⟩
  have HN : Aside (L.length = N) := hN
  rw [hN]
  rw [hN] at hl
  have HR : Aside (∀ (v : Int) (w' : World), v = ixV (ixE L q) → Below W.heap.size W w' → IxN W q L (.returned (.int .i64 v)) w') := fun v w' h1 h2 => ⟨by rw [h1], h2⟩
  generalize IxN W q L = RR at *
  clear h hN hs
  have eg := eg54
  go_enter Tryd.func40, Tryd.ntmps40
  go_wp2
  go_loopg [8] N (fun kx s8 wr => ∃ k : Nat, s8 = .int .i64 (k : Int) ∧ k ≤ N ∧ N - k ≤ kx ∧ Aside (Below W.heap.size W wr ∧ ∀ j (hj : j < L.length), j < k → (L[j].n == q) = false))
  case atStart => exact ⟨0, rfl, by omega, by omega, Below.refl _ _, fun j hj h0 => absurd h0 (by omega)⟩
  case round =>
    obtain ⟨k, rfl, hk, hg, HB⟩ := hrel
    by_cases hlt : k < N
    · have hi : k < L.length := by rw [HN.out]; exact hlt
      obtain ⟨c0, c1, c2, c3⟩ := (Fs.bel HP.out HB.out.1) k hi
      have hc := hit_c L[k].n L[k].sv L[k].mu (.iface L[k].T L[k].v) nb q wr (cell_bel HS.out HB.out.1)
      have HK : Aside (∃ hi : k < L.length, ∀ y, (L[k].n == q) = y → (L[k].n == q) = y) := ⟨hi, fun _ h => h⟩
      obtain ⟨y, hy⟩ : ∃ y, (L[k].n == q) = y := ⟨_, rfl⟩
      rw [hy] at hc
      have HBD : Aside (∃ hi : k < L.length, (L[k].n == q) = y) := ⟨hi, hy⟩
      clear hy HK
      generalize L[k] = x at *
      obtain ⟨xn, xsv, xmu, xT, xv, xal, xth⟩ := x
      simp only at c0 c1 c2 c3 hc
      generalize Value.iface xT xv = vv at *
      have hc' : Calls Tryd.prog 54 #[.agg #[.int .i64 xn, .bool xsv, .bool xmu, vv], .pointer (some ⟨nb, 0, none⟩)] wr fun e w' => e = .returned (.bool y) ∧ Below wr.heap.size wr w' := hc
      clear hc
      have i1 : (k : Int) < N := by omega
      have iw : IntKind.i64.wrap ((k : Int) + 1) = (k : Int) + 1 := wrq _ (by omega) (by omega)
      cases y with
      | true =>
        go_wp2_with (go_at_fn 54; refine hc'.mono ?_; rintro e w' ⟨rfl, hbw⟩; have HBW : Aside _ := hbw; clear hbw)
        refine HR.out _ _ ?_ (bel_trans HB.out.1 HBW.out)
        have : ixE L q = some k := by
          obtain ⟨hi, hy⟩ := HBD.out
          exact List.findIdx?_eq_some_iff_getElem.2 ⟨hi, hy, fun j hj => by rw [HB.out.2 j (by omega) hj]; decide⟩
        rw [this]
        rfl
      | false =>
        go_wp2_with (go_at_fn 54; refine hc'.mono ?_; rintro e w' ⟨rfl, hbw⟩; have HBW : Aside _ := hbw; clear hbw)
        go_roundg (N - (k + 1))
        case measure => omega
        case rel => exact ⟨k + 1, rfl, by omega, Nat.le_refl _, bel_trans HB.out.1 HBW.out, fun j hj h1 => by
          rcases Nat.lt_or_ge j k with h2 | h2
          · exact HB.out.2 j hj h2
          · obtain rfl : j = k := by omega
            obtain ⟨_, hy⟩ := HBD.out
            exact hy⟩
    · obtain rfl : k = N := by omega
      have i1 : ¬ (k : Int) < k := by omega
      go_wp2
      refine HR.out _ _ ?_ HB.out.1
      have : ixE L q = none := List.findIdx?_eq_none_iff.2 fun x hx => by
        obtain ⟨j, hj, rfl⟩ := List.getElem_of_mem hx
        exact HB.out.2 j hj (by have := HN.out; omega)
      rw [this]
      rfl
end Go.Proofs.YtcppnellgkbndaaDoor
namespace Go.Proofs.YtcppnellgkbndaaDoor
open Go.RowKit Go.Maps
set_option linter.unusedVariables false
set_option maxRecDepth 100000

theorem zero107 (w : World) : (zeroValue 107).run Tryd.prog w = .ok (.agg #[]) w := by kernel_rfl
theorem law3 : Keyed Tryd.prog 3 := int_keyed Tryd.underlying3
abbrev Hv : Value → Option (DataW Value × List MemPlace) := fun v => some (.held v, [])
theorem wfI {q : Int} (h : -9223372036854775808 ≤ q) (h2 : q ≤ 9223372036854775807) : (Lit.int .i64 q).wf = true := by
  simp only [Lit.wf, IntKind.min, IntKind.max, IntKind.signed, IntKind.bits, Bool.and_eq_true, decide_eq_true_eq, if_true]
  omega
/-- Block mb is the map of the numbers that S tells. -/
def Came (W : World) (mb n : Nat) (S : Int → Bool) : Prop :=
  ∃ D : DataW Value, W.ownsMap Tryd.prog 3 Hv mb n D ∧ ∀ q : Int, has D (.int .i64 q) = S q ∧ D.atKey (.int .i64 q) (.held (.agg #[])) = .held (.agg #[])
section
variable {W W' : World} {mb n : Nat} {S : Int → Bool}
theorem Came.lt (h : Came W mb n S) : mb < W.heap.size := by
  obtain ⟨D, h, _⟩ := h
  exact h.lt
theorem Came.kept (h : Came W mb n S) (hb : W'.heap[mb]? = W.heap[mb]?) : Came W' mb n S := by
  obtain ⟨D, ⟨es, clock, h1, h2, h3, h4⟩, hat⟩ := h
  exact ⟨D, ⟨es, clock, hb.trans h1, h2, h3, h4⟩, hat⟩
theorem Came.bel (h : Came W mb n S) (hb : Below W.heap.size W W') : Came W' mb n S := h.kept (hb.block mb h.lt)
theorem Came.made (W : World) : Came (W.alloc (.map #[] 0)) W.heap.size 0 (fun _ => false) :=
  ⟨.map [], World.ownsMap_made W Tryd.prog 3 Hv, fun q => ⟨by simp [has_eq], by simp [DataW.atKey]⟩⟩
/-- _, ok := m[q] -/
theorem Came.look (h : Came W mb n S) (q : Int) (hw : (Lit.int .i64 q).wf = true) :
    (Instr.lookup 71 (.map (some mb)) (.int .i64 q) true).run Tryd.prog W = .ok (.tuple #[.agg #[], .bool (S q)]) W := by
  obtain ⟨D, hD, hat⟩ := h
  obtain ⟨h1, h2⟩ := hat q
  obtain ⟨v, ps, hrun, hv⟩ := hD.look_ok law3 Tryd.underlying71 (zero107 W) (zd := .held (.agg #[])) (zp := []) rfl (keyOf_int_mk Tryd.underlying3 hw)
  rw [h1] at hrun
  rw [hrun]
  simp only [Hv, Option.some.injEq, Prod.mk.injEq] at hv
  rw [h2] at hv
  have hv1 := hv.1
  injection hv1 with hv1
  rw [hv1]
/-- m[q] = struct{}{} -/
theorem Came.put (h : Came W mb n S) (q : Int) (hw : (Lit.int .i64 q).wf = true) (hn : n < 9000000000000000000) :
    ∃ W', (Instr.mapUpdate 71 (.map (some mb)) (.int .i64 q) (.agg #[])).run Tryd.prog W = .ok () W' ∧ Came W' mb (n + 1) (fun x => x == q || S x) ∧ Gs (fun k => k = mb) W W' := by
  obtain ⟨D, hD, hat⟩ := h
  have hI := hD.isMap
  obtain ⟨W', hrun, h1, h2⟩ := hD.update law3 Tryd.underlying71 (by unfold maxLen; omega) (keyOf_int_mk Tryd.underlying3 hw) (show Hv (.agg #[]) = some (.held (.agg #[]), []) from rfl)
  refine ⟨W', hrun, ⟨_, h1, fun x => ?_⟩, ⟨h2.os, h2.tape, h2.output, h2.size, fun k hk hx => h2.block k hk (by simpa using hx)⟩⟩
  by_cases e : x = q
  · subst e
    exact ⟨by rw [has_put_same hI (show WideAt.IsKeyLit (.int .i64 _) from trivial) _]; simp, atKey_put_same hI (show WideAt.IsKeyLit (.int .i64 _) from trivial) _ _⟩
  · have hk : (Lit.int .i64 x) ≠ .int .i64 q := by intro e'; injection e' with _ e'; exact e e'
    obtain ⟨q1, q2⟩ := hat x
    refine ⟨(has_put_other hk _).trans (by rw [q1]; simp [e]), ?_⟩
    rw [atKey_put_other hk]
    exact q2
end
end Go.Proofs.YtcppnellgkbndaaDoor
namespace Go.Proofs.YtcppnellgkbndaaDoor
open Go.ChangeShapes Go.WideShapes Go.ChangeAt Go.RowKit
set_option linter.unusedVariables false
set_option maxRecDepth 100000

/-- The reader as it lies in block R. -/
def Rdr (w : World) (R : Nat) (o : Option Addr) (n c : Nat) (a : Int) (s : Bool) (mb g : Nat) : Prop :=
  w.heap[R]? = some (.cells #[.slice o n c, .int .i64 a, .bool s, .map (some mb), .slice (some ⟨g, 0, none⟩) 17 17] 73 (0, 0))
section
variable {w w' : World} {R : Nat} {o : Option Addr} {n c : Nat} {a : Int} {s : Bool} {mb g : Nat}
theorem Rdr.c0 (h : Rdr w R o n c a s mb g) : w.cell? ⟨R, 0, none⟩ = some (.slice o n c) := cellb h rfl
theorem Rdr.c1 (h : Rdr w R o n c a s mb g) : w.cell? ⟨R, 1, none⟩ = some (.int .i64 a) := cellb h rfl
theorem Rdr.c2 (h : Rdr w R o n c a s mb g) : w.cell? ⟨R, 2, none⟩ = some (.bool s) := cellb h rfl
theorem Rdr.c3 (h : Rdr w R o n c a s mb g) : w.cell? ⟨R, 3, none⟩ = some (.map (some mb)) := cellb h rfl
theorem Rdr.c4 (h : Rdr w R o n c a s mb g) : w.cell? ⟨R, 4, none⟩ = some (.slice (some ⟨g, 0, none⟩) 17 17) := cellb h rfl
theorem Rdr.fr (h : Rdr w R o n c a s mb g) (j : Nat) : w.frozen? ⟨R, j, none⟩ = false := by have h' : w.heap[R]? = _ := h; simp [World.frozen?, h']
theorem Rdr.bel (h : Rdr w R o n c a s mb g) (hb : Below w.heap.size w w') : Rdr w' R o n c a s mb g := (hb.block R (lt_block h)).trans h
theorem Rdr.set1 (h : Rdr w R o n c a s mb g) (x : Int) : Rdr (w.setCell ⟨R, 1, none⟩ (.int .i64 x)) R o n c x s mb g := by
  show (w.setCell ⟨R, 1, none⟩ (.int .i64 x)).heap[R]? = _
  rw [heap_setCell_same w R 1 _ 73 _ h]; rfl
end
theorem lack_c (q : Int) (sv mu s : Bool) (v : Value) (w : World) (b1 R : Nat) (o : Option Addr) (n c : Nat) (a : Int) (mb g m : Nat) (S : Int → Bool) (hr : Rdr w R o n c a s mb g) (hb1 : w.cell? ⟨b1, 0, none⟩ = some (.pointer (some ⟨R, 0, none⟩))) (hc : Came w mb m S) (hq : (Lit.int .i64 q).wf = true) :
    Calls Tryd.prog 44 #[.agg (fieldA q sv mu v), .pointer (some ⟨b1, 0, none⟩)] w fun e w' => e = .returned (.bool (mu && (s || !sv) && !S q)) ∧ Below w.heap.size w w' := by
  obtain ⟨W1, hW1, hB, hH, d0, d1, d2, d3⟩ := field_cells q sv mu v w
  have hr1 := hr.bel hB
  have hb2 : W1.cell? ⟨b1, 0, none⟩ = some (.pointer (some ⟨R, 0, none⟩)) := cell_bel hb1 hB
  have hlook := (hc.bel hB).look q hq
  have HC : Aside (Came W1 mb m S) := hc.bel hB
  have HQ : Aside _ := hq
  have r2 := hr1.c2
  have r3 := hr1.c3
  have HB : Aside (Below w.heap.size w W1) := hB
  have HH : Aside (W1.heap[w.heap.size]? = some (.cells (fieldA q sv mu v) 58 (0, 0))) := hH
  clear hr hb1 hc hB hH hr1
  have HX : Aside (∀ X, Below W1.heap.size W1 X → X.cell? ⟨w.heap.size, 0, none⟩ = some (.int .i64 q) ∧ X.cell? ⟨b1, 0, none⟩ = some (.pointer (some ⟨R, 0, none⟩)) ∧ X.cell? ⟨R, 3, none⟩ = some (.map (some mb)) ∧ (Instr.lookup 71 (.map (some mb)) (.int .i64 q) true).run Tryd.prog X = .ok (.tuple #[.agg #[], .bool (S q)]) X) :=
    fun X hX => ⟨cell_bel d0 hX, cell_bel hb2 hX, cell_bel r3 hX, (HC.out.bel hX).look q HQ.out⟩
  have HKA : Aside ((fun X : World => X.cell? ⟨w.heap.size, 0, none⟩ = some (.int .i64 q) ∧ X.cell? ⟨b1, 0, none⟩ = some (.pointer (some ⟨R, 0, none⟩)) ∧ X.cell? ⟨R, 3, none⟩ = some (.map (some mb)) ∧ (Instr.lookup 71 (.map (some mb)) (.int .i64 q) true).run Tryd.prog X = .ok (.tuple #[.agg #[], .bool (S q)]) X) (W1.alloc (.cells #[] 107)).drew) := HX.out _ (bel1 W1 (.cells #[] 107)).drew
  have HY : Aside (∀ X, Below (W1.alloc (.cells #[] 107)).drew.heap.size (W1.alloc (.cells #[] 107)).drew X → X.cell? ⟨w.heap.size, 0, none⟩ = some (.int .i64 q) ∧ X.cell? ⟨w.heap.size, 1, none⟩ = some (.bool sv) ∧ X.cell? ⟨w.heap.size, 2, none⟩ = some (.bool mu) ∧ X.cell? ⟨w.heap.size, 3, none⟩ = some v ∧ X.cell? ⟨b1, 0, none⟩ = some (.pointer (some ⟨R, 0, none⟩)) ∧ X.cell? ⟨R, 2, none⟩ = some (.bool s) ∧
      Calls Tryd.prog 20 #[.agg #[.int .i64 q, .bool sv, .bool mu, v], .bool s] X fun e w' => e = .returned (.bool (mu && (s || !sv))) ∧ Below (W1.alloc (.cells #[] 107)).drew.heap.size (W1.alloc (.cells #[] 107)).drew w' ∧ Below w.heap.size w w') := fun X hX => by
    have hb := bel_trans (bel1 W1 (.cells #[] 107)).drew hX
    refine ⟨cell_bel d0 hb, cell_bel d1 hb, cell_bel d2 hb, cell_bel d3 hb, cell_bel hb2 hb, cell_bel r2 hb, (must_c q sv mu s v X).mono ?_⟩
    rintro e w' ⟨rfl, h⟩
    exact ⟨rfl, bel_trans hX h, bel_trans HB.out (bel_trans hb h)⟩
  generalize (mu && (s || !sv)) = y at *
  generalize S q = z at *
  clear d1 d2 d3
  clear hlook r3 hb2 d0
  unfold fieldA at *
  go_enter Tryd.func44, Tryd.ntmps44
  go_wp2_with fail
  refine wp_region_held_drew (S := fun X => X.cell? ⟨w.heap.size, 0, none⟩ = some (.int .i64 q) ∧ X.cell? ⟨b1, 0, none⟩ = some (.pointer (some ⟨R, 0, none⟩)) ∧ X.cell? ⟨R, 3, none⟩ = some (.map (some mb)) ∧ (Instr.lookup 71 (.map (some mb)) (.int .i64 q) true).run Tryd.prog X = .ok (.tuple #[.agg #[], .bool z]) X) (by kernel_rfl) (HX.out _ (Below.refl W1.heap.size W1).drew) (fun hHeld => ?_)
  refine wpAnyH_take (i := 0) (v := .pointer (some ⟨R, 0, none⟩)) rfl (by kernel_rfl) (by kernel_rfl) (by kernel_rfl) (fun _ _ _ h => h) (Or.inl ⟨by rfl, by rintro w ⟨s0, s1, s2, s3⟩; go_simp⟩) hHeld ?_
  refine norm_any' (fun K hK => ?_)
  go_simp
  refine hK _ _ ?_
  clear hK K
  refine wpAnyH_take (i := 1) (v := .pointer (some ⟨R, 0, none⟩)) rfl (by kernel_rfl) (by kernel_rfl) (by kernel_rfl) (fun _ _ _ h => h) (Or.inl ⟨by rfl, by intro w hs; go_simp⟩) hHeld ?_
  refine norm_any' (fun K hK => ?_)
  go_simp
  refine hK _ _ ?_
  clear hK K
  refine wpAnyH_take (i := 2) (v := .pointer (some ⟨R, 3, none⟩)) rfl (by kernel_rfl) (by kernel_rfl) (by kernel_rfl) (fun _ _ _ h => h) (Or.inl ⟨by rfl, by intro w hs; go_simp⟩) hHeld ?_
  refine norm_any' (fun K hK => ?_)
  go_simp
  refine hK _ _ ?_
  clear hK K
  refine wpAnyH_take (i := 3) (v := .map (some mb)) rfl (by kernel_rfl) (by kernel_rfl) (by kernel_rfl) (fun _ _ _ h => h) (Or.inl ⟨by rfl, by rintro w ⟨s0, s1, s2, s3⟩; go_simp⟩) hHeld ?_
  refine norm_any' (fun K hK => ?_)
  go_simp
  refine hK _ _ ?_
  clear hK K
  refine wpAnyH_take (i := 4) (v := .pointer (some ⟨w.heap.size, 0, none⟩)) rfl (by kernel_rfl) (by kernel_rfl) (by kernel_rfl) (fun _ _ _ h => h) (Or.inl ⟨by rfl, by intro w hs; go_simp⟩) hHeld ?_
  refine norm_any' (fun K hK => ?_)
  go_simp
  refine hK _ _ ?_
  clear hK K
  refine wpAnyH_take (i := 5) (v := .int .i64 q) rfl (by kernel_rfl) (by kernel_rfl) (by kernel_rfl) (fun _ _ _ h => h) (Or.inl ⟨by rfl, by rintro w ⟨s0, s1, s2, s3⟩; go_simp⟩) hHeld ?_
  refine norm_any' (fun K hK => ?_)
  go_simp
  refine hK _ _ ?_
  clear hK K
  refine wpAnyH_take (i := 6) (v := .tuple #[.agg #[], .bool z]) rfl (by kernel_rfl) (by kernel_rfl) (by kernel_rfl) (fun _ _ _ h => h) (Or.inl ⟨by rfl, by rintro w ⟨s0, s1, s2, s3⟩; go_simp⟩) hHeld ?_
  refine norm_any' (fun K hK => ?_)
  go_simp
  refine hK _ _ ?_
  clear hK K
  refine wpAnyH_take (i := 7) (v := .tuple #[.agg #[], .bool z]) rfl (by kernel_rfl) (by kernel_rfl) (by kernel_rfl) (fun _ _ _ h => h) (Or.inl ⟨by rfl, by intro w hs; go_simp⟩) hHeld ?_
  refine norm_any' (fun K hK => ?_)
  go_simp
  refine hK _ _ ?_
  clear hK K
  refine wpAnyH_take (i := 8) (v := .agg #[]) rfl (by kernel_rfl) (by kernel_rfl) (by kernel_rfl) (fun _ _ _ h => h) (Or.inl ⟨by rfl, by intro w hs; go_simp⟩) hHeld ?_
  refine norm_any' (fun K hK => ?_)
  go_simp
  refine hK _ _ ?_
  clear hK K
  refine wpAnyH_take (i := 9) (v := .bool z) rfl (by kernel_rfl) (by kernel_rfl) (by kernel_rfl) (fun _ _ _ h => h) (Or.inl ⟨by rfl, by intro w hs; go_simp⟩) hHeld ?_
  refine norm_any' (fun K hK => ?_)
  go_simp
  refine hK _ _ ?_
  clear hK K
  refine wpAnyH_ready (rs := [10]) (by kernel_rfl) (by simp) (AllReadyH.cons rfl (fun K hK => ?_) AllReadyH.nil)
  go_simp
  refine hK.out _ _ HKA.out (fun hHeld => ?_)
  clear hK K
  refine norm_any' (fun K hK => ?_)
  go_simp
  refine hK _ _ ?_
  clear hK K
  refine wpAnyH_ready (rs := [11]) (by kernel_rfl) (by simp) (AllReadyH.cons rfl (fun K hK => ?_) AllReadyH.nil)
  go_simp
  refine hK.out _ _ HKA.out (fun hHeld => ?_)
  clear hK K
  refine norm_any' (fun K hK => ?_)
  go_simp
  refine hK _ _ ?_
  clear hK K
  refine wpAnyH_take (i := 12) (v := .bool z) rfl (by kernel_rfl) (by kernel_rfl) (by kernel_rfl) (fun _ _ _ h => h) (Or.inl ⟨by rfl, by intro w hs; go_simp⟩) hHeld ?_
  refine norm_any' (fun K hK => ?_)
  go_simp
  refine hK _ _ ?_
  clear hK K
  refine wpAnyH_done (by kernel_rfl) ?_ _
  clear hHeld HKA HX HC HQ r2 HH
  generalize (W1.alloc (.cells #[] 107)).drew = W3 at *
  have hy := HY.out W3.drew (Below.refl W3.heap.size W3).drew
  obtain ⟨k0, k1, k2, k3, k4, k5, hm⟩ := hy
  have HYY : Aside (∀ X, Below W3.heap.size W3 X → _) := HY.out
  cases y
  · go_wp2_with fail
    refine wp_region_held_drew (S := (fun X : World => X.cell? ⟨w.heap.size, 0, none⟩ = some (.int .i64 q) ∧ X.cell? ⟨w.heap.size, 1, none⟩ = some (.bool sv) ∧ X.cell? ⟨w.heap.size, 2, none⟩ = some (.bool mu) ∧ X.cell? ⟨w.heap.size, 3, none⟩ = some v ∧ X.cell? ⟨b1, 0, none⟩ = some (.pointer (some ⟨R, 0, none⟩)) ∧ X.cell? ⟨R, 2, none⟩ = some (.bool s))) (by kernel_rfl) ⟨k0, k1, k2, k3, k4, k5⟩ (fun hHeld => ?_)
    refine wpAnyH_take (i := 0) (v := .agg #[.int .i64 q, .bool sv, .bool mu, v]) rfl (by kernel_rfl) (by kernel_rfl) (by kernel_rfl) (fun _ _ _ h => h) (Or.inl ⟨by rfl, by rintro w ⟨s0, s1, s2, s3, s4, s5⟩; go_simp⟩) hHeld ?_
    refine norm_any' (fun K hK => ?_)
    go_simp
    refine hK _ _ ?_
    clear hK K
    refine wpAnyH_take (i := 1) (v := .pointer (some ⟨R, 0, none⟩)) rfl (by kernel_rfl) (by kernel_rfl) (by kernel_rfl) (fun _ _ _ h => h) (Or.inl ⟨by rfl, by rintro w ⟨s0, s1, s2, s3, s4, s5⟩; go_simp⟩) hHeld ?_
    refine norm_any' (fun K hK => ?_)
    go_simp
    refine hK _ _ ?_
    clear hK K
    refine wpAnyH_take (i := 2) (v := .pointer (some ⟨R, 0, none⟩)) rfl (by kernel_rfl) (by kernel_rfl) (by kernel_rfl) (fun _ _ _ h => h) (Or.inl ⟨by rfl, by intro w hs; go_simp⟩) hHeld ?_
    refine norm_any' (fun K hK => ?_)
    go_simp
    refine hK _ _ ?_
    clear hK K
    refine wpAnyH_take (i := 3) (v := .pointer (some ⟨R, 2, none⟩)) rfl (by kernel_rfl) (by kernel_rfl) (by kernel_rfl) (fun _ _ _ h => h) (Or.inl ⟨by rfl, by intro w hs; go_simp⟩) hHeld ?_
    refine norm_any' (fun K hK => ?_)
    go_simp
    refine hK _ _ ?_
    clear hK K
    refine wpAnyH_take (i := 4) (v := .bool s) rfl (by kernel_rfl) (by kernel_rfl) (by kernel_rfl) (fun _ _ _ h => h) (Or.inl ⟨by rfl, by rintro w ⟨s0, s1, s2, s3, s4, s5⟩; go_simp⟩) hHeld ?_
    refine norm_any' (fun K hK => ?_)
    go_simp
    refine hK _ _ ?_
    clear hK K
    refine wpAnyH_ready (rs := [5]) (by kernel_rfl) (by simp) (AllReadyH.cons rfl (fun K hK => ?_) AllReadyH.nil)
    go_simp
    refine hm.mono ?_
    rintro e W4 ⟨rfl, hb4, hB4⟩
    obtain ⟨j0, j1, j2, j3, j4, j5, _⟩ := HYY.out W4 hb4
    have HB4 : Aside _ := hB4
    clear hb4 hB4 hm k0 k1 k2 k3 k4 k5 HY HYY
    refine hK.out _ _ ⟨j0, j1, j2, j3, j4, j5⟩ (fun hHeld => ?_)
    clear hK K
    refine norm_any' (fun K hK => ?_)
    go_simp
    refine hK _ _ ?_
    clear hK K
    refine wpAnyH_take (i := 6) (v := .bool false) rfl (by kernel_rfl) (by kernel_rfl) (by kernel_rfl) (fun _ _ _ h => h) (Or.inl ⟨by rfl, by intro w hs; go_simp⟩) hHeld ?_
    refine norm_any' (fun K hK => ?_)
    go_simp
    refine hK _ _ ?_
    clear hK K
    refine wpAnyH_take (i := 7) (v := undef) rfl (by kernel_rfl) (by kernel_rfl) (by kernel_rfl) (fun _ _ _ h => h) (Or.inr ⟨by rfl, rfl⟩) hHeld ?_
    refine norm_any' (fun K hK => ?_)
    go_simp
    refine hK _ _ ?_
    clear hK K
    refine wpAnyH_take (i := 8) (v := undef) rfl (by kernel_rfl) (by kernel_rfl) (by kernel_rfl) (fun _ _ _ h => h) (Or.inr ⟨by rfl, rfl⟩) hHeld ?_
    refine norm_any' (fun K hK => ?_)
    go_simp
    refine hK _ _ ?_
    clear hK K
    refine wpAnyH_take (i := 9) (v := .bool false) rfl (by kernel_rfl) (by kernel_rfl) (by kernel_rfl) (fun _ _ _ h => h) (Or.inl ⟨by rfl, by intro w hs; go_simp⟩) hHeld ?_
    refine norm_any' (fun K hK => ?_)
    go_simp
    refine hK _ _ ?_
    clear hK K
    refine wpAnyH_take (i := 10) (v := .bool false) rfl (by kernel_rfl) (by kernel_rfl) (by kernel_rfl) (fun _ _ _ h => h) (Or.inl ⟨by rfl, by intro w hs; go_simp⟩) hHeld ?_
    refine norm_any' (fun K hK => ?_)
    go_simp
    refine hK _ _ ?_
    clear hK K
    refine wpAnyH_done (by kernel_rfl) ?_ _
    clear hHeld
    go_wp2
    go_ret
    exact ⟨rfl, HB4.out⟩
  · go_wp2_with fail
    go_region_held3 (fun X => X.cell? ⟨w.heap.size, 0, none⟩ = some (.int .i64 q) ∧ X.cell? ⟨w.heap.size, 1, none⟩ = some (.bool sv) ∧ X.cell? ⟨w.heap.size, 2, none⟩ = some (.bool mu) ∧ X.cell? ⟨w.heap.size, 3, none⟩ = some v ∧ X.cell? ⟨b1, 0, none⟩ = some (.pointer (some ⟨R, 0, none⟩)) ∧ X.cell? ⟨R, 2, none⟩ = some (.bool s)) (first | exact ⟨j0, j1, j2, j3, j4, j5⟩ | exact ⟨k0, k1, k2, k3, k4, k5⟩) (first | (go_at_call 20; refine hm.mono ?_; rintro e W4 ⟨rfl, hb4, hB4⟩; obtain ⟨j0, j1, j2, j3, j4, j5, _⟩ := HYY.out W4 hb4; have HB4 : Aside _ := hB4; clear hb4 hB4 hm k0 k1 k2 k3 k4 k5 HY HYY))
    go_wp2
    go_ret
    exact ⟨rfl, HB4.out⟩
end Go.Proofs.YtcppnellgkbndaaDoor
namespace Go.Proofs.YtcppnellgkbndaaDoor
open Go.ChangeShapes Go.WideShapes Go.ChangeAt Go.RowKit
set_option linter.unusedVariables false
set_option maxRecDepth 100000

/-- One that must be said and was not. -/
def Row.lack (s : Bool) (S : Int → Bool) (r : Row) : Bool := r.mu && (s || !r.sv) && !S r.n
theorem eg44 : ∀ args w, (callFunc 44 args).run Tryd.prog w = .ok (.enter 44 args) w := enters_of Tryd.func44 (by kernel_rfl) rfl
def IxL (W : World) (s : Bool) (S : Int → Bool) (L : List Row) (r : Ending) (w' : World) : Prop := ∃ v : Int, r = .returned (.int .i64 v) ∧ decide (0 ≤ v) = L.any (Row.lack s S) ∧ Below W.heap.size W w'
section
variable {W : World} {b1 R : Nat} {o : Option Addr} {n c : Nat} {a : Int} {s : Bool} {mb g m cc : Nat} {S : Int → Bool} {L : List Row}
set_option maxHeartbeats 1000000 in
theorem ixl_c (h : Fs W g L) (hr : Rdr W R o n c a s mb g) (hb1 : W.cell? ⟨b1, 0, none⟩ = some (.pointer (some ⟨R, 0, none⟩))) (hc : Came W mb m S) (hw : ∀ r ∈ L, (Lit.int .i64 r.n).wf = true) (hl : L.length ≤ 17) : Calls Tryd.prog 40 #[.slice (some ⟨g, 0, none⟩) L.length cc, .func (.func 44) #[] #[.pointer (some ⟨b1, 0, none⟩)]] W (IxL W s S L) := by
  have HP : Aside (Fs W g L) := h
  have HM : Aside (∀ (X : World), Below W.heap.size W X → ∀ r ∈ L, Calls Tryd.prog 44 #[.agg (fieldA r.n r.sv r.mu (.iface r.T r.v)), .pointer (some ⟨b1, 0, none⟩)] X fun e w' => e = .returned (.bool (r.mu && (s || !r.sv) && !S r.n)) ∧ Below X.heap.size X w') :=
    fun X hX r hrL => lack_c r.n r.sv r.mu s _ X b1 R o n c a mb g m S (hr.bel hX) (cell_bel hb1 hX) (hc.bel hX) (hw r hrL)
  obtain ⟨N, hN⟩ : ∃ N, L.length = N := ⟨_, rfl⟩
  have HN : Aside (L.length = N) := hN
  rw [hN]
  rw [hN] at hl
  have HR : Aside (∀ (v : Int) (w' : World), decide (0 ≤ v) = L.any (Row.lack s S) → Below W.heap.size W w' → IxL W s S L (.returned (.int .i64 v)) w') := fun v w' h1 h2 => ⟨v, rfl, h1, h2⟩
  generalize IxL W s S L = RR at *
  clear h hN hr hb1 hc hw
  have eg := eg44
  go_enter Tryd.func40, Tryd.ntmps40
  go_wp2
  go_loopg [8] N (fun kx s8 wr => ∃ k : Nat, s8 = .int .i64 (k : Int) ∧ k ≤ N ∧ N - k ≤ kx ∧ Aside (Below W.heap.size W wr ∧ (L.take k).any (Row.lack s S) = false))
  case atStart => exact ⟨0, rfl, by omega, by omega, Below.refl _ _, rfl⟩
  case round =>
    obtain ⟨k, rfl, hk, hg, HB⟩ := hrel
    by_cases hlt : k < N
    · have hi : k < L.length := by rw [HN.out]; exact hlt
      obtain ⟨c0, c1, c2, c3⟩ := (Fs.bel HP.out HB.out.1) k hi
      have HT : Aside (L.take (k + 1) = L.take k ++ [L[k]]) := List.take_succ_eq_append_getElem hi
      have HL : Aside (L[k] ∈ L) := List.getElem_mem hi
      have hc := HM.out wr HB.out.1 _ (List.getElem_mem hi)
      have HBD : Aside (L[k].lack s S = (L[k].mu && (s || !L[k].sv) && !S L[k].n)) := rfl
      generalize (L[k].mu && (s || !L[k].sv) && !S L[k].n) = y at *
      generalize L[k] = x at *
      obtain ⟨xn, xsv, xmu, xT, xv, xal, xth⟩ := x
      simp only at c0 c1 c2 c3 hc
      generalize Value.iface xT xv = vv at *
      have hc' : Calls Tryd.prog 44 #[.agg #[.int .i64 xn, .bool xsv, .bool xmu, vv], .pointer (some ⟨b1, 0, none⟩)] wr fun e w' => e = .returned (.bool y) ∧ Below wr.heap.size wr w' := hc
      clear hc
      have i1 : (k : Int) < N := by omega
      have iw : IntKind.i64.wrap ((k : Int) + 1) = (k : Int) + 1 := wrq _ (by omega) (by omega)
      cases y with
      | true =>
        go_wp2_with (go_at_fn 44; refine hc'.mono ?_; rintro e w' ⟨rfl, hbw⟩; have HBW : Aside _ := hbw; clear hbw)
        refine HR.out _ _ ?_ (bel_trans HB.out.1 HBW.out)
        have : L.any (Row.lack s S) = true := List.any_eq_true.2 ⟨_, HL.out, HBD.out⟩
        rw [this]
        simp
      | false =>
        go_wp2_with (go_at_fn 44; refine hc'.mono ?_; rintro e w' ⟨rfl, hbw⟩; have HBW : Aside _ := hbw; clear hbw)
        go_roundg (N - (k + 1))
        case measure => omega
        case rel => exact ⟨k + 1, rfl, by omega, Nat.le_refl _, bel_trans HB.out.1 HBW.out, by rw [HT.out, List.any_append, HB.out.2]; simp [HBD.out]⟩
    · obtain rfl : k = N := by omega
      have i1 : ¬ (k : Int) < k := by omega
      go_wp2
      refine HR.out _ _ ?_ HB.out.1
      have h2 := HB.out.2
      rw [show L.take k = L by rw [← HN.out, List.take_length]] at h2
      rw [h2]
      rfl
theorem conl_c (h : Fs W g L) (hr : Rdr W R o n c a s mb g) (hb1 : W.cell? ⟨b1, 0, none⟩ = some (.pointer (some ⟨R, 0, none⟩))) (hc : Came W mb m S) (hw : ∀ r ∈ L, (Lit.int .i64 r.n).wf = true) (hl : L.length ≤ 17) : Calls Tryd.prog 28 #[.slice (some ⟨g, 0, none⟩) L.length cc, .func (.func 44) #[] #[.pointer (some ⟨b1, 0, none⟩)]] W fun r w' => r = .returned (.bool (L.any (Row.lack s S))) ∧ Below W.heap.size W w' := by
  have hp := ixl_c (cc := cc) h hr hb1 hc hw hl
  obtain ⟨N, hN⟩ : ∃ N, L.length = N := ⟨_, rfl⟩
  rw [hN] at hp ⊢
  clear h hr hb1 hc hw
  go_enter Tryd.func28, Tryd.ntmps28
  go_wp2_with fail
  refine hp.mono ?_
  rintro e w' ⟨v, rfl, h1, h2⟩
  have HE : Aside (Below W.heap.size W w') := h2
  have H1 : Aside (decide (0 ≤ v) = L.any (Row.lack s S)) := h1
  clear h2 hp h1
  go_wp2
  go_ret
  refine ⟨?_, HE.out⟩
  rw [← H1.out]
  rfl
theorem lacks_c (h : Fs W g L) (hr : Rdr W R o n c a s mb g) (hc : Came W mb m S) (hw : ∀ r ∈ L, (Lit.int .i64 r.n).wf = true) (hl : L.length = 17) : Calls Tryd.prog 33 #[.pointer (some ⟨R, 0, none⟩)] W fun r w' => r = .returned (.bool (L.any (Row.lack s S))) ∧ Below W.heap.size W w' := by
  obtain ⟨W1, hW1⟩ : ∃ W1, W.alloc (.cells #[.pointer (some ⟨R, 0, none⟩)] 103) = W1 := ⟨_, rfl⟩
  have hB : Below W.heap.size W W1 := by rw [← hW1]; exact bel1 W _
  have d0 : W1.cell? ⟨W.heap.size, 0, none⟩ = some (.pointer (some ⟨R, 0, none⟩)) := by rw [← hW1]; exact cell_new W _ 103 0 _ rfl
  have hr1 := hr.bel hB
  have r4 := hr1.c4
  have hp := conl_c (cc := 17) (h.bel hB) hr1 d0 (hc.bel hB) hw (by omega)
  rw [hl] at hp
  have HB : Aside (Below W.heap.size W W1) := hB
  clear h hr hc hw hB hr1
  generalize L.any (Row.lack s S) = y at *
  go_enter Tryd.func33, Tryd.ntmps33
  go_wp2_with fail
  refine hp.mono ?_
  rintro e w' ⟨rfl, h2⟩
  have HE : Aside (Below W.heap.size W w') := bel_trans HB.out h2
  clear h2 hp
  go_wp2
  go_ret
  exact ⟨rfl, HE.out⟩
end
end Go.Proofs.YtcppnellgkbndaaDoor
namespace Go.Proofs.YtcppnellgkbndaaDoor
open Go.ChangeShapes Go.WideShapes Go.ChangeAt Go.RowKit
set_option linter.unusedVariables false
set_option maxRecDepth 100000

theorem By.gs {P : Nat} {w w' : World} {v : Value} {X : List UInt8} (h : By (P + 1) w v X) (hg : Gs (fun k => k = P) w w') : By (P + 1) w' v X := by
  obtain ⟨y1, y2 | ⟨g, cap, cur, y3, y4, y5, y6⟩⟩ := h
  · exact ⟨y1, .inl y2⟩
  · exact ⟨y1, .inr ⟨g, cap, cur, y3, y4, (hg.block g (lt_block y5) (by omega)).trans y5, y6⟩⟩
abbrev Bl.v (b : Bl) : Value := .slice b.o b.l.length b.c
/-- Parameters as they lie while they are read: the bytes are of the call's own. -/
structure Pq (w : World) (P : Nat) (p : Ps) : Prop where
  row : Cr w P p.cells.toArray
  orig : By (P + 1) w p.orig.v p.orig.l
  first : By (P + 1) w p.first.v p.first.l
  again : By (P + 1) w p.again.v p.again.l
  r16 : p.reset.length = 16
/-- Bytes that are read, as they came in. -/
structure InA (w : World) (P : Nat) (ao : Option Addr) (X : List UInt8) (c : Nat) : Prop where
  sl : Sl w ao X
  sep : ∀ a, ao = some a → X ≠ [] → a.block ≠ P
  nil : ao = none → X.length = 0 ∧ c = 0
  len : X.length ≤ 140737488355328
/-- What a value's method 'read' answers and leaves. -/
def MRd (P : Nat) (T : TypeId) (v : Value) (X : List UInt8) (p : Ps) (ok : Bool) (Q : Ps → Prop) : Prop :=
  ∃ f, (∀ W : World, (Go.method 277 T v "caravel/params.read").run Tryd.prog W = .ok (f, v) W) ∧ (∀ (args : Array Value) (W : World), (Go.callFunc f args).run Tryd.prog W = .ok (.enter f args) W) ∧
    ∀ (W : World) (ao : Option Addr) (c : Nat), Pq W P p → Tb W → InA W P ao X c → Calls Tryd.prog f #[v, .slice ao X.length c] W fun e W' => e = .returned (.bool ok) ∧ (∃ p', Q p' ∧ Pq W' P p') ∧ Gs (fun k => k = P) W W'
theorem m_read83 (v : Value) (X : World) : (Go.method 277 83 v "caravel/params.read").run Tryd.prog X = .ok (77, v) X := by kernel_rfl
theorem m_read87 (v : Value) (X : World) : (Go.method 277 87 v "caravel/params.read").run Tryd.prog X = .ok (81, v) X := by kernel_rfl
theorem m_read91 (v : Value) (X : World) : (Go.method 277 91 v "caravel/params.read").run Tryd.prog X = .ok (86, v) X := by kernel_rfl
theorem m_read93 (v : Value) (X : World) : (Go.method 277 93 v "caravel/params.read").run Tryd.prog X = .ok (90, v) X := by kernel_rfl
theorem m_read95 (v : Value) (X : World) : (Go.method 277 95 v "caravel/params.read").run Tryd.prog X = .ok (93, v) X := by kernel_rfl
theorem eg77 : ∀ args w, (callFunc 77 args).run Tryd.prog w = .ok (.enter 77 args) w := enters_of Tryd.func77 (by kernel_rfl) rfl
theorem eg81 : ∀ args w, (callFunc 81 args).run Tryd.prog w = .ok (.enter 81 args) w := enters_of Tryd.func81 (by kernel_rfl) rfl
theorem eg86 : ∀ args w, (callFunc 86 args).run Tryd.prog w = .ok (.enter 86 args) w := enters_of Tryd.func86 (by kernel_rfl) rfl
theorem eg90 : ∀ args w, (callFunc 90 args).run Tryd.prog w = .ok (.enter 90 args) w := enters_of Tryd.func90 (by kernel_rfl) rfl
theorem eg93 : ∀ args w, (callFunc 93 args).run Tryd.prog w = .ok (.enter 93 args) w := enters_of Tryd.func93 (by kernel_rfl) rfl
def okN (X : List UInt8) (lo hi : Int) : Bool := (vE X 0 == 0) && ((vN X 0 == (X.length : Int)) && decide (lo ≤ vV X 0 ∧ vV X 0 ≤ hi))
section
variable {P : Nat} {X : List UInt8} {p : Ps}
theorem mr_num (j : Nat) (lo hi un : Int) (old : Value) (p' : Ps) (h0 : p.cells.toArray[j]? = some old) (h1 : p.cells.toArray.setIfInBounds j (.int .i64 (vV X 0)) = p'.cells.toArray)
    (hb : p'.orig = p.orig ∧ p'.first = p.first ∧ p'.again = p.again ∧ p'.reset = p.reset) : MRd P 83 (numV P j lo hi un) X p (okN X lo hi) (fun q => q = p') := by
  refine ⟨77, fun W => m_read83 _ W, eg77, fun W ao c hp ht hi' => (num_read j lo hi un old hp.row h0 ht ao X c hi'.sl (by have := hi'.len; omega)).mono ?_⟩
  rintro e W' ⟨rfl, hc, hg⟩
  obtain ⟨b1, b2, b3, b4⟩ := hb
  exact ⟨rfl, ⟨p', rfl, by rw [← h1]; exact hc, by rw [b1]; exact hp.orig.gs hg, by rw [b2]; exact hp.first.gs hg, by rw [b3]; exact hp.again.gs hg, by rw [b4]; exact hp.r16⟩, hg⟩
theorem mr_flag (j : Nat) (old : Value) (p' : Ps) (h0 : p.cells.toArray[j]? = some old) (h1 : p.cells.toArray.setIfInBounds j (.bool true) = p'.cells.toArray)
    (hb : p'.orig = p.orig ∧ p'.first = p.first ∧ p'.again = p.again ∧ p'.reset = p.reset) : MRd P 93 (flagV P j) X p (decide (X.length = 0)) (fun q => q = p') := by
  refine ⟨90, fun W => m_read93 _ W, eg90, fun W ao c hp ht hi' => (flag_read j old hp.row h0 ao X.length c).mono ?_⟩
  rintro e W' ⟨rfl, hc, hg⟩
  obtain ⟨b1, b2, b3, b4⟩ := hb
  exact ⟨rfl, ⟨p', rfl, by rw [← h1]; exact hc, by rw [b1]; exact hp.orig.gs hg, by rw [b2]; exact hp.first.gs hg, by rw [b3]; exact hp.again.gs hg, by rw [b4]; exact hp.r16⟩, hg⟩
theorem mr_id (j : Nat) (old : Value) (upd : Bl → Ps) (h0 : p.cells.toArray[j]? = some old) (h1 : ∀ b : Bl, p.cells.toArray.setIfInBounds j b.v = (upd b).cells.toArray)
    (hb : ∀ b, ((upd b).orig = b ∨ (upd b).orig = p.orig) ∧ ((upd b).first = b ∨ (upd b).first = p.first) ∧ ((upd b).again = b ∨ (upd b).again = p.again) ∧ (upd b).reset = p.reset) :
    MRd P 87 (idV P j) X p (decide (X.length ≤ 20)) (fun q => ∃ b : Bl, b.l = X ∧ q = upd b) := by
  refine ⟨81, fun W => m_read87 _ W, eg81, fun W ao c hp ht hi' => (id_read j old hp.row h0 ao X c hi'.sl hi'.len hi'.nil).mono ?_⟩
  rintro e W' ⟨v, ⟨rfl, hc, hg⟩, hy⟩
  obtain ⟨o, cp, rfl, _⟩ := hy.parts
  obtain ⟨b1, b2, b3, b4⟩ := hb ⟨o, X, cp⟩
  have hn : By (P + 1) W' (Bl.v ⟨o, X, cp⟩) X := hy.mono (lt_block (show W.heap[P]? = _ from hp.row))
  refine ⟨rfl, ⟨_, ⟨⟨o, X, cp⟩, rfl, rfl⟩, by rw [← h1]; exact hc, ?_, ?_, ?_, by rw [b4]; exact hp.r16⟩, hg⟩
  · rcases b1 with b1 | b1 <;> rw [b1]
    · exact hn
    · exact hp.orig.gs hg
  · rcases b2 with b2 | b2 <;> rw [b2]
    · exact hn
    · exact hp.first.gs hg
  · rcases b3 with b3 | b3 <;> rw [b3]
    · exact hn
    · exact hp.again.gs hg
theorem mr_opt (h0 : p.cells.toArray[15]? = some p.again.v) (h2 : p.cells.toArray[16]? = some (.bool p.hasAgain)) (h1 : ∀ b : Bl, (p.cells.toArray.setIfInBounds 16 (.bool true)).setIfInBounds 15 b.v = ({ p with again := b, hasAgain := true } : Ps).cells.toArray) :
    MRd P 95 (optV P 15 16) X p (decide (X.length ≤ 20)) (fun q => ∃ b : Bl, b.l = X ∧ q = { p with again := b, hasAgain := true }) := by
  refine ⟨93, fun W => m_read95 _ W, eg93, fun W ao c hp ht hi' => (opt_read 15 16 _ _ hp.row h0 h2 (by decide) ao X c hi'.sl hi'.sep hi'.len hi'.nil).mono ?_⟩
  rintro e W' ⟨v, ⟨rfl, hc, hg⟩, hy⟩
  obtain ⟨o, cp, rfl, _⟩ := hy.parts
  have hn : By (P + 1) W' (Bl.v ⟨o, X, cp⟩) X := hy.mono (lt_block (show W.heap[P]? = _ from hp.row))
  exact ⟨rfl, ⟨_, ⟨⟨o, X, cp⟩, rfl, rfl⟩, by rw [← h1]; exact hc, hp.orig.gs hg, hp.first.gs hg, hn, hp.r16⟩, hg⟩
theorem mr_reset (h2 : p.cells.toArray[33]? = some (.bool p.hasReset)) (hs : 33 ≤ p.cells.length) (hr : p.reset.length = 16) (h1 : rsA p.cells.toArray 17 33 X = ({ p with reset := X.take 16 ++ p.reset.drop (X.take 16).length, hasReset := true } : Ps).cells.toArray) :
    MRd P 91 (resetV P 17 33) X p (decide (X.length = 16)) (fun q => q = { p with reset := X.take 16 ++ p.reset.drop (X.take 16).length, hasReset := true }) := by
  refine ⟨86, fun W => m_read91 _ W, eg86, fun W ao c hp ht hi' => (reset_read 17 33 _ hp.row h2 (by simpa using hs) ao X c hi'.sl hi'.sep).mono ?_⟩
  rintro e W' ⟨rfl, hc, hg⟩
  exact ⟨rfl, ⟨_, rfl, by rw [← h1]; exact hc, hp.orig.gs hg, hp.first.gs hg, hp.again.gs hg, by simp [hr]; omega⟩, hg⟩
end
end Go.Proofs.YtcppnellgkbndaaDoor
namespace Go.Proofs.YtcppnellgkbndaaDoor
open Go.ChangeShapes Go.WideShapes Go.ChangeAt Go.RowKit
set_option linter.unusedVariables false
set_option maxRecDepth 100000

/-- Whether row k may have the bytes X. -/
def rdOk (k : Nat) (X : List UInt8) : Bool :=
  match k with
  | 0 => decide (X.length ≤ 20)
  | 1 => okN X 0 4611686018427387903
  | 2 => decide (X.length = 16)
  | 3 => okN X 1200 4611686018427387903
  | 4 => okN X 0 4611686018427387903
  | 5 => okN X 0 4611686018427387903
  | 6 => okN X 0 4611686018427387903
  | 7 => okN X 0 4611686018427387903
  | 8 => okN X 0 1152921504606846976
  | 9 => okN X 0 1152921504606846976
  | 10 => okN X 0 20
  | 11 => okN X 0 16383
  | 12 => decide (X.length = 0)
  | 13 => okN X 2 4611686018427387903
  | 14 => decide (X.length ≤ 20)
  | 15 => decide (X.length ≤ 20)
  | 16 => okN X 0 4611686018427387903
  | _ => false
/-- What row k leaves of the bytes X. -/
def rdTo (k : Nat) (X : List UInt8) (p q : Ps) : Prop :=
  match k with
  | 0 => ∃ b : Bl, b.l = X ∧ q = { p with orig := b }
  | 1 => q = { p with idle := vV X 0 }
  | 2 => q = { p with reset := X.take 16 ++ p.reset.drop (X.take 16).length, hasReset := true }
  | 3 => q = { p with payload := vV X 0 }
  | 4 => q = { p with data := vV X 0 }
  | 5 => q = { p with bl := vV X 0 }
  | 6 => q = { p with br := vV X 0 }
  | 7 => q = { p with un := vV X 0 }
  | 8 => q = { p with sb := vV X 0 }
  | 9 => q = { p with su := vV X 0 }
  | 10 => q = { p with ex := vV X 0 }
  | 11 => q = { p with de := vV X 0 }
  | 12 => q = { p with still := true }
  | 13 => q = { p with ids := vV X 0 }
  | 14 => ∃ b : Bl, b.l = X ∧ q = { p with first := b }
  | 15 => ∃ b : Bl, b.l = X ∧ q = { p with again := b, hasAgain := true }
  | 16 => q = { p with dg := vV X 0 }
  | _ => False
theorem reset_cells {X : List UInt8} {p : Ps} (h : p.reset.length = 16) : rsA p.cells.toArray 17 33 X = ({ p with reset := X.take 16 ++ p.reset.drop (X.take 16).length, hasReset := true } : Ps).cells.toArray := by
  obtain ⟨A, hA, hA17⟩ : ∃ A : List Value, (∀ (r : List UInt8) (x : Bool), ({ p with reset := r, hasReset := x } : Ps).cells = A ++ (bc r ++ [.bool x])) ∧ A.length = 17 := ⟨p.cells.take 17, fun _ _ => rfl, by simp [Ps.cells]⟩
  have hp : p.cells = A ++ (bc p.reset ++ [.bool p.hasReset]) := hA p.reset p.hasReset
  unfold rsA
  apply congrArg
  have hs : (p.cells.toArray.toList.set 33 (.bool true)) = A ++ (bc p.reset ++ [.bool true]) := by
    rw [hp, List.set_append_right _ _ (by omega), hA17, List.set_append_right _ _ (by rw [bc_length]; omega), bc_length, h]
    rfl
  have hn : (X.take 16).length ≤ 16 := by rw [List.length_take]; omega
  rw [hs, hA (X.take 16 ++ p.reset.drop (X.take 16).length) true, bc_length, List.take_left' hA17, List.drop_append, List.drop_eq_nil_of_le (by omega), hA17, show 17 + (X.take 16).length - 17 = (X.take 16).length by omega, List.nil_append]
  rw [List.drop_append_of_le_length (by rw [bc_length]; omega)]
  unfold bc
  simp [List.map_drop]
theorem tab_rd (P : Nat) (p0 : Ps) {X : List UInt8} {p : Ps} (h : p.reset.length = 16) : ∀ (k : Nat), k < 17 → ∃ r, ((tab P p0).map (·.r))[k]? = some r ∧ MRd P r.T r.v X p (rdOk k X) (rdTo k X p)
  | 0, _ => ⟨_, rfl, mr_id 13 p.orig.v (fun b => { p with orig := b }) (by simp [Ps.cells]) (fun b => by simp [Ps.cells]) (fun b => ⟨.inl rfl, .inr rfl, .inr rfl, rfl⟩)⟩
  | 1, _ => ⟨_, rfl, mr_num 0 0 4611686018427387903 0 (.int .i64 p.idle) { p with idle := vV X 0 } (by simp [Ps.cells]) (by simp [Ps.cells]) ⟨rfl, rfl, rfl, rfl⟩⟩
  | 2, _ => ⟨_, rfl, mr_reset (by simpa using p.last h) (by simp [Ps.cells, hl, h]) h (reset_cells h)⟩
  | 3, _ => ⟨_, rfl, mr_num 1 1200 4611686018427387903 65527 (.int .i64 p.payload) { p with payload := vV X 0 } (by simp [Ps.cells]) (by simp [Ps.cells]) ⟨rfl, rfl, rfl, rfl⟩⟩
  | 4, _ => ⟨_, rfl, mr_num 2 0 4611686018427387903 0 (.int .i64 p.data) { p with data := vV X 0 } (by simp [Ps.cells]) (by simp [Ps.cells]) ⟨rfl, rfl, rfl, rfl⟩⟩
  | 5, _ => ⟨_, rfl, mr_num 3 0 4611686018427387903 0 (.int .i64 p.bl) { p with bl := vV X 0 } (by simp [Ps.cells]) (by simp [Ps.cells]) ⟨rfl, rfl, rfl, rfl⟩⟩
  | 6, _ => ⟨_, rfl, mr_num 4 0 4611686018427387903 0 (.int .i64 p.br) { p with br := vV X 0 } (by simp [Ps.cells]) (by simp [Ps.cells]) ⟨rfl, rfl, rfl, rfl⟩⟩
  | 7, _ => ⟨_, rfl, mr_num 5 0 4611686018427387903 0 (.int .i64 p.un) { p with un := vV X 0 } (by simp [Ps.cells]) (by simp [Ps.cells]) ⟨rfl, rfl, rfl, rfl⟩⟩
  | 8, _ => ⟨_, rfl, mr_num 6 0 1152921504606846976 0 (.int .i64 p.sb) { p with sb := vV X 0 } (by simp [Ps.cells]) (by simp [Ps.cells]) ⟨rfl, rfl, rfl, rfl⟩⟩
  | 9, _ => ⟨_, rfl, mr_num 7 0 1152921504606846976 0 (.int .i64 p.su) { p with su := vV X 0 } (by simp [Ps.cells]) (by simp [Ps.cells]) ⟨rfl, rfl, rfl, rfl⟩⟩
  | 10, _ => ⟨_, rfl, mr_num 8 0 20 3 (.int .i64 p.ex) { p with ex := vV X 0 } (by simp [Ps.cells]) (by simp [Ps.cells]) ⟨rfl, rfl, rfl, rfl⟩⟩
  | 11, _ => ⟨_, rfl, mr_num 9 0 16383 25 (.int .i64 p.de) { p with de := vV X 0 } (by simp [Ps.cells]) (by simp [Ps.cells]) ⟨rfl, rfl, rfl, rfl⟩⟩
  | 12, _ => ⟨_, rfl, mr_flag 10 (.bool p.still) { p with still := true } (by simp [Ps.cells]) (by simp [Ps.cells]) ⟨rfl, rfl, rfl, rfl⟩⟩
  | 13, _ => ⟨_, rfl, mr_num 11 2 4611686018427387903 2 (.int .i64 p.ids) { p with ids := vV X 0 } (by simp [Ps.cells]) (by simp [Ps.cells]) ⟨rfl, rfl, rfl, rfl⟩⟩
  | 14, _ => ⟨_, rfl, mr_id 14 p.first.v (fun b => { p with first := b }) (by simp [Ps.cells]) (fun b => by simp [Ps.cells]) (fun b => ⟨.inr rfl, .inl rfl, .inr rfl, rfl⟩)⟩
  | 15, _ => ⟨_, rfl, mr_opt (by simp [Ps.cells]) (by simp [Ps.cells]) (fun b => by simp [Ps.cells])⟩
  | 16, _ => ⟨_, rfl, mr_num 12 0 4611686018427387903 0 (.int .i64 p.dg) { p with dg := vV X 0 } (by simp [Ps.cells]) (by simp [Ps.cells]) ⟨rfl, rfl, rfl, rfl⟩⟩
  | k + 17, hk => absurd hk (by omega)
end Go.Proofs.YtcppnellgkbndaaDoor
namespace Go.Proofs.YtcppnellgkbndaaDoor
open Go.ChangeShapes Go.WideShapes Go.ChangeAt Go.RowKit
set_option linter.unusedVariables false
set_option maxRecDepth 100000

/-- The table's rows. -/
abbrev rwL (P : Nat) (p0 : Ps) : List Row := (tab P p0).map (·.r)
theorem rwL_len (P : Nat) (p0 : Ps) : (rwL P p0).length = 17 := rfl
/-- Where the things of a call of Read lie. -/
structure Pl4 where
  P : Nat
  R : Nat
  g : Nat
  mb : Nat
/-- All that lies while parameters are read: p those read so far, S the numbers that came, a the place. -/
structure Rds (w : World) (B : Pl4) (p0 p : Ps) (o : Option Addr) (n c : Nat) (a : Int) (s : Bool) (m : Nat) (S : Int → Bool) : Prop where
  pq : Pq w B.P p
  rd : Rdr w B.R o n c a s B.mb B.g
  came : Came w B.mb m S
  fs : Fs w B.g (rwL B.P p0)
  tb : Tb w
  n1 : B.P ≠ B.R
  n2 : B.P ≠ B.mb
  n3 : B.P ≠ B.g
  n4 : B.R ≠ B.mb
  n5 : B.R ≠ B.g
  n6 : B.g ≠ B.mb
  n7 : 0 < B.P ∧ 0 < B.R ∧ 0 < B.mb
theorem Came.isMap {W : World} {mb n : Nat} {S : Int → Bool} (h : Came W mb n S) : ∃ es clock, W.heap[mb]? = some (.map es clock) := by
  obtain ⟨D, ⟨es, clock, h1, _⟩, _⟩ := h
  exact ⟨es, clock, h1⟩
theorem By.gsm {K : Nat → Prop} {Q : Nat} {w w' : World} {v : Value} {X : List UInt8} (h : By Q w v X) (hg : Gs K w w') (hK : ∀ g cur, K g → Q ≤ g → w.heap[g]? ≠ some (.cells cur 5 (0, 0))) : By Q w' v X := by
  obtain ⟨y1, y2 | ⟨g, cap, cur, y3, y4, y5, y6⟩⟩ := h
  · exact ⟨y1, .inl y2⟩
  · exact ⟨y1, .inr ⟨g, cap, cur, y3, y4, (hg.block g (lt_block y5) (fun hk => hK g _ hk y4 y5)).trans y5, y6⟩⟩
theorem Pq.gsm {K : Nat → Prop} {w w' : World} {P : Nat} {p : Ps} (h : Pq w P p) (hg : Gs K w w') (hP : ¬ K P) (hK : ∀ g cur, K g → P + 1 ≤ g → w.heap[g]? ≠ some (.cells cur 5 (0, 0))) : Pq w' P p :=
  ⟨(hg.block P (lt_block (show w.heap[P]? = _ from h.row)) hP).trans h.row, h.orig.gsm hg hK, h.first.gsm hg hK, h.again.gsm hg hK, h.r16⟩
theorem Fs.gs {K : Nat → Prop} {w w' : World} {g : Nat} {L : List Row} (h : Fs w g L) (hg : Gs K w w') (hK : ¬ K g) : Fs w' g L := fun k hk => ⟨hg.cell (h k hk).1 hK, hg.cell (h k hk).2.1 hK, hg.cell (h k hk).2.2.1 hK, hg.cell (h k hk).2.2.2 hK⟩
theorem Tb.gs {K : Nat → Prop} {w w' : World} (h : Tb w) (hg : Gs K w w') (hK : ∀ k, K k → 0 < k) : Tb w' := by
  obtain ⟨t0, t1, t2, t3⟩ := h
  exact ⟨hg.cell t0 (fun h => absurd (hK _ h) (by decide)), hg.cell t1 (fun h => absurd (hK _ h) (by decide)), hg.cell t2 (fun h => absurd (hK _ h) (by decide)), hg.cell t3 (fun h => absurd (hK _ h) (by decide))⟩
section
variable {w w' : World} {B : Pl4} {p0 p p' : Ps} {o : Option Addr} {n c : Nat} {a : Int} {s : Bool} {m : Nat} {S S' : Int → Bool}
theorem Rds.gs {K : Nat → Prop} (h : Rds w B p0 p o n c a s m S) (hg : Gs K w w') (hP : ¬ K B.P) (hR : ¬ K B.R) (hm : ¬ K B.mb) (hG : ¬ K B.g) (h0 : ∀ k, K k → 0 < k) (hK : ∀ g cur, K g → B.P + 1 ≤ g → w.heap[g]? ≠ some (.cells cur 5 (0, 0))) : Rds w' B p0 p o n c a s m S :=
  ⟨h.pq.gsm hg hP hK, (hg.block B.R (lt_block (show w.heap[B.R]? = _ from h.rd)) hR).trans h.rd, h.came.kept (hg.block B.mb h.came.lt hm), h.fs.gs hg hG, h.tb.gs hg h0, h.n1, h.n2, h.n3, h.n4, h.n5, h.n6, h.n7⟩
/-- What only makes new things. -/
theorem Rds.bel (h : Rds w B p0 p o n c a s m S) (hb : Below w.heap.size w w') : Rds w' B p0 p o n c a s m S :=
  h.gs (Gs.of_below (K := fun _ => False) hb) (fun h => h) (fun h => h) (fun h => h) (fun h => h) (fun _ h => h.elim) (fun _ _ h => h.elim)
/-- A value read. -/
theorem Rds.stepP (h : Rds w B p0 p o n c a s m S) (hg : Gs (fun k => k = B.P) w w') (hp : Pq w' B.P p') : Rds w' B p0 p' o n c a s m S :=
  ⟨hp, (hg.block B.R (lt_block (show w.heap[B.R]? = _ from h.rd)) (Ne.symm h.n1)).trans h.rd, h.came.kept (hg.block B.mb h.came.lt (Ne.symm h.n2)), h.fs.gs hg (Ne.symm h.n3), h.tb.gs hg (fun k hk => by rw [hk]; exact h.n7.1), h.n1, h.n2, h.n3, h.n4, h.n5, h.n6, h.n7⟩
/-- A number come. -/
theorem Rds.stepM {m' : Nat} (h : Rds w B p0 p o n c a s m S) (hg : Gs (fun k => k = B.mb) w w') (hc : Came w' B.mb m' S') : Rds w' B p0 p o n c a s m' S' := by
  obtain ⟨es, clock, hm⟩ := h.came.isMap
  exact ⟨h.pq.gsm hg h.n2 (fun g cur hk _ => by rw [hk, hm]; intro e; cases e), (hg.block B.R (lt_block (show w.heap[B.R]? = _ from h.rd)) h.n4).trans h.rd, hc, h.fs.gs hg h.n6, h.tb.gs hg (fun k hk => by rw [hk]; exact h.n7.2.2), h.n1, h.n2, h.n3, h.n4, h.n5, h.n6, h.n7⟩
/-- The place moved. -/
theorem Rds.stepA (h : Rds w B p0 p o n c a s m S) (x : Int) : Rds (w.setCell ⟨B.R, 1, none⟩ (.int .i64 x)) B p0 p o n c x s m S := by
  have hg : Gs (fun k => k = B.R) w (w.setCell ⟨B.R, 1, none⟩ (.int .i64 x)) := Gs.set _ rfl
  exact ⟨h.pq.gsm hg h.n1 (fun g cur hk _ => by rw [hk, show w.heap[B.R]? = _ from h.rd]; intro e; injection e with e; injection e with _ e; cases e), h.rd.set1 x, h.came.kept (hg.block B.mb h.came.lt (Ne.symm h.n4)), h.fs.gs hg (Ne.symm h.n5), h.tb.gs hg (fun k hk => by rw [hk]; exact h.n7.2.1), h.n1, h.n2, h.n3, h.n4, h.n5, h.n6, h.n7⟩
end
/-- What take answers and leaves: ev the error (uv: that of what is in no row), of the number q with the bytes X. -/
def Tk (P : Nat) (p0 : Ps) (uv : Value) (s : Bool) (q : Int) (X : List UInt8) (S : Int → Bool) (p : Ps) (ev : Value) (S' : Int → Bool) (p' : Ps) : Prop :=
  (S q = true ∧ ev = .iface 26 (.int .i64 13) ∧ S' = S ∧ p' = p) ∨
  (S q = false ∧ S' = (fun x => x == q || S x) ∧
    ((ixE (rwL P p0) q = none ∧ ev = uv ∧ p' = p) ∨
     ∃ k r, ixE (rwL P p0) q = some k ∧ (rwL P p0)[k]? = some r ∧
      (((s || !r.sv) = false ∧ ev = .iface 26 (.int .i64 11) ∧ p' = p) ∨ ((s || !r.sv) = true ∧ rdTo k X p p' ∧ ev = if rdOk k X then .nilIface else .iface 26 (.int .i64 11)))))
end Go.Proofs.YtcppnellgkbndaaDoor
