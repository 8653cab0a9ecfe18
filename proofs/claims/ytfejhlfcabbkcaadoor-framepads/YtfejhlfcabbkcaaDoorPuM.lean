/- What the putter's array, rest and counted answer: contracts. -/
import Derived.Test.YtfejhlfcabbkcaaDoorPuN
import Derived.Deep.RegionLaw
import Derived.Laws.AppendOwnNone
namespace Go.Proofs.YtfejhlfcabbkcaaDoor
open Go.ChangeShapes Go.WideShapes Go.ChangeAt Go.RowKit
set_option linter.unusedVariables false

/-- 'append(v, xs...)' of bytes onto a row of the call's own, as one step of a region that draws its order. -/
theorem step_append_bytes {P : Program} {w : World} {ops : Array Oper} {o : Oper} {a : Act} {K : Act → World → Prop} {Q : Exit → Act → World → Prop} {E : Prop} (hgd : o.guard = none) (s x : Operand)
    (ho : o.op = .call { callee := .builtin .append, args := #[s, x], argTypes := #[27, 27] })
    (base : Nat) (i : TypeInfo) (ht : P.underlying 27 = some (.slice 5)) (hi : P.info? 5 = some i) (hz : i.zero = some (.int .u8 0)) (hsize : i.size = 1) (hby : i.bytes = 1)
    (v : Value) (n : Nat) (xs : List Value) (hs : a.eval s = v) (hown : w.ownsRow base 5 1 v n xs)
    (ao : Option Addr) (m c : Nat) (l : List UInt8) (hx : a.eval x = .slice ao m c) (hl : l.length = m) (hnil : ao = none → m = 0 ∧ c = 0) (hsl : Sl w ao l)
    (hb : n + m ≤ 140737488355328) (hbase : base ≤ w.heap.size)
    (h : ∀ v' w', w'.ownsRow base 5 1 v' (n + m) (xs ++ bc l) → w.grownBy w' v.ownBlock → K (a.put o.dst v') w') : if Region.wanted o (yielded ops a.tmps) = true then Oper.wp P o a w K Q else E := by
  have hw : Region.wanted o (yielded ops a.tmps) = true := by simp [Region.wanted, hgd]
  rw [if_pos hw]
  cases ao with
  | none =>
    obtain ⟨rfl, rfl⟩ := hnil rfl
    obtain rfl : l = [] := List.eq_nil_of_length_eq_zero hl
    have hrun := run_append_owned_none (P := P) (w := w) base 27 o.type 5 i 1 ht hi v n xs hown
    unfold Oper.wp
    simp [execOp, ho, resolve, invoke, builtin, hs, hx, hrun, Result.andThen]
    exact h v w (by simpa [bc] using hown) ⟨rfl, rfl, rfl, Nat.le_refl _, fun _ _ _ => rfl⟩
  | some ad =>
    exact wp_append_own w s x 27 ho base 5 i (.int .u8 0) 1 1 ht hi hz hsize hby rfl (by decide) v n xs hs hown ad m c (bc l) hx (by rw [bc_length]; omega) (Sl_cells hsl) (bc_one l) (by unfold maxLen; omega) (by omega) hbase (fun v' w' h1 h2 _ => h v' w' h1 h2)

theorem Pu.drew {w : World} {p B : Nat} {v : Value} {X : List UInt8} {r : Bool} (h : Pu w p B v X r) : Pu w.drew p B v X r := ⟨h.row, h.own, h.lt⟩

set_option maxRecDepth 10000 in
theorem parray (p B : Nat) (v : Value) (X : List UInt8) (r : Bool) (ao : Option Addr) (c' : Nat) (Y : List UInt8) (m : Nat) (w : World) (h : Pu w p B v X r) (hB : B ≤ w.heap.size) (hX : X.length ≤ 70368744177664) (hY : Y.length ≤ 70368744177664) (hm : Y.length = m) (hs : Sl w ao Y) (hnil : ao = none → m = 0 ∧ c' = 0) :
    Calls Tryd.prog 63 #[.pointer (some ⟨p, 0, none⟩), .slice ao m c'] w fun e w' => e = .returned (.tuple #[]) ∧ (∃ v', Pu w' p B v' (X ++ Y) r) ∧ Gr p B w w' := by
  obtain ⟨i0, hi, hz0, hz1, hz2⟩ := info_parts info5
  have HP := mkHid h
  obtain ⟨o, c, rfl⟩ := own_val h.own
  have HS := mkHid hs
  have HN := mkHid hnil
  have c0 := h.c0
  have HM := mkHid hm
  clear h hs hnil
  subst hm
  go_enter Tryd.func63, Tryd.ntmps63
  go_wp2_with ((at_builtin; refine wpList_append_bytes rfl (.tmp 8) (.tmp 9) rfl B i0 Tryd.underlying27 hi hz0 hz1 hz2 (.slice o X.length c) X.length (bc X) rfl HP.out.own ao Y.length c' Y rfl rfl HN.out HS.out (by omega) hB ?_; intro v' w2 hown hgrow; obtain ⟨o', cc', rfl, m0, mf, HQ⟩ := pu_after (Gr.refl p B w) HP.out hown hgrow; clear hown hgrow))
  go_end0
  exact ⟨rfl, ⟨_, HQ.out.1⟩, HQ.out.2⟩

set_option maxRecDepth 10000 in
theorem prest (p B : Nat) (v : Value) (X : List UInt8) (r : Bool) (a : Addr) (ao : Option Addr) (c' : Nat) (Y : List UInt8) (w : World) (h : Pu w p B v X r) (hB : B ≤ w.heap.size) (hX : X.length ≤ 70368744177664) (hY : Y.length ≤ 1048576) (hs : Sl w ao Y) (hnil : ao = none → Y.length = 0 ∧ c' = 0) (ha : w.cell? a = some (.slice ao Y.length c')) :
    Calls Tryd.prog 67 #[.pointer (some ⟨p, 0, none⟩), .pointer (some a)] w fun e w' => e = .returned (.tuple #[]) ∧ (∃ v', Pu w' p B v' (X ++ Y) r) ∧ Gr p B w w' := by
  obtain ⟨i0, hi, hz0, hz1, hz2⟩ := info_parts info5
  have HP := mkHid h
  obtain ⟨o, c, rfl⟩ := own_val h.own
  have HS := mkHid hs
  have HN := mkHid hnil
  have c0 := h.c0
  have hYb : decide ((1048576 : Int) < (Y.length : Int)) = false := decide_eq_false (by omega)
  clear h hs hnil
  go_enter Tryd.func67, Tryd.ntmps67
  go_wp2
  go_region_law ((refine step_append_bytes rfl (.tmp 16) (.tmp 19) rfl B i0 Tryd.underlying27 hi hz0 hz1 hz2 (.slice o X.length c) X.length (bc X) rfl HP.out.drew.own ao Y.length c' Y rfl rfl HN.out HS.out (by omega) hB ?_; intro v' w2 hown hgrow; obtain ⟨o', cc', rfl, m0, mf, HQ⟩ := pu_after ((Gr.refl p B w).drew) HP.out.drew hown hgrow; clear hown hgrow))
  all_goals
    go_wp2
    go_end0
    exact ⟨rfl, ⟨_, HQ.out.1⟩, HQ.out.2⟩
end Go.Proofs.YtfejhlfcabbkcaaDoor
