/- The putter's short, long and handles. -/
import Derived.Test.YtcchlicokglmnaaHn
import Derived.Lib.AppendStr
import Derived.Deep.LoopGhost
namespace Go.Proofs.Ytcchlicokglmnaa
open Go.ChangeShapes Go.WideShapes Go.ChangeAt Go.RowKit Go.Lib
set_option linter.unusedVariables false

theorem strCells_bc (s : ByteArray) : strCells s = bc s.data.toList := rfl
/-- 'append(v, s...)' of a string onto a row of the call's own, as one step of a region that draws its order. -/
theorem step_append_string {P : Program} {w : World} {ops : Array Oper} {o : Oper} {a : Act} {K : Act → World → Prop} {Q : Exit → Act → World → Prop} {E : Prop} (hgd : o.guard = none) (s x : Operand)
    (ho : o.op = .call { callee := .builtin .append, args := #[s, x], argTypes := #[25, 9] })
    (base : Nat) (i : TypeInfo) (ht : P.underlying 25 = some (.slice 5)) (hu : P.underlying 9 = some .string) (hi : P.info? 5 = some i) (hz : i.zero = some (.int .u8 0)) (hsize : i.size = 1) (hby : i.bytes = 1)
    (v : Value) (n : Nat) (xs : List Value) (hs : a.eval s = v) (hown : w.ownsRow base 5 1 v n xs)
    (S : ByteArray) (hx : a.eval x = .string S) (hb : n + S.size ≤ 140737488355328) (hbase : base ≤ w.heap.size)
    (h : ∀ v' w', w'.ownsRow base 5 1 v' (n + S.data.toList.length) (xs ++ bc S.data.toList) → w.grownBy w' v.ownBlock → K (a.put o.dst v') w') : if Region.wanted o (yielded ops a.tmps) = true then Oper.wp P o a w K Q else E := by
  have hw : Region.wanted o (yielded ops a.tmps) = true := by simp [Region.wanted, hgd]
  rw [if_pos hw]
  obtain ⟨v', w', hrun, h1, h2, _⟩ := run_append_own_string (P := P) w base 25 9 o.type 5 i ht hu hi hz hsize hby v n xs hown S (by unfold maxLen; omega) hb hbase
  unfold Oper.wp
  simp [execOp, ho, resolve, invoke, builtin, hs, hx, hrun, Result.andThen]
  exact h v' w' h1 h2
theorem u9 : Try.prog.underlying 9 = some .string := by kernel_rfl
section
variable {w : World} {p B : Nat} {v : Value} {X : List UInt8} {r : Bool}
theorem Gr.sl {w w' : World} (h : Gr p B w w') {ao : Option Addr} {l : List UInt8} (hs : Sl w ao l) (hb : ∀ a, ao = some a → a.block < B ∧ a.block ≠ p) : Sl w' ao l := by
  intro j hj
  obtain ⟨b, off, rfl, hc⟩ := hs j hj
  exact ⟨b, off, rfl, h.cell hc (hb _ rfl).2 (.inl (hb _ rfl).1)⟩
set_option maxRecDepth 10000 in
set_option maxHeartbeats 1000000 in
theorem short_c (h : Pu w p B v X r) (hB : B ≤ w.heap.size) (hX : X.length ≤ 900000) (q j : Nat) (S : ByteArray) (hq : w.cell? ⟨q, j, none⟩ = some (.string S)) (hqp : q ≠ p) (hqo : q < B ∨ ∀ cs fr, w.heap[q]? ≠ some (.cells cs 5 fr)) (least : Int) (ok : Bool) (hok : decide (least ≤ (S.size : Int) ∧ (S.size : Int) ≤ 255) = ok) (hS63 : S.size ≤ 9223372036854775807) :
    Calls Try.prog 60 #[.pointer (some ⟨p, 0, none⟩), .pointer (some ⟨q, j, none⟩), .int .i64 least] w (PuR p B (X ++ be 1 (uN S.size) ++ (if (r || !ok) then [] else S.data.toList)) (r || !ok) w) := by
  obtain ⟨i0, hi, hz0, hz1, hz2⟩ := info_parts info5
  have hb1 : Below w.heap.size w (w.alloc (.cells #[.int .i64 (S.size : Int)] 3)) := (Below.refl _ w).alloc (Nat.le_refl _) _
  have hnx : (w.alloc (.cells #[.int .i64 (S.size : Int)] 3)).cell? ⟨w.heap.size, 0, none⟩ = some (.int .i64 (S.size : Int)) := by unfold World.cell?; rw [heap_alloc_new]; rfl
  have HN : Hid (Calls Try.prog 58 #[.pointer (some ⟨p, 0, none⟩), .pointer (some ⟨w.heap.size, 0, none⟩), .int .i64 1, .int .i64 least, .int .i64 255] (w.alloc (.cells #[.int .i64 (S.size : Int)] 3)) (PuR p B (X ++ be 1 (uN S.size)) (r || !ok) (w.alloc (.cells #[.int .i64 (S.size : Int)] 3)))) :=
    number_c (h.below hb1) (Nat.le_trans hB hb1.size) (by omega) w.heap.size 0 S.size hnx (by have := lt_block h.row; omega) 1 (by omega) (by omega) least 255 ok hok
  have HQ : Hid (∀ W, Gr p B (w.alloc (.cells #[.int .i64 (S.size : Int)] 3)) W → W.cell? ⟨q, j, none⟩ = some (.string S)) := fun W hg => ((Gr.of_below hb1).trans hg).cell hq hqp hqo
  have HG0 : Hid (Gr p B w (w.alloc (.cells #[.int .i64 (S.size : Int)] 3))) := Gr.of_below hb1
  have hl1 : (be 1 (uN S.size)).length = 1 := be_length _ _
  have hXl : (X ++ be 1 (uN S.size)).length ≤ 900001 := by simp [hl1]; omega
  have HOK : Hid _ := hok
  have HB : Hid _ := hB
  generalize X ++ be 1 (uN S.size) = Y at *
  have HS2 : Hid ((r || !ok) = false → S.size ≤ 255) := fun hr => by
    have h1 : ok = true := by cases r <;> cases ok <;> simp_all
    rw [h1] at hok
    have := of_decide_eq_true hok
    omega
  generalize (r || !ok) = bad at *
  obtain ⟨Z, hZ⟩ : ∃ Z, Z = (if bad then [] else S.data.toList) := ⟨_, rfl⟩
  rw [← hZ]
  have HZ : Hid _ := hZ
  clear h hb1 hnx hl1 hok hB hX HOK hZ
  as_aux_lemma =>
  go_enter Try.func60, Try.ntmps60
  go_wp2_with fail
  generalize w.alloc (.cells #[.int .i64 (S.size : Int)] 3) = w1 at *
  refine HN.out.mono ?_
  rintro e w2 ⟨rfl, ⟨v2, hp2⟩, hg2⟩
  obtain ⟨o, c, rfl⟩ := own_val hp2.own
  have HP2 : Hid _ := hp2
  have HG2 : Hid (Gr p B w w2) := HG0.out.trans hg2
  have hq2 := HQ.out w2 hg2
  have c0 := hp2.c0
  have c1 := hp2.c1
  have f1 := hp2.fr 1
  clear hp2 hg2 HN HQ HG0
  cases bad
  · have hS := HS2.out rfl
    have HBw : Hid (B ≤ w2.heap.size) := Nat.le_trans HB.out HG2.out.size
    obtain rfl : Z = S.data.toList := HZ.out
    clear HB HZ HS2
    go_wp2_with fail
    go_region_law ((refine step_append_string rfl (.tmp 24) (.tmp 27) rfl B i0 Try.underlying25 u9 hi hz0 hz1 hz2 (.slice o Y.length c) Y.length (bc Y) rfl HP2.out.drew.own S rfl (by omega) HBw.out ?_; intro v' w3 hown hgrow; obtain ⟨o', cc', rfl, m0, mf, HQQ⟩ := pu_after (Y := S.data.toList) (HG2.out.drew) HP2.out.drew hown hgrow; clear hown hgrow))
    all_goals
      go_wp2
      go_end0
      exact ⟨rfl, ⟨_, HQQ.out.1⟩, HQQ.out.2⟩
  · obtain rfl : Z = [] := HZ.out
    go_wp2_with fail
    go_end0
    refine ⟨rfl, ⟨.slice o Y.length c, ?_⟩, HG2.out⟩
    have := HP2.out
    simpa using this
end
end Go.Proofs.Ytcchlicokglmnaa
