/- The putter as it lies, and what its number answers: a contract. What the putter's numbers answers: a contract. What the putter's array, rest and counted answer: contracts. What the putter's counted, id and padding answer: contracts. What the putter's padding answers: contracts. -/
import Derived.Test.YtaeapgkfmofjlaaDoorPuts
import Derived.Test.YtaeapgkfmofjlaaDoorZeros
import Derived.OwnWalk
import Derived.WalkMore
import Derived.Deep.LoopGhost
import Derived.Deep.RegionLaw
import Derived.Laws.AppendOwnNone
namespace Go.Proofs.YtaeapgkfmofjlaaDoor
open Go.ChangeShapes Go.WideShapes Go.ChangeAt Go.RowKit
set_option linter.unusedVariables false

/-- bytes of the call's own, nil where there are none -/
def By (B : Nat) (w : World) (v : Value) (X : List UInt8) : Prop := w.ownsRow B 5 1 v X.length (bc X)
/-- The putter as it lies in block p: its bytes, and whether it has refused. -/
structure Pu (w : World) (p B : Nat) (v : Value) (X : List UInt8) (r : Bool) : Prop where
  row : w.heap[p]? = some (.cells #[v, .bool r] 58 (0, 0))
  own : By B w v X
  lt : p < B
/-- nothing turns but block p and bytes from block B on -/
structure Gr (p B : Nat) (w w' : World) : Prop where
  os : w'.os = w.os
  tape : w'.tape = w.tape
  output : w'.output = w.output
  size : w.heap.size ≤ w'.heap.size
  block : ∀ k, k < w.heap.size → k ≠ p → (k < B ∨ ∀ cs fr, w.heap[k]? ≠ some (.cells cs 5 fr)) → w'.heap[k]? = w.heap[k]?
theorem Gr.refl (p B : Nat) (w : World) : Gr p B w w := ⟨rfl, rfl, rfl, Nat.le_refl _, fun _ _ _ _ => rfl⟩
theorem Gr.trans {p B : Nat} {a b c : World} (h : Gr p B a b) (k : Gr p B b c) : Gr p B a c :=
  ⟨k.os.trans h.os, k.tape.trans h.tape, k.output.trans h.output, Nat.le_trans h.size k.size, fun i hi hp hc => by
    have e := h.block i hi hp hc
    refine (k.block i (Nat.lt_of_lt_of_le hi h.size) hp ?_).trans e
    rcases hc with hc | hc
    · exact .inl hc
    · exact .inr (fun cs fr => by rw [e]; exact hc cs fr)⟩
theorem Gr.of_below {p B : Nat} {w w' : World} (h : Below w.heap.size w w') : Gr p B w w' := ⟨h.os, h.tape, h.output, h.size, fun k hk _ _ => h.block k hk⟩
theorem Gr.set (p B j : Nat) (w : World) (x : Value) : Gr p B w (w.setCell ⟨p, j, none⟩ x) :=
  ⟨rfl, rfl, rfl, by simp [World.setCell], fun k _ hp _ => Below.heap_setCell _ _ _ _ hp⟩
theorem Gr.alloc (p B : Nat) (w : World) (o : Obj) : Gr p B w (w.alloc o) := .of_below ((Below.refl _ _).alloc (Nat.le_refl _) _)
theorem Gr.drew {p B : Nat} {w w' : World} (h : Gr p B w w') : Gr p B w w'.drew := ⟨h.os, h.tape, h.output, h.size, h.block⟩
theorem Gr.of_grown {p B : Nat} {w w' : World} {v : Value} {n : Nat} {xs : List Value} (ho : w.ownsRow B 5 1 v n xs) (hg : w.grownBy w' v.ownBlock) : Gr p B w w' :=
  ⟨hg.os, hg.tape, hg.output, hg.size, fun k hk _ hc => hg.block k hk (fun e => by
    obtain ⟨hl, ⟨hv, _⟩ | ⟨g, cap, cur, he, k1, k2, k3⟩⟩ := ho
    · subst hv; simp [Value.ownBlock] at e
    · subst he
      simp [Value.ownBlock] at e
      subst e
      rcases hc with hc | hc
      · omega
      · exact hc _ _ k2)⟩
theorem Gr.tb {p B : Nat} {w w' : World} (h : Gr p B w w') (ht : Tb w) (hp : 2 ≠ p) (hB : 2 < B) : Tb w' := by
  obtain ⟨t0, t1, t2, t3⟩ := ht
  have e := h.block 2 (World.block_lt_of_cell? w _ t0) hp (.inl hB)
  exact ⟨(World.cell?_of_block (a := ⟨2, 0, none⟩) e).trans t0, (World.cell?_of_block (a := ⟨2, 1, none⟩) e).trans t1, (World.cell?_of_block (a := ⟨2, 2, none⟩) e).trans t2, (World.cell?_of_block (a := ⟨2, 3, none⟩) e).trans t3⟩
theorem Pu.c0 {w : World} {p B : Nat} {v : Value} {X : List UInt8} {r : Bool} (h : Pu w p B v X r) : w.cell? ⟨p, 0, none⟩ = some v := by unfold World.cell?; rw [h.row]; rfl
theorem Pu.c1 {w : World} {p B : Nat} {v : Value} {X : List UInt8} {r : Bool} (h : Pu w p B v X r) : w.cell? ⟨p, 1, none⟩ = some (.bool r) := by unfold World.cell?; rw [h.row]; rfl
theorem Pu.fr {w : World} {p B : Nat} {v : Value} {X : List UInt8} {r : Bool} (h : Pu w p B v X r) (j : Nat) : w.frozen? ⟨p, j, none⟩ = false := by unfold World.frozen?; rw [h.row]; simp
theorem By.below {B : Nat} {w w' : World} {v : Value} {X : List UInt8} (h : By B w v X) (hb : Below w.heap.size w w') : By B w' v X := by
  obtain ⟨hl, hc | ⟨g, cap, cur, he, k1, k2, k3⟩⟩ := h
  · exact ⟨hl, .inl hc⟩
  · exact ⟨hl, .inr ⟨g, cap, cur, he, k1, (hb.block g (lt_block k2)).trans k2, k3⟩⟩
theorem Pu.below {w w' : World} {p B : Nat} {v : Value} {X : List UInt8} {r : Bool} (h : Pu w p B v X r) (hb : Below w.heap.size w w') : Pu w' p B v X r :=
  ⟨(hb.block p (lt_block h.row)).trans h.row, h.own.below hb, h.lt⟩
theorem Pu.set1 {w : World} {p B : Nat} {v : Value} {X : List UInt8} {r : Bool} (h : Pu w p B v X r) (x : Bool) : Pu (w.setCell ⟨p, 1, none⟩ (.bool x)) p B v X x :=
  ⟨by rw [heap_setCell_same w p 1 _ 58 _ h.row]; rfl, ownsRow_setCell_below h.own h.lt _, h.lt⟩
/-- what a number is laid as, or nothing -/
def encv (v : Int) : List UInt8 := if vaE v = 0 then enc (szN v) v else []
def badv (v : Int) : Bool := decide (vaE v ≠ 0)
theorem own_val {B n : Nat} {w : World} {v : Value} {xs : List Value} (h : w.ownsRow B 5 1 v n xs) : ∃ o c, v = .slice o n c := by
  obtain ⟨hl, ⟨hv, hn⟩ | ⟨g, cap, cur, he, _⟩⟩ := h
  · subst hn; exact ⟨none, 0, hv⟩
  · exact ⟨_, _, he⟩

/-- behind an append to the putter's bytes -/
theorem pu_after {w w1 w2 : World} {p B : Nat} {o : Option Addr} {c : Nat} {X Y : List UInt8} {x : Bool} {v' : Value} (hg : Gr p B w w1) (hs : Pu w1 p B (.slice o X.length c) X x) (h1 : w2.ownsRow B 5 1 v' (X.length + Y.length) (bc X ++ bc Y)) (h2 : w1.grownBy w2 (Value.slice o X.length c).ownBlock) :
    ∃ o' c', v' = .slice o' (X.length + Y.length) c' ∧ w2.cell? ⟨p, 0, none⟩ = some (.slice o X.length c) ∧ w2.frozen? ⟨p, 0, none⟩ = false ∧ Hid (Pu (w2.setCell ⟨p, 0, none⟩ (.slice o' (X.length + Y.length) c')) p B (.slice o' (X.length + Y.length) c') (X ++ Y) x ∧ Gr p B w (w2.setCell ⟨p, 0, none⟩ (.slice o' (X.length + Y.length) c'))) := by
  obtain ⟨o', c', rfl⟩ := own_val h1
  have hr2 : w2.heap[p]? = some (.cells #[.slice o X.length c, .bool x] 58 (0, 0)) := (h2.block p (lt_block hs.row) (fun e => by have := (hs.own.lt p e.symm).1; have := hs.lt; omega)).trans hs.row
  refine ⟨o', c', rfl, by unfold World.cell?; rw [hr2]; rfl, by unfold World.frozen?; rw [hr2]; simp, ⟨by rw [heap_setCell_same w2 p 0 _ 58 _ hr2]; rfl, ?_, hs.lt⟩, ?_⟩
  · have h3 := ownsRow_setCell_below (a := ⟨p, 0, none⟩) h1 hs.lt (.slice o' (X.length + Y.length) c')
    unfold By
    rw [bc_append, List.length_append]
    exact h3
  · exact (hg.trans (Gr.of_grown hs.own h2)).trans (Gr.set p B 0 w2 _)

set_option maxRecDepth 10000 in
theorem pnumber (p B : Nat) (v : Value) (X : List UInt8) (r : Bool) (n : Int) (w : World) (ht : Tb w) (h : Pu w p B v X r) (hB : B ≤ w.heap.size) (hX : X.length ≤ 70368744177664) :
    Calls Tryd.prog 38 #[.pointer (some ⟨p, 0, none⟩), .int .i64 n] w fun e w' => e = .returned (.tuple #[]) ∧ (∃ v', Pu w' p B v' (X ++ encv n) (r || badv n)) ∧ Gr p B w w' := by
  obtain ⟨i0, hi, hz0, hz1, hz2⟩ := info_parts info5
  have HPV := mkHid (putv_any none [] 0 n w ht (fun j hj => absurd hj (by simp)) (by simp))
  have HP := mkHid h
  obtain ⟨o, c, rfl⟩ := own_val h.own
  clear h ht
  cases r
  all_goals
    go_enter Tryd.func38, Tryd.ntmps38
    go_wp2_with fail
    refine HPV.out.mono ?_
    rintro e w1 ⟨x, rfl, hres, hb1⟩
    have HP1 := mkHid (HP.out.below hb1)
    have HB1 := mkHid hb1
    have hs1 := hb1.size
    by_cases hE : vaE n = 0
    · rw [hE] at hres ⊢
      obtain ⟨g, cp, cur, rfl, hg, hrow, hlen, hsz, htk⟩ := Res_ok hres
      have HE1 : Hid (encv n = enc (szN n) n) := if_pos hE
      have HE2 : Hid (badv n = false) := by show badv n = false; simp [badv, hE]
      rw [List.nil_append] at hlen htk
      obtain ⟨Y, hY⟩ : ∃ Y, enc (szN n) n = Y := ⟨_, rfl⟩
      have hY8 : Y.length ≤ 8 := by rw [← hY]; unfold enc; rw [be_length]; exact szN_le n
      rw [List.nil_append, hY]
      rw [hY] at hlen htk HE1
      have hgp : g ≠ p := by have := HP1.out.lt; omega
      have HSL : Hid (∀ x, Sl (w1.setCell ⟨p, 1, none⟩ x) (some ⟨g, 0, none⟩) Y) := fun x => Sl_own ((Below.heap_setCell w1 ⟨p, 1, none⟩ x g hgp).trans hrow) htk
      have c0 := HP1.out.c0
      have c1 := HP1.out.c1
      have f1 := HP1.out.fr 1
      clear hres hrow hlen hsz htk hb1 hE hY
      go_wp2_with ((at_builtin; refine wpList_append_bytes rfl (.tmp 26) (.tmp 27) rfl B i0 Tryd.underlying22 hi hz0 hz1 hz2 (.slice o X.length c) X.length (bc X) rfl (HP1.out.set1 _).own (some ⟨g, 0, none⟩) Y.length cp Y rfl rfl (fun h => by cases h) (HSL.out _) (by omega) (by simp; omega) ?_; intro v' w2 hown hgrow; obtain ⟨o', c', rfl, m0, mf, HQ⟩ := pu_after ((Gr.of_below HB1.out).trans (Gr.set p B 1 w1 _)) (HP1.out.set1 _) hown hgrow; clear hown hgrow))
      go_end0
      rw [HE1.out, HE2.out]
      exact ⟨rfl, ⟨_, HQ.out.1⟩, HQ.out.2⟩
    · have hx := Res_err hE hres
      subst hx
      have HE1 : Hid (encv n = []) := if_neg hE
      have HE2 : Hid (badv n = true) := by show badv n = true; simp [badv, hE]
      have hEb : (vaE n != 0) = true := by simp [hE]
      have c0 := HP1.out.c0
      have c1 := HP1.out.c1
      have f1 := HP1.out.fr 1
      clear hres hb1 hE
      go_wp2_with ((at_builtin; refine wpList_append_bytes rfl (.tmp 26) (.tmp 27) rfl B i0 Tryd.underlying22 hi hz0 hz1 hz2 (.slice o X.length c) X.length (bc X) rfl (HP1.out.set1 _).own none 0 0 [] rfl rfl (fun _ => ⟨rfl, rfl⟩) (fun j hj => absurd hj (by simp)) (by omega) (by simp; omega) ?_; intro v' w2 hown hgrow; obtain ⟨o', c', rfl, m0, mf, HQ⟩ := pu_after (Y := []) ((Gr.of_below HB1.out).trans (Gr.set p B 1 w1 _)) (HP1.out.set1 _) hown hgrow; clear hown hgrow))
      go_end0
      rw [HE1.out, HE2.out]
      exact ⟨rfl, ⟨_, HQ.out.1⟩, HQ.out.2⟩
end Go.Proofs.YtaeapgkfmofjlaaDoor
namespace Go.Proofs.YtaeapgkfmofjlaaDoor
open Go.ChangeShapes Go.WideShapes Go.ChangeAt Go.RowKit
set_option linter.unusedVariables false

def encs (l : List Int) : List UInt8 := l.flatMap encv
def bads (l : List Int) : Bool := l.any badv
theorem encs_snoc (l : List Int) (x : Int) : encs (l ++ [x]) = encs l ++ encv x := by simp [encs]
theorem bads_snoc (l : List Int) (x : Int) : bads (l ++ [x]) = (bads l || badv x) := by simp [bads]
theorem encv_le (x : Int) : (encv x).length ≤ 8 := by
  unfold encv
  by_cases h : vaE x = 0
  · rw [if_pos h]; unfold enc; rw [be_length]; exact szN_le x
  · rw [if_neg h]; simp
theorem encs_le : ∀ l : List Int, (encs l).length ≤ 8 * l.length
  | [] => by simp [encs]
  | x :: r => by
    have h1 := encs_le r
    have h2 := encv_le x
    simp only [encs, List.flatMap_cons, List.length_append, List.length_cons] at h1 ⊢
    omega
/-- a number that a pointer points to, in memory that no putter turns -/
structure Pt (w : World) (p : Nat) (x : Addr × Int) : Prop where
  ne : x.1.block ≠ p
  cell : w.cell? x.1 = some (.int .i64 x.2)
  kind : ∀ cs fr, w.heap[x.1.block]? ≠ some (.cells cs 5 fr)
theorem Pt.on {p B : Nat} {w w' : World} {x : Addr × Int} (h : Pt w p x) (g : Gr p B w w') : Pt w' p x := by
  have e := g.block x.1.block (World.block_lt_of_cell? w _ h.cell) h.ne (.inr h.kind)
  exact ⟨h.ne, (World.cell?_of_block (a := x.1) e).trans h.cell, fun cs fr => by rw [e]; exact h.kind cs fr⟩
def ptrs (vs : List (Addr × Int)) : Array Value := (vs.map fun x => Value.pointer (some x.1)).toArray
structure PR (w wr : World) (p B : Nat) (X : List UInt8) (r : Bool) (vs : List (Addr × Int)) (k : Nat) : Prop where
  pu : ∃ v, Pu wr p B v (X ++ encs ((vs.take k).map (·.2))) (r || bads ((vs.take k).map (·.2)))
  gr : Gr p B w wr

set_option maxRecDepth 10000 in
theorem pnumbers (p B s : Nat) (v : Value) (X : List UInt8) (r : Bool) (vs : List (Addr × Int)) (w : World) (ht : Tb w) (h : Pu w p B v X r) (hB2 : 2 < B) (hB : B ≤ w.heap.size) (hp2 : 2 ≠ p)
    (hs : w.heap[s]? = some (.cells (ptrs vs) 61 (0, 0))) (hsp : s ≠ p) (hv : ∀ x ∈ vs, Pt w p x) (hX : X.length ≤ 17592186044416) (hn : vs.length ≤ 3) :
    Calls Tryd.prog 21 #[.pointer (some ⟨p, 0, none⟩), .slice (some ⟨s, 0, none⟩) vs.length vs.length] w fun e w' => e = .returned (.tuple #[]) ∧ (∃ v', Pu w' p B v' (X ++ encs (vs.map (·.2))) (r || bads (vs.map (·.2)))) ∧ Gr p B w w' := by
  have H0 : Hid (PR w w p B X r vs 0) := ⟨⟨v, by simpa [encs, bads] using h⟩, Gr.refl _ _ _⟩
  have HT := mkHid ht
  have HS := mkHid hs
  have HV := mkHid hv
  clear ht h hs hv
  go_enter Tryd.func21, Tryd.ntmps21
  go_wp2
  go_loopg [8] (vs.length + 1) (fun m i wr => ∃ k, k ≤ vs.length ∧ m = vs.length + 1 - k ∧ i = .int .i64 (k : Nat) ∧ Hid (PR w wr p B X r vs k))
  case atStart => exact ⟨0, by omega, by omega, rfl, H0⟩
  case round =>
    obtain ⟨k, hk, hm, rfl, HR⟩ := hrel
    clear H0
    by_cases hlt : k < vs.length
    · obtain ⟨x, hx⟩ : ∃ x, vs[k] = x := ⟨_, rfl⟩
      have hpt := (HV.out x (by rw [← hx]; exact List.getElem_mem hlt)).on HR.out.gr
      have es := HR.out.gr.block s (lt_block HS.out) hsp (.inr (fun cs fr => by rw [HS.out]; intro h; injection h with h; injection h with _ h _; cases h))
      have c1 : wr.cell? ⟨s, k, none⟩ = some (.pointer (some x.1)) := by
        unfold World.cell?
        rw [es, HS.out]
        simp [ptrs, List.getElem?_map, List.getElem?_eq_getElem hlt, hx]
      have c2 := hpt.cell
      obtain ⟨a, n⟩ := x
      obtain ⟨v1, hpu⟩ := HR.out.pu
      have hle := encs_le ((vs.take k).map (·.2))
      simp only [List.length_map, List.length_take] at hle
      have HN := mkHid (pnumber p B v1 _ _ n wr (HR.out.gr.tb HT.out hp2 hB2) hpu (Nat.le_trans hB HR.out.gr.size) (by rw [List.length_append]; omega))
      have HTK : Hid ((vs.take (k + 1)).map (·.2) = (vs.take k).map (·.2) ++ [n]) := by
        show _ = _
        rw [List.take_add_one, List.getElem?_eq_getElem hlt, hx]
        simp
      clear hpu hpt es hx hle
      go_wp2_with fail
      refine HN.out.mono ?_
      rintro e w2 ⟨rfl, ⟨v2, hp2'⟩, hg2⟩
      have HR2 : Hid (PR w w2 p B X r vs (k + 1)) := ⟨⟨v2, by rw [HTK.out, encs_snoc, bads_snoc, ← List.append_assoc, ← Bool.or_assoc]; exact hp2'⟩, HR.out.gr.trans hg2⟩
      clear hp2' hg2 HN
      go_wp2
      go_roundg (vs.length + 1 - (k + 1))
      case measure => omega
      case rel => exact ⟨k + 1, by omega, rfl, by go_num, HR2⟩
    · obtain rfl : k = vs.length := by omega
      go_wp2
      go_end0
      have h1 := HR.out.pu
      rw [List.take_length] at h1
      exact ⟨rfl, h1, HR.out.gr⟩
end Go.Proofs.YtaeapgkfmofjlaaDoor
namespace Go.Proofs.YtaeapgkfmofjlaaDoor
open Go.ChangeShapes Go.WideShapes Go.ChangeAt Go.RowKit
set_option linter.unusedVariables false

/-- 'append(v, xs...)' of bytes onto a row of the call's own, as one step of a region that draws its order. -/
theorem step_append_bytes {P : Program} {w : World} {ops : Array Oper} {o : Oper} {a : Act} {K : Act → World → Prop} {Q : Exit → Act → World → Prop} {E : Prop} (hgd : o.guard = none) (s x : Operand)
    (ho : o.op = .call { callee := .builtin .append, args := #[s, x], argTypes := #[22, 22] })
    (base : Nat) (i : TypeInfo) (ht : P.underlying 22 = some (.slice 5)) (hi : P.info? 5 = some i) (hz : i.zero = some (.int .u8 0)) (hsize : i.size = 1) (hby : i.bytes = 1)
    (v : Value) (n : Nat) (xs : List Value) (hs : a.eval s = v) (hown : w.ownsRow base 5 1 v n xs)
    (ao : Option Addr) (m c : Nat) (l : List UInt8) (hx : a.eval x = .slice ao m c) (hl : l.length = m) (hnil : ao = none → m = 0 ∧ c = 0) (hsl : Sl w ao l)
    (hb : n + m ≤ 140737488355328) (hbase : base ≤ w.heap.size)
    (h : ∀ v' w', w'.ownsRow base 5 1 v' (n + m) (xs ++ bc l) → w.grownBy w' v.ownBlock → K (a.put o.dst v') w') : if Region.wanted o (yielded ops a.tmps) = true then Oper.wp P o a w K Q else E := by
  have hw : Region.wanted o (yielded ops a.tmps) = true := by simp [Region.wanted, hgd]
  rw [if_pos hw]
  cases ao with
  | none =>
    obtain ⟨rfl, rfl⟩ := hnil rfl
    obtain rfl : l = [] := List.eq_nil_of_length_eq_zero hl
    have hrun := run_append_owned_none (P := P) (w := w) base 22 o.type 5 i 1 ht hi v n xs hown
    unfold Oper.wp
    simp [execOp, ho, resolve, invoke, builtin, hs, hx, hrun, Result.andThen]
    exact h v w (by simpa [bc] using hown) ⟨rfl, rfl, rfl, Nat.le_refl _, fun _ _ _ => rfl⟩
  | some ad =>
    exact wp_append_own w s x 22 ho base 5 i (.int .u8 0) 1 1 ht hi hz hsize hby rfl (by decide) v n xs hs hown ad m c (bc l) hx (by rw [bc_length]; omega) (Sl_cells hsl) (bc_one l) (by unfold maxLen; omega) (by omega) hbase (fun v' w' h1 h2 _ => h v' w' h1 h2)

theorem Pu.drew {w : World} {p B : Nat} {v : Value} {X : List UInt8} {r : Bool} (h : Pu w p B v X r) : Pu w.drew p B v X r := ⟨h.row, h.own, h.lt⟩

set_option maxRecDepth 10000 in
theorem parray (p B : Nat) (v : Value) (X : List UInt8) (r : Bool) (ao : Option Addr) (c' : Nat) (Y : List UInt8) (m : Nat) (w : World) (h : Pu w p B v X r) (hB : B ≤ w.heap.size) (hX : X.length ≤ 70368744177664) (hY : Y.length ≤ 70368744177664) (hm : Y.length = m) (hs : Sl w ao Y) (hnil : ao = none → m = 0 ∧ c' = 0) :
    Calls Tryd.prog 89 #[.pointer (some ⟨p, 0, none⟩), .slice ao m c'] w fun e w' => e = .returned (.tuple #[]) ∧ (∃ v', Pu w' p B v' (X ++ Y) r) ∧ Gr p B w w' := by
  obtain ⟨i0, hi, hz0, hz1, hz2⟩ := info_parts info5
  have HP := mkHid h
  obtain ⟨o, c, rfl⟩ := own_val h.own
  have HS := mkHid hs
  have HN := mkHid hnil
  have c0 := h.c0
  have HM := mkHid hm
  clear h hs hnil
  subst hm
  go_enter Tryd.func89, Tryd.ntmps89
  go_wp2_with ((at_builtin; refine wpList_append_bytes rfl (.tmp 8) (.tmp 9) rfl B i0 Tryd.underlying22 hi hz0 hz1 hz2 (.slice o X.length c) X.length (bc X) rfl HP.out.own ao Y.length c' Y rfl rfl HN.out HS.out (by omega) hB ?_; intro v' w2 hown hgrow; obtain ⟨o', cc', rfl, m0, mf, HQ⟩ := pu_after (Gr.refl p B w) HP.out hown hgrow; clear hown hgrow))
  go_end0
  exact ⟨rfl, ⟨_, HQ.out.1⟩, HQ.out.2⟩

set_option maxRecDepth 10000 in
theorem prest (p B : Nat) (v : Value) (X : List UInt8) (r : Bool) (a : Addr) (ao : Option Addr) (c' : Nat) (Y : List UInt8) (w : World) (h : Pu w p B v X r) (hB : B ≤ w.heap.size) (hX : X.length ≤ 70368744177664) (hY : Y.length ≤ 1048576) (hs : Sl w ao Y) (hnil : ao = none → Y.length = 0 ∧ c' = 0) (ha : w.cell? a = some (.slice ao Y.length c')) :
    Calls Tryd.prog 93 #[.pointer (some ⟨p, 0, none⟩), .pointer (some a)] w fun e w' => e = .returned (.tuple #[]) ∧ (∃ v', Pu w' p B v' (X ++ Y) r) ∧ Gr p B w w' := by
  obtain ⟨i0, hi, hz0, hz1, hz2⟩ := info_parts info5
  have HP := mkHid h
  obtain ⟨o, c, rfl⟩ := own_val h.own
  have HS := mkHid hs
  have HN := mkHid hnil
  have c0 := h.c0
  have hYb : decide ((1048576 : Int) < (Y.length : Int)) = false := decide_eq_false (by omega)
  clear h hs hnil
  go_enter Tryd.func93, Tryd.ntmps93
  go_wp2
  go_region_law ((refine step_append_bytes rfl (.tmp 16) (.tmp 19) rfl B i0 Tryd.underlying22 hi hz0 hz1 hz2 (.slice o X.length c) X.length (bc X) rfl HP.out.drew.own ao Y.length c' Y rfl rfl HN.out HS.out (by omega) hB ?_; intro v' w2 hown hgrow; obtain ⟨o', cc', rfl, m0, mf, HQ⟩ := pu_after ((Gr.refl p B w).drew) HP.out.drew hown hgrow; clear hown hgrow))
  all_goals
    go_wp2
    go_end0
    exact ⟨rfl, ⟨_, HQ.out.1⟩, HQ.out.2⟩
/-- what is laid of data: nothing, where they are too many -/
def rB (Y : List UInt8) : List UInt8 := if Y.length ≤ 1048576 then Y else []
def bg (Y : List UInt8) : Bool := decide (1048576 < Y.length)
theorem rB_le (Y : List UInt8) : (rB Y).length ≤ 1048576 := by
  unfold rB
  split
  · assumption
  · simp
set_option maxRecDepth 10000 in
theorem prest_big (p B : Nat) (v : Value) (X : List UInt8) (r : Bool) (a : Addr) (ao : Option Addr) (c' : Nat) (n : Nat) (w : World) (h : Pu w p B v X r) (hY : 1048576 < n) (ha : w.cell? a = some (.slice ao n c')) :
    Calls Tryd.prog 93 #[.pointer (some ⟨p, 0, none⟩), .pointer (some a)] w fun e w' => e = .returned (.tuple #[]) ∧ (∃ v', Pu w' p B v' X true) ∧ Gr p B w w' := by
  have HP := mkHid h
  have c1 := h.c1
  have f1 := h.fr 1
  have hYb : decide ((1048576 : Int) < (n : Int)) = true := decide_eq_true (by omega)
  have hYc : (1048576 : Int) < (n : Int) := by omega
  clear h
  go_enter Tryd.func93, Tryd.ntmps93
  go_wp2
  refine bodyPost_ret (results_none rfl _ _ _) rfl ?_
  exact ⟨rfl, ⟨_, HP.out.set1 true⟩, Gr.set p B 1 w _⟩
theorem prest_any (p B : Nat) (v : Value) (X : List UInt8) (r : Bool) (a : Addr) (ao : Option Addr) (c' : Nat) (Y : List UInt8) (w : World) (h : Pu w p B v X r) (hB : B ≤ w.heap.size) (hX : X.length ≤ 70368744177664) (hs : Sl w ao Y) (hnil : ao = none → Y.length = 0 ∧ c' = 0) (ha : w.cell? a = some (.slice ao Y.length c')) :
    Calls Tryd.prog 93 #[.pointer (some ⟨p, 0, none⟩), .pointer (some a)] w fun e w' => e = .returned (.tuple #[]) ∧ (∃ v', Pu w' p B v' (X ++ rB Y) (r || bg Y)) ∧ Gr p B w w' := by
  by_cases hY : Y.length ≤ 1048576
  · have e1 : rB Y = Y := if_pos hY
    have e2 : bg Y = false := decide_eq_false (by omega)
    rw [e1, e2, Bool.or_false]
    exact prest p B v X r a ao c' Y w h hB hX hY hs hnil ha
  · have e1 : rB Y = [] := if_neg hY
    have e2 : bg Y = true := decide_eq_true (by omega)
    rw [e1, e2, Bool.or_true, List.append_nil]
    exact prest_big p B v X r a ao c' Y.length w h (by omega) ha
end Go.Proofs.YtaeapgkfmofjlaaDoor
namespace Go.Proofs.YtaeapgkfmofjlaaDoor
open Go.ChangeShapes Go.WideShapes Go.ChangeAt Go.RowKit
set_option linter.unusedVariables false

theorem Sl.gr {p B : Nat} {w w' : World} {ao : Option Addr} {Y : List UInt8} (h : Gr p B w w') (hs : Sl w ao Y) (hb : ∀ ad, ao = some ad → ad.block < B ∨ ∀ cs fr, w.heap[ad.block]? ≠ some (.cells cs 5 fr)) (hp : ∀ ad, ao = some ad → ad.block ≠ p) : Sl w' ao Y := by
  intro j hj
  obtain ⟨b, off, he, hc⟩ := hs j hj
  refine ⟨b, off, he, ?_⟩
  exact (World.cell?_of_block (w := w) (a := ⟨b, off + j, none⟩) (h.block b (World.block_lt_of_cell? w _ hc) (hp _ he) (hb _ he))).trans hc
/-- a slice of bytes that a pointer points to, both in memory that no putter turns -/
structure Pd (w : World) (p B : Nat) (a : Addr) (ao : Option Addr) (c : Nat) (Y : List UInt8) : Prop where
  ne : a.block ≠ p
  kind : ∀ cs fr, w.heap[a.block]? ≠ some (.cells cs 5 fr)
  cell : w.cell? a = some (.slice ao Y.length c)
  sl : Sl w ao Y
  nil : ao = none → Y.length = 0 ∧ c = 0
  old : ∀ ad, ao = some ad → ad.block < B ∧ ad.block ≠ p
theorem Pd.on {p B : Nat} {w w' : World} {a : Addr} {ao : Option Addr} {c : Nat} {Y : List UInt8} (h : Pd w p B a ao c Y) (g : Gr p B w w') : Pd w' p B a ao c Y := by
  have e := g.block a.block (World.block_lt_of_cell? w _ h.cell) h.ne (.inr h.kind)
  exact ⟨h.ne, fun cs fr => by rw [e]; exact h.kind cs fr, (World.cell?_of_block (a := a) e).trans h.cell, Sl.gr g h.sl (fun ad k => .inl (h.old ad k).1) (fun ad k => (h.old ad k).2), h.nil, h.old⟩

set_option maxRecDepth 10000 in
theorem pcounted (p B : Nat) (v : Value) (X : List UInt8) (r : Bool) (a : Addr) (ao : Option Addr) (c' : Nat) (Y : List UInt8) (w : World) (ht : Tb w) (h : Pu w p B v X r) (hB2 : 2 < B) (hB : B ≤ w.heap.size) (hp2 : 2 ≠ p) (hX : X.length ≤ 17592186044416) (hY : Y.length ≤ 140737488355328) (hd : Pd w p B a ao c' Y) :
    Calls Tryd.prog 90 #[.pointer (some ⟨p, 0, none⟩), .pointer (some a)] w fun e w' => e = .returned (.tuple #[]) ∧ (∃ v', Pu w' p B v' (X ++ encv Y.length ++ rB Y) (r || bg Y)) ∧ Gr p B w w' := by
  have ha := hd.cell
  have HN := mkHid (pnumber p B v X r Y.length w ht h hB (by omega))
  have HD := mkHid hd
  have hle := encv_le Y.length
  have hbad : badv (Y.length : Int) = false := by
    unfold badv vaE
    rw [if_neg (by omega)]
    decide
  rw [hbad, Bool.or_false] at HN
  clear hd h ht hbad
  go_enter Tryd.func90, Tryd.ntmps90
  go_wp2_with fail
  refine HN.out.mono ?_
  rintro e w1 ⟨rfl, ⟨v1, h1⟩, g1⟩
  have HD1 := mkHid (HD.out.on g1)
  have HP1 := mkHid h1
  have HG1 := mkHid g1
  clear h1 g1 HN
  go_wp2_with fail
  refine (prest_any p B v1 _ r a ao c' Y w1 HP1.out (Nat.le_trans hB HG1.out.size) (by rw [List.length_append]; omega) HD1.out.sl HD1.out.nil HD1.out.cell).mono ?_
  rintro e w2 ⟨rfl, ⟨v2, h2⟩, g2⟩
  have HP2 := mkHid h2
  have HG2 := mkHid (HG1.out.trans g2)
  clear h2 g2
  go_wp2
  go_end0
  exact ⟨rfl, ⟨v2, HP2.out⟩, HG2.out⟩

theorem own_row1 {W : World} (x : UInt8) (k : Nat) (hk : W.heap.size = k) : Sl (W.alloc (.cells #[.int .u8 x.toNat] 5)) (some ⟨k, 0, none⟩) [x] := by subst hk; exact Sl_new W x

set_option maxRecDepth 10000 in
set_option maxHeartbeats 1000000 in
theorem pid (p B : Nat) (v : Value) (X : List UInt8) (r : Bool) (a : Addr) (ao : Option Addr) (c' : Nat) (Y : List UInt8) (w : World) (h : Pu w p B v X r) (hB : B ≤ w.heap.size) (hX : X.length ≤ 17592186044416) (hY : Y.length ≤ 20) (hd : Pd w p B a ao c' Y) :
    Calls Tryd.prog 91 #[.pointer (some ⟨p, 0, none⟩), .pointer (some a)] w fun e w' => e = .returned (.tuple #[]) ∧ (∃ v', Pu w' p B v' (X ++ [UInt8.ofNat Y.length] ++ Y) r) ∧ Gr p B w w' := by
  obtain ⟨i0, hi, hz0, hz1, hz2⟩ := info_parts info5
  have HP := mkHid h
  obtain ⟨o, c, rfl⟩ := own_val h.own
  have HD := mkHid hd
  have c0 := h.c0
  have ca := hd.cell
  have hw8 : IntKind.u8.wrap (Y.length : Int) = (Y.length : Int) := by rw [IntKind.wrap_u8]; omega
  obtain ⟨y, hy⟩ : ∃ y : UInt8, UInt8.ofNat Y.length = y := ⟨_, rfl⟩
  have hyv : Value.int .u8 (Y.length : Int) = Value.int .u8 (y.toNat : Int) := by rw [← hy, UInt8.toNat_ofNat']; congr 1; omega
  rw [hy]
  have hsz := lt_block h.row
  have hca : a.block < w.heap.size := World.block_lt_of_cell? w _ ca
  have HW1 : Hid (Gr p B w ((w.alloc (.cells #[.int .u8 (Y.length : Int)] 5)).drew) ∧ Pu ((w.alloc (.cells #[.int .u8 (Y.length : Int)] 5)).drew) p B (.slice o X.length c) X r) := ⟨(Gr.alloc p B w _).drew, (h.below ((Below.refl _ _).alloc (Nat.le_refl _) _)).drew⟩
  have HSL : Hid (Sl ((w.alloc (.cells #[.int .u8 (Y.length : Int)] 5)).drew) (some ⟨w.heap.size, 0, none⟩) [y]) := by rw [hyv]; exact Sl_new w y
  have ca' : (w.alloc (.cells #[.int .u8 (Y.length : Int)] 5)).cell? a = some (.slice ao Y.length c') := (World.cell?_of_block (w := w) (a := a) (Below.heap_alloc _ _ _ hca)).trans ca
  have c0' : (w.alloc (.cells #[.int .u8 (Y.length : Int)] 5)).cell? ⟨p, 0, none⟩ = some (.slice o X.length c) := (World.cell?_of_block (w := w) (a := ⟨p, 0, none⟩) (Below.heap_alloc _ _ _ hsz)).trans c0
  obtain ⟨Z, hZ⟩ : ∃ Z, X ++ [y] = Z := ⟨_, rfl⟩
  rw [hZ]
  have HZ := mkHid hZ
  clear h hd hyv hy hZ
  go_enter Tryd.func91, Tryd.ntmps91
  go_wp2
  go_region_law ((refine step_append_bytes rfl (.tmp 8) (.tmp 14) rfl B i0 Tryd.underlying22 hi hz0 hz1 hz2 (.slice o X.length c) X.length (bc X) rfl HW1.out.2.own (some ⟨w.heap.size, 0, none⟩) 1 1 [y] rfl rfl (fun h => by cases h) HSL.out (by omega) (by simp; omega) ?_; intro v' w2 hown hgrow; obtain ⟨o', cc', rfl, m0, mf, HQ⟩ := pu_after HW1.out.1 HW1.out.2 hown hgrow; clear hown hgrow))
  all_goals
    have hlen : X.length + 1 = Z.length := by rw [← HZ.out]; simp
    have hq : Pu (w2.setCell ⟨p, 0, none⟩ (.slice o' (X.length + 1) cc')) p B (.slice o' (X.length + 1) cc') Z r ∧ Gr p B w (w2.setCell ⟨p, 0, none⟩ (.slice o' (X.length + 1) cc')) := by rw [← HZ.out]; exact HQ.out
    rw [hlen] at hq ⊢
    generalize w2.setCell ⟨p, 0, none⟩ (.slice o' Z.length cc') = W3 at hq ⊢
    have HQ3 := mkHid hq
    have HD3 := mkHid (HD.out.on hq.2)
    have d0 := hq.1.c0
    have da := HD3.out.cell
    have hZ1 : Z.length ≤ 17592186044417 := by omega
    have hB3 : B ≤ W3.heap.size := Nat.le_trans hB hq.2.size
    clear hq hlen HZ HQ HW1 HSL ca' c0' m0 mf
    go_wp2
    go_region_law ((refine step_append_bytes rfl (.tmp 22) (.tmp 25) rfl B i0 Tryd.underlying22 hi hz0 hz1 hz2 (.slice o' Z.length cc') Z.length (bc Z) rfl HQ3.out.1.drew.own ao Y.length c' Y rfl rfl HD3.out.nil HD3.out.sl (by omega) (by simp; omega) ?_; intro v3 w4 hown hgrow; obtain ⟨o4, c4, rfl, n0, nf, HQ4⟩ := pu_after HQ3.out.2.drew HQ3.out.1.drew hown hgrow; clear hown hgrow))
    all_goals
      go_wp2
      go_end0
      exact ⟨rfl, ⟨_, HQ4.out.1⟩, HQ4.out.2⟩
end Go.Proofs.YtaeapgkfmofjlaaDoor
namespace Go.Proofs.YtaeapgkfmofjlaaDoor
open Go.ChangeShapes Go.WideShapes Go.ChangeAt Go.RowKit
set_option linter.unusedVariables false

theorem run_append_zeros0 {P : Program} (w : World) (base : Nat) (ty : TypeId) (i : TypeInfo) (ht : P.underlying 22 = some (.slice 5)) (ht3 : P.underlying 3 = some (.int .i64)) (hi : P.info? 5 = some i) (hz : i.zero = some (.int .u8 0)) (hsize : i.size = 1) (hby : i.bytes = 1)
    (v : Value) (n : Nat) (xs : List Value) (hown : w.ownsRow base 5 1 v n xs) (hne : v ≠ .slice none 0 0) :
    (Builtin.append_ #[22, 3] ty #[v, .int .i64 0]).run P w = .ok v w := by
  rcases hown.2 with ⟨rfl, rfl⟩ | ⟨g, cap, cur, rfl, hbg, hg, hnc, hcm, hcs, htake⟩
  · exact absurd rfl hne
  · have hwr : IntKind.i64.wrap 0 = 0 := by decide
    simp [Builtin.append_, run_underlying ht, run_underlying ht3, sizeOf, typeInfo, zeroValue, hi, hz, hsize, hby, asInt, asIntOf, hwr, hnc]
    rfl
theorem bc_zeros (m : Nat) : List.replicate m (Value.int .u8 0) = bc (List.replicate m 0) := by simp [bc, List.map_replicate]

/-- 'append(v, make([]byte, m)...)' onto a row of the call's own, as one step of a region that draws its order. -/
theorem step_append_zeros {P : Program} {w : World} {ops : Array Oper} {o : Oper} {a : Act} {K : Act → World → Prop} {Q : Exit → Act → World → Prop} {E : Prop} (hgd : o.guard = none) (s x : Operand)
    (ho : o.op = .call { callee := .builtin .append, args := #[s, x], argTypes := #[22, 3] })
    (base : Nat) (i : TypeInfo) (ht : P.underlying 22 = some (.slice 5)) (ht3 : P.underlying 3 = some (.int .i64)) (hi : P.info? 5 = some i) (hz : i.zero = some (.int .u8 0)) (hsize : i.size = 1) (hby : i.bytes = 1)
    (v : Value) (n : Nat) (xs : List Value) (hs : a.eval s = v) (hown : w.ownsRow base 5 1 v n xs) (hne : v ≠ .slice none 0 0) (m : Nat) (hx : a.eval x = .int .i64 (m : Int)) (hb : n + m ≤ 140737488355328) (hbase : base ≤ w.heap.size)
    (h : ∀ v' w', w'.ownsRow base 5 1 v' (n + (List.replicate m (0 : UInt8)).length) (xs ++ bc (List.replicate m 0)) → w.grownBy w' v.ownBlock → K (a.put o.dst v') w') : if Region.wanted o (yielded ops a.tmps) = true then Oper.wp P o a w K Q else E := by
  have hw : Region.wanted o (yielded ops a.tmps) = true := by simp [Region.wanted, hgd]
  rw [if_pos hw]
  by_cases h0 : m = 0
  · subst h0
    have hr := run_append_zeros0 (P := P) w base o.type i ht ht3 hi hz hsize hby v n xs hown hne
    unfold Oper.wp execOp
    simp only [ho, resolve, invoke, builtin, Sem.run_bind, Sem.run_pure, Result.andThen_ok, List.map_toArray, List.map_cons, List.map_nil, hs, hx, Int.natCast_zero, hr]
    exact h v w (by simpa [bc] using hown) ⟨rfl, rfl, rfl, Nat.le_refl _, fun _ _ _ => rfl⟩
  · obtain ⟨v', w', hr, h2, h3⟩ := run_append_zeros (P := P) w base o.type i ht ht3 hi hz hsize hby v n xs hown hne m h0 (by omega) hb hbase
    unfold Oper.wp execOp
    simp only [ho, resolve, invoke, builtin, Sem.run_bind, Sem.run_pure, Result.andThen_ok, List.map_toArray, List.map_cons, List.map_nil, hs, hx, hr]
    refine h v' w' ?_ h3
    rw [List.length_replicate, ← bc_zeros]
    exact h2

set_option maxRecDepth 10000 in
theorem ppadding_no (p B : Nat) (v : Value) (X : List UInt8) (r : Bool) (a : Addr) (n : Int) (w : World) (h : Pu w p B v X r) (ha : w.cell? a = some (.int .i64 n)) (hn : 1048576 < n) :
    Calls Tryd.prog 92 #[.pointer (some ⟨p, 0, none⟩), .pointer (some a)] w fun e w' => e = .returned (.tuple #[]) ∧ (∃ v', Pu w' p B v' X true) ∧ Gr p B w w' := by
  have HP := mkHid h
  have c1 := h.c1
  have f1 := h.fr 1
  clear h
  go_enter Tryd.func92, Tryd.ntmps92
  go_wp2
  refine bodyPost_ret (results_none rfl _ _ _) rfl ?_
  exact ⟨rfl, ⟨_, HP.out.set1 true⟩, Gr.set p B 1 w _⟩

set_option maxRecDepth 10000 in
theorem ppadding_yes (p B : Nat) (v : Value) (X : List UInt8) (r : Bool) (a : Addr) (m : Nat) (w : World) (h : Pu w p B v X r) (hB : B ≤ w.heap.size) (hX0 : 0 < X.length) (hX : X.length ≤ 17592186044416) (ha : w.cell? a = some (.int .i64 (m + 1 : Int))) (hn : m < 1048576) :
    Calls Tryd.prog 92 #[.pointer (some ⟨p, 0, none⟩), .pointer (some a)] w fun e w' => e = .returned (.tuple #[]) ∧ (∃ v', Pu w' p B v' (X ++ List.replicate m 0) r) ∧ Gr p B w w' := by
  obtain ⟨i0, hi, hz0, hz1, hz2⟩ := info_parts info5
  have HP := mkHid h
  obtain ⟨o, c, rfl⟩ := own_val h.own
  have HNE : Hid (Value.slice o X.length c ≠ .slice none 0 0) := by intro e; injection e with e1 e2 e3; omega
  have c0 := h.c0
  have hd : decide ((1048576 : Int) < (m : Int) + 1) = false := decide_eq_false (by omega)
  have hsub : (m : Int) + 1 - 1 = m := by omega
  have hwm : IntKind.i64.wrap (m : Int) = m := by rw [IntKind.wrap_i64]; omega
  obtain ⟨Z, hZ⟩ : ∃ Z, List.replicate m (0 : UInt8) = Z := ⟨_, rfl⟩
  rw [hZ]
  have HZ := mkHid hZ
  clear h hZ
  go_enter Tryd.func92, Tryd.ntmps92
  go_wp2
  go_region_law ((refine step_append_zeros rfl (.tmp 15) (.tmp 19) rfl B i0 Tryd.underlying22 Tryd.underlying3 hi hz0 hz1 hz2 (.slice o X.length c) X.length (bc X) rfl HP.out.drew.own HNE.out m rfl (by omega) hB ?_; rw [HZ.out]; intro v' w2 hown hgrow; obtain ⟨o', cc', rfl, m0, mf, HQ⟩ := pu_after ((Gr.refl p B w).drew) HP.out.drew hown hgrow; clear hown hgrow))
  all_goals
    go_wp2
    go_end0
    exact ⟨rfl, ⟨_, HQ.out.1⟩, HQ.out.2⟩
end Go.Proofs.YtaeapgkfmofjlaaDoor
