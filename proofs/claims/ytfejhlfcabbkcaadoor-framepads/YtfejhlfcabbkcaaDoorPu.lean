/- The putter as it lies, and what its number answers: a contract. -/
import Derived.Test.YtfejhlfcabbkcaaDoorPuts
import Derived.Test.YtfejhlfcabbkcaaDoorZeros
import Derived.OwnWalk
import Derived.WalkMore
namespace Go.Proofs.YtfejhlfcabbkcaaDoor
open Go.ChangeShapes Go.WideShapes Go.ChangeAt Go.RowKit
set_option linter.unusedVariables false

/-- bytes of the call's own, nil where there are none -/
def By (B : Nat) (w : World) (v : Value) (X : List UInt8) : Prop := w.ownsRow B 5 1 v X.length (bc X)
/-- The putter as it lies in block p: its bytes, and whether it has refused. -/
structure Pu (w : World) (p B : Nat) (v : Value) (X : List UInt8) (r : Bool) : Prop where
  row : w.heap[p]? = some (.cells #[v, .bool r] 47 (0, 0))
  own : By B w v X
  lt : p < B
/-- nothing turns but block p and bytes from block B on -/
structure Gr (p B : Nat) (w w' : World) : Prop where
  os : w'.os = w.os
  tape : w'.tape = w.tape
  output : w'.output = w.output
  size : w.heap.size ≤ w'.heap.size
  block : ∀ k, k < w.heap.size → k ≠ p → (k < B ∨ ∀ cs fr, w.heap[k]? ≠ some (.cells cs 5 fr)) → w'.heap[k]? = w.heap[k]?
theorem Gr.refl (p B : Nat) (w : World) : Gr p B w w := ⟨rfl, rfl, rfl, Nat.le_refl _, fun _ _ _ _ => rfl⟩
theorem Gr.trans {p B : Nat} {a b c : World} (h : Gr p B a b) (k : Gr p B b c) : Gr p B a c :=
  ⟨k.os.trans h.os, k.tape.trans h.tape, k.output.trans h.output, Nat.le_trans h.size k.size, fun i hi hp hc => by
    have e := h.block i hi hp hc
    refine (k.block i (Nat.lt_of_lt_of_le hi h.size) hp ?_).trans e
    rcases hc with hc | hc
    · exact .inl hc
    · exact .inr (fun cs fr => by rw [e]; exact hc cs fr)⟩
theorem Gr.of_below {p B : Nat} {w w' : World} (h : Below w.heap.size w w') : Gr p B w w' := ⟨h.os, h.tape, h.output, h.size, fun k hk _ _ => h.block k hk⟩
theorem Gr.set (p B j : Nat) (w : World) (x : Value) : Gr p B w (w.setCell ⟨p, j, none⟩ x) :=
  ⟨rfl, rfl, rfl, by simp [World.setCell], fun k _ hp _ => Below.heap_setCell _ _ _ _ hp⟩
theorem Gr.alloc (p B : Nat) (w : World) (o : Obj) : Gr p B w (w.alloc o) := .of_below ((Below.refl _ _).alloc (Nat.le_refl _) _)
theorem Gr.drew {p B : Nat} {w w' : World} (h : Gr p B w w') : Gr p B w w'.drew := ⟨h.os, h.tape, h.output, h.size, h.block⟩
theorem Gr.of_grown {p B : Nat} {w w' : World} {v : Value} {n : Nat} {xs : List Value} (ho : w.ownsRow B 5 1 v n xs) (hg : w.grownBy w' v.ownBlock) : Gr p B w w' :=
  ⟨hg.os, hg.tape, hg.output, hg.size, fun k hk _ hc => hg.block k hk (fun e => by
    obtain ⟨hl, ⟨hv, _⟩ | ⟨g, cap, cur, he, k1, k2, k3⟩⟩ := ho
    · subst hv; simp [Value.ownBlock] at e
    · subst he
      simp [Value.ownBlock] at e
      subst e
      rcases hc with hc | hc
      · omega
      · exact hc _ _ k2)⟩
theorem Gr.tb {p B : Nat} {w w' : World} (h : Gr p B w w') (ht : Tb w) (hp : 1 ≠ p) (hB : 1 < B) : Tb w' := by
  obtain ⟨t0, t1, t2, t3⟩ := ht
  have e := h.block 1 (World.block_lt_of_cell? w _ t0) hp (.inl hB)
  exact ⟨(World.cell?_of_block (a := ⟨1, 0, none⟩) e).trans t0, (World.cell?_of_block (a := ⟨1, 1, none⟩) e).trans t1, (World.cell?_of_block (a := ⟨1, 2, none⟩) e).trans t2, (World.cell?_of_block (a := ⟨1, 3, none⟩) e).trans t3⟩
theorem Pu.c0 {w : World} {p B : Nat} {v : Value} {X : List UInt8} {r : Bool} (h : Pu w p B v X r) : w.cell? ⟨p, 0, none⟩ = some v := by unfold World.cell?; rw [h.row]; rfl
theorem Pu.c1 {w : World} {p B : Nat} {v : Value} {X : List UInt8} {r : Bool} (h : Pu w p B v X r) : w.cell? ⟨p, 1, none⟩ = some (.bool r) := by unfold World.cell?; rw [h.row]; rfl
theorem Pu.fr {w : World} {p B : Nat} {v : Value} {X : List UInt8} {r : Bool} (h : Pu w p B v X r) (j : Nat) : w.frozen? ⟨p, j, none⟩ = false := by unfold World.frozen?; rw [h.row]; simp
theorem By.below {B : Nat} {w w' : World} {v : Value} {X : List UInt8} (h : By B w v X) (hb : Below w.heap.size w w') : By B w' v X := by
  obtain ⟨hl, hc | ⟨g, cap, cur, he, k1, k2, k3⟩⟩ := h
  · exact ⟨hl, .inl hc⟩
  · exact ⟨hl, .inr ⟨g, cap, cur, he, k1, (hb.block g (lt_block k2)).trans k2, k3⟩⟩
theorem Pu.below {w w' : World} {p B : Nat} {v : Value} {X : List UInt8} {r : Bool} (h : Pu w p B v X r) (hb : Below w.heap.size w w') : Pu w' p B v X r :=
  ⟨(hb.block p (lt_block h.row)).trans h.row, h.own.below hb, h.lt⟩
theorem Pu.set1 {w : World} {p B : Nat} {v : Value} {X : List UInt8} {r : Bool} (h : Pu w p B v X r) (x : Bool) : Pu (w.setCell ⟨p, 1, none⟩ (.bool x)) p B v X x :=
  ⟨by rw [heap_setCell_same w p 1 _ 47 _ h.row]; rfl, ownsRow_setCell_below h.own h.lt _, h.lt⟩
/-- what a number is laid as, or nothing -/
def encv (v : Int) : List UInt8 := if vaE v = 0 then enc (szN v) v else []
def badv (v : Int) : Bool := decide (vaE v ≠ 0)
theorem own_val {B n : Nat} {w : World} {v : Value} {xs : List Value} (h : w.ownsRow B 5 1 v n xs) : ∃ o c, v = .slice o n c := by
  obtain ⟨hl, ⟨hv, hn⟩ | ⟨g, cap, cur, he, _⟩⟩ := h
  · subst hn; exact ⟨none, 0, hv⟩
  · exact ⟨_, _, he⟩

/-- behind an append to the putter's bytes -/
theorem pu_after {w w1 w2 : World} {p B : Nat} {o : Option Addr} {c : Nat} {X Y : List UInt8} {x : Bool} {v' : Value} (hg : Gr p B w w1) (hs : Pu w1 p B (.slice o X.length c) X x) (h1 : w2.ownsRow B 5 1 v' (X.length + Y.length) (bc X ++ bc Y)) (h2 : w1.grownBy w2 (Value.slice o X.length c).ownBlock) :
    ∃ o' c', v' = .slice o' (X.length + Y.length) c' ∧ w2.cell? ⟨p, 0, none⟩ = some (.slice o X.length c) ∧ w2.frozen? ⟨p, 0, none⟩ = false ∧ Hid (Pu (w2.setCell ⟨p, 0, none⟩ (.slice o' (X.length + Y.length) c')) p B (.slice o' (X.length + Y.length) c') (X ++ Y) x ∧ Gr p B w (w2.setCell ⟨p, 0, none⟩ (.slice o' (X.length + Y.length) c'))) := by
  obtain ⟨o', c', rfl⟩ := own_val h1
  have hr2 : w2.heap[p]? = some (.cells #[.slice o X.length c, .bool x] 47 (0, 0)) := (h2.block p (lt_block hs.row) (fun e => by have := (hs.own.lt p e.symm).1; have := hs.lt; omega)).trans hs.row
  refine ⟨o', c', rfl, by unfold World.cell?; rw [hr2]; rfl, by unfold World.frozen?; rw [hr2]; simp, ⟨by rw [heap_setCell_same w2 p 0 _ 47 _ hr2]; rfl, ?_, hs.lt⟩, ?_⟩
  · have h3 := ownsRow_setCell_below (a := ⟨p, 0, none⟩) h1 hs.lt (.slice o' (X.length + Y.length) c')
    unfold By
    rw [bc_append, List.length_append]
    exact h3
  · exact (hg.trans (Gr.of_grown hs.own h2)).trans (Gr.set p B 0 w2 _)

set_option maxRecDepth 10000 in
theorem pnumber (p B : Nat) (v : Value) (X : List UInt8) (r : Bool) (n : Int) (w : World) (ht : Tb w) (h : Pu w p B v X r) (hB : B ≤ w.heap.size) (hX : X.length ≤ 70368744177664) :
    Calls Tryd.prog 17 #[.pointer (some ⟨p, 0, none⟩), .int .i64 n] w fun e w' => e = .returned (.tuple #[]) ∧ (∃ v', Pu w' p B v' (X ++ encv n) (r || badv n)) ∧ Gr p B w w' := by
  obtain ⟨i0, hi, hz0, hz1, hz2⟩ := info_parts info5
  have HPV := mkHid (putv_any none [] 0 n w ht (fun j hj => absurd hj (by simp)) (by simp))
  have HP := mkHid h
  obtain ⟨o, c, rfl⟩ := own_val h.own
  clear h ht
  cases r
  all_goals
    go_enter Tryd.func17, Tryd.ntmps17
    go_wp2_with fail
    refine HPV.out.mono ?_
    rintro e w1 ⟨x, rfl, hres, hb1⟩
    have HP1 := mkHid (HP.out.below hb1)
    have HB1 := mkHid hb1
    have hs1 := hb1.size
    by_cases hE : vaE n = 0
    · rw [hE] at hres ⊢
      obtain ⟨g, cp, cur, rfl, hg, hrow, hlen, hsz, htk⟩ := Res_ok hres
      have HE1 : Hid (encv n = enc (szN n) n) := if_pos hE
      have HE2 : Hid (badv n = false) := by show badv n = false; simp [badv, hE]
      rw [List.nil_append] at hlen htk
      obtain ⟨Y, hY⟩ : ∃ Y, enc (szN n) n = Y := ⟨_, rfl⟩
      have hY8 : Y.length ≤ 8 := by rw [← hY]; unfold enc; rw [be_length]; exact szN_le n
      rw [List.nil_append, hY]
      rw [hY] at hlen htk HE1
      have hgp : g ≠ p := by have := HP1.out.lt; omega
      have HSL : Hid (∀ x, Sl (w1.setCell ⟨p, 1, none⟩ x) (some ⟨g, 0, none⟩) Y) := fun x => Sl_own ((Below.heap_setCell w1 ⟨p, 1, none⟩ x g hgp).trans hrow) htk
      have c0 := HP1.out.c0
      have c1 := HP1.out.c1
      have f1 := HP1.out.fr 1
      clear hres hrow hlen hsz htk hb1 hE hY
      go_wp2_with ((at_builtin; refine wpList_append_bytes rfl (.tmp 26) (.tmp 27) rfl B i0 Tryd.underlying27 hi hz0 hz1 hz2 (.slice o X.length c) X.length (bc X) rfl (HP1.out.set1 _).own (some ⟨g, 0, none⟩) Y.length cp Y rfl rfl (fun h => by cases h) (HSL.out _) (by omega) (by simp; omega) ?_; intro v' w2 hown hgrow; obtain ⟨o', c', rfl, m0, mf, HQ⟩ := pu_after ((Gr.of_below HB1.out).trans (Gr.set p B 1 w1 _)) (HP1.out.set1 _) hown hgrow; clear hown hgrow))
      go_end0
      rw [HE1.out, HE2.out]
      exact ⟨rfl, ⟨_, HQ.out.1⟩, HQ.out.2⟩
    · have hx := Res_err hE hres
      subst hx
      have HE1 : Hid (encv n = []) := if_neg hE
      have HE2 : Hid (badv n = true) := by show badv n = true; simp [badv, hE]
      have hEb : (vaE n != 0) = true := by simp [hE]
      have c0 := HP1.out.c0
      have c1 := HP1.out.c1
      have f1 := HP1.out.fr 1
      clear hres hb1 hE
      go_wp2_with ((at_builtin; refine wpList_append_bytes rfl (.tmp 26) (.tmp 27) rfl B i0 Tryd.underlying27 hi hz0 hz1 hz2 (.slice o X.length c) X.length (bc X) rfl (HP1.out.set1 _).own none 0 0 [] rfl rfl (fun _ => ⟨rfl, rfl⟩) (fun j hj => absurd hj (by simp)) (by omega) (by simp; omega) ?_; intro v' w2 hown hgrow; obtain ⟨o', c', rfl, m0, mf, HQ⟩ := pu_after (Y := []) ((Gr.of_below HB1.out).trans (Gr.set p B 1 w1 _)) (HP1.out.set1 _) hown hgrow; clear hown hgrow))
      go_end0
      rw [HE1.out, HE2.out]
      exact ⟨rfl, ⟨_, HQ.out.1⟩, HQ.out.2⟩
end Go.Proofs.YtfejhlfcabbkcaaDoor
