/- What a loop's rounds leave alone: every block but those of X and the row of the slice in the box Bl. -/
import Derived.Test.YtlobnlkpbenngaaBk
import Derived.Test.YtlobnlkpbenngaaColW
namespace Go.Proofs.YtlobnlkpbenngaaR
open Go.RowKit Go.Shelf Go.Lib
set_option linter.unusedVariables false

/-- Block b holds o, and is none of X, nor the row of the slice in Bl. -/
def Hs (X : Nat → Prop) (Bl b : Nat) (o : Obj) (W : World) : Prop := W.heap[b]? = some o ∧ ¬ X b ∧ ∀ n c, W.cell? ⟨Bl, 0, none⟩ ≠ some (.slice (some ⟨b, 0, none⟩) n c)
def St (X : Nat → Prop) (Bl : Nat) (W W' : World) : Prop := W'.os = W.os ∧ W'.tape = W.tape ∧ W'.output = W.output ∧ W.heap.size ≤ W'.heap.size ∧ ∀ b o, Hs X Bl b o W → Hs X Bl b o W'
/-- The row of the slice in Bl is there. -/
def Ri (Bl : Nat) (W : World) : Prop := Bl < W.heap.size ∧ ∀ k n c, W.cell? ⟨Bl, 0, none⟩ = some (.slice (some ⟨k, 0, none⟩) n c) → k < W.heap.size

theorem St.refl (X : Nat → Prop) (Bl : Nat) (W : World) : St X Bl W W := ⟨rfl, rfl, rfl, Nat.le_refl _, fun _ _ h => h⟩
theorem St.trans {X : Nat → Prop} {Bl : Nat} {A B C : World} (h : St X Bl A B) (k : St X Bl B C) : St X Bl A C :=
  ⟨k.1.trans h.1, k.2.1.trans h.2.1, k.2.2.1.trans h.2.2.1, Nat.le_trans h.2.2.2.1 k.2.2.2.1, fun b o hb => k.2.2.2.2 b o (h.2.2.2.2 b o hb)⟩
theorem Hs.st {X : Nat → Prop} {Bl b : Nat} {o : Obj} {W W' : World} (h : Hs X Bl b o W) (hs : St X Bl W W') : Hs X Bl b o W' := hs.2.2.2.2 b o h
theorem Hs.wide {X Y : Nat → Prop} {Bl b : Nat} {o : Obj} {W : World} (h : Hs X Bl b o W) (hb : ¬ Y b) : Hs Y Bl b o W := ⟨h.1, hb, h.2.2⟩
/-- What leaves more alone. -/
theorem St.mono {X Y : Nat → Prop} {Bl : Nat} {A B : World} (h : St X Bl A B) (hXY : ∀ k, X k → Y k) : St Y Bl A B :=
  ⟨h.1, h.2.1, h.2.2.1, h.2.2.2.1, fun b o hb => (h.2.2.2.2 b o (hb.wide (fun hx => hb.2.1 (hXY b hx)))).wide hb.2.1⟩
theorem St.below {X : Nat → Prop} {Bl : Nat} {A B : World} (h : Below A.heap.size A B) (hBl : Bl < A.heap.size) : St X Bl A B :=
  ⟨h.os, h.tape, h.output, h.size, fun b o hb => ⟨(h.block b (Array.getElem?_eq_some_iff.1 hb.1).1).trans hb.1, hb.2.1, fun n c e => hb.2.2 n c ((h.cell (p := ⟨Bl, 0, none⟩) hBl).symm.trans e)⟩⟩
theorem St.alloc {X : Nat → Prop} {Bl : Nat} {A : World} (o : Obj) (hBl : Bl < A.heap.size) : St X Bl A (A.alloc o) := St.below ((Below.refl _ A).alloc (Nat.le_refl _) _) hBl
/-- A record of X is turned. -/
theorem St.put {X : Nat → Prop} {Bl l : Nat} {A : World} (o' : Obj) (hl : X l) (hne : Bl ≠ l) : St X Bl A (A.putObj l o') :=
  ⟨rfl, rfl, rfl, by simp [World.putObj], fun b o hb => ⟨(World.putObj_heap_other (by rintro rfl; exact hb.2.1 hl)).trans hb.1, hb.2.1, fun n c e => hb.2.2 n c (by rwa [cell?_putObj_other o' (by exact hne)] at e)⟩⟩
theorem Hs.put {X : Nat → Prop} {Bl b l : Nat} {o : Obj} {W : World} (h : Hs X Bl b o W) (o' : Obj) (hl : b ≠ l) (hne : Bl ≠ l) : Hs X Bl b o (W.putObj l o') :=
  ⟨(World.putObj_heap_other hl).trans h.1, h.2.1, fun n c e => h.2.2 n c (by rwa [cell?_putObj_other o' (by exact hne)] at e)⟩
theorem Hs.below {X : Nat → Prop} {Bl b : Nat} {o : Obj} {W W' : World} (h : Hs X Bl b o W) (hb : Below W.heap.size W W') (hBl : Bl < W.heap.size) : Hs X Bl b o W' := h.st (St.below hb hBl)
/-- A new block. -/
theorem Hs.new {X : Nat → Prop} {Bl : Nat} {W : World} (o : Obj) (hr : Ri Bl W) (hX : ¬ X W.heap.size) : Hs X Bl W.heap.size o (W.alloc o) := by
  refine ⟨World.alloc_heap_new W o, hX, fun n c e => ?_⟩
  rw [World.cell?_alloc_lt _ _ _ hr.1] at e
  have := hr.2 _ n c e
  omega
/-- A block that lay not yet in W. -/
theorem Hs.newer {X : Nat → Prop} {Bl b : Nat} {W W' : World} (o : Obj) (hr : Ri Bl W) (hb : Below W.heap.size W W') (hX : ¬ X b) (hn : W.heap.size ≤ b) (ho : W'.heap[b]? = some o) : Hs X Bl b o W' := by
  refine ⟨ho, hX, fun n c e => ?_⟩
  rw [hb.cell (p := ⟨Bl, 0, none⟩) hr.1] at e
  have := hr.2 _ n c e
  omega
theorem Hs.cell0 {X : Nat → Prop} {Bl b : Nat} {Y : Array Value} {t : TypeId} {W : World} (h : Hs X Bl b (.cells Y t (0, 0)) W) (j : Nat) : W.cell? ⟨b, j, none⟩ = Y[j]? := by
  have := h.1
  simp [World.cell?, this]
theorem Ri.below {Bl : Nat} {W W' : World} (h : Ri Bl W) (hb : Below W.heap.size W W') : Ri Bl W' :=
  ⟨Nat.lt_of_lt_of_le h.1 hb.size, fun k n c e => Nat.lt_of_lt_of_le (h.2 k n c ((hb.cell (p := ⟨Bl, 0, none⟩) h.1).symm.trans e)) hb.size⟩

/-- J speaks of cells, and of what lay before B, alone. -/
structure Ab (B : Nat) (J : Nat → World → Prop) : Prop where
  g1 : ∀ k A A', J k A → Below A.heap.size A A' → J k A'
  g2 : ∀ k A l o o', J k A → B ≤ l → A.heap[l]? = some o → o.isCells = false → J k (A.putObj l o')
theorem Ab.alloc {B : Nat} {J : Nat → World → Prop} (h : Ab B J) {k : Nat} {A : World} (o : Obj) (hj : J k A) : J k (A.alloc o) := h.g1 k A _ hj ((Below.refl _ A).alloc (Nat.le_refl _) _)

/-- What yield answers of the k-th, with what it leaves alone. -/
def YK (J Jx : Nat → World → Prop) (Kp : World → World → Prop) (k : Nat) (W : World) (e : Ending) (W' : World) : Prop := (e = .returned (.bool true) ∧ J (k + 1) W' ∧ Kp W W') ∨ (e = .returned (.bool false) ∧ Jx (k + 1) W' ∧ Kp W W')
end Go.Proofs.YtlobnlkpbenngaaR
