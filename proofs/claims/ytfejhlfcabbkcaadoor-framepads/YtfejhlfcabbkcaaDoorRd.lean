/- frame's reader as it lies; what its methods answer where nothing is wrong. -/
import Derived.Test.YtfejhlfcabbkcaaDoorFr
import Derived.Test.YtfejhlfcabbkcaaDoorVarAny
import Derived.Deep.RegionHeld3
import Derived.Deep.LoopGhost
import Derived.Laws.CopyOwn
namespace Go.Proofs.YtfejhlfcabbkcaaDoor
open Go.ChangeShapes Go.WideShapes Go.ChangeAt Go.RowKit
set_option linter.unusedVariables false
set_option maxRecDepth 100000

/-- What has turned lies in X, or is new. -/
def Chg (X : Nat → Prop) (w w' : World) : Prop := w'.os = w.os ∧ w'.tape = w.tape ∧ w'.output = w.output ∧ w.heap.size ≤ w'.heap.size ∧ ∀ k, k < w.heap.size → ¬ X k → w'.heap[k]? = w.heap[k]?
theorem Chg.refl (X : Nat → Prop) (w : World) : Chg X w w := ⟨rfl, rfl, rfl, Nat.le_refl _, fun _ _ _ => rfl⟩
theorem Chg.trans {X : Nat → Prop} {a b c : World} (h : Chg X a b) (k : Chg X b c) : Chg X a c :=
  ⟨k.1.trans h.1, k.2.1.trans h.2.1, k.2.2.1.trans h.2.2.1, Nat.le_trans h.2.2.2.1 k.2.2.2.1, fun j hj hx => (k.2.2.2.2 j (Nat.lt_of_lt_of_le hj h.2.2.2.1) hx).trans (h.2.2.2.2 j hj hx)⟩
theorem Chg.below {X : Nat → Prop} {a b c : World} (h : Chg X a b) (k : Below b.heap.size b c) : Chg X a c :=
  ⟨k.os.trans h.1, k.tape.trans h.2.1, k.output.trans h.2.2.1, Nat.le_trans h.2.2.2.1 k.size, fun j hj hx => (k.block j (Nat.lt_of_lt_of_le hj h.2.2.2.1)).trans (h.2.2.2.2 j hj hx)⟩
theorem Chg.of_below {X : Nat → Prop} {a b : World} (k : Below a.heap.size a b) : Chg X a b := (Chg.refl X a).below k
theorem Chg.mono {X Y : Nat → Prop} {a b : World} (h : Chg X a b) (hxy : ∀ k, X k → Y k) : Chg Y a b := ⟨h.1, h.2.1, h.2.2.1, h.2.2.2.1, fun j hj hy => h.2.2.2.2 j hj fun hx => hy (hxy j hx)⟩
theorem Chg.set {X : Nat → Prop} {a : World} {g : Nat} (j : Nat) (v : Value) {cs : Array Value} {t : TypeId} (hg : a.heap[g]? = some (.cells cs t (0, 0))) (hx : X g) : Chg X a (a.setCell ⟨g, j, none⟩ v) := by
  rw [setCell_eq_setRow a g j _ t (0, 0) _ hg]
  exact ⟨rfl, rfl, rfl, by simp, fun k _ hk => setRow_other a g k _ (fun e => hk (e ▸ hx))⟩
theorem Chg.blk {X : Nat → Prop} {a b : World} (h : Chg X a b) {k : Nat} {o : Obj} (hk : a.heap[k]? = some o) (hx : ¬ X k) : b.heap[k]? = some o :=
  (h.2.2.2.2 k (Array.getElem?_eq_some_iff.1 hk).1 hx).trans hk
theorem Chg.toBelow {X : Nat → Prop} {n : Nat} {a b : World} (h : Chg X a b) (hn : n ≤ a.heap.size) (hx : ∀ k, k < n → ¬ X k) : Below n a b := ⟨h.1, h.2.1, h.2.2.1, h.2.2.2.1, fun k hk => h.2.2.2.2 k (by omega) (hx k hk)⟩
theorem bel1 (w : World) (o : Obj) : Below w.heap.size w (w.alloc o) := (Below.refl _ w).alloc (Nat.le_refl _) o
theorem bel_trans {a b c : World} (h : Below a.heap.size a b) (k : Below b.heap.size b c) : Below a.heap.size a c := h.trans (k.mono h.size)
/-- A reader in block p at a place of bytes, and a frame in block F. -/
structure Rq (w : World) (p F : Nat) (ao : Option Addr) (c : Nat) (l : List UInt8) (at' : Nat) (f : Fr) : Prop where
  rd : w.heap[p]? = some (.cells #[.slice ao l.length c, .int .i64 at', .nilIface] 55 (0, 0))
  fm : Fm w F f
  sl : Sl w ao l
  tb : Tb w
  pf : p ≠ F
  ab : ∀ a, ao = some a → a.block ≠ p ∧ a.block ≠ F
  p1 : 1 ≠ p
  f1 : 1 ≠ F
  ll : l.length ≤ 100000
def Kq (p F : Nat) (k : Nat) : Prop := k = p ∨ k = F
section
variable {w w' : World} {p F : Nat} {ao : Option Addr} {c : Nat} {l : List UInt8} {at' : Nat} {f : Fr}
theorem Tb.chg {X : Nat → Prop} (h : Tb w) (hc : Chg X w w') (hx : ¬ X 1) : Tb w' := by
  obtain ⟨t0, t1, t2, t3⟩ := h
  have e := hc.2.2.2.2 1 (World.block_lt_of_cell? w _ t0) hx
  exact ⟨(World.cell?_of_block (a := ⟨1, 0, none⟩) e).trans t0, (World.cell?_of_block (a := ⟨1, 1, none⟩) e).trans t1, (World.cell?_of_block (a := ⟨1, 2, none⟩) e).trans t2, (World.cell?_of_block (a := ⟨1, 3, none⟩) e).trans t3⟩
theorem Sl.chg {X : Nat → Prop} (h : Sl w ao l) (hc : Chg X w w') (hx : ∀ a, ao = some a → ¬ X a.block) : Sl w' ao l := by
  intro j hj
  obtain ⟨b, off, he, hcl⟩ := h j hj
  refine ⟨b, off, he, ?_⟩
  rw [World.cell?_of_block (a := ⟨b, off + j, none⟩) (hc.2.2.2.2 b (World.block_lt_of_cell? w _ hcl) (hx _ he))]
  exact hcl
theorem Rq.cs (h : Rq w p F ao c l at' f) : w.cell? ⟨p, 0, none⟩ = some (.slice ao l.length c) ∧ w.cell? ⟨p, 1, none⟩ = some (.int .i64 at') ∧ w.cell? ⟨p, 2, none⟩ = some .nilIface ∧ ∀ j, w.frozen? ⟨p, j, none⟩ = false := by
  have h' := h.rd
  refine ⟨?_, ?_, ?_, fun j => ?_⟩ <;> simp [World.cell?, World.frozen?, h']
theorem Rq.bel (h : Rq w p F ao c l at' f) (hb : Below w.heap.size w w') : Rq w' p F ao c l at' f :=
  ⟨(hb.block p (lt_block h.rd)).trans h.rd, (hb.block F (lt_block h.fm)).trans h.fm, Sl_below h.sl hb, h.tb.chg (Chg.of_below (X := fun _ => False) hb) id, h.pf, h.ab, h.p1, h.f1, h.ll⟩
/-- The place set. -/
theorem Rq.go (h : Rq w p F ao c l at' f) (b : Nat) : Rq (w.setCell ⟨p, 1, none⟩ (.int .i64 b)) p F ao c l b f ∧ Chg (Kq p F) w (w.setCell ⟨p, 1, none⟩ (.int .i64 b)) := by
  have hc : Chg (fun k => k = p) w (w.setCell ⟨p, 1, none⟩ (.int .i64 b)) := Chg.set 1 _ h.rd rfl
  refine ⟨⟨?_, hc.blk h.fm fun e => h.pf e.symm, h.sl.chg hc fun a ha e => (h.ab a ha).1 e, h.tb.chg hc fun e => h.p1 e, h.pf, h.ab, h.p1, h.f1, h.ll⟩, hc.mono fun k e => .inl e⟩
  rw [setCell_eq_setRow w p 1 _ 55 (0, 0) _ h.rd, setRow_heap w p _ _ 55 (0, 0) h.rd]
  simp
/-- A cell of the frame set. -/
theorem Rq.put (h : Rq w p F ao c l at' f) (j : Nat) (v : Value) (f' : Fr) (hf : f.cells.toArray.setIfInBounds j v = f'.cells.toArray) : Rq (w.setCell ⟨F, j, none⟩ v) p F ao c l at' f' ∧ Chg (Kq p F) w (w.setCell ⟨F, j, none⟩ v) := by
  have hc : Chg (fun k => k = F) w (w.setCell ⟨F, j, none⟩ v) := Chg.set j _ h.fm rfl
  refine ⟨⟨hc.blk h.rd h.pf, ?_, h.sl.chg hc fun a ha e => (h.ab a ha).2 e, h.tb.chg hc fun e => h.f1 e, h.pf, h.ab, h.p1, h.f1, h.ll⟩, hc.mono fun k e => .inr e⟩
  show (w.setCell ⟨F, j, none⟩ v).heap[F]? = _
  rw [setCell_eq_setRow w F j _ 33 (0, 0) _ h.fm, setRow_heap w F _ _ 33 (0, 0) h.fm, hf]
theorem Fm.fr (h : Fm w F f) (j : Nat) : w.frozen? ⟨F, j, none⟩ = false := by
  have h' : w.heap[F]? = _ := h
  simp [World.frozen?, h']
/-- What a method leaves: the reader at another place, the frame with another value. -/
def Rp (w : World) (p F : Nat) (ao : Option Addr) (c : Nat) (l : List UInt8) (at' : Nat) (f : Fr) (w' : World) : Prop := Rq w' p F ao c l at' f ∧ Chg (Kq p F) w w'
theorem rnumber_c (h : Rq w p F ao c l at' f) (hE : vE l at' = 0) (b : Nat) (hN : vN l at' = b) :
    Calls Tryd.prog 76 #[.pointer (some ⟨p, 0, none⟩)] w fun e w' => e = .returned (.int .i64 (vV l at')) ∧ Rp w p F ao c l b f w' := by
  have hv := var_any ao l c at' w.drew h.tb h.sl (by have := h.ll; omega)
  rw [hE, hN] at hv
  generalize vV l at' = V at *
  obtain ⟨c0, c1, c2, fz⟩ := h.cs
  have hd := h.bel (Below.refl _ w).drew
  obtain ⟨r1, r2⟩ := hd.go b
  have HR : Aside (Rp w p F ao c l b f (w.drew.setCell ⟨p, 1, none⟩ (.int .i64 b))) := ⟨r1, (Chg.of_below (Below.refl _ w).drew).trans r2⟩
  have d0 : w.drew.cell? ⟨p, 0, none⟩ = some (.slice ao l.length c) := c0
  have d1 : w.drew.cell? ⟨p, 1, none⟩ = some (.int .i64 at') := c1
  have f1 : w.drew.frozen? ⟨p, 1, none⟩ = false := fz 1
  clear h hd r1 r2 hE hN fz
  go_enter Tryd.func76, Tryd.ntmps76
  go_wp2_with fail
  go_region_held3 (fun X => X.cell? ⟨p, 0, none⟩ = some (.slice ao l.length c) ∧ X.cell? ⟨p, 1, none⟩ = some (.int .i64 at')) (exact ⟨d0, d1⟩) (first | (go_at_call 19; refine Calls.mono hv ?_; rintro e w4 ⟨rfl, hw4⟩; subst w4))
  clear hv
  go_wp2
  go_ret
  exact ⟨rfl, HR.out⟩
end
end Go.Proofs.YtfejhlfcabbkcaaDoor
