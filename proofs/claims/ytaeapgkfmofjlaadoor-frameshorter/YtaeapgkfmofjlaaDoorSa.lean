/- frame's reader as it lies, with its verdict; fail and number, of every state. -/
import Derived.Test.YtaeapgkfmofjlaaDoorAz
import Derived.Test.YtaeapgkfmofjlaaDoorVarAny
import Derived.Deep.RegionHeld3
import Derived.Deep.LoopGhost
import Derived.Laws.CopyOwn
import Derived.LaidEql
import Derived.Stop.IfaceNil
namespace Go.Proofs.YtaeapgkfmofjlaaDoor
open Go.ChangeShapes Go.WideShapes Go.ChangeAt Go.RowKit
set_option linter.unusedVariables false
set_option maxRecDepth 100000

/-- What has turned lies in X, or is new. -/
def Chg (X : Nat → Prop) (w w' : World) : Prop := w'.os = w.os ∧ w'.tape = w.tape ∧ w'.output = w.output ∧ w.heap.size ≤ w'.heap.size ∧ ∀ k, k < w.heap.size → ¬ X k → w'.heap[k]? = w.heap[k]?
theorem Chg.refl (X : Nat → Prop) (w : World) : Chg X w w := ⟨rfl, rfl, rfl, Nat.le_refl _, fun _ _ _ => rfl⟩
theorem Chg.trans {X : Nat → Prop} {a b c : World} (h : Chg X a b) (k : Chg X b c) : Chg X a c :=
  ⟨k.1.trans h.1, k.2.1.trans h.2.1, k.2.2.1.trans h.2.2.1, Nat.le_trans h.2.2.2.1 k.2.2.2.1, fun j hj hx => (k.2.2.2.2 j (Nat.lt_of_lt_of_le hj h.2.2.2.1) hx).trans (h.2.2.2.2 j hj hx)⟩
theorem Chg.below {X : Nat → Prop} {a b c : World} (h : Chg X a b) (k : Below b.heap.size b c) : Chg X a c :=
  ⟨k.os.trans h.1, k.tape.trans h.2.1, k.output.trans h.2.2.1, Nat.le_trans h.2.2.2.1 k.size, fun j hj hx => (k.block j (Nat.lt_of_lt_of_le hj h.2.2.2.1)).trans (h.2.2.2.2 j hj hx)⟩
theorem Chg.of_below {X : Nat → Prop} {a b : World} (k : Below a.heap.size a b) : Chg X a b := (Chg.refl X a).below k
theorem Chg.mono {X Y : Nat → Prop} {a b : World} (h : Chg X a b) (hxy : ∀ k, X k → Y k) : Chg Y a b := ⟨h.1, h.2.1, h.2.2.1, h.2.2.2.1, fun j hj hy => h.2.2.2.2 j hj fun hx => hy (hxy j hx)⟩
theorem Chg.set {X : Nat → Prop} {a : World} {g : Nat} (j : Nat) (v : Value) {cs : Array Value} {t : TypeId} (hg : a.heap[g]? = some (.cells cs t (0, 0))) (hx : X g) : Chg X a (a.setCell ⟨g, j, none⟩ v) := by
  rw [setCell_eq_setRow a g j _ t (0, 0) _ hg]
  exact ⟨rfl, rfl, rfl, by simp, fun k _ hk => setRow_other a g k _ (fun e => hk (e ▸ hx))⟩
theorem Chg.blk {X : Nat → Prop} {a b : World} (h : Chg X a b) {k : Nat} {o : Obj} (hk : a.heap[k]? = some o) (hx : ¬ X k) : b.heap[k]? = some o :=
  (h.2.2.2.2 k (Array.getElem?_eq_some_iff.1 hk).1 hx).trans hk
theorem Chg.toBelow {X : Nat → Prop} {n : Nat} {a b : World} (h : Chg X a b) (hn : n ≤ a.heap.size) (hx : ∀ k, k < n → ¬ X k) : Below n a b := ⟨h.1, h.2.1, h.2.2.1, h.2.2.2.1, fun k hk => h.2.2.2.2 k (by omega) (hx k hk)⟩
theorem bel_trans {a b c : World} (h : Below a.heap.size a b) (k : Below b.heap.size b c) : Below a.heap.size a c := h.trans (k.mono h.size)
/-- A verdict: 0 of none, -1 of the sentinel, else a number. -/
def eV (wa : Option Addr) (e : Int) : Value := if e = 0 then .nilIface else if e = -1 then .iface 155 (.pointer wa) else .iface 29 (.int .i64 e)
theorem eV_0 (wa : Option Addr) : eV wa 0 = .nilIface := rfl
theorem eV_num (wa : Option Addr) {e : Int} (h0 : e ≠ 0) (h1 : e ≠ -1) : eV wa e = .iface 29 (.int .i64 e) := by unfold eV; rw [if_neg h0, if_neg h1]
theorem eV_some (wa : Option Addr) {e : Int} (h0 : e ≠ 0) : ∃ T v, eV wa e = .iface T v := by
  unfold eV
  rw [if_neg h0]
  split
  · exact ⟨_, _, rfl⟩
  · exact ⟨_, _, rfl⟩
theorem eV_one (wa : Option Addr) (e : Int) : (eV wa e).oneCell' = true := by
  unfold eV
  split
  · rfl
  · split <;> rfl
/-- A place and a verdict. -/
abbrev Sq := Nat × Int
/-- A reader in block p at a place of bytes, with its verdict, and a frame in block F. -/
structure Rz (w : World) (p F g off c : Nat) (wa : Option Addr) (l : List UInt8) (s : Sq) (f : Fr) : Prop where
  rd : w.heap[p]? = some (.cells #[.slice (some ⟨g, off, none⟩) l.length c, .int .i64 s.1, eV wa s.2] 69 (0, 0))
  fm : Fm w F f
  sl : Sl w (some ⟨g, off, none⟩) l
  tb : Tb w
  pf : p ≠ F
  gp : g ≠ p
  gf : g ≠ F
  p2 : 2 ≠ p
  f2 : 2 ≠ F
  ll : l.length ≤ 200000000000000
  lc : l.length ≤ c
  la : s.1 ≤ l.length
  gs : g < w.heap.size
def Kq (p F : Nat) (k : Nat) : Prop := k = p ∨ k = F
section
variable {w w' : World} {p F g off c : Nat} {wa : Option Addr} {l : List UInt8} {s : Sq} {f : Fr}
theorem Tb.chg {X : Nat → Prop} (h : Tb w) (hc : Chg X w w') (hx : ¬ X 2) : Tb w' := by
  obtain ⟨t0, t1, t2, t3⟩ := h
  have e := hc.2.2.2.2 2 (World.block_lt_of_cell? w _ t0) hx
  exact ⟨(World.cell?_of_block (a := ⟨2, 0, none⟩) e).trans t0, (World.cell?_of_block (a := ⟨2, 1, none⟩) e).trans t1, (World.cell?_of_block (a := ⟨2, 2, none⟩) e).trans t2, (World.cell?_of_block (a := ⟨2, 3, none⟩) e).trans t3⟩
theorem Sl.chg {X : Nat → Prop} {ao : Option Addr} (h : Sl w ao l) (hc : Chg X w w') (hx : ∀ a, ao = some a → ¬ X a.block) : Sl w' ao l := by
  intro j hj
  obtain ⟨b, off, he, hcl⟩ := h j hj
  refine ⟨b, off, he, ?_⟩
  rw [World.cell?_of_block (a := ⟨b, off + j, none⟩) (hc.2.2.2.2 b (World.block_lt_of_cell? w _ hcl) (hx _ he))]
  exact hcl
theorem Rz.cs (h : Rz w p F g off c wa l s f) : w.cell? ⟨p, 0, none⟩ = some (.slice (some ⟨g, off, none⟩) l.length c) ∧ w.cell? ⟨p, 1, none⟩ = some (.int .i64 s.1) ∧ w.cell? ⟨p, 2, none⟩ = some (eV wa s.2) ∧ ∀ j, w.frozen? ⟨p, j, none⟩ = false := by
  have h' := h.rd
  refine ⟨?_, ?_, ?_, fun j => ?_⟩ <;> simp [World.cell?, World.frozen?, h']
theorem Rz.on {X : Nat → Prop} (h : Rz w p F g off c wa l s f) (hc : Chg X w w') (hp : ¬ X p) (hF : ¬ X F) (hg : ¬ X g) (h2 : ¬ X 2) : Rz w' p F g off c wa l s f :=
  ⟨hc.blk h.rd hp, hc.blk h.fm hF, h.sl.chg hc (fun a e => by cases e; exact hg), h.tb.chg hc h2, h.pf, h.gp, h.gf, h.p2, h.f2, h.ll, h.lc, h.la, Nat.lt_of_lt_of_le h.gs hc.2.2.2.1⟩
theorem Rz.bel (h : Rz w p F g off c wa l s f) (hb : Below w.heap.size w w') : Rz w' p F g off c wa l s f := h.on (X := fun _ => False) (Chg.of_below hb) id id id id
theorem Rz.row (h : Rz w p F g off c wa l s f) (j : Nat) (v : Value) (s' : Sq) (hs : s'.1 ≤ l.length) (hr : (#[.slice (some ⟨g, off, none⟩) l.length c, .int .i64 s.1, eV wa s.2] : Array Value).setIfInBounds j v = #[.slice (some ⟨g, off, none⟩) l.length c, .int .i64 s'.1, eV wa s'.2]) : Rz (w.setCell ⟨p, j, none⟩ v) p F g off c wa l s' f ∧ Chg (Kq p F) w (w.setCell ⟨p, j, none⟩ v) := by
  have hc : Chg (fun k => k = p) w (w.setCell ⟨p, j, none⟩ v) := Chg.set j _ h.rd rfl
  refine ⟨⟨?_, hc.blk h.fm fun e => h.pf e.symm, h.sl.chg hc fun a ha e => by cases ha; exact h.gp e, h.tb.chg hc fun e => h.p2 e, h.pf, h.gp, h.gf, h.p2, h.f2, h.ll, h.lc, hs, Nat.lt_of_lt_of_le h.gs hc.2.2.2.1⟩, hc.mono fun k e => .inl e⟩
  rw [setCell_eq_setRow w p j _ 69 (0, 0) _ h.rd, setRow_heap w p _ _ 69 (0, 0) h.rd, hr]
/-- The place set. -/
theorem Rz.go (h : Rz w p F g off c wa l s f) (b : Nat) (hb : b ≤ l.length) : Rz (w.setCell ⟨p, 1, none⟩ (.int .i64 b)) p F g off c wa l (b, s.2) f ∧ Chg (Kq p F) w (w.setCell ⟨p, 1, none⟩ (.int .i64 b)) := h.row 1 _ (b, s.2) hb rfl
/-- The verdict set. -/
theorem Rz.bad (h : Rz w p F g off c wa l s f) (e : Int) : Rz (w.setCell ⟨p, 2, none⟩ (eV wa e)) p F g off c wa l (s.1, e) f ∧ Chg (Kq p F) w (w.setCell ⟨p, 2, none⟩ (eV wa e)) := h.row 2 _ (s.1, e) h.la rfl
/-- A cell of the frame set. -/
theorem Rz.put (h : Rz w p F g off c wa l s f) (j : Nat) (v : Value) (f' : Fr) (hf : f.cells.toArray.setIfInBounds j v = f'.cells.toArray) : Rz (w.setCell ⟨F, j, none⟩ v) p F g off c wa l s f' ∧ Chg (Kq p F) w (w.setCell ⟨F, j, none⟩ v) := by
  have hc : Chg (fun k => k = F) w (w.setCell ⟨F, j, none⟩ v) := Chg.set j _ h.fm rfl
  refine ⟨⟨hc.blk h.rd h.pf, ?_, h.sl.chg hc fun a ha e => by cases ha; exact h.gf e, h.tb.chg hc fun e => h.f2 e, h.pf, h.gp, h.gf, h.p2, h.f2, h.ll, h.lc, h.la, Nat.lt_of_lt_of_le h.gs hc.2.2.2.1⟩, hc.mono fun k e => .inr e⟩
  show (w.setCell ⟨F, j, none⟩ v).heap[F]? = _
  rw [setCell_eq_setRow w F j _ 28 (0, 0) _ h.fm, setRow_heap w F _ _ 28 (0, 0) h.fm, hf]
theorem Fm.fr (h : Fm w F f) (j : Nat) : w.frozen? ⟨F, j, none⟩ = false := by
  have h' : w.heap[F]? = _ := h
  simp [World.frozen?, h']
/-- What a method leaves: the reader at another place, the frame with another value. -/
def Rp (w : World) (p F g off c : Nat) (wa : Option Addr) (l : List UInt8) (s : Sq) (f : Fr) (w' : World) : Prop := Rz w' p F g off c wa l s f ∧ Chg (Kq p F) w w'
/-- The first fault stays. -/
def flt (s : Sq) (k : Int) : Sq := (s.1, if s.2 = 0 then k else s.2)
theorem rfail_c (h : Rz w p F g off c wa l s f) (k : Int) (hk : k ≠ 0) : Calls Tryd.prog 30 #[.pointer (some ⟨p, 0, none⟩), eV wa k] w fun e w' => e = .returned (.tuple #[]) ∧ Rp w p F g off c wa l (flt s k) f w' := by
  obtain ⟨c0, c1, c2, fz⟩ := h.cs
  have f2 := fz 2
  obtain ⟨r1, r2⟩ := h.bad k
  obtain ⟨T0, v0, hv0⟩ := eV_some wa hk
  rw [hv0] at r1 r2 ⊢
  by_cases h0 : s.2 = 0
  · have hq : flt s k = (s.1, k) := by unfold flt; rw [if_pos h0]
    rw [hq]
    have HR : Aside (Rp w p F g off c wa l (s.1, k) f (w.setCell ⟨p, 2, none⟩ (.iface T0 v0))) := ⟨r1, r2⟩
    rw [h0, eV_0] at c2
    have hn : Sem.run Tryd.prog (binOp BinOp.eql 38 .nilIface .nilIface) w = .ok (.bool true) w := by kernel_rfl
    clear hv0 h r1 r2 hq h0 fz
    go_enter Tryd.func30, Tryd.ntmps30
    go_wp2
    go_end0
    exact ⟨rfl, HR.out⟩
  · have hq : flt s k = s := by unfold flt; rw [if_neg h0]
    rw [hq]
    have HR : Aside (Rp w p F g off c wa l s f w) := ⟨h, Chg.refl _ _⟩
    obtain ⟨T, v, hv⟩ := eV_some wa h0
    rw [hv] at c2
    have hn := run_eql_iface_nil (P := Tryd.prog) (w := w) 38 (by kernel_rfl) T v
    clear hv0 h r1 r2 hq h0 fz hv
    go_enter Tryd.func30, Tryd.ntmps30
    go_wp2
    go_end0
    exact ⟨rfl, HR.out⟩
end
end Go.Proofs.YtaeapgkfmofjlaaDoor
