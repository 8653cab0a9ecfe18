/- A frame as it lies; what a walk of a putter over it begins with and keeps. -/
import Derived.Test.YtaeapgkfmofjlaaDoorPuZ
import Derived.Deep.RegionWith
namespace Go.Proofs.YtaeapgkfmofjlaaDoor
open Go.ChangeShapes Go.WideShapes Go.ChangeAt Go.RowKit
set_option linter.unusedVariables false

/-- A frame's values. -/
structure Fr where
  k : Int
  s : Int
  o : Int
  D : Value
  fin : Bool
  len : Bool
  lim : Int
  code : Int
  of : Int
  A : Value
  del : Int
  e0 : Int
  e1 : Int
  e2 : Int
  seq : Int
  ret : Int
  I : Value
  rs : List Value
  pt : List Value
  cnt : Int
def Fr.cells (f : Fr) : List Value := [.int .i64 f.k, .int .i64 f.s, .int .i64 f.o, f.D, .bool f.fin, .bool f.len, .int .i64 f.lim, .int .i64 f.code, .int .i64 f.of, f.A, .int .i64 f.del, .int .i64 f.e0, .int .i64 f.e1, .int .i64 f.e2, .int .i64 f.seq, .int .i64 f.ret, f.I] ++ (f.rs ++ (f.pt ++ [.int .i64 f.cnt]))
/-- A frame in a block of its own. -/
def Fm (w : World) (F : Nat) (f : Fr) : Prop := w.heap[F]? = some (.cells f.cells.toArray 28 (0, 0))
theorem Fm.kind {w : World} {F : Nat} {f : Fr} (h : Fm w F f) : ∀ cs fr, w.heap[F]? ≠ some (.cells cs 5 fr) := by
  intro cs fr e
  rw [h] at e
  injection e with e
  injection e with _ e _
  cases e
theorem Fm.on {w w' : World} {F p B : Nat} {f : Fr} (h : Fm w F f) (g : Gr p B w w') (hp : F ≠ p) : Fm w' F f := (g.block F (lt_block h) hp (.inr h.kind)).trans h
theorem Fm.at {w : World} {F : Nat} {f : Fr} (h : Fm w F f) (j : Nat) (x : Value) (hx : f.cells[j]? = some x) : w.cell? ⟨F, j, none⟩ = some x := by
  unfold World.cell?
  rw [h]
  simpa using hx
theorem Fm.pt {w : World} {F p : Nat} {f : Fr} (h : Fm w F f) (hp : F ≠ p) (j : Nat) (x : Int) (hx : f.cells[j]? = some (.int .i64 x)) : Pt w p (⟨F, j, none⟩, x) := ⟨hp, h.at j _ hx, h.kind⟩
/-- What a walk of a putter begins with and keeps. -/
structure WS (w : World) (p B F : Nat) (X : List UInt8) (r : Bool) (f : Fr) : Prop where
  pu : ∃ v, Pu w p B v X r
  fm : Fm w F f
  tb : Tb w
  fp : F ≠ p
  fb : F < B
  b2 : 2 < B
  p2 : 2 ≠ p
  bs : B ≤ w.heap.size
theorem WS.on {w w' : World} {p B F : Nat} {X Y : List UInt8} {r r' : Bool} {f : Fr} (h : WS w p B F X r f) (g : Gr p B w w') (hp : ∃ v, Pu w' p B v Y r') : WS w' p B F Y r' f :=
  ⟨hp, h.fm.on g h.fp, g.tb h.tb h.p2 h.b2, h.fp, h.fb, h.b2, h.p2, Nat.le_trans h.bs g.size⟩
theorem WS.alloc {w : World} {p B F : Nat} {X : List UInt8} {r : Bool} {f : Fr} (h : WS w p B F X r f) (o : Obj) : WS (w.alloc o) p B F X r f := by
  obtain ⟨v, hv⟩ := h.pu
  exact h.on (Gr.alloc p B w o) ⟨v, hv.below ((Below.refl _ _).alloc (Nat.le_refl _) _)⟩
theorem WS.drew {w : World} {p B F : Nat} {X : List UInt8} {r : Bool} {f : Fr} (h : WS w p B F X r f) : WS w.drew p B F X r f := by
  obtain ⟨v, hv⟩ := h.pu
  exact ⟨⟨v, hv.drew⟩, h.fm, h.tb, h.fp, h.fb, h.b2, h.p2, h.bs⟩
/-- numbers of a frame, behind the making of their pointers -/
theorem WS.numbers {w : World} {p B F : Nat} {X : List UInt8} {r : Bool} {f : Fr} (h : WS w p B F X r f) (vs : List (Nat × Int)) (hv : ∀ x ∈ vs, f.cells[x.1]? = some (.int .i64 x.2)) (hX : X.length ≤ 17592186044416) (hn : vs.length ≤ 3) :
    Calls Tryd.prog 21 #[.pointer (some ⟨p, 0, none⟩), .slice (some ⟨w.heap.size, 0, none⟩) vs.length vs.length] (w.alloc (.cells (ptrs (vs.map fun x => ((⟨F, x.1, none⟩ : Addr), x.2))) 61)).drew fun e w' => e = .returned (.tuple #[]) ∧ Hid (WS w' p B F (X ++ encs (vs.map (·.2))) (r || bads (vs.map (·.2))) f) ∧ Hid (Gr p B w w') := by
  obtain ⟨W, hW⟩ : ∃ W, W = (w.alloc (.cells (ptrs (vs.map fun x => ((⟨F, x.1, none⟩ : Addr), x.2))) 61)).drew := ⟨_, rfl⟩
  have h1 : WS W p B F X r f := by rw [hW]; exact (h.alloc _).drew
  obtain ⟨v, hv1⟩ := h1.pu
  have h2 : Gr p B w W := by rw [hW]; exact (Gr.alloc p B w _).drew
  have hs : W.heap[w.heap.size]? = some (.cells (ptrs (vs.map fun x => ((⟨F, x.1, none⟩ : Addr), x.2))) 61 (0, 0)) := by rw [hW]; exact heap_alloc_new w _
  have hl := pnumbers p B w.heap.size v X r (vs.map fun x => ((⟨F, x.1, none⟩ : Addr), x.2)) W h1.tb hv1 h1.b2 h1.bs h1.p2 hs (by have := hv1.lt; have := h.bs; omega) (by
    intro x hx
    obtain ⟨y, hy, rfl⟩ := List.mem_map.1 hx
    exact h1.fm.pt h1.fp y.1 y.2 (hv y hy)) hX (by simpa using hn)
  rw [List.length_map, List.map_map] at hl
  rw [← hW]
  refine hl.mono ?_
  rintro e w' ⟨rfl, hp, hg⟩
  exact ⟨rfl, h1.on hg hp, h2.trans hg⟩

theorem norm_any {φ : Act → World → Prop} {a : Act} {w : World} (h : ∀ K : Act → World → Prop, (∀ a w, φ a w → K a w) → K a w) : φ a w := h φ (fun _ _ h => h)
theorem mNum (v : Value) (w : World) : (Go.method 292 63 v "caravel/frame.numbers").run Tryd.prog w = .ok (21, v) w := by kernel_rfl
theorem mId (v : Value) (w : World) : (Go.method 292 63 v "caravel/frame.id").run Tryd.prog w = .ok (91, v) w := by kernel_rfl
theorem mArr (v : Value) (w : World) : (Go.method 292 63 v "caravel/frame.array").run Tryd.prog w = .ok (89, v) w := by kernel_rfl
theorem mCnt (v : Value) (w : World) : (Go.method 292 63 v "caravel/frame.counted").run Tryd.prog w = .ok (90, v) w := by kernel_rfl
theorem mRest (v : Value) (w : World) : (Go.method 292 63 v "caravel/frame.rest").run Tryd.prog w = .ok (93, v) w := by kernel_rfl
theorem mPad (v : Value) (w : World) : (Go.method 292 63 v "caravel/frame.padding").run Tryd.prog w = .ok (92, v) w := by kernel_rfl
theorem mAck (v : Value) (w : World) : (Go.method 292 63 v "caravel/frame.acks").run Tryd.prog w = .ok (88, v) w := by kernel_rfl
theorem nNum (a : Addr) (w : World) : (nilAhead 292 63 (.pointer (some a)) "caravel/frame.numbers").run Tryd.prog w = .ok (some false) w := by kernel_rfl
theorem nId (a : Addr) (w : World) : (nilAhead 292 63 (.pointer (some a)) "caravel/frame.id").run Tryd.prog w = .ok (some false) w := by kernel_rfl
theorem nArr (a : Addr) (w : World) : (nilAhead 292 63 (.pointer (some a)) "caravel/frame.array").run Tryd.prog w = .ok (some false) w := by kernel_rfl
theorem nCnt (a : Addr) (w : World) : (nilAhead 292 63 (.pointer (some a)) "caravel/frame.counted").run Tryd.prog w = .ok (some false) w := by kernel_rfl
theorem nRest (a : Addr) (w : World) : (nilAhead 292 63 (.pointer (some a)) "caravel/frame.rest").run Tryd.prog w = .ok (some false) w := by kernel_rfl
theorem nPad (a : Addr) (w : World) : (nilAhead 292 63 (.pointer (some a)) "caravel/frame.padding").run Tryd.prog w = .ok (some false) w := by kernel_rfl
theorem nAck (a : Addr) (w : World) : (nilAhead 292 63 (.pointer (some a)) "caravel/frame.acks").run Tryd.prog w = .ok (some false) w := by kernel_rfl
theorem isStr_any (k : Int) (w : World) (h0 : 0 ≤ k) (h1 : k ≤ 63) : Calls Tryd.prog 18 #[.int .i64 k] w fun e w' => e = .returned (.bool (decide (8 ≤ k ∧ k < 16))) ∧ w' = w := by
  have hb : bits .andNot .i64 k 7 = k / 8 * 8 := by
    obtain ⟨n, rfl⟩ := Int.eq_ofNat_of_zero_le h0
    have : ∀ y : Fin 64, bits .andNot .i64 (y.val : Int) 7 = (y.val : Int) / 8 * 8 := by decide +kernel
    exact this ⟨n, by omega⟩
  go_enter Tryd.func18, Tryd.ntmps18
  go_wp2
  go_ret
  exact ⟨ret_bool (by rw [Bool.eq_iff_iff]; simp; omega), rfl⟩

end Go.Proofs.YtaeapgkfmofjlaaDoor
