/- A frame with what its slices hold; the putter's methods over it. -/
import Derived.Test.YtaeapgkfmofjlaaDoorFr
import Derived.Deep.RegionHeld3
namespace Go.Proofs.YtaeapgkfmofjlaaDoor
open Go.ChangeShapes Go.WideShapes Go.ChangeAt Go.RowKit
set_option linter.unusedVariables false
set_option maxRecDepth 10000

/-- What a frame's slices and arrays hold, and where. -/
structure Da where
  oD : Option Addr
  D : List UInt8
  cD : Nat
  oA : Option Addr
  A : List (Int × Int)
  cA : Nat
  oI : Option Addr
  I : List UInt8
  cI : Nat
  R : List UInt8
  T : List UInt8
/-- Spans as they lie. -/
def Ss (w : World) (ao : Option Addr) (l : List (Int × Int)) : Prop := ∀ j (hj : j < l.length), ∃ b off, ao = some ⟨b, off, none⟩ ∧ w.cell? ⟨b, off + j * 2, none⟩ = some (.int .i64 l[j].1) ∧ w.cell? ⟨b, off + j * 2 + 1, none⟩ = some (.int .i64 l[j].2)
/-- That f's slices and arrays hold d, in memory that no putter turns. -/
structure Fd (w : World) (p B : Nat) (f : Fr) (d : Da) : Prop where
  vD : f.D = .slice d.oD d.D.length d.cD
  vA : f.A = .slice d.oA d.A.length d.cA
  vI : f.I = .slice d.oI d.I.length d.cI
  vR : f.rs = bc d.R
  vT : f.pt = bc d.T
  r16 : d.R.length = 16
  t8 : d.T.length = 8
  sD : Sl w d.oD d.D
  nD : d.oD = none → d.D.length = 0 ∧ d.cD = 0
  bD : ∀ ad, d.oD = some ad → ad.block < B ∧ ad.block ≠ p
  sI : Sl w d.oI d.I
  nI : d.oI = none → d.I.length = 0 ∧ d.cI = 0
  bI : ∀ ad, d.oI = some ad → ad.block < B ∧ ad.block ≠ p
  sA : Ss w d.oA d.A
  bA : ∀ ad, d.oA = some ad → ad.block < B ∧ ad.block ≠ p
  lD : d.D.length ≤ 140737488355328
  lA : d.A.length ≤ 140737488355328
theorem Ss.gr {p B : Nat} {w w' : World} {ao : Option Addr} {l : List (Int × Int)} (h : Gr p B w w') (hs : Ss w ao l) (ho : ∀ ad, ao = some ad → ad.block < B ∧ ad.block ≠ p) : Ss w' ao l := by
  intro j hj
  obtain ⟨b, off, he, c1, c2⟩ := hs j hj
  have e := h.block b (World.block_lt_of_cell? w _ c1) (ho _ he).2 (.inl (ho _ he).1)
  exact ⟨b, off, he, (World.cell?_of_block (a := ⟨b, off + j * 2, none⟩) e).trans c1, (World.cell?_of_block (a := ⟨b, off + j * 2 + 1, none⟩) e).trans c2⟩
theorem Fd.on {p B : Nat} {w w' : World} {f : Fr} {d : Da} (h : Fd w p B f d) (g : Gr p B w w') : Fd w' p B f d :=
  ⟨h.vD, h.vA, h.vI, h.vR, h.vT, h.r16, h.t8, Sl.gr g h.sD (fun ad k => .inl (h.bD ad k).1) (fun ad k => (h.bD ad k).2), h.nD, h.bD, Sl.gr g h.sI (fun ad k => .inl (h.bI ad k).1) (fun ad k => (h.bI ad k).2), h.nI, h.bI, Ss.gr g h.sA h.bA, h.bA, h.lD, h.lA⟩
/-- What a walk of a putter begins with and keeps, with what the frame holds. -/
structure WD (w : World) (p B F : Nat) (X : List UInt8) (r : Bool) (f : Fr) (d : Da) : Prop where
  s : WS w p B F X r f
  f : Fd w p B f d
section
variable {w w' : World} {p B F : Nat} {X Y : List UInt8} {r r' : Bool} {f : Fr} {d : Da}
theorem WD.on (h : WD w p B F X r f d) (g : Gr p B w w') (hs : WS w' p B F Y r' f) : WD w' p B F Y r' f d := ⟨hs, h.f.on g⟩
theorem WD.drew (h : WD w p B F X r f d) : WD w.drew p B F X r f d := ⟨h.s.drew, h.f.on ((Gr.refl p B w).drew)⟩
theorem WD.numbers (h : WD w p B F X r f d) (vs : List (Nat × Int)) (hv : ∀ x ∈ vs, f.cells[x.1]? = some (.int .i64 x.2)) (hX : X.length ≤ 4000000) (hn : vs.length ≤ 3) :
    Calls Tryd.prog 21 #[.pointer (some ⟨p, 0, none⟩), .slice (some ⟨w.heap.size, 0, none⟩) vs.length vs.length] (w.alloc (.cells (ptrs (vs.map fun x => ((⟨F, x.1, none⟩ : Addr), x.2))) 61)).drew fun e w' => e = .returned (.tuple #[]) ∧ Hid (WD w' p B F (X ++ encs (vs.map (·.2))) (r || bads (vs.map (·.2))) f d) ∧ Hid (Gr p B w w') :=
  (h.s.numbers vs hv (by omega) hn).mono (by rintro e w' ⟨rfl, hs, hg⟩; exact ⟨rfl, h.on hg.out hs.out, hg⟩)
theorem WD.pdD (h : WD w p B F X r f d) : Pd w p B ⟨F, 3, none⟩ d.oD d.cD d.D :=
  ⟨h.s.fp, h.s.fm.kind, (h.s.fm.at 3 _ rfl).trans (by rw [h.f.vD]), h.f.sD, h.f.nD, h.f.bD⟩
theorem WD.pdI (h : WD w p B F X r f d) : Pd w p B ⟨F, 16, none⟩ d.oI d.cI d.I :=
  ⟨h.s.fp, h.s.fm.kind, (h.s.fm.at 16 _ rfl).trans (by rw [h.f.vI]), h.f.sI, h.f.nI, h.f.bI⟩
theorem WD.counted (h : WD w p B F X r f d) (hX : X.length ≤ 4000000) : Calls Tryd.prog 90 #[.pointer (some ⟨p, 0, none⟩), .pointer (some ⟨F, 3, none⟩)] w fun e w' => e = .returned (.tuple #[]) ∧ Hid (WD w' p B F (X ++ encv d.D.length ++ rB d.D) (r || bg d.D) f d) ∧ Hid (Gr p B w w') := by
  obtain ⟨v, hv⟩ := h.s.pu
  exact (pcounted p B v X r _ d.oD d.cD d.D w h.s.tb hv h.s.b2 h.s.bs h.s.p2 (by omega) h.f.lD h.pdD).mono (by rintro e w' ⟨rfl, hp, hg⟩; exact ⟨rfl, h.on hg (h.s.on hg hp), hg⟩)
theorem WD.rest (h : WD w p B F X r f d) (hX : X.length ≤ 4000000) : Calls Tryd.prog 93 #[.pointer (some ⟨p, 0, none⟩), .pointer (some ⟨F, 3, none⟩)] w fun e w' => e = .returned (.tuple #[]) ∧ Hid (WD w' p B F (X ++ rB d.D) (r || bg d.D) f d) ∧ Hid (Gr p B w w') := by
  obtain ⟨v, hv⟩ := h.s.pu
  exact (prest_any p B v X r _ d.oD d.cD d.D w hv h.s.bs (by omega) h.f.sD h.f.nD h.pdD.cell).mono (by rintro e w' ⟨rfl, hp, hg⟩; exact ⟨rfl, h.on hg (h.s.on hg hp), hg⟩)
theorem WD.id (h : WD w p B F X r f d) (hX : X.length ≤ 4000000) (hI : d.I.length ≤ 20) : Calls Tryd.prog 91 #[.pointer (some ⟨p, 0, none⟩), .pointer (some ⟨F, 16, none⟩)] w fun e w' => e = .returned (.tuple #[]) ∧ Hid (WD w' p B F (X ++ [UInt8.ofNat d.I.length] ++ d.I) r f d) ∧ Hid (Gr p B w w') := by
  obtain ⟨v, hv⟩ := h.s.pu
  exact (pid p B v X r _ d.oI d.cI d.I w hv h.s.bs (by omega) hI h.pdI).mono (by rintro e w' ⟨rfl, hp, hg⟩; exact ⟨rfl, h.on hg (h.s.on hg hp), hg⟩)
theorem fm_row (h : Fm w F f) {L1 L2 : List Value} {Z : List UInt8} {k : Nat} (he : f.cells = L1 ++ (bc Z ++ L2)) (hk : L1.length = k) : Sl w (some ⟨F, k, none⟩) Z := by
  intro j hj
  refine ⟨F, k, rfl, h.at (k + j) _ ?_⟩
  rw [he, List.getElem?_append_right (by omega), List.getElem?_append_left (by rw [bc_length]; omega)]
  simp [bc, hk, hj]
theorem WD.slR (h : WD w p B F X r f d) : Sl w (some ⟨F, 17, none⟩) d.R := by
  refine fm_row h.s.fm (L1 := [.int .i64 f.k, .int .i64 f.s, .int .i64 f.o, f.D, .bool f.fin, .bool f.len, .int .i64 f.lim, .int .i64 f.code, .int .i64 f.of, f.A, .int .i64 f.del, .int .i64 f.e0, .int .i64 f.e1, .int .i64 f.e2, .int .i64 f.seq, .int .i64 f.ret, f.I]) (L2 := f.pt ++ [.int .i64 f.cnt]) ?_ rfl
  rw [← h.f.vR]
  rfl
theorem WD.slT (h : WD w p B F X r f d) : Sl w (some ⟨F, 33, none⟩) d.T := by
  refine fm_row h.s.fm (L1 := [.int .i64 f.k, .int .i64 f.s, .int .i64 f.o, f.D, .bool f.fin, .bool f.len, .int .i64 f.lim, .int .i64 f.code, .int .i64 f.of, f.A, .int .i64 f.del, .int .i64 f.e0, .int .i64 f.e1, .int .i64 f.e2, .int .i64 f.seq, .int .i64 f.ret, f.I] ++ f.rs) (L2 := [.int .i64 f.cnt]) ?_ ?_
  · rw [← h.f.vT, List.append_assoc]
    rfl
  · rw [h.f.vR, List.length_append, bc_length, h.f.r16]
    rfl
theorem WD.reset (h : WD w p B F X r f d) (hX : X.length ≤ 4000000) : Calls Tryd.prog 89 #[.pointer (some ⟨p, 0, none⟩), .slice (some ⟨F, 17, none⟩) 16 16] w fun e w' => e = .returned (.tuple #[]) ∧ Hid (WD w' p B F (X ++ d.R) r f d) ∧ Hid (Gr p B w w') := by
  obtain ⟨v, hv⟩ := h.s.pu
  exact (parray p B v X r (some ⟨F, 17, none⟩) 16 d.R 16 w hv h.s.bs (by omega) (by rw [h.f.r16]; omega) h.f.r16 h.slR (fun e => by cases e)).mono (by rintro e w' ⟨rfl, hp, hg⟩; exact ⟨rfl, h.on hg (h.s.on hg hp), hg⟩)
theorem WD.path (h : WD w p B F X r f d) (hX : X.length ≤ 4000000) : Calls Tryd.prog 89 #[.pointer (some ⟨p, 0, none⟩), .slice (some ⟨F, 33, none⟩) 8 8] w fun e w' => e = .returned (.tuple #[]) ∧ Hid (WD w' p B F (X ++ d.T) r f d) ∧ Hid (Gr p B w w') := by
  obtain ⟨v, hv⟩ := h.s.pu
  exact (parray p B v X r (some ⟨F, 33, none⟩) 8 d.T 8 w hv h.s.bs (by omega) (by rw [h.f.t8]; omega) h.f.t8 h.slT (fun e => by cases e)).mono (by rintro e w' ⟨rfl, hp, hg⟩; exact ⟨rfl, h.on hg (h.s.on hg hp), hg⟩)
end
end Go.Proofs.YtaeapgkfmofjlaaDoor
