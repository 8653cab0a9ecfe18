/- What the putter's counted, id and padding answer: contracts. -/
import Derived.Test.YtfejhlfcabbkcaaDoorPuM
namespace Go.Proofs.YtfejhlfcabbkcaaDoor
open Go.ChangeShapes Go.WideShapes Go.ChangeAt Go.RowKit
set_option linter.unusedVariables false

theorem Sl.gr {p B : Nat} {w w' : World} {ao : Option Addr} {Y : List UInt8} (h : Gr p B w w') (hs : Sl w ao Y) (hb : ∀ ad, ao = some ad → ad.block < B ∨ ∀ cs fr, w.heap[ad.block]? ≠ some (.cells cs 5 fr)) (hp : ∀ ad, ao = some ad → ad.block ≠ p) : Sl w' ao Y := by
  intro j hj
  obtain ⟨b, off, he, hc⟩ := hs j hj
  refine ⟨b, off, he, ?_⟩
  exact (World.cell?_of_block (w := w) (a := ⟨b, off + j, none⟩) (h.block b (World.block_lt_of_cell? w _ hc) (hp _ he) (hb _ he))).trans hc
/-- a slice of bytes that a pointer points to, both in memory that no putter turns -/
structure Pd (w : World) (p B : Nat) (a : Addr) (ao : Option Addr) (c : Nat) (Y : List UInt8) : Prop where
  ne : a.block ≠ p
  kind : ∀ cs fr, w.heap[a.block]? ≠ some (.cells cs 5 fr)
  cell : w.cell? a = some (.slice ao Y.length c)
  sl : Sl w ao Y
  nil : ao = none → Y.length = 0 ∧ c = 0
  old : ∀ ad, ao = some ad → ad.block < B ∧ ad.block ≠ p
theorem Pd.on {p B : Nat} {w w' : World} {a : Addr} {ao : Option Addr} {c : Nat} {Y : List UInt8} (h : Pd w p B a ao c Y) (g : Gr p B w w') : Pd w' p B a ao c Y := by
  have e := g.block a.block (World.block_lt_of_cell? w _ h.cell) h.ne (.inr h.kind)
  exact ⟨h.ne, fun cs fr => by rw [e]; exact h.kind cs fr, (World.cell?_of_block (a := a) e).trans h.cell, Sl.gr g h.sl (fun ad k => .inl (h.old ad k).1) (fun ad k => (h.old ad k).2), h.nil, h.old⟩

set_option maxRecDepth 10000 in
theorem pcounted (p B : Nat) (v : Value) (X : List UInt8) (r : Bool) (a : Addr) (ao : Option Addr) (c' : Nat) (Y : List UInt8) (w : World) (ht : Tb w) (h : Pu w p B v X r) (hB2 : 1 < B) (hB : B ≤ w.heap.size) (hp2 : 1 ≠ p) (hX : X.length ≤ 17592186044416) (hY : Y.length ≤ 1048576) (hd : Pd w p B a ao c' Y) :
    Calls Tryd.prog 64 #[.pointer (some ⟨p, 0, none⟩), .pointer (some a)] w fun e w' => e = .returned (.tuple #[]) ∧ (∃ v', Pu w' p B v' (X ++ encv Y.length ++ Y) r) ∧ Gr p B w w' := by
  have ha := hd.cell
  have HN := mkHid (pnumber p B v X r Y.length w ht h hB (by omega))
  have HD := mkHid hd
  have hle := encv_le Y.length
  have hbad : badv (Y.length : Int) = false := by
    unfold badv vaE
    rw [if_neg (by omega)]
    decide
  rw [hbad, Bool.or_false] at HN
  clear hd h ht hbad
  go_enter Tryd.func64, Tryd.ntmps64
  go_wp2_with fail
  refine HN.out.mono ?_
  rintro e w1 ⟨rfl, ⟨v1, h1⟩, g1⟩
  have HD1 := mkHid (HD.out.on g1)
  have HP1 := mkHid h1
  have HG1 := mkHid g1
  clear h1 g1 HN
  go_wp2_with fail
  refine (prest p B v1 _ r a ao c' Y w1 HP1.out (Nat.le_trans hB HG1.out.size) (by rw [List.length_append]; omega) hY HD1.out.sl HD1.out.nil HD1.out.cell).mono ?_
  rintro e w2 ⟨rfl, ⟨v2, h2⟩, g2⟩
  have HP2 := mkHid h2
  have HG2 := mkHid (HG1.out.trans g2)
  clear h2 g2
  go_wp2
  go_end0
  exact ⟨rfl, ⟨v2, HP2.out⟩, HG2.out⟩

theorem own_row1 {W : World} (x : UInt8) (k : Nat) (hk : W.heap.size = k) : Sl (W.alloc (.cells #[.int .u8 x.toNat] 5)) (some ⟨k, 0, none⟩) [x] := by subst hk; exact Sl_new W x

set_option maxRecDepth 10000 in
set_option maxHeartbeats 1000000 in
theorem pid (p B : Nat) (v : Value) (X : List UInt8) (r : Bool) (a : Addr) (ao : Option Addr) (c' : Nat) (Y : List UInt8) (w : World) (h : Pu w p B v X r) (hB : B ≤ w.heap.size) (hX : X.length ≤ 17592186044416) (hY : Y.length ≤ 20) (hd : Pd w p B a ao c' Y) :
    Calls Tryd.prog 65 #[.pointer (some ⟨p, 0, none⟩), .pointer (some a)] w fun e w' => e = .returned (.tuple #[]) ∧ (∃ v', Pu w' p B v' (X ++ [UInt8.ofNat Y.length] ++ Y) r) ∧ Gr p B w w' := by
  obtain ⟨i0, hi, hz0, hz1, hz2⟩ := info_parts info5
  have HP := mkHid h
  obtain ⟨o, c, rfl⟩ := own_val h.own
  have HD := mkHid hd
  have c0 := h.c0
  have ca := hd.cell
  have hw8 : IntKind.u8.wrap (Y.length : Int) = (Y.length : Int) := by rw [IntKind.wrap_u8]; omega
  obtain ⟨y, hy⟩ : ∃ y : UInt8, UInt8.ofNat Y.length = y := ⟨_, rfl⟩
  have hyv : Value.int .u8 (Y.length : Int) = Value.int .u8 (y.toNat : Int) := by rw [← hy, UInt8.toNat_ofNat']; congr 1; omega
  rw [hy]
  have hsz := lt_block h.row
  have hca : a.block < w.heap.size := World.block_lt_of_cell? w _ ca
  have HW1 : Hid (Gr p B w ((w.alloc (.cells #[.int .u8 (Y.length : Int)] 5)).drew) ∧ Pu ((w.alloc (.cells #[.int .u8 (Y.length : Int)] 5)).drew) p B (.slice o X.length c) X r) := ⟨(Gr.alloc p B w _).drew, (h.below ((Below.refl _ _).alloc (Nat.le_refl _) _)).drew⟩
  have HSL : Hid (Sl ((w.alloc (.cells #[.int .u8 (Y.length : Int)] 5)).drew) (some ⟨w.heap.size, 0, none⟩) [y]) := by rw [hyv]; exact Sl_new w y
  have ca' : (w.alloc (.cells #[.int .u8 (Y.length : Int)] 5)).cell? a = some (.slice ao Y.length c') := (World.cell?_of_block (w := w) (a := a) (Below.heap_alloc _ _ _ hca)).trans ca
  have c0' : (w.alloc (.cells #[.int .u8 (Y.length : Int)] 5)).cell? ⟨p, 0, none⟩ = some (.slice o X.length c) := (World.cell?_of_block (w := w) (a := ⟨p, 0, none⟩) (Below.heap_alloc _ _ _ hsz)).trans c0
  obtain ⟨Z, hZ⟩ : ∃ Z, X ++ [y] = Z := ⟨_, rfl⟩
  rw [hZ]
  have HZ := mkHid hZ
  clear h hd hyv hy hZ
  go_enter Tryd.func65, Tryd.ntmps65
  go_wp2
  go_region_law ((refine step_append_bytes rfl (.tmp 8) (.tmp 14) rfl B i0 Tryd.underlying27 hi hz0 hz1 hz2 (.slice o X.length c) X.length (bc X) rfl HW1.out.2.own (some ⟨w.heap.size, 0, none⟩) 1 1 [y] rfl rfl (fun h => by cases h) HSL.out (by omega) (by simp; omega) ?_; intro v' w2 hown hgrow; obtain ⟨o', cc', rfl, m0, mf, HQ⟩ := pu_after HW1.out.1 HW1.out.2 hown hgrow; clear hown hgrow))
  all_goals
    have hlen : X.length + 1 = Z.length := by rw [← HZ.out]; simp
    have hq : Pu (w2.setCell ⟨p, 0, none⟩ (.slice o' (X.length + 1) cc')) p B (.slice o' (X.length + 1) cc') Z r ∧ Gr p B w (w2.setCell ⟨p, 0, none⟩ (.slice o' (X.length + 1) cc')) := by rw [← HZ.out]; exact HQ.out
    rw [hlen] at hq ⊢
    generalize w2.setCell ⟨p, 0, none⟩ (.slice o' Z.length cc') = W3 at hq ⊢
    have HQ3 := mkHid hq
    have HD3 := mkHid (HD.out.on hq.2)
    have d0 := hq.1.c0
    have da := HD3.out.cell
    have hZ1 : Z.length ≤ 17592186044417 := by omega
    have hB3 : B ≤ W3.heap.size := Nat.le_trans hB hq.2.size
    clear hq hlen HZ HQ HW1 HSL ca' c0' m0 mf
    go_wp2
    go_region_law ((refine step_append_bytes rfl (.tmp 22) (.tmp 25) rfl B i0 Tryd.underlying27 hi hz0 hz1 hz2 (.slice o' Z.length cc') Z.length (bc Z) rfl HQ3.out.1.drew.own ao Y.length c' Y rfl rfl HD3.out.nil HD3.out.sl (by omega) (by simp; omega) ?_; intro v3 w4 hown hgrow; obtain ⟨o4, c4, rfl, n0, nf, HQ4⟩ := pu_after HQ3.out.2.drew HQ3.out.1.drew hown hgrow; clear hown hgrow))
    all_goals
      go_wp2
      go_end0
      exact ⟨rfl, ⟨_, HQ4.out.1⟩, HQ4.out.2⟩
end Go.Proofs.YtfejhlfcabbkcaaDoor
