/- What lies in a header that the reader fills, and what the reader's methods that fill it answer: contracts. -/
import Derived.Test.YtlllejgpmdeeiaaDoorRd
import Derived.Laws.CopyOwn
namespace Go.Proofs.YtlllejgpmdeeiaaDoor
open Go.ChangeShapes Go.WideShapes Go.ChangeAt Go.RowKit
set_option linter.unusedVariables false

/-- A header's cells. -/
def hc (k ver : Int) (dst src tok : Value) (len : Int) (ph : Bool) (lst : Value) (tg : List Value) : List Value := [.int .i64 k, .int .i64 ver, dst, src, tok, .int .i64 len, .bool ph, lst] ++ tg
/-- A header as it lies. -/
def Hd (w : World) (H : Nat) (k ver : Int) (dst src tok : Value) (len : Int) (ph : Bool) (lst : Value) (tg : List Value) : Prop := w.heap[H]? = some (.cells (hc k ver dst src tok len ph lst tg).toArray 26 (0, 0)) ∧ tg.length = 16
theorem Hd.fr {w : World} {H : Nat} {k ver : Int} {dst src tok : Value} {len : Int} {ph : Bool} {lst : Value} {tg : List Value} (h : Hd w H k ver dst src tok len ph lst tg) (j : Nat) : w.frozen? ⟨H, j, none⟩ = false := by unfold World.frozen?; rw [h.1]; simp
theorem Hd.lt {w : World} {H : Nat} {k ver : Int} {dst src tok : Value} {len : Int} {ph : Bool} {lst : Value} {tg : List Value} (h : Hd w H k ver dst src tok len ph lst tg) : H < w.heap.size := lt_block h.1
theorem Hd.other {w w' : World} {H : Nat} {k ver : Int} {dst src tok : Value} {len : Int} {ph : Bool} {lst : Value} {tg : List Value} {R : Nat} (h : Hd w H k ver dst src tok len ph lst tg) (o : Only R w w') (hne : H ≠ R) : Hd w' H k ver dst src tok len ph lst tg := ⟨(o.block H hne).trans h.1, h.2⟩
theorem Hd.setOther {w : World} {H : Nat} {k ver : Int} {dst src tok : Value} {len : Int} {ph : Bool} {lst : Value} {tg : List Value} (h : Hd w H k ver dst src tok len ph lst tg) {p : Addr} (hp : H ≠ p.block) (u : Value) : Hd (w.setCell p u) H k ver dst src tok len ph lst tg := ⟨(Below.heap_setCell _ _ _ _ hp).trans h.1, h.2⟩
theorem Rd.setOther {w : World} {R : Nat} {s : Value} {a : Int} {lk : Bool} (h : Rd w R s a lk) {p : Addr} (hp : R ≠ p.block) (u : Value) : Rd (w.setCell p u) R s a lk := (Below.heap_setCell _ _ _ _ hp).trans h
theorem Hd.drewN {w : World} {H : Nat} {k ver : Int} {dst src tok : Value} {len : Int} {ph : Bool} {lst : Value} {tg : List Value} (h : Hd w H k ver dst src tok len ph lst tg) (n : Nat) : Hd (w.drewN n) H k ver dst src tok len ph lst tg := h
theorem Hd.c0 {w : World} {H : Nat} {k ver : Int} {dst src tok : Value} {len : Int} {ph : Bool} {lst : Value} {tg : List Value} (h : Hd w H k ver dst src tok len ph lst tg) : w.cell? ⟨H, 0, none⟩ = some (.int .i64 k) := by unfold World.cell?; rw [h.1]; rfl
theorem Hd.c1 {w : World} {H : Nat} {k ver : Int} {dst src tok : Value} {len : Int} {ph : Bool} {lst : Value} {tg : List Value} (h : Hd w H k ver dst src tok len ph lst tg) : w.cell? ⟨H, 1, none⟩ = some (.int .i64 ver) := by unfold World.cell?; rw [h.1]; rfl
theorem Hd.c2 {w : World} {H : Nat} {k ver : Int} {dst src tok : Value} {len : Int} {ph : Bool} {lst : Value} {tg : List Value} (h : Hd w H k ver dst src tok len ph lst tg) : w.cell? ⟨H, 2, none⟩ = some (dst) := by unfold World.cell?; rw [h.1]; rfl
theorem Hd.c3 {w : World} {H : Nat} {k ver : Int} {dst src tok : Value} {len : Int} {ph : Bool} {lst : Value} {tg : List Value} (h : Hd w H k ver dst src tok len ph lst tg) : w.cell? ⟨H, 3, none⟩ = some (src) := by unfold World.cell?; rw [h.1]; rfl
theorem Hd.c4 {w : World} {H : Nat} {k ver : Int} {dst src tok : Value} {len : Int} {ph : Bool} {lst : Value} {tg : List Value} (h : Hd w H k ver dst src tok len ph lst tg) : w.cell? ⟨H, 4, none⟩ = some (tok) := by unfold World.cell?; rw [h.1]; rfl
theorem Hd.c5 {w : World} {H : Nat} {k ver : Int} {dst src tok : Value} {len : Int} {ph : Bool} {lst : Value} {tg : List Value} (h : Hd w H k ver dst src tok len ph lst tg) : w.cell? ⟨H, 5, none⟩ = some (.int .i64 len) := by unfold World.cell?; rw [h.1]; rfl
theorem Hd.c6 {w : World} {H : Nat} {k ver : Int} {dst src tok : Value} {len : Int} {ph : Bool} {lst : Value} {tg : List Value} (h : Hd w H k ver dst src tok len ph lst tg) : w.cell? ⟨H, 6, none⟩ = some (.bool ph) := by unfold World.cell?; rw [h.1]; rfl
theorem Hd.c7 {w : World} {H : Nat} {k ver : Int} {dst src tok : Value} {len : Int} {ph : Bool} {lst : Value} {tg : List Value} (h : Hd w H k ver dst src tok len ph lst tg) : w.cell? ⟨H, 7, none⟩ = some (lst) := by unfold World.cell?; rw [h.1]; rfl
theorem Hd.set0 {w : World} {H : Nat} {k ver : Int} {dst src tok : Value} {len : Int} {ph : Bool} {lst : Value} {tg : List Value} (h : Hd w H k ver dst src tok len ph lst tg) (x : Int) : Hd (w.setCell ⟨H, 0, none⟩ (.int .i64 x)) H x ver dst src tok len ph lst tg := by
  refine ⟨?_, h.2⟩
  rw [heap_setCell_same w H 0 _ 26 _ h.1]; rfl
theorem Hd.set1 {w : World} {H : Nat} {k ver : Int} {dst src tok : Value} {len : Int} {ph : Bool} {lst : Value} {tg : List Value} (h : Hd w H k ver dst src tok len ph lst tg) (x : Int) : Hd (w.setCell ⟨H, 1, none⟩ (.int .i64 x)) H k x dst src tok len ph lst tg := by
  refine ⟨?_, h.2⟩
  rw [heap_setCell_same w H 1 _ 26 _ h.1]; rfl
theorem Hd.set2 {w : World} {H : Nat} {k ver : Int} {dst src tok : Value} {len : Int} {ph : Bool} {lst : Value} {tg : List Value} (h : Hd w H k ver dst src tok len ph lst tg) (x : Value) : Hd (w.setCell ⟨H, 2, none⟩ (x)) H k ver x src tok len ph lst tg := by
  refine ⟨?_, h.2⟩
  rw [heap_setCell_same w H 2 _ 26 _ h.1]; rfl
theorem Hd.set3 {w : World} {H : Nat} {k ver : Int} {dst src tok : Value} {len : Int} {ph : Bool} {lst : Value} {tg : List Value} (h : Hd w H k ver dst src tok len ph lst tg) (x : Value) : Hd (w.setCell ⟨H, 3, none⟩ (x)) H k ver dst x tok len ph lst tg := by
  refine ⟨?_, h.2⟩
  rw [heap_setCell_same w H 3 _ 26 _ h.1]; rfl
theorem Hd.set4 {w : World} {H : Nat} {k ver : Int} {dst src tok : Value} {len : Int} {ph : Bool} {lst : Value} {tg : List Value} (h : Hd w H k ver dst src tok len ph lst tg) (x : Value) : Hd (w.setCell ⟨H, 4, none⟩ (x)) H k ver dst src x len ph lst tg := by
  refine ⟨?_, h.2⟩
  rw [heap_setCell_same w H 4 _ 26 _ h.1]; rfl
theorem Hd.set5 {w : World} {H : Nat} {k ver : Int} {dst src tok : Value} {len : Int} {ph : Bool} {lst : Value} {tg : List Value} (h : Hd w H k ver dst src tok len ph lst tg) (x : Int) : Hd (w.setCell ⟨H, 5, none⟩ (.int .i64 x)) H k ver dst src tok x ph lst tg := by
  refine ⟨?_, h.2⟩
  rw [heap_setCell_same w H 5 _ 26 _ h.1]; rfl
theorem Hd.set6 {w : World} {H : Nat} {k ver : Int} {dst src tok : Value} {len : Int} {ph : Bool} {lst : Value} {tg : List Value} (h : Hd w H k ver dst src tok len ph lst tg) (x : Bool) : Hd (w.setCell ⟨H, 6, none⟩ (.bool x)) H k ver dst src tok len x lst tg := by
  refine ⟨?_, h.2⟩
  rw [heap_setCell_same w H 6 _ 26 _ h.1]; rfl
theorem Hd.set7 {w : World} {H : Nat} {k ver : Int} {dst src tok : Value} {len : Int} {ph : Bool} {lst : Value} {tg : List Value} (h : Hd w H k ver dst src tok len ph lst tg) (x : Value) : Hd (w.setCell ⟨H, 7, none⟩ (x)) H k ver dst src tok len ph x tg := by
  refine ⟨?_, h.2⟩
  rw [heap_setCell_same w H 7 _ 26 _ h.1]; rfl

/-- The world is as it was but for blocks R and H, and may have grown. -/
structure Two (R H : Nat) (w w' : World) : Prop where
  os : w'.os = w.os
  tape : w'.tape = w.tape
  output : w'.output = w.output
  size : w.heap.size ≤ w'.heap.size
  block : ∀ k, k < w.heap.size → k ≠ R → k ≠ H → w'.heap[k]? = w.heap[k]?
theorem Two.refl (R H : Nat) (w : World) : Two R H w w := ⟨rfl, rfl, rfl, Nat.le_refl _, fun _ _ _ _ => rfl⟩
theorem Two.trans {R H : Nat} {a b c : World} (h : Two R H a b) (k : Two R H b c) : Two R H a c :=
  ⟨k.os.trans h.os, k.tape.trans h.tape, k.output.trans h.output, Nat.le_trans h.size k.size, fun i hi h1 h2 => (k.block i (Nat.lt_of_lt_of_le hi h.size) h1 h2).trans (h.block i hi h1 h2)⟩
theorem Two.only {R H : Nat} {a b c : World} (h : Two R H a b) (k : Only R b c) : Two R H a c :=
  h.trans ⟨k.os, k.tape, k.output, Nat.le_of_eq k.size.symm, fun i _ h1 _ => k.block i h1⟩
theorem Two.setCell {R H : Nat} {a w : World} (h : Two R H a w) {p : Addr} (hp : p.block = H) (u : Value) : Two R H a (w.setCell p u) :=
  h.trans ⟨rfl, rfl, rfl, by simp [World.setCell], fun k _ _ hk => Below.heap_setCell _ _ _ _ (by omega)⟩
theorem Two.drewN {R H : Nat} {a w : World} (h : Two R H a w) (n : Nat) : Two R H a (w.drewN n) := ⟨h.os, h.tape, h.output, h.size, h.block⟩
theorem Two.alloc {R H : Nat} {a w : World} (h : Two R H a w) (o : Obj) : Two R H a (w.alloc o) :=
  h.trans ⟨rfl, rfl, rfl, by simp, fun k hk _ _ => Below.heap_alloc _ _ _ hk⟩
theorem Two.below {R H B : Nat} {a w : World} (h : Two R H a w) (hR : B ≤ R) (hH : B ≤ H) (hB : B ≤ a.heap.size) : Below B a w :=
  ⟨h.os, h.tape, h.output, h.size, fun k hk => h.block k (by omega) (by omega) (by omega)⟩
theorem Only.sl {R : Nat} {w w' : World} {b off : Nat} {l : List UInt8} (o : Only R w w') (hs : Sl w (some ⟨b, off, none⟩) l) (hne : b ≠ R) : Sl w' (some ⟨b, off, none⟩) l := by
  intro j hj
  obtain ⟨b', off', he, hc⟩ := hs j hj
  simp only [Option.some.injEq, Addr.mk.injEq] at he
  obtain ⟨rfl, rfl, _⟩ := he
  exact ⟨b, off, rfl, (World.cell?_of_block (w := w) (w' := w') (a := ⟨b, off + j, none⟩) (o.block b hne)).trans hc⟩
theorem Sl.setOther {w : World} {b off : Nat} {l : List UInt8} (hs : Sl w (some ⟨b, off, none⟩) l) {p : Addr} (hne : b ≠ p.block) (u : Value) : Sl (w.setCell p u) (some ⟨b, off, none⟩) l := by
  intro j hj
  obtain ⟨b', off', he, hc⟩ := hs j hj
  simp only [Option.some.injEq, Addr.mk.injEq] at he
  obtain ⟨rfl, rfl, _⟩ := he
  exact ⟨b, off, rfl, (World.cell?_of_block (w := w) (w' := w.setCell p u) (a := ⟨b, off + j, none⟩) (Below.heap_setCell _ _ _ _ hne)).trans hc⟩
theorem Tb.only {R : Nat} {w w' : World} (o : Only R w w') (h : Tb w) (hne : 0 ≠ R) : Tb w' := by
  obtain ⟨t0, t1, t2, t3⟩ := h
  have e := o.block 0 hne
  exact ⟨(World.cell?_of_block (w := w) (w' := w') (a := ⟨0, 0, none⟩) e).trans t0, (World.cell?_of_block (w := w) (w' := w') (a := ⟨0, 1, none⟩) e).trans t1, (World.cell?_of_block (w := w) (w' := w') (a := ⟨0, 2, none⟩) e).trans t2, (World.cell?_of_block (w := w) (w' := w') (a := ⟨0, 3, none⟩) e).trans t3⟩
theorem Tb.setOther {w : World} (h : Tb w) {p : Addr} (hne : 0 ≠ p.block) (u : Value) : Tb (w.setCell p u) := by
  obtain ⟨t0, t1, t2, t3⟩ := h
  have e := Below.heap_setCell w p u 0 hne
  exact ⟨(World.cell?_of_block (w := w) (a := ⟨0, 0, none⟩) e).trans t0, (World.cell?_of_block (w := w) (a := ⟨0, 1, none⟩) e).trans t1, (World.cell?_of_block (w := w) (a := ⟨0, 2, none⟩) e).trans t2, (World.cell?_of_block (w := w) (a := ⟨0, 3, none⟩) e).trans t3⟩


/-- What the reader's methods that fill a header begin with, and keep: the datagram's bytes, the table, the reader and the header. -/
structure In (w : World) (R H b off cap : Nat) (l : List UInt8) : Prop where
  sl : Sl w (some ⟨b, off, none⟩) l
  tb : Tb w
  ne : R ≠ H
  bR : b ≠ R
  bH : b ≠ H
  zR : 0 ≠ R
  zH : 0 ≠ H
theorem In.only {w w' : World} {R H b off cap : Nat} {l : List UInt8} (h : In w R H b off cap l) (o : Only R w w') : In w' R H b off cap l :=
  ⟨o.sl h.sl h.bR, Tb.only o h.tb h.zR, h.ne, h.bR, h.bH, h.zR, h.zH⟩
theorem In.set {w : World} {R H b off cap : Nat} {l : List UInt8} (h : In w R H b off cap l) (j : Nat) (u : Value) : In (w.setCell ⟨H, j, none⟩ u) R H b off cap l :=
  ⟨h.sl.setOther h.bH u, h.tb.setOther h.zH u, h.ne, h.bR, h.bH, h.zR, h.zH⟩
theorem In.drewN {w : World} {R H b off cap : Nat} {l : List UInt8} (h : In w R H b off cap l) (n : Nat) : In (w.drewN n) R H b off cap l :=
  ⟨h.sl, h.tb, h.ne, h.bR, h.bH, h.zR, h.zH⟩

theorem retryToken_any (ao : Option Addr) (len cap : Nat) (w : World) (hl : len ≤ 9223372036854775000) :
    Calls Tryd.prog 33 #[.slice ao len cap] w fun e w' => e = .returned (.bool (decide (0 < len ∧ len ≤ 512))) ∧ w' = w := by
  by_cases h0 : 0 < len
  · go_enter Tryd.func33, Tryd.ntmps33
    go_wp2
    go_ret
    exact ⟨ret_bool (by rw [Bool.eq_iff_iff]; simp; omega), rfl⟩
  · obtain rfl : len = 0 := by omega
    go_enter Tryd.func33, Tryd.ntmps33
    go_wp2
    go_ret
    exact ⟨ret_bool (by simp), rfl⟩

def bit (x m : Nat) : Bool := x / m % 2 == 1

/-- the short header -/
def shE (l : List UInt8) (ids : Int) : Int := if (l.getD 0 0).toNat / 64 % 2 = 0 then 11 else if (l.length : Int) < 1 + ids then 10 else 0
theorem and128 (x : Nat) (h : x < 256) : bits BinOp.and IntKind.u8 (x : Int) 128 = ((x / 128 % 2 * 128 : Nat) : Int) := by
  have : ∀ y : Fin 256, bits BinOp.and IntKind.u8 (y.val : Int) 128 = ((y.val / 128 % 2 * 128 : Nat) : Int) := by decide +kernel
  exact this ⟨x, h⟩
theorem and64 (x : Nat) (h : x < 256) : bits BinOp.and IntKind.u8 (x : Int) 64 = ((x / 64 % 2 * 64 : Nat) : Int) := by
  have : ∀ y : Fin 256, bits BinOp.and IntKind.u8 (y.val : Int) 64 = ((y.val / 64 % 2 * 64 : Nat) : Int) := by decide +kernel
  exact this ⟨x, h⟩
theorem and4 (x : Nat) (h : x < 256) : bits BinOp.and IntKind.u8 (x : Int) 4 = ((x / 4 % 2 * 4 : Nat) : Int) := by
  have : ∀ y : Fin 256, bits BinOp.and IntKind.u8 (y.val : Int) 4 = ((y.val / 4 % 2 * 4 : Nat) : Int) := by decide +kernel
  exact this ⟨x, h⟩
theorem and3 (x : Nat) (h : x < 256) : bits BinOp.and IntKind.u8 (x : Int) 3 = ((x % 4 : Nat) : Int) := by
  have : ∀ y : Fin 256, bits BinOp.and IntKind.u8 (y.val : Int) 3 = ((y.val % 4 : Nat) : Int) := by decide +kernel
  exact this ⟨x, h⟩
theorem and8 (x : Nat) (h : x < 256) : bits BinOp.and IntKind.u8 (x : Int) 8 = ((x / 8 % 2 * 8 : Nat) : Int) := by
  have : ∀ y : Fin 256, bits BinOp.and IntKind.u8 (y.val : Int) 8 = ((y.val / 8 % 2 * 8 : Nat) : Int) := by decide +kernel
  exact this ⟨x, h⟩
theorem and12 (x : Nat) (h : x < 256) : bits BinOp.and IntKind.u8 (x : Int) 12 = ((x / 4 % 4 * 4 : Nat) : Int) := by
  have : ∀ y : Fin 256, bits BinOp.and IntKind.u8 (y.val : Int) 12 = ((y.val / 4 % 4 * 4 : Nat) : Int) := by decide +kernel
  exact this ⟨x, h⟩
theorem and24 (x : Nat) (h : x < 256) : bits BinOp.and IntKind.u8 (x : Int) 24 = ((x / 8 % 4 * 8 : Nat) : Int) := by
  have : ∀ y : Fin 256, bits BinOp.and IntKind.u8 (y.val : Int) 24 = ((y.val / 8 % 4 * 8 : Nat) : Int) := by decide +kernel
  exact this ⟨x, h⟩
theorem and16 (x : Nat) (h : x < 256) : bits BinOp.and IntKind.u8 (x : Int) 16 = ((x / 16 % 2 * 16 : Nat) : Int) := by
  have : ∀ y : Fin 256, bits BinOp.and IntKind.u8 (y.val : Int) 16 = ((y.val / 16 % 2 * 16 : Nat) : Int) := by decide +kernel
  exact this ⟨x, h⟩
end Go.Proofs.YtlllejgpmdeeiaaDoor
