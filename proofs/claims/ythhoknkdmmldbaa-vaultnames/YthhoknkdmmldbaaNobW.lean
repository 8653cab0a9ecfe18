/- VaultNobody, the walk. -/
import Derived.Test.YthhoknkdmmldbaaNob
import Derived.Deep.RegionHeld3
import Derived.Deep.MidRow
namespace Go.Proofs.Ythhoknkdmmldbaa
open Go.RowKit
set_option linter.unusedVariables false

/-- The handle 1. -/
def o16 : List UInt8 := [1, 0, 0, 0, 0, 0, 0, 0, 0, 0, 0, 0, 0, 0, 0, 0]
theorem hv_o : Value.agg #[.int .u8 1, .int .u8 0, .int .u8 0, .int .u8 0, .int .u8 0, .int .u8 0, .int .u8 0, .int .u8 0, .int .u8 0, .int .u8 0, .int .u8 0, .int .u8 0, .int .u8 0, .int .u8 0, .int .u8 0, .int .u8 0] = hv o16 := rfl
/-- What lies there of the law's own: the act, the two vaults. -/
structure Nw (W0 : World) (A C : Nat) (lb : ByteArray) (nu : Int) (o1 o2 : Option Addr) (n1 c1 n2 c2 : Nat) (pv : Option Addr) (w : World) : Prop where
  bel : Below W0.heap.size W0 w
  c4 : w.cell? ⟨A, 4, none⟩ = some (.string lb)
  c5 : w.cell? ⟨A, 5, none⟩ = some (.int .i64 nu)
  c6 : w.cell? ⟨A, 6, none⟩ = some (.slice o1 n1 c1)
  c7 : w.cell? ⟨A, 7, none⟩ = some (.slice o2 n2 c2)
  v0 : w.cell? ⟨C, 0, none⟩ = some (.pointer none)
  v1 : w.cell? ⟨C, 1, none⟩ = some (.pointer pv)
  no : No w pv
theorem Nw.go {W0 : World} {A C : Nat} {lb : ByteArray} {nu : Int} {o1 o2 : Option Addr} {n1 c1 n2 c2 : Nat} {pv : Option Addr} {w w' : World} (h : Nw W0 A C lb nu o1 o2 n1 c1 n2 c2 pv w) (hb : Below w.heap.size w w') : Nw W0 A C lb nu o1 o2 n1 c1 n2 c2 pv w' :=
  ⟨h.bel.trans (hb.mono h.bel.size), cell_bel h.c4 hb, cell_bel h.c5 hb, cell_bel h.c6 hb, cell_bel h.c7 hb, cell_bel h.v0 hb, cell_bel h.v1 hb, h.no.bel hb⟩
/-- A new box of a handle. -/
theorem nbox (w : World) (G H : List UInt8) : ((w.alloc (.cells (hl G).toArray 28)).setRow w.heap.size (hl H).toArray).heap[w.heap.size]? = some (.cells (hl H).toArray 28 (0, 0)) ∧ Below w.heap.size w ((w.alloc (.cells (hl G).toArray 28)).setRow w.heap.size (hl H).toArray) :=
  ⟨setRow_heap _ _ _ _ 28 (0, 0) (heap_alloc_new w _), bel_set (bel1 w _) (Nat.le_refl _) _⟩
set_option maxRecDepth 100000 in
set_option maxHeartbeats 4000000 in
theorem nobody_walk (k a b c : Int) (lb : ByteArray) (nu : Int) (o1 o2 : Option Addr) (n1 c1 n2 c2 : Nat) (ow : Bool) (w : World) : Calls Try.prog 4 #[.agg #[.int .i64 k, .int .i64 a, .int .i64 b, .int .i64 c, .string lb, .int .i64 nu, .slice o1 n1 c1, .slice o2 n2 c2, .bool ow]] w fun e w' => e = .returned (.bool true) ∧ Below w.heap.size w w' := by
  go_enter Try.func4, Try.ntmps4
  go_wp2
  have hN0 : Nw w w.heap.size (w.heap.size + 1 + 1) lb nu o1 o2 n1 c1 n2 c2 (some ⟨w.heap.size + 1, 0, none⟩) (((w.alloc (.cells #[.int .i64 k, .int .i64 a, .int .i64 b, .int .i64 c, .string lb, .int .i64 nu, .slice o1 n1 c1, .slice o2 n2 c2, .bool ow] 40)).alloc (.cells #[.slice none 0 0, .map none] 45)).alloc (.cells #[.pointer none, .pointer (some ⟨w.heap.size + 1, 0, none⟩)] 23)) := by
    refine ⟨((bel1 w _).alloc (by simp) _).alloc (by simp; omega) _, ?_, ?_, ?_, ?_, ?_, ?_, .inr ⟨_, rfl, ?_⟩⟩ <;> simp [go_sem]
  generalize ((w.alloc (.cells #[.int .i64 k, .int .i64 a, .int .i64 b, .int .i64 c, .string lb, .int .i64 nu, .slice o1 n1 c1, .slice o2 n2 c2, .bool ow] 40)).alloc (.cells #[.slice none 0 0, .map none] 45)).alloc (.cells #[.pointer none, .pointer (some ⟨w.heap.size + 1, 0, none⟩)] 23) = W0 at *
  generalize w.heap.size + 1 + 1 = C at *
  generalize hpv : (some (⟨w.heap.size + 1, 0, none⟩ : Addr)) = pv at *
  generalize hAA : w.heap.size = AA at *
  go_loopg [23] 3 (fun kx s23 wr => ∃ j : Nat, s23 = .int .i64 j ∧ j ≤ 2 ∧ 2 - j ≤ kx ∧ Aside (Nw w AA C lb nu o1 o2 n1 c1 n2 c2 pv wr))
  case atStart => exact ⟨0, rfl, by omega, by omega, hN0⟩
  case round =>
    obtain ⟨j, rfl, hj, hg, HN⟩ := hrel
    clear hN0
    by_cases hlt : j < 2
    · obtain ⟨p, hp, hno⟩ : ∃ p, wr.cell? ⟨C, j, none⟩ = some (.pointer p) ∧ No wr p := by
        have := HN.out
        rcases (show j = 0 ∨ j = 1 by omega) with rfl | rfl
        · exact ⟨none, this.v0, .inl rfl⟩
        · exact ⟨pv, this.v1, this.no⟩
      have i1 : (j : Int) < 2 := by omega
      have i2 : (0 : Int) ≤ j := by omega
      have hw : IntKind.i64.wrap ((j : Int) + 1) = (j : Int) + 1 := by rw [IntKind.wrap_i64]; omega
      have HNO : Aside _ := hno
      clear hno
      go_wp2_with (refine st28 rfl (.tmp 5) (.tmp 27) rfl wr.heap.size o16 rfl hv_o z16 (heap_alloc_new wr _) rfl rfl (Hid.out ?_))
      rw [hz28]
      have HN' : Aside _ := HN.out.go (nbox wr z16 o16).2
      have HNO' : Aside _ := No.bel HNO.out (nbox wr z16 o16).2
      clear HN HNO
      have X5' : Aside _ := (nbox wr z16 o16).1
      generalize (wr.alloc (.cells (hl z16).toArray 28)).setRow wr.heap.size (hl o16).toArray = W1 at *
      generalize wr.heap.size = B5 at *
      have HN : Aside _ := HN'.out
      have HNO : Aside _ := HNO'.out
      have X5 : Aside _ := X5'.out
      clear HN' HNO' X5'
      try clear hp c4 c5 c6 c7
      have c4 := HN.out.c4
      have c5 := HN.out.c5
      have c6 := HN.out.c6
      have c7 := HN.out.c7
      refine mkHid ?_
      go_wp2_with (refine ld28 rfl (.tmp 5) rfl B5 rfl o16 X5.out rfl ?_)
      refine (no_derive p o16 lb o2 n2 c2 W1 HNO.out rfl).mono ?_
      rintro e W2 ⟨rfl, hb⟩
      have HN' : Aside _ := HN.out.go hb
      have HNO' : Aside _ := No.bel HNO.out hb
      have X5' : Aside _ := heap_bel X5.out hb
      clear HN HNO X5
      have HN : Aside _ := HN'.out
      have HNO : Aside _ := HNO'.out
      have X5 : Aside _ := X5'.out
      clear HN' HNO' hb c4 c5 c6 c7 X5'
      have c4 := HN.out.c4
      have c5 := HN.out.c5
      have c6 := HN.out.c6
      have c7 := HN.out.c7
      go_wp2_with (refine st28 rfl (.tmp 6) (.tmp 36) rfl W2.heap.size z16 rfl rfl z16 (heap_alloc_new W2 _) rfl rfl (Hid.out ?_))
      rw [hz28]
      have HN' : Aside _ := HN.out.go (nbox W2 z16 z16).2
      have HNO' : Aside _ := No.bel HNO.out (nbox W2 z16 z16).2
      have X5' : Aside _ := heap_bel X5.out (nbox W2 z16 z16).2
      clear HN HNO X5
      have X6' : Aside _ := (nbox W2 z16 z16).1
      generalize (W2.alloc (.cells (hl z16).toArray 28)).setRow W2.heap.size (hl z16).toArray = W3 at *
      generalize W2.heap.size = B6 at *
      have HN : Aside _ := HN'.out
      have HNO : Aside _ := HNO'.out
      have X5 : Aside _ := X5'.out
      have X6 : Aside _ := X6'.out
      clear HN' HNO' X5' X6'
      try clear hp c4 c5 c6 c7
      have c4 := HN.out.c4
      have c5 := HN.out.c5
      have c6 := HN.out.c6
      have c7 := HN.out.c7
      refine mkHid ?_
      go_wp2_with (refine ld28 rfl (.tmp 5) rfl B5 rfl o16 X5.out rfl ?_)
      refine (no_public p o16 W3 HNO.out rfl).mono ?_
      rintro e W4 ⟨rfl, hb⟩
      have HN' : Aside _ := HN.out.go hb
      have HNO' : Aside _ := No.bel HNO.out hb
      have X5' : Aside _ := heap_bel X5.out hb
      have X6' : Aside _ := heap_bel X6.out hb
      clear HN HNO X5 X6
      have HN : Aside _ := HN'.out
      have HNO : Aside _ := HNO'.out
      have X5 : Aside _ := X5'.out
      have X6 : Aside _ := X6'.out
      clear HN' HNO' hb c4 c5 c6 c7 X5' X6'
      have c4 := HN.out.c4
      have c5 := HN.out.c5
      have c6 := HN.out.c6
      have c7 := HN.out.c7
      go_wp2_with (refine st28 rfl (.tmp 8) (.tmp 42) rfl W4.heap.size z16 rfl rfl z16 (heap_alloc_new W4 _) rfl rfl (Hid.out ?_))
      rw [hz28]
      have HN' : Aside _ := HN.out.go (nbox W4 z16 z16).2
      have HNO' : Aside _ := No.bel HNO.out (nbox W4 z16 z16).2
      have X5' : Aside _ := heap_bel X5.out (nbox W4 z16 z16).2
      have X6' : Aside _ := heap_bel X6.out (nbox W4 z16 z16).2
      clear HN HNO X5 X6
      have X8' : Aside _ := (nbox W4 z16 z16).1
      generalize (W4.alloc (.cells (hl z16).toArray 28)).setRow W4.heap.size (hl z16).toArray = W5 at *
      generalize W4.heap.size = B8 at *
      have HN : Aside _ := HN'.out
      have HNO : Aside _ := HNO'.out
      have X5 : Aside _ := X5'.out
      have X6 : Aside _ := X6'.out
      have X8 : Aside _ := X8'.out
      clear HN' HNO' X5' X6' X8'
      try clear hp c4 c5 c6 c7
      have c4 := HN.out.c4
      have c5 := HN.out.c5
      have c6 := HN.out.c6
      have c7 := HN.out.c7
      refine mkHid ?_
      go_wp2_with (refine ld28 rfl (.tmp 5) rfl B5 rfl o16 X5.out rfl ?_)
      refine (no_agree p o16 o16 W5 HNO.out rfl).mono ?_
      rintro e W6 ⟨rfl, hb⟩
      have HN' : Aside _ := HN.out.go hb
      have HNO' : Aside _ := No.bel HNO.out hb
      have X5' : Aside _ := heap_bel X5.out hb
      have X6' : Aside _ := heap_bel X6.out hb
      have X8' : Aside _ := heap_bel X8.out hb
      clear HN HNO X5 X6 X8
      have HN : Aside _ := HN'.out
      have HNO : Aside _ := HNO'.out
      have X5 : Aside _ := X5'.out
      have X6 : Aside _ := X6'.out
      have X8 : Aside _ := X8'.out
      clear HN' HNO' hb c4 c5 c6 c7 X5' X6' X8'
      have c4 := HN.out.c4
      have c5 := HN.out.c5
      have c6 := HN.out.c6
      have c7 := HN.out.c7
      go_wp2_with (refine st28 rfl (.tmp 10) (.tmp 49) rfl W6.heap.size z16 rfl rfl z16 (heap_alloc_new W6 _) rfl rfl (Hid.out ?_))
      rw [hz28]
      have HN' : Aside _ := HN.out.go (nbox W6 z16 z16).2
      have HNO' : Aside _ := No.bel HNO.out (nbox W6 z16 z16).2
      have X5' : Aside _ := heap_bel X5.out (nbox W6 z16 z16).2
      have X6' : Aside _ := heap_bel X6.out (nbox W6 z16 z16).2
      have X8' : Aside _ := heap_bel X8.out (nbox W6 z16 z16).2
      clear HN HNO X5 X6 X8
      have X10' : Aside _ := (nbox W6 z16 z16).1
      generalize (W6.alloc (.cells (hl z16).toArray 28)).setRow W6.heap.size (hl z16).toArray = W7 at *
      generalize W6.heap.size = B10 at *
      have HN : Aside _ := HN'.out
      have HNO : Aside _ := HNO'.out
      have X5 : Aside _ := X5'.out
      have X6 : Aside _ := X6'.out
      have X8 : Aside _ := X8'.out
      have X10 : Aside _ := X10'.out
      clear HN' HNO' X5' X6' X8' X10'
      try clear hp c4 c5 c6 c7
      have c4 := HN.out.c4
      have c5 := HN.out.c5
      have c6 := HN.out.c6
      have c7 := HN.out.c7
      refine mkHid ?_
      go_wp2_with (refine ld28 rfl (.tmp 5) rfl B5 rfl o16 X5.out rfl ?_)
      refine (no_sign p o16 o2 n2 c2 W7 HNO.out rfl).mono ?_
      rintro e W8 ⟨rfl, hb⟩
      have HN' : Aside _ := HN.out.go hb
      have HNO' : Aside _ := No.bel HNO.out hb
      have X5' : Aside _ := heap_bel X5.out hb
      have X6' : Aside _ := heap_bel X6.out hb
      have X8' : Aside _ := heap_bel X8.out hb
      have X10' : Aside _ := heap_bel X10.out hb
      clear HN HNO X5 X6 X8 X10
      have HN : Aside _ := HN'.out
      have HNO : Aside _ := HNO'.out
      have X5 : Aside _ := X5'.out
      have X6 : Aside _ := X6'.out
      have X8 : Aside _ := X8'.out
      have X10 : Aside _ := X10'.out
      clear HN' HNO' hb c4 c5 c6 c7 X5' X6' X8' X10'
      have c4 := HN.out.c4
      have c5 := HN.out.c5
      have c6 := HN.out.c6
      have c7 := HN.out.c7
      go_wp2_with (refine st28 rfl (.tmp 12) (.tmp 57) rfl W8.heap.size z16 rfl rfl z16 (heap_alloc_new W8 _) rfl rfl (Hid.out ?_))
      rw [hz28]
      have HN' : Aside _ := HN.out.go (nbox W8 z16 z16).2
      have HNO' : Aside _ := No.bel HNO.out (nbox W8 z16 z16).2
      have X5' : Aside _ := heap_bel X5.out (nbox W8 z16 z16).2
      have X6' : Aside _ := heap_bel X6.out (nbox W8 z16 z16).2
      have X8' : Aside _ := heap_bel X8.out (nbox W8 z16 z16).2
      have X10' : Aside _ := heap_bel X10.out (nbox W8 z16 z16).2
      clear HN HNO X5 X6 X8 X10
      have X12' : Aside _ := (nbox W8 z16 z16).1
      generalize (W8.alloc (.cells (hl z16).toArray 28)).setRow W8.heap.size (hl z16).toArray = W9 at *
      generalize W8.heap.size = B12 at *
      have HN : Aside _ := HN'.out
      have HNO : Aside _ := HNO'.out
      have X5 : Aside _ := X5'.out
      have X6 : Aside _ := X6'.out
      have X8 : Aside _ := X8'.out
      have X10 : Aside _ := X10'.out
      have X12 : Aside _ := X12'.out
      clear HN' HNO' X5' X6' X8' X10' X12'
      try clear hp c4 c5 c6 c7
      have c4 := HN.out.c4
      have c5 := HN.out.c5
      have c6 := HN.out.c6
      have c7 := HN.out.c7
      refine mkHid ?_
      go_wp2_with (refine ld28 rfl (.tmp 5) rfl B5 rfl o16 X5.out rfl ?_)
      refine (no_seal p o16 nu o1 o2 n1 c1 n2 c2 W9 HNO.out rfl).mono ?_
      rintro e W10 ⟨rfl, hb⟩
      have HN' : Aside _ := HN.out.go hb
      have HNO' : Aside _ := No.bel HNO.out hb
      have X5' : Aside _ := heap_bel X5.out hb
      have X6' : Aside _ := heap_bel X6.out hb
      have X8' : Aside _ := heap_bel X8.out hb
      have X10' : Aside _ := heap_bel X10.out hb
      have X12' : Aside _ := heap_bel X12.out hb
      clear HN HNO X5 X6 X8 X10 X12
      have HN : Aside _ := HN'.out
      have HNO : Aside _ := HNO'.out
      have X5 : Aside _ := X5'.out
      have X6 : Aside _ := X6'.out
      have X8 : Aside _ := X8'.out
      have X10 : Aside _ := X10'.out
      have X12 : Aside _ := X12'.out
      clear HN' HNO' hb c4 c5 c6 c7 X5' X6' X8' X10' X12'
      have c4 := HN.out.c4
      have c5 := HN.out.c5
      have c6 := HN.out.c6
      have c7 := HN.out.c7
      go_wp2_with (refine ld28 rfl (.tmp 5) rfl B5 rfl o16 X5.out rfl ?_)
      refine (no_open p o16 nu o1 o2 n1 c1 n2 c2 W10 HNO.out rfl).mono ?_
      rintro e W11 ⟨rfl, hb⟩
      have HN' : Aside _ := HN.out.go hb
      have HNO' : Aside _ := No.bel HNO.out hb
      have X5' : Aside _ := heap_bel X5.out hb
      have X6' : Aside _ := heap_bel X6.out hb
      have X8' : Aside _ := heap_bel X8.out hb
      have X10' : Aside _ := heap_bel X10.out hb
      have X12' : Aside _ := heap_bel X12.out hb
      clear HN HNO X5 X6 X8 X10 X12
      have HN : Aside _ := HN'.out
      have HNO : Aside _ := HNO'.out
      have X5 : Aside _ := X5'.out
      have X6 : Aside _ := X6'.out
      have X8 : Aside _ := X8'.out
      have X10 : Aside _ := X10'.out
      have X12 : Aside _ := X12'.out
      clear HN' HNO' hb c4 c5 c6 c7 X5' X6' X8' X10' X12'
      have c4 := HN.out.c4
      have c5 := HN.out.c5
      have c6 := HN.out.c6
      have c7 := HN.out.c7
      go_wp2_with (refine st28 rfl (.tmp 18) (.tmp 83) rfl W11.heap.size z16 rfl hv_z z16 (heap_alloc_new W11 _) rfl rfl (Hid.out ?_))
      rw [hz28]
      have HN' : Aside _ := HN.out.go (nbox W11 z16 z16).2
      have HNO' : Aside _ := No.bel HNO.out (nbox W11 z16 z16).2
      have X5' : Aside _ := heap_bel X5.out (nbox W11 z16 z16).2
      have X6' : Aside _ := heap_bel X6.out (nbox W11 z16 z16).2
      have X8' : Aside _ := heap_bel X8.out (nbox W11 z16 z16).2
      have X10' : Aside _ := heap_bel X10.out (nbox W11 z16 z16).2
      have X12' : Aside _ := heap_bel X12.out (nbox W11 z16 z16).2
      clear HN HNO X5 X6 X8 X10 X12
      have X18' : Aside _ := (nbox W11 z16 z16).1
      generalize (W11.alloc (.cells (hl z16).toArray 28)).setRow W11.heap.size (hl z16).toArray = W12 at *
      generalize W11.heap.size = B18 at *
      have HN : Aside _ := HN'.out
      have HNO : Aside _ := HNO'.out
      have X5 : Aside _ := X5'.out
      have X6 : Aside _ := X6'.out
      have X8 : Aside _ := X8'.out
      have X10 : Aside _ := X10'.out
      have X12 : Aside _ := X12'.out
      have X18 : Aside _ := X18'.out
      clear HN' HNO' X5' X6' X8' X10' X12' X18'
      try clear hp c4 c5 c6 c7
      have c4 := HN.out.c4
      have c5 := HN.out.c5
      have c6 := HN.out.c6
      have c7 := HN.out.c7
      refine mkHid ?_
      go_wp2_with fail
      have hbd : Below W12.heap.size W12 W12.drew := bel_drew W12
      have hmi : (Try.prog.info? 28).map (·.size) = some (hl z16).length := hi28
      have hneq : ∀ X, (binOp .neq 28 (.agg (hl z16).toArray) (.agg (hl z16).toArray)).run Try.prog X = .ok (.bool false) X := fun X => neq28 z16 z16 rfl rfl X
      have heqn : ∀ X, (Op.equalIn 10000 28 (.agg (hl z16).toArray) (.agg (hl z16).toArray)).run Try.prog X = .ok true X := fun X => equalIn_h 28 hu28 9998 z16 z16 rfl rfl X
      have HKK : Aside (∀ X, Below W12.drew.heap.size W12.drew X → X.rangeAt B6 0 (hl z16) ∧ X.rangeAt B8 0 (hl z16) ∧ X.rangeAt B10 0 (hl z16) ∧ X.rangeAt B12 0 (hl z16) ∧ X.rangeAt B18 0 (hl z16)) := fun X hX => ⟨range_of (heap_bel (heap_bel X6.out hbd) hX), range_of (heap_bel (heap_bel X8.out hbd) hX), range_of (heap_bel (heap_bel X10.out hbd) hX), range_of (heap_bel (heap_bel X12.out hbd) hX), range_of (heap_bel (heap_bel X18.out hbd) hX)⟩
      have HR1 : Aside (Calls Try.prog 10 #[.pointer p] W12.drew fun e w' => e = .returned (.agg (hl z16).toArray) ∧ Below W12.drew.heap.size W12.drew w') := no_root p W12.drew (No.bel HNO.out hbd)
      have HR2 : Aside (∀ X, Below W12.drew.heap.size W12.drew X → Calls Try.prog 20 #[.pointer p] X fun e w' => e = .returned (.agg (hl z16).toArray) ∧ Below X.heap.size X w') := fun X hX => no_fresh p X (No.bel (No.bel HNO.out hbd) hX)
      have hmu := hu28
      clear c4 c5 c6 c7 hbd
      unfold hv
      generalize hl z16 = Z at *
      have HSS : Aside _ := HKK.out _ (Below.refl _ _)
      refine wp_region_held_drew (S := fun w' => w'.rangeAt B6 0 Z ∧ w'.rangeAt B8 0 Z ∧ w'.rangeAt B10 0 Z ∧ w'.rangeAt B12 0 Z ∧ w'.rangeAt B18 0 Z) (by kernel_rfl) HSS.out (fun hHeld => ?_)
      refine wpAnyH_take (i := 0) (v := .pointer p) rfl (by kernel_rfl) (by kernel_rfl) (by kernel_rfl) (fun _ _ _ h => h) (Or.inl ⟨by rfl, by intro w _; go_simp⟩) hHeld ?_
      refine norm_any' (fun K hK => ?_)
      go_simp
      refine hK _ _ ?_
      clear hK K
      refine wpAnyH_take (i := 2) (v := .agg Z.toArray) rfl (by kernel_rfl) (by kernel_rfl) (by kernel_rfl) (fun _ _ _ h => h) (yieldsIf_load_mid (by rfl) 28 _ rfl B18 0 rfl Z _ (fun _ h => h.2.2.2.2) hmu rfl hmi) hHeld ?_
      refine norm_any' (fun K hK => ?_)
      go_simp
      refine hK _ _ ?_
      clear hK K
      refine wpAnyH_ready (rs := [1]) (by kernel_rfl) (by simp) (AllReadyH.cons rfl (fun K hK => ?_) AllReadyH.nil)
      go_simp
      refine Calls.mono HR1.out ?_; rintro e W20 ⟨rfl, hz⟩; have HZ : Aside (Below W12.drew.heap.size W12.drew W20) := hz; clear hz
      refine hK.out _ _ (HKK.out _ HZ.out) (fun hHeld => ?_)
      clear hK K
      refine norm_any' (fun K hK => ?_)
      go_simp
      refine hK _ _ ?_
      clear hK K
      refine wpAnyH_take (i := 3) (v := .bool false) rfl (by kernel_rfl) (by kernel_rfl) (by kernel_rfl) (fun _ _ _ h => h) (Or.inl ⟨by rfl, by intro w _; go_simp⟩) hHeld ?_
      refine norm_any' (fun K hK => ?_)
      go_simp
      refine hK _ _ ?_
      clear hK K
      refine wpAnyH_take (i := 4) (v := .bool false) rfl (by kernel_rfl) (by kernel_rfl) (by kernel_rfl) (fun _ _ _ h => h) (Or.inl ⟨by rfl, by intro w _; go_simp⟩) hHeld ?_
      refine norm_any' (fun K hK => ?_)
      go_simp
      refine hK _ _ ?_
      clear hK K
      refine wpAnyH_take (i := 5) (v := .pointer p) rfl (by kernel_rfl) (by kernel_rfl) (by kernel_rfl) (fun _ _ _ h => h) (Or.inl ⟨by rfl, by intro w _; go_simp⟩) hHeld ?_
      refine norm_any' (fun K hK => ?_)
      go_simp
      refine hK _ _ ?_
      clear hK K
      refine wpAnyH_take (i := 7) (v := .agg Z.toArray) rfl (by kernel_rfl) (by kernel_rfl) (by kernel_rfl) (fun _ _ _ h => h) (yieldsIf_load_mid (by rfl) 28 _ rfl B18 0 rfl Z _ (fun _ h => h.2.2.2.2) hmu rfl hmi) hHeld ?_
      refine norm_any' (fun K hK => ?_)
      go_simp
      refine hK _ _ ?_
      clear hK K
      refine wpAnyH_ready (rs := [6]) (by kernel_rfl) (by simp) (AllReadyH.cons rfl (fun K hK => ?_) AllReadyH.nil)
      go_simp
      refine Calls.mono (HR2.out _ HZ.out) ?_; rintro e W21 ⟨rfl, hz⟩; have HZ2 : Aside (Below W12.drew.heap.size W12.drew W21) := HZ.out.trans (hz.mono HZ.out.size); clear hz
      refine hK.out _ _ (HKK.out _ HZ2.out) (fun hHeld => ?_)
      clear hK K
      refine norm_any' (fun K hK => ?_)
      go_simp
      refine hK _ _ ?_
      clear hK K
      refine wpAnyH_take (i := 8) (v := .bool false) rfl (by kernel_rfl) (by kernel_rfl) (by kernel_rfl) (fun _ _ _ h => h) (Or.inl ⟨by rfl, by intro w _; go_simp⟩) hHeld ?_
      refine norm_any' (fun K hK => ?_)
      go_simp
      refine hK _ _ ?_
      clear hK K
      refine wpAnyH_take (i := 9) (v := .bool false) rfl (by kernel_rfl) (by kernel_rfl) (by kernel_rfl) (fun _ _ _ h => h) (Or.inl ⟨by rfl, by intro w _; go_simp⟩) hHeld ?_
      refine norm_any' (fun K hK => ?_)
      go_simp
      refine hK _ _ ?_
      clear hK K
      refine wpAnyH_take (i := 10) (v := .bool false) rfl (by kernel_rfl) (by kernel_rfl) (by kernel_rfl) (fun _ _ _ h => h) (Or.inl ⟨by rfl, by intro w _; go_simp⟩) hHeld ?_
      refine norm_any' (fun K hK => ?_)
      go_simp
      refine hK _ _ ?_
      clear hK K
      refine wpAnyH_take (i := 11) (v := .agg Z.toArray) rfl (by kernel_rfl) (by kernel_rfl) (by kernel_rfl) (fun _ _ _ h => h) (yieldsIf_load_mid (by rfl) 28 _ rfl B6 0 rfl Z _ (fun _ h => h.1) hmu rfl hmi) hHeld ?_
      refine norm_any' (fun K hK => ?_)
      go_simp
      refine hK _ _ ?_
      clear hK K
      refine wpAnyH_take (i := 12) (v := .agg Z.toArray) rfl (by kernel_rfl) (by kernel_rfl) (by kernel_rfl) (fun _ _ _ h => h) (yieldsIf_load_mid (by rfl) 28 _ rfl B18 0 rfl Z _ (fun _ h => h.2.2.2.2) hmu rfl hmi) hHeld ?_
      refine norm_any' (fun K hK => ?_)
      go_simp
      refine hK _ _ ?_
      clear hK K
      refine wpAnyH_take (i := 13) (v := .bool false) rfl (by kernel_rfl) (by kernel_rfl) (by kernel_rfl) (fun _ _ _ h => h) (Or.inl ⟨by rfl, by intro w _; go_simp⟩) hHeld ?_
      refine norm_any' (fun K hK => ?_)
      go_simp
      refine hK _ _ ?_
      clear hK K
      refine wpAnyH_take (i := 14) (v := .bool false) rfl (by kernel_rfl) (by kernel_rfl) (by kernel_rfl) (fun _ _ _ h => h) (Or.inl ⟨by rfl, by intro w _; go_simp⟩) hHeld ?_
      refine norm_any' (fun K hK => ?_)
      go_simp
      refine hK _ _ ?_
      clear hK K
      refine wpAnyH_take (i := 15) (v := .bool false) rfl (by kernel_rfl) (by kernel_rfl) (by kernel_rfl) (fun _ _ _ h => h) (Or.inl ⟨by rfl, by intro w _; go_simp⟩) hHeld ?_
      refine norm_any' (fun K hK => ?_)
      go_simp
      refine hK _ _ ?_
      clear hK K
      refine wpAnyH_take (i := 16) (v := .int .i64 1) rfl (by kernel_rfl) (by kernel_rfl) (by kernel_rfl) (fun _ _ _ h => h) (Or.inl ⟨by rfl, by intro w _; go_simp⟩) hHeld ?_
      refine norm_any' (fun K hK => ?_)
      go_simp
      refine hK _ _ ?_
      clear hK K
      refine wpAnyH_take (i := 17) (v := .bool false) rfl (by kernel_rfl) (by kernel_rfl) (by kernel_rfl) (fun _ _ _ h => h) (Or.inl ⟨by rfl, by intro w _; go_simp⟩) hHeld ?_
      refine norm_any' (fun K hK => ?_)
      go_simp
      refine hK _ _ ?_
      clear hK K
      refine wpAnyH_take (i := 18) (v := .bool false) rfl (by kernel_rfl) (by kernel_rfl) (by kernel_rfl) (fun _ _ _ h => h) (Or.inl ⟨by rfl, by intro w _; go_simp⟩) hHeld ?_
      refine norm_any' (fun K hK => ?_)
      go_simp
      refine hK _ _ ?_
      clear hK K
      refine wpAnyH_take (i := 19) (v := .bool false) rfl (by kernel_rfl) (by kernel_rfl) (by kernel_rfl) (fun _ _ _ h => h) (Or.inl ⟨by rfl, by intro w _; go_simp⟩) hHeld ?_
      refine norm_any' (fun K hK => ?_)
      go_simp
      refine hK _ _ ?_
      clear hK K
      refine wpAnyH_take (i := 20) (v := .agg Z.toArray) rfl (by kernel_rfl) (by kernel_rfl) (by kernel_rfl) (fun _ _ _ h => h) (yieldsIf_load_mid (by rfl) 28 _ rfl B8 0 rfl Z _ (fun _ h => h.2.1) hmu rfl hmi) hHeld ?_
      refine norm_any' (fun K hK => ?_)
      go_simp
      refine hK _ _ ?_
      clear hK K
      refine wpAnyH_take (i := 21) (v := .agg Z.toArray) rfl (by kernel_rfl) (by kernel_rfl) (by kernel_rfl) (fun _ _ _ h => h) (yieldsIf_load_mid (by rfl) 28 _ rfl B18 0 rfl Z _ (fun _ h => h.2.2.2.2) hmu rfl hmi) hHeld ?_
      refine norm_any' (fun K hK => ?_)
      go_simp
      refine hK _ _ ?_
      clear hK K
      refine wpAnyH_take (i := 22) (v := .bool false) rfl (by kernel_rfl) (by kernel_rfl) (by kernel_rfl) (fun _ _ _ h => h) (Or.inl ⟨by rfl, by intro w _; go_simp⟩) hHeld ?_
      refine norm_any' (fun K hK => ?_)
      go_simp
      refine hK _ _ ?_
      clear hK K
      refine wpAnyH_take (i := 23) (v := .bool false) rfl (by kernel_rfl) (by kernel_rfl) (by kernel_rfl) (fun _ _ _ h => h) (Or.inl ⟨by rfl, by intro w _; go_simp⟩) hHeld ?_
      refine norm_any' (fun K hK => ?_)
      go_simp
      refine hK _ _ ?_
      clear hK K
      refine wpAnyH_take (i := 24) (v := .bool false) rfl (by kernel_rfl) (by kernel_rfl) (by kernel_rfl) (fun _ _ _ h => h) (Or.inl ⟨by rfl, by intro w _; go_simp⟩) hHeld ?_
      refine norm_any' (fun K hK => ?_)
      go_simp
      refine hK _ _ ?_
      clear hK K
      refine wpAnyH_take (i := 25) (v := .int .i64 1) rfl (by kernel_rfl) (by kernel_rfl) (by kernel_rfl) (fun _ _ _ h => h) (Or.inl ⟨by rfl, by intro w _; go_simp⟩) hHeld ?_
      refine norm_any' (fun K hK => ?_)
      go_simp
      refine hK _ _ ?_
      clear hK K
      refine wpAnyH_take (i := 26) (v := .bool false) rfl (by kernel_rfl) (by kernel_rfl) (by kernel_rfl) (fun _ _ _ h => h) (Or.inl ⟨by rfl, by intro w _; go_simp⟩) hHeld ?_
      refine norm_any' (fun K hK => ?_)
      go_simp
      refine hK _ _ ?_
      clear hK K
      refine wpAnyH_take (i := 27) (v := .bool false) rfl (by kernel_rfl) (by kernel_rfl) (by kernel_rfl) (fun _ _ _ h => h) (Or.inl ⟨by rfl, by intro w _; go_simp⟩) hHeld ?_
      refine norm_any' (fun K hK => ?_)
      go_simp
      refine hK _ _ ?_
      clear hK K
      refine wpAnyH_take (i := 28) (v := .bool false) rfl (by kernel_rfl) (by kernel_rfl) (by kernel_rfl) (fun _ _ _ h => h) (Or.inl ⟨by rfl, by intro w _; go_simp⟩) hHeld ?_
      refine norm_any' (fun K hK => ?_)
      go_simp
      refine hK _ _ ?_
      clear hK K
      refine wpAnyH_take (i := 29) (v := .agg Z.toArray) rfl (by kernel_rfl) (by kernel_rfl) (by kernel_rfl) (fun _ _ _ h => h) (yieldsIf_load_mid (by rfl) 28 _ rfl B10 0 rfl Z _ (fun _ h => h.2.2.1) hmu rfl hmi) hHeld ?_
      refine norm_any' (fun K hK => ?_)
      go_simp
      refine hK _ _ ?_
      clear hK K
      refine wpAnyH_take (i := 30) (v := .agg Z.toArray) rfl (by kernel_rfl) (by kernel_rfl) (by kernel_rfl) (fun _ _ _ h => h) (yieldsIf_load_mid (by rfl) 28 _ rfl B18 0 rfl Z _ (fun _ h => h.2.2.2.2) hmu rfl hmi) hHeld ?_
      refine norm_any' (fun K hK => ?_)
      go_simp
      refine hK _ _ ?_
      clear hK K
      refine wpAnyH_take (i := 31) (v := .bool false) rfl (by kernel_rfl) (by kernel_rfl) (by kernel_rfl) (fun _ _ _ h => h) (Or.inl ⟨by rfl, by intro w _; go_simp⟩) hHeld ?_
      refine norm_any' (fun K hK => ?_)
      go_simp
      refine hK _ _ ?_
      clear hK K
      refine wpAnyH_take (i := 32) (v := .bool false) rfl (by kernel_rfl) (by kernel_rfl) (by kernel_rfl) (fun _ _ _ h => h) (Or.inl ⟨by rfl, by intro w _; go_simp⟩) hHeld ?_
      refine norm_any' (fun K hK => ?_)
      go_simp
      refine hK _ _ ?_
      clear hK K
      refine wpAnyH_take (i := 33) (v := .bool false) rfl (by kernel_rfl) (by kernel_rfl) (by kernel_rfl) (fun _ _ _ h => h) (Or.inl ⟨by rfl, by intro w _; go_simp⟩) hHeld ?_
      refine norm_any' (fun K hK => ?_)
      go_simp
      refine hK _ _ ?_
      clear hK K
      refine wpAnyH_take (i := 34) (v := .int .i64 1) rfl (by kernel_rfl) (by kernel_rfl) (by kernel_rfl) (fun _ _ _ h => h) (Or.inl ⟨by rfl, by intro w _; go_simp⟩) hHeld ?_
      refine norm_any' (fun K hK => ?_)
      go_simp
      refine hK _ _ ?_
      clear hK K
      refine wpAnyH_take (i := 35) (v := .bool false) rfl (by kernel_rfl) (by kernel_rfl) (by kernel_rfl) (fun _ _ _ h => h) (Or.inl ⟨by rfl, by intro w _; go_simp⟩) hHeld ?_
      refine norm_any' (fun K hK => ?_)
      go_simp
      refine hK _ _ ?_
      clear hK K
      refine wpAnyH_take (i := 36) (v := .bool false) rfl (by kernel_rfl) (by kernel_rfl) (by kernel_rfl) (fun _ _ _ h => h) (Or.inl ⟨by rfl, by intro w _; go_simp⟩) hHeld ?_
      refine norm_any' (fun K hK => ?_)
      go_simp
      refine hK _ _ ?_
      clear hK K
      refine wpAnyH_take (i := 37) (v := .bool false) rfl (by kernel_rfl) (by kernel_rfl) (by kernel_rfl) (fun _ _ _ h => h) (Or.inl ⟨by rfl, by intro w _; go_simp⟩) hHeld ?_
      refine norm_any' (fun K hK => ?_)
      go_simp
      refine hK _ _ ?_
      clear hK K
      refine wpAnyH_take (i := 38) (v := .agg Z.toArray) rfl (by kernel_rfl) (by kernel_rfl) (by kernel_rfl) (fun _ _ _ h => h) (yieldsIf_load_mid (by rfl) 28 _ rfl B12 0 rfl Z _ (fun _ h => h.2.2.2.1) hmu rfl hmi) hHeld ?_
      refine norm_any' (fun K hK => ?_)
      go_simp
      refine hK _ _ ?_
      clear hK K
      refine wpAnyH_take (i := 39) (v := .agg Z.toArray) rfl (by kernel_rfl) (by kernel_rfl) (by kernel_rfl) (fun _ _ _ h => h) (yieldsIf_load_mid (by rfl) 28 _ rfl B18 0 rfl Z _ (fun _ h => h.2.2.2.2) hmu rfl hmi) hHeld ?_
      refine norm_any' (fun K hK => ?_)
      go_simp
      refine hK _ _ ?_
      clear hK K
      refine wpAnyH_take (i := 40) (v := .bool false) rfl (by kernel_rfl) (by kernel_rfl) (by kernel_rfl) (fun _ _ _ h => h) (Or.inl ⟨by rfl, by intro w _; go_simp⟩) hHeld ?_
      refine norm_any' (fun K hK => ?_)
      go_simp
      refine hK _ _ ?_
      clear hK K
      refine wpAnyH_take (i := 41) (v := .bool false) rfl (by kernel_rfl) (by kernel_rfl) (by kernel_rfl) (fun _ _ _ h => h) (Or.inl ⟨by rfl, by intro w _; go_simp⟩) hHeld ?_
      refine norm_any' (fun K hK => ?_)
      go_simp
      refine hK _ _ ?_
      clear hK K
      refine wpAnyH_take (i := 42) (v := .bool false) rfl (by kernel_rfl) (by kernel_rfl) (by kernel_rfl) (fun _ _ _ h => h) (Or.inl ⟨by rfl, by intro w _; go_simp⟩) hHeld ?_
      refine norm_any' (fun K hK => ?_)
      go_simp
      refine hK _ _ ?_
      clear hK K
      refine wpAnyH_take (i := 43) (v := .int .i64 1) rfl (by kernel_rfl) (by kernel_rfl) (by kernel_rfl) (fun _ _ _ h => h) (Or.inl ⟨by rfl, by intro w _; go_simp⟩) hHeld ?_
      refine norm_any' (fun K hK => ?_)
      go_simp
      refine hK _ _ ?_
      clear hK K
      refine wpAnyH_take (i := 44) (v := .bool false) rfl (by kernel_rfl) (by kernel_rfl) (by kernel_rfl) (fun _ _ _ h => h) (Or.inl ⟨by rfl, by intro w _; go_simp⟩) hHeld ?_
      refine norm_any' (fun K hK => ?_)
      go_simp
      refine hK _ _ ?_
      clear hK K
      refine wpAnyH_take (i := 45) (v := .bool false) rfl (by kernel_rfl) (by kernel_rfl) (by kernel_rfl) (fun _ _ _ h => h) (Or.inl ⟨by rfl, by intro w _; go_simp⟩) hHeld ?_
      refine norm_any' (fun K hK => ?_)
      go_simp
      refine hK _ _ ?_
      clear hK K
      refine wpAnyH_done (by kernel_rfl) ?_ _
      have hbz : Below W12.heap.size W12 W21 := (bel_drew W12).trans HZ2.out
      have N21 : Aside _ := HN.out.go hbz
      have O21 : Aside (No W21 p) := No.bel HNO.out hbz
      have Y5 : Aside _ := heap_bel X5.out hbz
      have c7 := N21.out.c7
      clear HKK HSS HR1 HR2 hneq heqn hHeld X6 X8 X10 X12 X18 HN HNO hbz hmi hmu
      go_wp2_with (refine ld28g (by rfl) (.tmp 5) rfl B5 rfl o16 Y5.out rfl ?_)
      refine (no_verify p o16 o16 o2 n2 c2 W21 O21.out rfl).mono ?_
      rintro e W22 ⟨rfl, hb⟩
      have N22 : Aside _ := N21.out.go hb
      have O22 : Aside (No W22 p) := No.bel O21.out hb
      have Y5' : Aside _ := heap_bel Y5.out hb
      clear c7 hb
      go_wp2_with (refine ld28g (by rfl) (.tmp 5) rfl B5 rfl o16 Y5'.out rfl ?_)
      refine (no_known p o16 W22 O22.out rfl).mono ?_
      rintro e W23 ⟨rfl, hb⟩
      have N23 : Aside _ := N22.out.go hb
      have O23 : Aside (No W23 p) := No.bel O22.out hb
      clear hb N21 N22 O21 O22 Y5 Y5'
      have c7 := N23.out.c7
      go_wp2_with fail
      refine (no_spied p _ _ _ _ (No.bel O23.out (bel1 _ _))).mono ?_
      rintro e W24 ⟨rfl, hb⟩
      subst W24
      have N24 : Aside _ := N23.out.go (bel1 W23 (.cells #[.slice o2 n2 c2] 38))
      have O24 : Aside (No (W23.alloc (.cells #[.slice o2 n2 c2] 38)) p) := No.bel O23.out (bel1 W23 _)
      clear c7 N23 O23
      generalize W23.alloc (.cells #[.slice o2 n2 c2] 38) = W24 at *
      have c7 := N24.out.c7
      go_wp2_with fail
      refine (no_hidden p o2 none n2 c2 0 0 W24 O24.out).mono ?_
      rintro e W25 ⟨rfl, hb⟩
      have N25 : Aside _ := N24.out.go hb
      clear c7 hb N24 O24
      go_wp2
      go_roundg (2 - (j + 1))
      case measure => omega
      case rel => exact ⟨j + 1, by simp, by omega, Nat.le_refl _, N25.out⟩
    · obtain rfl : j = 2 := by omega
      go_wp2
      go_ret
      refine ⟨rfl, ?_⟩
      exact HN.out.bel
end Go.Proofs.Ythhoknkdmmldbaa
