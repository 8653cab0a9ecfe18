/- VaultNobody, the walk. -/
import Derived.Test.YtpjoaimbaboleaaNob
import Derived.Deep.RegionHeld3
import Derived.Deep.MidRow
namespace Go.Proofs.Ytpjoaimbaboleaa
open Go.RowKit
set_option linter.unusedVariables false

/-- The handle 1. -/
def o16 : List UInt8 := [1, 0, 0, 0, 0, 0, 0, 0, 0, 0, 0, 0, 0, 0, 0, 0]
theorem hv_o : Value.agg #[.int .u8 1, .int .u8 0, .int .u8 0, .int .u8 0, .int .u8 0, .int .u8 0, .int .u8 0, .int .u8 0, .int .u8 0, .int .u8 0, .int .u8 0, .int .u8 0, .int .u8 0, .int .u8 0, .int .u8 0, .int .u8 0] = hv o16 := rfl
/-- What lies there of the law's own: the act, the two vaults. -/
structure Nw (W0 : World) (A C : Nat) (lb : ByteArray) (nu : Int) (o1 o2 : Option Addr) (n1 c1 n2 c2 : Nat) (pv : Option Addr) (w : World) : Prop where
  bel : Below W0.heap.size W0 w
  c4 : w.cell? ⟨A, 4, none⟩ = some (.string lb)
  c5 : w.cell? ⟨A, 5, none⟩ = some (.int .i64 nu)
  c6 : w.cell? ⟨A, 6, none⟩ = some (.slice o1 n1 c1)
  c7 : w.cell? ⟨A, 7, none⟩ = some (.slice o2 n2 c2)
  v0 : w.cell? ⟨C, 0, none⟩ = some (.pointer none)
  v1 : w.cell? ⟨C, 1, none⟩ = some (.pointer pv)
  no : No w pv
theorem Nw.go {W0 : World} {A C : Nat} {lb : ByteArray} {nu : Int} {o1 o2 : Option Addr} {n1 c1 n2 c2 : Nat} {pv : Option Addr} {w w' : World} (h : Nw W0 A C lb nu o1 o2 n1 c1 n2 c2 pv w) (hb : Below w.heap.size w w') : Nw W0 A C lb nu o1 o2 n1 c1 n2 c2 pv w' :=
  ⟨h.bel.trans (hb.mono h.bel.size), cell_bel h.c4 hb, cell_bel h.c5 hb, cell_bel h.c6 hb, cell_bel h.c7 hb, cell_bel h.v0 hb, cell_bel h.v1 hb, h.no.bel hb⟩
/-- A new box of a handle. -/
theorem nbox (w : World) (G H : List UInt8) : ((w.alloc (.cells (hl G).toArray 29)).setRow w.heap.size (hl H).toArray).heap[w.heap.size]? = some (.cells (hl H).toArray 29 (0, 0)) ∧ Below w.heap.size w ((w.alloc (.cells (hl G).toArray 29)).setRow w.heap.size (hl H).toArray) :=
  ⟨setRow_heap _ _ _ _ 29 (0, 0) (heap_alloc_new w _), bel_set (bel1 w _) (Nat.le_refl _) _⟩
end Go.Proofs.Ytpjoaimbaboleaa
