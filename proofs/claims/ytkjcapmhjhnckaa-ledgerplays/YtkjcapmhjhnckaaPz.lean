/- LedgerPlays: both ledgers side by side. -/
import Derived.Test.YtkjcapmhjhnckaaJp
namespace Go.Proofs.Ytkjcapmhjhnckaa
open Go.RowKit Go.Maps Go.Shelf
set_option linter.unusedVariables false
set_option maxRecDepth 100000

/-- The ledger (A, L) and the reference's (B, R) in one world, both of the law's own. -/
structure PlW (w : World) (A : Ad) (B : Ra) (L : Ls) (R : Rs) (M : Nat) (X : World) : Prop where
  l : Lg X A L
  r : Rl X B R
  ok : L.ok M
  m : A.m ≤ M
  len : R.L.length ≤ M
  ap : ∀ k, A.own k → ¬ B.own k
  a0 : ∀ k, A.own k → w.heap.size ≤ k
  b0 : ∀ k, B.own k → w.heap.size ≤ k
  bel : Below w.heap.size w X
section
variable {w X Y : World} {A A' : Ad} {B B' : Ra} {L L' : Ls} {R R' : Rs} {M M' : Nat}
theorem PlW.bl (h : PlW w A B L R M X) (hb : Below X.heap.size X Y) : PlW w A B L R M Y :=
  ⟨h.l.bel hb, h.r.bel hb, h.ok, h.m, h.len, h.ap, h.a0, h.b0, h.bel.trans (hb.mono h.bel.size)⟩
/-- The ledger's own step. -/
theorem PlW.left (h : PlW w A B L R M X) (hs : Stp A A' X Y) (hl : Lg Y A' L') (ho : L'.ok M') (hm : A'.m ≤ M') (hM : M ≤ M') : PlW w A' B L' R M' Y := by
  obtain ⟨hb, ha⟩ := hs.toBelow h.bel.size h.a0
  refine ⟨hl, h.r.chg hs.chg fun k hk hA => h.ap k hA hk, ho, hm, Nat.le_trans h.len hM, fun k hk hB => ?_, ha, h.b0, h.bel.trans hb⟩
  rcases hs.own k hk with h1 | h1
  · exact h.ap k h1 hB
  · have := h.r.lt hB
    omega
/-- The reference's own step. -/
theorem PlW.right (h : PlW w A B L R M X) (hs : Rp B B' X Y) (hr : Rl Y B' R') (hl : R'.L.length ≤ M) : PlW w A B' L R' M Y := by
  have hb : Below w.heap.size X Y := ⟨hs.chg.1, hs.chg.2.1, hs.chg.2.2.1, hs.chg.2.2.2.1, fun k hk => hs.chg.2.2.2.2 k (by have := h.bel.size; omega) fun hB => by have := h.b0 k hB; omega⟩
  refine ⟨h.l.chg hs.chg fun k hk hB => h.ap k hk hB, hr, h.ok, h.m, hl, fun k hk hB => ?_, h.a0, fun k hk => ?_, h.bel.trans hb⟩
  · rcases hs.own k hB with h1 | h1
    · exact h.ap k hk h1
    · have := h.l.lt hk
      omega
  · rcases hs.own k hk with h1 | h1
    · exact h.b0 k h1
    · have := h.bel.size
      omega
theorem PlW.mono (h : PlW w A B L R M X) (ho : L.ok M') (hM : M ≤ M') : PlW w A B L R M' X := ⟨h.l, h.r, ho, Nat.le_trans h.m hM, Nat.le_trans h.len hM, h.ap, h.a0, h.b0, h.bel⟩
end
end Go.Proofs.Ytkjcapmhjhnckaa
