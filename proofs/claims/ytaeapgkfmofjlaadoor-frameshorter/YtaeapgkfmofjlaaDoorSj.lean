/- frame's reader: down, spans. -/
import Derived.Test.YtaeapgkfmofjlaaDoorSi
namespace Go.Proofs.YtaeapgkfmofjlaaDoor
open Go.ChangeShapes Go.WideShapes Go.ChangeAt Go.RowKit
set_option linter.unusedVariables false
set_option maxRecDepth 100000

/-- What down answers, and leaves. -/
def xD (l : List UInt8) (s : Sq) (x k : Int) : Int × Sq := (x - (xN l s).1 - k, if x - (xN l s).1 - k < 0 then flt (xN l s).2 11 else (xN l s).2)
theorem xN_bad (l : List UInt8) (s : Sq) (h : s.2 ≠ 0) : xN l s = (0, s) := if_pos h
theorem xD_rng (l : List UInt8) (s : Sq) (x k : Int) (hk : k = 0 ∨ k = 2) (h0 : s.2 = 0 → 0 ≤ x) (h1 : -4611686018427387912 ≤ x) : -9223372036854775800 ≤ x - (xN l s).1 - k ∧ x - (xN l s).1 ≤ x := by
  obtain ⟨n, hn, hn2⟩ := xN_nat l s
  by_cases h : s.2 = 0
  · have := h0 h
    rw [hn]
    omega
  · rw [xN_bad l s h]
    dsimp only
    omega
section
variable {w0 w1 w w' : World} {lo p F g off c : Nat} {wa : Option Addr} {l : List UInt8} {a : Fa × Sq} {s : Sq} {f : Fr}
theorem Wk.chg (h : Wk w0 lo p F g off c wa l a w) : Chg (Kq p F) w0 w := by
  obtain ⟨f, d, h1, h2, h3, h4⟩ := h
  exact h4
theorem Wk.re (h : Wk w0 lo p F g off c wa l a w) : Wk w lo p F g off c wa l a w := by
  obtain ⟨f, d, h1, h2, h3, h4⟩ := h
  exact ⟨f, d, h1, h2, h3, Chg.refl _ _⟩
theorem Wk.join (h : Wk w1 lo p F g off c wa l a w) (hc : Chg (Kq p F) w0 w1) : Wk w0 lo p F g off c wa l a w := by
  obtain ⟨f, d, h1, h2, h3, h4⟩ := h
  exact ⟨f, d, h1, h2, h3, hc.trans h4⟩
theorem Wk.fail (h : Wk w0 lo p F g off c wa l a w) (k : Int) (hk : k ≠ 0) (hk1 : k ≠ -1) : Calls Tryd.prog 30 #[.pointer (some ⟨p, 0, none⟩), .iface 29 (.int .i64 k)] w fun e w' => e = .returned (.tuple #[]) ∧ Aside (Wk w0 lo p F g off c wa l (a.1, flt a.2 k) w') := by
  obtain ⟨f, d, h1, h2, h3, h4⟩ := h
  have hf := rfail_c h2 k hk
  rw [eV_num wa hk hk1] at hf
  refine hf.mono ?_
  rintro e w2 ⟨rfl, x1, x2⟩
  exact ⟨rfl, f, d, h1, x1, h3.on x2, h4.trans x2⟩
theorem rdown_c (h : Rz w p F g off c wa l s f) (x k : Int) (hk : k = 0 ∨ k = 2) (h0 : s.2 = 0 → 0 ≤ x) (h1 : -4611686018427387912 ≤ x) (h2 : x ≤ 4611686018427387912) :
    Calls Tryd.prog 106 #[.pointer (some ⟨p, 0, none⟩), .int .i64 x, .int .i64 k] w fun e w' => e = .returned (.int .i64 (xD l s x k).1) ∧ Aside (Rp w p F g off c wa l (xD l s x k).2 f w') := by
  have hn := rnumber_c h
  obtain ⟨r1, r2⟩ := xD_rng l s x k hk h0 h1
  obtain ⟨n, hnn, hn2⟩ := xN_nat l s
  have e0 : xD l s x k = (x - (xN l s).1 - k, if x - (xN l s).1 - k < 0 then flt (xN l s).2 11 else (xN l s).2) := rfl
  rw [e0]
  clear e0
  rw [hnn] at r1 r2 hn ⊢
  generalize (xN l s).2 = s1 at *
  obtain ⟨u, hu⟩ : ∃ u, x - (n : Int) = u := ⟨_, rfl⟩
  rw [hu] at r1 r2 ⊢
  obtain ⟨v, hv⟩ : ∃ v, u - k = v := ⟨_, rfl⟩
  rw [hv] at r1 ⊢
  have i1 : IntKind.i64.wrap (x - (n : Int)) = u := by rw [wrp _ (by omega) (by omega)]; exact hu
  have i2 : IntKind.i64.wrap (u - k) = v := by rw [wrp _ (by rcases hk with rfl | rfl <;> omega) (by rcases hk with rfl | rfl <;> omega)]; exact hv
  clear h hu hv hnn
  by_cases hneg : v < 0
  · rw [if_pos hneg]
    go_enter Tryd.func106, Tryd.ntmps106
    go_wp2_with fail
    refine hn.mono ?_
    rintro e w1 ⟨rfl, x1, x2⟩
    have hf := rfail_c x1 11 (by decide)
    rw [eV_num wa (by decide) (by decide)] at hf
    have HC : Aside (Chg (Kq p F) w w1) := x2
    clear x1 x2
    clear hn
    go_wp2_with fail
    refine hf.mono ?_
    rintro e w2 ⟨rfl, x1, x2⟩
    have H2 : Aside (Rp w p F g off c wa l (flt s1 11) f w2) := ⟨x1, HC.out.trans x2⟩
    clear hf x1 x2
    go_wp2
    go_ret
    exact ⟨rfl, H2⟩
  · rw [if_neg hneg]
    go_enter Tryd.func106, Tryd.ntmps106
    go_wp2_with fail
    refine hn.mono ?_
    rintro e w1 ⟨rfl, x1⟩
    have H1 : Aside (Rp w p F g off c wa l s1 f w1) := x1
    clear hn x1
    go_wp2
    go_ret
    exact ⟨rfl, H1⟩
end
/-- The spans behind the first one. -/
def sL (l : List UInt8) : Nat → Int → Sq → List (Int × Int) → List (Int × Int) × Sq
  | 0, _, s, acc => (acc, s)
  | n + 1, x, s, acc => if (xD l (xD l s x 2).2 (xD l s x 2).1 0).2.2 ≠ 0 then ([], (xD l (xD l s x 2).2 (xD l s x 2).1 0).2) else sL l n (xD l (xD l s x 2).2 (xD l s x 2).1 0).1 (xD l (xD l s x 2).2 (xD l s x 2).1 0).2 (acc ++ [((xD l (xD l s x 2).2 (xD l s x 2).1 0).1, (xD l s x 2).1)])
def xS (l : List UInt8) (s : Sq) (last : Int) (n : Nat) : List (Int × Int) × Sq := sL l n (xD l s last 0).1 (xD l s last 0).2 [((xD l s last 0).1, last)]
section
variable {w0 w1 w w' : World} {lo p F g off c : Nat} {wa : Option Addr} {l : List UInt8} {a : Fa × Sq} {s : Sq} {f : Fr}
theorem flt_ne (s : Sq) (k : Int) (hk : k ≠ 0) : (flt s k).2 ≠ 0 := by
  unfold flt
  dsimp only
  split
  · exact hk
  · assumption
theorem xD_0 (l : List UInt8) (s : Sq) (x k : Int) (h : (xD l s x k).2.2 = 0) : 0 ≤ (xD l s x k).1 := by
  unfold xD at *
  dsimp only at *
  split at h
  · exact absurd h (flt_ne _ _ (by decide))
  · omega
theorem xD_s0 (l : List UInt8) (s : Sq) (x k : Int) (h : (xD l s x k).2.2 = 0) : s.2 = 0 := by
  by_cases hs : s.2 = 0
  · exact hs
  · exfalso
    unfold xD at h
    rw [xN_bad l s hs] at h
    dsimp only at h
    split at h
    · exact flt_ne _ _ (by decide) h
    · exact hs h
theorem xD_bd (l : List UInt8) (s : Sq) (x k B : Int) (hk : k = 0 ∨ k = 2) (hx : s.2 = 0 → 0 ≤ x) (h1 : -B ≤ x) (h2 : x ≤ 4611686018427387912) (hB : 4611686018427387903 ≤ B) : -B - 2 ≤ (xD l s x k).1 ∧ (xD l s x k).1 ≤ 4611686018427387912 := by
  obtain ⟨n, hn, hn2⟩ := xN_nat l s
  unfold xD
  dsimp only
  by_cases h : s.2 = 0
  · have := hx h
    rw [hn]
    rcases hk with rfl | rfl <;> omega
  · rw [xN_bad l s h]
    dsimp only
    rcases hk with rfl | rfl <;> omega
end
end Go.Proofs.YtaeapgkfmofjlaaDoor
