/- frame's reader: counted, rest, id, arrays. frame's reader: rest. frame's reader: arrays, id. frame's reader: id. -/
import Derived.Test.YtaeapgkfmofjlaaDoorSd
import Derived.Laws.CopyRow
import Derived.Deep.RegionWith
namespace Go.Proofs.YtaeapgkfmofjlaaDoor
open Go.ChangeShapes Go.WideShapes Go.ChangeAt Go.RowKit
set_option linter.unusedVariables false
set_option maxRecDepth 100000

def yC (l : List UInt8) (a : Fa × Sq) : Fa × Sq := ({ a.1 with D := (xT l (xN l a.2).2 (xN l a.2).1.toNat).1 }, (xT l (xN l a.2).2 (xN l a.2).1.toNat).2)
def yE (l : List UInt8) (a : Fa × Sq) : Fa × Sq := ({ a.1 with D := (xT l a.2 (l.length - a.2.1)).1 }, (xT l a.2 (l.length - a.2.1)).2)
theorem vV_rng (l : List UInt8) (a : Int) : 0 ≤ vV l a ∧ vV l a ≤ 4611686018427387903 := by
  unfold vV
  split
  · have hb : (l.getD a.toNat 0).toNat < 256 := (l.getD a.toNat 0).toNat_lt
    have hq : (l.getD a.toNat 0).toNat / 64 = 0 ∨ (l.getD a.toNat 0).toNat / 64 = 1 ∨ (l.getD a.toNat 0).toNat / 64 = 2 ∨ (l.getD a.toNat 0).toNat / 64 = 3 := by omega
    generalize num (sub l a.toNat (wd l a.toNat)) = N
    unfold wd
    have e0 : 2 ^ (8 * 2 ^ 0 - 2) = 64 := rfl
    have e1 : 2 ^ (8 * 2 ^ 1 - 2) = 16384 := rfl
    have e2 : 2 ^ (8 * 2 ^ 2 - 2) = 1073741824 := rfl
    have e3 : 2 ^ (8 * 2 ^ 3 - 2) = 4611686018427387904 := rfl
    rcases hq with hq | hq | hq | hq <;> rw [hq]
    · rw [e0]; omega
    · rw [e1]; omega
    · rw [e2]; omega
    · rw [e3]; omega
  · exact ⟨Int.le_refl _, by decide⟩
theorem xN_nat (l : List UInt8) (s : Sq) : ∃ n : Nat, (xN l s).1 = n ∧ n ≤ 4611686018427387903 := by
  unfold xN
  split
  · exact ⟨0, rfl, by omega⟩
  · split
    · have := vV_rng l s.1
      exact ⟨(vV l s.1).toNat, by show vV l s.1 = _; omega, by omega⟩
    · exact ⟨0, rfl, by omega⟩
section
variable {w0 w w' : World} {lo p F g off c : Nat} {wa : Option Addr} {l : List UInt8} {a : Fa × Sq}
theorem Wk.step (h : Wk w0 lo p F g off c wa l a w) {s' : Sq} (hs : ∀ f, Rz w p F g off c wa l a.2 f → Rp w p F g off c wa l s' f w') : Wk w0 lo p F g off c wa l (a.1, s') w' := by
  obtain ⟨f, d, h1, h2, h3, h4⟩ := h
  obtain ⟨x1, x2⟩ := hs f h2
  exact ⟨f, d, h1, x1, h3.on x2, h4.trans x2⟩
theorem Wk.number (h : Wk w0 lo p F g off c wa l a w) : Calls Tryd.prog 102 #[.pointer (some ⟨p, 0, none⟩)] w fun e w' => e = .returned (.int .i64 (xN l a.2).1) ∧ Aside (Wk w0 lo p F g off c wa l (a.1, (xN l a.2).2) w') := by
  obtain ⟨f, d, h1, h2, h3, h4⟩ := h
  refine (rnumber_c h2).mono ?_
  rintro e w2 ⟨rfl, x1, x2⟩
  exact ⟨rfl, f, d, h1, x1, h3.on x2, h4.trans x2⟩
theorem Wk.take (h : Wk w0 lo p F g off c wa l a w) (n : Nat) (hn : n ≤ 4611686018427387903) : Calls Tryd.prog 104 #[.pointer (some ⟨p, 0, none⟩), .int .i64 n] w fun e w' => (∃ v c', TkA w' g (xT l a.2 n).1 e v c') ∧ Aside (Wk w0 lo p F g off c wa l (a.1, (xT l a.2 n).2) w') := by
  obtain ⟨f, d, h1, h2, h3, h4⟩ := h
  refine (rtake_c h2 n hn).mono ?_
  rintro e w2 ⟨hv, x1, x2⟩
  exact ⟨hv, f, d, h1, x1, h3.on x2, h4.trans x2⟩
theorem Wk.lts (h : Wk w0 lo p F g off c wa l a w) : p < w.heap.size ∧ F < w.heap.size ∧ g < w.heap.size ∨ p < w.heap.size ∧ F < w.heap.size := by
  obtain ⟨f, d, h1, h2, h3, h4⟩ := h
  exact .inr ⟨lt_block h2.rd, lt_block (show w.heap[F]? = _ from h2.fm)⟩
theorem Wk.ll (h : Wk w0 lo p F g off c wa l a w) : l.length ≤ 200000000000000 ∧ a.2.1 ≤ l.length := by
  obtain ⟨f, d, h1, h2, h3, h4⟩ := h
  exact ⟨h2.ll, h2.la⟩
/-- What Clone answers behind take, stored as data. -/
theorem Wk.setD (h : Wk w0 lo p F g off c wa l a w) (o : Option Addr) (n cp : Nat) (X : List UInt8) (B : Nat) (hn : X.length = n) (hB : p < B ∧ F < B) (hy : By B w (.slice o n cp) X) :
    (∃ old, w.cell? ⟨F, 3, none⟩ = some old) ∧ w.frozen? ⟨F, 3, none⟩ = false ∧ Aside (Wk w0 lo p F g off c wa l ({ a.1 with D := X }, a.2) (w.setCell ⟨F, 3, none⟩ (.slice o n cp))) := by
  obtain ⟨f, d, h1, h2, h3, h4⟩ := h
  obtain ⟨r1, r2⟩ := h2.put 3 (.slice o n cp) { f with D := .slice o n cp } rfl
  refine ⟨⟨_, h2.fm.at 3 _ rfl⟩, h2.fm.fr 3, { f with D := .slice o n cp }, { d with oD := o, D := X, cD := cp }, ?_, r1, ?_, h4.trans r2⟩
  · rw [← h1]
    rfl
  · have h5 := h3.on r2
    have hnp : Np p F (.slice o n cp) := by
      intro o' n' c' e
      cases e
      obtain ⟨hl, ⟨e, _⟩ | ⟨g', cap, cur, e, k1, _⟩⟩ := hy
      · cases e
      · cases e
        exact ⟨by show g' ≠ p; omega, by show g' ≠ F; omega⟩
    refine ⟨h5.lF, by show Value.slice o n cp = .slice o X.length cp; rw [hn], h5.vA, h5.vI, h5.vR, h5.vT, h5.r16, h5.t8, ?_, hnp, h5.bI, h5.nI, h5.bA, h5.nA⟩
    have hy2 : By B (w.setCell ⟨F, 3, none⟩ (.slice o n cp)) (.slice o n cp) X := own_chg hy r2 (fun o' n' c' e k => by
      obtain ⟨k1, k2⟩ := hnp o' n' c' e
      rcases k with k | k
      · exact k1 k
      · exact k2 k)
    exact hy2.mono (by have := h3.lF; omega)
theorem Wk.setI (h : Wk w0 lo p F g off c wa l a w) (o : Option Addr) (n cp : Nat) (X : List UInt8) (B : Nat) (hn : X.length = n) (hB : p < B ∧ F < B) (hy : By B w (.slice o n cp) X) :
    (∃ old, w.cell? ⟨F, 16, none⟩ = some old) ∧ w.frozen? ⟨F, 16, none⟩ = false ∧ Aside (Wk w0 lo p F g off c wa l ({ a.1 with I := X }, a.2) (w.setCell ⟨F, 16, none⟩ (.slice o n cp))) := by
  obtain ⟨f, d, h1, h2, h3, h4⟩ := h
  obtain ⟨r1, r2⟩ := h2.put 16 (.slice o n cp) { f with I := .slice o n cp } rfl
  refine ⟨⟨_, h2.fm.at 16 _ rfl⟩, h2.fm.fr 16, { f with I := .slice o n cp }, { d with oI := o, I := X, cI := cp }, ?_, r1, ?_, h4.trans r2⟩
  · rw [← h1]
    rfl
  · have h5 := h3.on r2
    have hnp : Np p F (.slice o n cp) := by
      intro o' n' c' e
      cases e
      obtain ⟨hl, ⟨e, _⟩ | ⟨g', cap, cur, e, k1, _⟩⟩ := hy
      · cases e
      · cases e
        exact ⟨by show g' ≠ p; omega, by show g' ≠ F; omega⟩
    refine ⟨h5.lF, h5.vD, h5.vA, by show Value.slice o n cp = .slice o X.length cp; rw [hn], h5.vR, h5.vT, h5.r16, h5.t8, h5.bD, h5.nD, ?_, hnp, h5.bA, h5.nA⟩
    have hy2 : By B (w.setCell ⟨F, 16, none⟩ (.slice o n cp)) (.slice o n cp) X := own_chg hy r2 (fun o' n' c' e k => by
      obtain ⟨k1, k2⟩ := hnp o' n' c' e
      rcases k with k | k
      · exact k1 k
      · exact k2 k)
    exact hy2.mono (by have := h3.lF; omega)
/-- Clone of what take answered. -/
theorem Wk.clone {B : Nat} (h : Wk w0 lo p F g off c wa l a w) {Y : List UInt8} {e : Ending} {v : Option Addr} {c' : Nat} (ht : TkA w g Y e v c') (hY : Y.length ≤ 200000000000000) : Calls Tryd.prog 105 #[.slice v Y.length c'] w fun e w' => ∃ oa cp, e = .returned (.slice oa Y.length cp) ∧ Aside (By w.heap.size w' (.slice oa Y.length cp) Y) ∧ Aside (Wk w0 lo p F g off c wa l a w') := by
  refine (clone_any v Y Y.length c' w ht.sl rfl hY ht.nil).mono ?_
  rintro e w2 ⟨oa, cp, rfl, hy, hb⟩
  exact ⟨oa, cp, rfl, hy, h.bel hb⟩
theorem Wk.counted (h : Wk w0 lo p F g off c wa l a w) : Calls Tryd.prog 97 #[.pointer (some ⟨p, 0, none⟩), .pointer (some ⟨F, 3, none⟩)] w fun e w' => e = .returned (.tuple #[]) ∧ Aside (Wk w0 lo p F g off c wa l (yC l a) w') := by
  have h1 := h.number
  obtain ⟨n, hn, hn2⟩ := xN_nat l a.2
  have HE : Aside (yC l a = ({ a.1 with D := (xT l (xN l a.2).2 n).1 }, (xT l (xN l a.2).2 n).2)) := by show yC l a = _; unfold yC; rw [hn]; rfl
  have HLL := h.ll
  have HL : Aside ((xT l (xN l a.2).2 n).1.length ≤ 200000000000000) := by
    have h5 := xT_len l (xN l a.2).2 n (xN_at l a.2 HLL.2)
    by_cases hf : (xN l a.2).2.2 ≠ 0
    · rw [xT_no _ _ _ hf]; show ([] : List UInt8).length ≤ _; simp
    · unfold xT
      rw [if_neg hf]
      split
      · show ([] : List UInt8).length ≤ _; simp
      · show (sub l _ n).length ≤ _
        rw [sub_length l _ n (by have := xN_at l a.2 HLL.2; omega)]
        omega
  rw [hn] at h1
  clear h hn HLL
  generalize (xN l a.2).2 = s1 at *
  go_enter Tryd.func97, Tryd.ntmps97
  go_wp2_with fail
  refine h1.mono ?_
  rintro e w1 ⟨rfl, H1⟩
  have h2 := H1.out.take n hn2
  clear h1
  dsimp only at h2
  generalize xT l s1 n = t at *
  go_wp2_with fail
  refine h2.mono ?_
  rintro e w2 ⟨⟨v, c', ht⟩, H2⟩
  obtain rfl := ht.e
  have h3 := H2.out.clone (B := 0) ht HL.out
  have HB : Aside (p < w2.heap.size ∧ F < w2.heap.size) := H2.out.lts.elim (fun h => ⟨h.1, h.2.1⟩) id
  clear h2 ht
  obtain ⟨N, hN⟩ : ∃ N, t.1.length = N := ⟨_, rfl⟩
  have HN : Aside _ := hN
  rw [hN] at h3
  rw [hN]
  clear hN
  go_wp2_with fail
  refine h3.mono ?_
  rintro e w3 ⟨oa, cp, rfl, HY, H3⟩
  obtain ⟨⟨old, g1⟩, g2, H4⟩ := H3.out.setD oa N cp t.1 w2.heap.size HN.out HB.out HY.out
  clear h3
  go_wp2
  go_end0
  rw [HE.out]
  exact ⟨rfl, H4⟩
end
end Go.Proofs.YtaeapgkfmofjlaaDoor
namespace Go.Proofs.YtaeapgkfmofjlaaDoor
open Go.ChangeShapes Go.WideShapes Go.ChangeAt Go.RowKit
set_option linter.unusedVariables false
set_option maxRecDepth 100000

section
variable {w0 w w' : World} {lo p F g off c : Nat} {wa : Option Addr} {l : List UInt8} {a : Fa × Sq}
theorem Wk.cs (h : Wk w0 lo p F g off c wa l a w) : w.cell? ⟨p, 0, none⟩ = some (.slice (some ⟨g, off, none⟩) l.length c) ∧ w.cell? ⟨p, 1, none⟩ = some (.int .i64 a.2.1) ∧ w.cell? ⟨p, 2, none⟩ = some (eV wa a.2.2) ∧ ∀ j, w.frozen? ⟨p, j, none⟩ = false := by
  obtain ⟨f, d, h1, h2, h3, h4⟩ := h
  exact h2.cs
set_option maxHeartbeats 1000000 in
theorem Wk.rest (h : Wk w0 lo p F g off c wa l a w) : Calls Tryd.prog 101 #[.pointer (some ⟨p, 0, none⟩), .pointer (some ⟨F, 3, none⟩)] w fun e w' => e = .returned (.tuple #[]) ∧ Aside (Wk w0 lo p F g off c wa l (yE l a) w') := by
  have hd := h.drew
  obtain ⟨d0, d1, _, _⟩ := hd.cs
  have HLL := h.ll
  obtain ⟨n, hn⟩ : ∃ n, l.length - a.2.1 = n := ⟨_, rfl⟩
  have h2 := hd.take n (by omega)
  have HE : Aside (yE l a = ({ a.1 with D := (xT l a.2 n).1 }, (xT l a.2 n).2)) := by show yE l a = _; unfold yE; rw [hn]
  have HL : Aside ((xT l a.2 n).1.length ≤ 200000000000000) := by
    have h5 := xT_len l a.2 n HLL.2
    show (xT l a.2 n).1.length ≤ 200000000000000
    omega
  obtain ⟨q, hq⟩ : ∃ q, a.2.1 = q := ⟨_, rfl⟩
  rw [hq] at d1 HLL hn
  have i1 : IntKind.i64.wrap ((l.length : Int) - q) = (n : Int) := by rw [wrp _ (by omega) (by omega)]; omega
  clear h hd hn hq
  generalize xT l a.2 n = t at *
  go_enter Tryd.func101, Tryd.ntmps101
  go_wp2_with fail
  go_region_with (first | (go_at_call 104; refine Calls.mono h2 ?_; rintro e w2 ⟨⟨v, c', ht⟩, H2⟩; obtain rfl := ht.e; obtain ⟨N, hN⟩ : ∃ N, t.1.length = N := ⟨_, rfl⟩; have HT : Aside _ := ht; have HN : Aside _ := hN; rw [hN]; clear hN ht) | (go_at_call 105; refine Calls.mono (HN.out ▸ H2.out.clone (B := 0) HT.out HL.out) ?_; rintro e w3 ⟨oa, cp, rfl, HY, H3⟩; obtain ⟨⟨old, g1⟩, g2, H4⟩ := H3.out.setD oa N cp t.1 w2.heap.size HN.out (H2.out.lts.elim (fun h => ⟨h.1, h.2.1⟩) id) HY.out))
  all_goals
    go_wp2
    go_end0
    rw [HE.out]
    exact ⟨rfl, H4⟩
end
end Go.Proofs.YtaeapgkfmofjlaaDoor
namespace Go.Proofs.YtaeapgkfmofjlaaDoor
open Go.ChangeShapes Go.WideShapes Go.ChangeAt Go.RowKit
set_option linter.unusedVariables false
set_option maxRecDepth 100000

def yR (l : List UInt8) (a : Fa × Sq) : Fa × Sq := ({ a.1 with R := if (xT l a.2 16).1.length = 16 then (xT l a.2 16).1 else a.1.R }, (xT l a.2 16).2)
def yP (l : List UInt8) (a : Fa × Sq) : Fa × Sq := ({ a.1 with T := if (xT l a.2 8).1.length = 8 then (xT l a.2 8).1 else a.1.T }, (xT l a.2 8).2)
def yI (l : List UInt8) (a : Fa × Sq) : Fa × Sq := ({ a.1 with I := (xT l (xT l a.2 1).2 ((xT l a.2 1).1.headD 0).toNat).1 }, (xT l (xT l a.2 1).2 ((xT l a.2 1).1.headD 0).toNat).2)
theorem bc_at {T : List UInt8} {j : Nat} {v : Value} (h : (bc T)[j]? = some v) : ∃ hj : j < T.length, v = .int .u8 (T[j].toNat) := by
  unfold bc at h
  rw [List.getElem?_map] at h
  obtain ⟨x, hx, e⟩ := Option.map_eq_some_iff.1 h
  obtain ⟨hj, rfl⟩ := List.getElem?_eq_some_iff.1 hx
  exact ⟨hj, e.symm⟩
theorem copy_nil (w : World) (b : Option Addr) (n m : Nat) : (Builtin.copy_ #[22, 22] 3 #[.slice b n m, .slice none 0 0]).run Tryd.prog w = .ok (.int .i64 0) w := by
  have hsz5 : (Tryd.prog.info? 5).map (·.size) = some 1 := by kernel_rfl
  obtain ⟨i, hi, hs⟩ := Option.map_eq_some_iff.1 hsz5
  have hm : Nat.min 0 n = 0 := Nat.zero_min n
  cases b <;> simp [Builtin.copy_, run_underlying Tryd.underlying22, Builtin.lenOf, Builtin.firstCells, sizeOf, typeInfo, hi, hm, storeCells, goInt]
section
variable {w0 w w' : World} {lo p F g off c : Nat} {wa : Option Addr} {l : List UInt8} {a : Fa × Sq} {s : Sq} {f : Fr}
/-- A row with bytes laid into it. -/
def laidIn (cs : Array Value) (j : Nat) (Y : List UInt8) : Array Value := (cs.toList.take j ++ bc Y ++ cs.toList.drop (j + (bc Y).length)).toArray
theorem rarray_c (h : Rz w p F g off c wa l s f) (b j n : Nat) (cs : Array Value) (t : TypeId) (hn : n ≤ 4611686018427387903) (hj : j + n ≤ cs.size)
    (hb : ∀ X, Rp w p F g off c wa l (xT l s n).2 f X → X.heap[b]? = some (.cells cs t (0, 0))) :
    Calls Tryd.prog 96 #[.pointer (some ⟨p, 0, none⟩), .slice (some ⟨b, j, none⟩) n n] w fun e w' => e = .returned (.tuple #[]) ∧ ∃ w2, Rp w p F g off c wa l (xT l s n).2 f w2 ∧ w' = w2.setRow b (laidIn cs j (xT l s n).1) := by
  have htk := rtake_c h n hn
  have hsz5 : (Tryd.prog.info? 5).map (·.size) = some 1 := by kernel_rfl
  have hlen := xT_len l s n h.la
  have HH : Aside (∀ X v c', (∃ e, TkA X g (xT l s n).1 e v c') → Rp w p F g off c wa l (xT l s n).2 f X → ∃ u, (Builtin.copy_ #[22, 22] 3 #[.slice (some ⟨b, j, none⟩) n n, .slice v (xT l s n).1.length c']).run Tryd.prog X = .ok u (X.setRow b (laidIn cs j (xT l s n).1))) := by
    rintro X v c' ⟨e, ht⟩ hx
    have hrow := hb X hx
    cases v with
    | none =>
      obtain ⟨h1, rfl⟩ := ht.nil rfl
      have hY : (xT l s n).1 = [] := List.eq_nil_of_length_eq_zero h1
      rw [hY]
      have e1 : laidIn cs j [] = cs := by
        unfold laidIn
        rw [show bc [] = [] from rfl]
        simp
      rw [e1, setRow_self X b _ t (0, 0) hrow]
      exact ⟨.int .i64 0, copy_nil X _ n n⟩
    | some ad =>
      refine ⟨_, run_copy_row (P := Tryd.prog) X 22 22 3 5 b j n n ad (xT l s n).1.length c' cs t (bc (xT l s n).1) Tryd.underlying22 hsz5 hrow (by rw [bc_length]; show _ = Nat.min _ _; rcases hlen with e | e <;> rw [e] <;> simp) (fun i v hi => ?_) (by rw [bc_length]; rcases hlen with e | e <;> omega) (bc_one _)⟩
      exact Sl_cells ht.sl i v hi
  clear h hb hlen
  generalize xT l s n = u at *
  obtain ⟨Y, s'⟩ := u
  dsimp only at *
  go_enter Tryd.func96, Tryd.ntmps96
  go_wp2_with fail
  refine htk.mono ?_
  rintro e X ⟨⟨v, c', ht⟩, hx⟩
  obtain ⟨u, hcp⟩ := HH.out X v c' ⟨_, ht⟩ hx
  obtain rfl := ht.e
  have HR : Aside (∃ w2, Rp w p F g off c wa l s' f w2 ∧ X.setRow b (laidIn cs j Y) = w2.setRow b (laidIn cs j Y)) := ⟨X, hx, rfl⟩
  clear htk hx HH ht
  go_wp2
  go_end0
  exact ⟨rfl, HR.out⟩
theorem fr_R {f : Fr} (R Y : List UInt8) (hR : f.rs = bc R) (hr : R.length = 16) (hY : Y.length = 0 ∨ Y.length = 16) : laidIn f.cells.toArray 17 Y = ({ f with rs := bc (if Y.length = 16 then Y else R) } : Fr).cells.toArray := by
  unfold laidIn
  congr 1
  have h0 : (bc R).length = 16 := by rw [bc_length, hr]
  rcases hY with e | e
  · obtain rfl : Y = [] := List.eq_nil_of_length_eq_zero e
    rw [if_neg (by rw [e]; decide), ← hR]
    show f.cells.take 17 ++ bc [] ++ f.cells.drop (17 + (bc []).length) = f.cells
    rw [show bc [] = [] from rfl]
    simp
  · rw [if_pos e]
    have h1 : (bc Y).length = 16 := by rw [bc_length, e]
    rw [h1]
    show f.cells.take 17 ++ bc Y ++ f.cells.drop 33 = _
    have e1 : f.cells = [.int .i64 f.k, .int .i64 f.s, .int .i64 f.o, f.D, .bool f.fin, .bool f.len, .int .i64 f.lim, .int .i64 f.code, .int .i64 f.of, f.A, .int .i64 f.del, .int .i64 f.e0, .int .i64 f.e1, .int .i64 f.e2, .int .i64 f.seq, .int .i64 f.ret, f.I] ++ (f.rs ++ (f.pt ++ [.int .i64 f.cnt])) := rfl
    rw [e1, hR, List.take_append_of_le_length (by simp), List.take_of_length_le (by simp), List.drop_append]
    rw [List.drop_of_length_le (by simp), List.nil_append]
    rw [show 33 - ([.int .i64 f.k, .int .i64 f.s, .int .i64 f.o, f.D, .bool f.fin, .bool f.len, .int .i64 f.lim, .int .i64 f.code, .int .i64 f.of, f.A, .int .i64 f.del, .int .i64 f.e0, .int .i64 f.e1, .int .i64 f.e2, .int .i64 f.seq, .int .i64 f.ret, f.I] : List Value).length = 16 from rfl]
    rw [List.drop_append, h0, List.drop_of_length_le (by omega), List.nil_append, Nat.sub_self, List.drop_zero]
    simp [Fr.cells]
theorem fr_T {f : Fr} (R T Y : List UInt8) (hR : f.rs = bc R) (hr : R.length = 16) (hT : f.pt = bc T) (ht : T.length = 8) (hY : Y.length = 0 ∨ Y.length = 8) : laidIn f.cells.toArray 33 Y = ({ f with pt := bc (if Y.length = 8 then Y else T) } : Fr).cells.toArray := by
  unfold laidIn
  congr 1
  have h0 : (bc R).length = 16 := by rw [bc_length, hr]
  have h2 : (bc T).length = 8 := by rw [bc_length, ht]
  rcases hY with e | e
  · obtain rfl : Y = [] := List.eq_nil_of_length_eq_zero e
    rw [if_neg (by rw [e]; decide), ← hT]
    show f.cells.take 33 ++ bc [] ++ f.cells.drop (33 + (bc []).length) = f.cells
    rw [show bc [] = [] from rfl]
    simp
  · rw [if_pos e]
    have h1 : (bc Y).length = 8 := by rw [bc_length, e]
    rw [h1]
    show f.cells.take 33 ++ bc Y ++ f.cells.drop 41 = _
    have e1 : f.cells = ([.int .i64 f.k, .int .i64 f.s, .int .i64 f.o, f.D, .bool f.fin, .bool f.len, .int .i64 f.lim, .int .i64 f.code, .int .i64 f.of, f.A, .int .i64 f.del, .int .i64 f.e0, .int .i64 f.e1, .int .i64 f.e2, .int .i64 f.seq, .int .i64 f.ret, f.I] ++ f.rs) ++ (f.pt ++ [.int .i64 f.cnt]) := by simp [Fr.cells]
    have h3 : (([.int .i64 f.k, .int .i64 f.s, .int .i64 f.o, f.D, .bool f.fin, .bool f.len, .int .i64 f.lim, .int .i64 f.code, .int .i64 f.of, f.A, .int .i64 f.del, .int .i64 f.e0, .int .i64 f.e1, .int .i64 f.e2, .int .i64 f.seq, .int .i64 f.ret, f.I] : List Value) ++ f.rs).length = 33 := by simp [hR, h0]
    rw [e1, List.take_append_of_le_length (by omega), List.take_of_length_le (by omega), List.drop_append, h3, List.drop_of_length_le (by omega), List.nil_append, List.drop_append, hT, h2, List.drop_of_length_le (by omega), List.nil_append]
    simp [Fr.cells]
theorem Fg.long {f : Fr} {d : Da} (h : Fg w lo p F f d) : f.cells.toArray.size = 42 := by
  show f.cells.length = 42
  simp [Fr.cells, h.vR, h.vT, bc_length, h.r16, h.t8]
theorem Rz.rowF (h : Rz w p F g off c wa l s f) (f' : Fr) : Rz (w.setRow F f'.cells.toArray) p F g off c wa l s f' ∧ Chg (Kq p F) w (w.setRow F f'.cells.toArray) := by
  have hc : Chg (fun k => k = F) w (w.setRow F f'.cells.toArray) := ⟨rfl, rfl, rfl, by simp, fun k _ hk => setRow_other w F k _ hk⟩
  exact ⟨⟨hc.blk h.rd h.pf, setRow_heap w F _ _ 28 (0, 0) h.fm, h.sl.chg hc fun a ha e => (by cases ha; exact h.gf e), h.tb.chg hc fun e => h.f2 e, h.pf, h.gp, h.gf, h.p2, h.f2, h.ll, h.lc, h.la, Nat.lt_of_lt_of_le h.gs hc.2.2.2.1⟩, hc.mono fun k e => .inr e⟩
theorem Wk.reset (h : Wk w0 lo p F g off c wa l a w) : Calls Tryd.prog 96 #[.pointer (some ⟨p, 0, none⟩), .slice (some ⟨F, 17, none⟩) 16 16] w fun e w' => e = .returned (.tuple #[]) ∧ Aside (Wk w0 lo p F g off c wa l (yR l a) w') := by
  obtain ⟨f, d, h1, h2, h3, h4⟩ := h
  refine (rarray_c h2 F 17 16 f.cells.toArray 28 (by omega) (by rw [h3.long]; omega) (fun X hx => hx.1.fm)).mono ?_
  rintro e w' ⟨rfl, w2, hx, rfl⟩
  have hlen := xT_len l a.2 16 h2.la
  rw [fr_R d.R _ h3.vR h3.r16 hlen]
  obtain ⟨r1, r2⟩ := hx.1.rowF { f with rs := bc (if (xT l a.2 16).1.length = 16 then (xT l a.2 16).1 else d.R) }
  refine ⟨rfl, _, { d with R := if (xT l a.2 16).1.length = 16 then (xT l a.2 16).1 else d.R }, ?_, r1, ?_, (h4.trans hx.2).trans r2⟩
  · unfold yR
    rw [← h1]
    rfl
  · have h5 := (h3.on hx.2).on r2
    refine ⟨h5.lF, h5.vD, h5.vA, h5.vI, rfl, h5.vT, ?_, h5.t8, h5.bD, h5.nD, h5.bI, h5.nI, h5.bA, h5.nA⟩
    show (if _ then _ else _ : List UInt8).length = 16
    split
    · assumption
    · exact h3.r16
theorem Wk.path (h : Wk w0 lo p F g off c wa l a w) : Calls Tryd.prog 96 #[.pointer (some ⟨p, 0, none⟩), .slice (some ⟨F, 33, none⟩) 8 8] w fun e w' => e = .returned (.tuple #[]) ∧ Aside (Wk w0 lo p F g off c wa l (yP l a) w') := by
  obtain ⟨f, d, h1, h2, h3, h4⟩ := h
  refine (rarray_c h2 F 33 8 f.cells.toArray 28 (by omega) (by rw [h3.long]; omega) (fun X hx => hx.1.fm)).mono ?_
  rintro e w' ⟨rfl, w2, hx, rfl⟩
  have hlen := xT_len l a.2 8 h2.la
  rw [fr_T d.R d.T _ h3.vR h3.r16 h3.vT h3.t8 hlen]
  obtain ⟨r1, r2⟩ := hx.1.rowF { f with pt := bc (if (xT l a.2 8).1.length = 8 then (xT l a.2 8).1 else d.T) }
  refine ⟨rfl, _, { d with T := if (xT l a.2 8).1.length = 8 then (xT l a.2 8).1 else d.T }, ?_, r1, ?_, (h4.trans hx.2).trans r2⟩
  · unfold yP
    rw [← h1]
    rfl
  · have h5 := (h3.on hx.2).on r2
    refine ⟨h5.lF, h5.vD, h5.vA, h5.vI, h5.vR, rfl, h5.r16, ?_, h5.bD, h5.nD, h5.bI, h5.nI, h5.bA, h5.nA⟩
    show (if _ then _ else _ : List UInt8).length = 8
    split
    · assumption
    · exact h3.t8
end
end Go.Proofs.YtaeapgkfmofjlaaDoor
namespace Go.Proofs.YtaeapgkfmofjlaaDoor
open Go.ChangeShapes Go.WideShapes Go.ChangeAt Go.RowKit
set_option linter.unusedVariables false
set_option maxRecDepth 100000

section
variable {w0 w w' : World} {lo p F g off c : Nat} {wa : Option Addr} {l : List UInt8} {a : Fa × Sq} {s : Sq} {f : Fr}
theorem Fg.on3 {X : Nat → Prop} {f : Fr} {d : Da} (h : Fg w lo p F f d) (hc : Chg X w w') (hx : ∀ k, k < w.heap.size → X k → Kq p F k) : Fg w' lo p F f d :=
  have hk : ∀ {v : Value} {B e k n : Nat} {xs : List Value}, w.ownsRow B e k v n xs → Np p F v → ∀ o n c, v = .slice (some o) n c → ¬ X o.block := fun ho hn o n c e k => by
    obtain ⟨h1, h2⟩ := hn o n c e
    have hl := ho.lt o.block (by rw [e]; rfl)
    rcases hx _ hl.2 k with k | k
    · exact h1 k
    · exact h2 k
  ⟨h.lF, h.vD, h.vA, h.vI, h.vR, h.vT, h.r16, h.t8, own_chg h.bD hc (hk h.bD h.nD), h.nD, own_chg h.bI hc (hk h.bI h.nI), h.nI, own_chg h.bA hc (hk h.bA h.nA), h.nA⟩
theorem wk_chg3 {Z : Nat} {a1 : Fa} {s' : Sq} {f : Fr} {d : Da} (h1 : ab f d = a1) (h3 : Fg w lo p F f d) (h4 : Chg (Kq p F) w0 w) (hZ : w.heap.size ≤ Z) (hc : Chg (fun k => Kq p F k ∨ k = Z) w w') (hz : Rz w' p F g off c wa l s' f) : Wk w0 lo p F g off c wa l (a1, s') w' := by
  have h4s := h4.2.2.2.1
  refine ⟨f, d, h1, hz, h3.on3 hc (fun k hk e => ?_), ?_⟩
  · rcases e with e | e
    · exact e
    · omega
  · refine ⟨hc.1.trans h4.1, hc.2.1.trans h4.2.1, hc.2.2.1.trans h4.2.2.1, Nat.le_trans h4s hc.2.2.2.1, fun k hk hn => ?_⟩
    refine (hc.2.2.2.2 k (by omega) (fun e => ?_)).trans (h4.2.2.2.2 k hk hn)
    rcases e with e | e
    · exact hn e
    · omega
theorem Wk.id (h : Wk w0 lo p F g off c wa l a w) : Calls Tryd.prog 98 #[.pointer (some ⟨p, 0, none⟩), .pointer (some ⟨F, 16, none⟩)] w fun e w' => e = .returned (.tuple #[]) ∧ Aside (Wk w0 lo p F g off c wa l (yI l a) w') := by
  obtain ⟨Z, hZ⟩ : ∃ Z, w.heap.size = Z := ⟨_, rfl⟩
  obtain ⟨W1, hW1⟩ : ∃ W1, w.alloc (.cells #[.int .u8 0] 173) = W1 := ⟨_, rfl⟩
  have hb1 : Below w.heap.size w W1 := by rw [← hW1]; exact bel1 w _
  have hz1 : W1.heap[Z]? = some (.cells #[.int .u8 0] 173 (0, 0)) := by rw [← hW1, ← hZ]; exact heap_alloc_new w _
  have hlts := h.lts
  have hpZ : p ≠ Z ∧ F ≠ Z := by rcases hlts with h | h <;> omega
  have hgl : g < w.heap.size := by obtain ⟨_, _, _, hz, _⟩ := h; exact hz.gs
  have h2l : 2 < w.heap.size := by
    obtain ⟨_, _, _, hz, _⟩ := h
    exact Tb_pos hz.tb
  obtain ⟨a1, a2⟩ := a
  have hla0 := h.ll
  dsimp only at hla0
  have hlen := xT_len l a2 1 hla0.2
  have HE : Aside (yI l (a1, a2) = ({ a1 with I := (xT l (xT l a2 1).2 ((xT l a2 1).1.headD 0).toNat).1 }, (xT l (xT l a2 1).2 ((xT l a2 1).1.headD 0).toNat).2)) := rfl
  have hA2 : Calls Tryd.prog 96 #[.pointer (some ⟨p, 0, none⟩), .slice (some ⟨Z, 0, none⟩) 1 1] W1 fun e w' => e = .returned (.tuple #[]) ∧ Aside (Wk w0 lo p F g off c wa l (a1, (xT l a2 1).2) w') ∧ w'.cell? ⟨Z, 0, none⟩ = some (.int .u8 ((xT l a2 1).1.headD 0).toNat) := by
    have h0 := h
    obtain ⟨f, d, e1, z0, f1, k1⟩ := h0
    have z1 := z0.bel hb1
    have hHH : ∀ X, Rp W1 p F g off c wa l (xT l a2 1).2 f X → X.heap[Z]? = some (.cells #[.int .u8 0] 173 (0, 0)) := fun X hx => hx.2.blk hz1 (fun e => by rcases e with e | e; exact hpZ.1 e.symm; exact hpZ.2 e.symm)
    have hin : laidIn #[.int .u8 0] 0 (xT l a2 1).1 = #[.int .u8 ((xT l a2 1).1.headD 0).toNat] := by
      generalize (xT l a2 1).1 = Y at *
      unfold laidIn
      rcases hlen with e | e
      · obtain rfl : Y = [] := List.eq_nil_of_length_eq_zero e
        rfl
      · obtain ⟨x, rfl⟩ := List.length_eq_one_iff.1 e
        rfl
    refine (rarray_c z1 Z 0 1 #[.int .u8 0] 173 (by omega) (by simp) hHH).mono ?_
    rintro e w' ⟨rfl, w2, hx, rfl⟩
    have hz2 := hHH w2 hx
    rw [hin]
    have hc : Chg (fun k => k = Z) w2 (w2.setRow Z #[.int .u8 ((xT l a2 1).1.headD 0).toNat]) := ⟨rfl, rfl, rfl, by simp, fun k _ hk => setRow_other w2 Z k _ hk⟩
    have hcc : Chg (fun k => Kq p F k ∨ k = Z) w (w2.setRow Z #[.int .u8 ((xT l a2 1).1.headD 0).toNat]) := ((Chg.of_below hb1).trans (hx.2.mono fun k e => .inl e)).trans (hc.mono fun k e => .inr e)
    exact ⟨rfl, wk_chg3 e1 f1 k1 (by omega) hcc (hx.1.on hc hpZ.1 hpZ.2 (by omega) (by omega)), by simp [World.cell?, setRow_heap w2 Z _ _ 173 (0, 0) hz2]⟩
  obtain ⟨u, hu⟩ : ∃ u, xT l a2 1 = u := ⟨_, rfl⟩
  rw [hu] at hA2 hlen HE
  have hla : u.2.1 ≤ l.length := by rw [← hu]; exact xT_at l a2 1 hla0.2
  obtain ⟨Y, s1⟩ := u
  dsimp only at hA2 hlen HE hla
  obtain ⟨y, hy⟩ : ∃ y : UInt8, Y.headD 0 = y := ⟨_, rfl⟩
  rw [hy] at HE hA2
  have hy2 : y.toNat < 256 := y.toNat_lt
  obtain ⟨n, hn⟩ : ∃ n, y.toNat = n := ⟨_, rfl⟩
  rw [hn] at HE hA2 hy2
  have HL : Aside ((xT l s1 n).1.length ≤ 200000000000000) := by
    have h5 := xT_len l s1 n hla
    show (xT l s1 n).1.length ≤ 200000000000000
    omega
  have hcv : IntKind.i64.wrap (n : Int) = n := wrp _ (by omega) (by omega)
  clear h hla0 hlen hla hgl h2l hu hy hn hz1 hb1
  go_enter Tryd.func98, Tryd.ntmps98
  go_wp2_with fail
  refine hA2.mono ?_
  rintro e w2 ⟨rfl, H2, q0⟩
  have h2 := H2.out.take n (by omega)
  clear hA2
  dsimp only at h2
  generalize xT l s1 n = t at *
  go_wp2_with fail
  refine h2.mono ?_
  rintro e w3 ⟨⟨v, c', ht⟩, H3⟩
  obtain rfl := ht.e
  have h3 := H3.out.clone (B := 0) ht HL.out
  have HB : Aside (p < w3.heap.size ∧ F < w3.heap.size) := H3.out.lts.elim (fun h => ⟨h.1, h.2.1⟩) id
  clear h2 ht q0
  obtain ⟨N, hN⟩ : ∃ N, t.1.length = N := ⟨_, rfl⟩
  have HN : Aside _ := hN
  rw [hN] at h3
  rw [hN]
  clear hN
  go_wp2_with fail
  refine h3.mono ?_
  rintro e w4 ⟨oa, cp, rfl, HY, H4⟩
  obtain ⟨⟨old, g1⟩, g2, H5⟩ := H4.out.setI oa N cp t.1 w3.heap.size HN.out HB.out HY.out
  clear h3
  go_wp2
  go_end0
  rw [HE.out]
  exact ⟨rfl, H5⟩
end
end Go.Proofs.YtaeapgkfmofjlaaDoor
