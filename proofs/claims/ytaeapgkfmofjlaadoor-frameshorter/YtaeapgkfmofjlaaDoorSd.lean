/- frame's reader: number, numbers, of every state. frame's reader: take, of every state; bytes.Clone. frame's reader with the frame that it fills in, and what its slices hold; numbers, counted, rest. -/
import Derived.Test.YtaeapgkfmofjlaaDoorSa
import Derived.OwnWalk
import Derived.Deep.DeepAppendWide
namespace Go.Proofs.YtaeapgkfmofjlaaDoor
open Go.ChangeShapes Go.WideShapes Go.ChangeAt Go.RowKit
set_option linter.unusedVariables false
set_option maxRecDepth 100000

/-- What number answers, and leaves. -/
def xN (l : List UInt8) (s : Sq) : Int × Sq := if s.2 ≠ 0 then (0, s) else if vE l s.1 = 0 then (vV l s.1, ((vN l s.1).toNat, 0)) else (0, (s.1, 10))
theorem vE_at {l : List UInt8} {a : Nat} (h : a ≤ l.length) : vE l a = 0 ∨ vE l a = 10 := by
  unfold vE
  rw [if_neg (by omega)]
  split
  · exact .inl rfl
  · exact .inr rfl
theorem vN_rng {l : List UInt8} {a : Nat} (h : vE l a = 0) : ∃ b : Nat, vN l a = b ∧ a < b ∧ b ≤ l.length := by
  have ho : vOk l a := by
    unfold vE at h
    split at h
    · cases h
    · split at h
      · assumption
      · cases h
  have ho' := ho
  unfold vOk at ho'
  rw [Int.toNat_natCast] at ho'
  refine ⟨a + wd l a, ?_, ?_, ?_⟩
  · unfold vN
    rw [if_pos ho, Int.toNat_natCast]
    omega
  · have : 0 < wd l a := by unfold wd; exact Nat.pow_pos (by decide)
    omega
  · omega
theorem xN_at (l : List UInt8) (s : Sq) (h : s.1 ≤ l.length) : (xN l s).2.1 ≤ l.length := by
  unfold xN
  split
  · exact h
  · split
    · rename_i he
      obtain ⟨b, hb, h1, h2⟩ := vN_rng he
      show (vN l s.1).toNat ≤ _
      rw [hb]
      simpa using h2
    · exact h
section
variable {w w' : World} {p F g off c : Nat} {wa : Option Addr} {l : List UInt8} {s : Sq} {f : Fr}
theorem rnum_no (h : Rz w p F g off c wa l s f) (h0 : s.2 ≠ 0) : Calls Tryd.prog 102 #[.pointer (some ⟨p, 0, none⟩)] w fun e w' => e = .returned (.int .i64 0) ∧ w' = w := by
  obtain ⟨c0, c1, c2, fz⟩ := h.cs
  obtain ⟨T, v, hv⟩ := eV_some wa h0
  rw [hv] at c2
  have hn := run_neq_iface_nil (P := Tryd.prog) (w := w) 38 (by kernel_rfl) T v
  clear h hv fz c0 c1 h0
  go_enter Tryd.func102, Tryd.ntmps102
  go_wp2
  go_ret
  exact ⟨rfl, rfl⟩
set_option maxHeartbeats 1000000 in
theorem rnumber_c (h : Rz w p F g off c wa l s f) :
    Calls Tryd.prog 102 #[.pointer (some ⟨p, 0, none⟩)] w fun e w' => e = .returned (.int .i64 (xN l s).1) ∧ Rp w p F g off c wa l (xN l s).2 f w' := by
  by_cases h0 : s.2 ≠ 0
  · have e : xN l s = (0, s) := if_pos h0
    rw [e]
    exact (rnum_no h h0).mono (by rintro e w' ⟨rfl, rfl⟩; exact ⟨rfl, h, Chg.refl _ _⟩)
  obtain ⟨at', e0⟩ := s
  simp only [ne_eq, Decidable.not_not] at h0
  subst h0
  have hv := var_any (some ⟨g, off, none⟩) l c at' w.drew h.tb h.sl (by have := h.ll; omega)
  obtain ⟨c0, c1, c2, fz⟩ := h.cs
  rw [eV_0] at c2
  dsimp only at c1
  have hd := h.bel (Below.refl _ w).drew
  have d0 : w.drew.cell? ⟨p, 0, none⟩ = some (.slice (some ⟨g, off, none⟩) l.length c) := c0
  have d1 : w.drew.cell? ⟨p, 1, none⟩ = some (.int .i64 at') := c1
  have f1 : w.drew.frozen? ⟨p, 1, none⟩ = false := fz 1
  have hn : Sem.run Tryd.prog (binOp BinOp.neq 38 .nilIface .nilIface) w = .ok (.bool false) w := by kernel_rfl
  rcases vE_at h.la with hE | hE
  · obtain ⟨b, hb, hb1, hb2⟩ := vN_rng hE
    have e : xN l (at', 0) = (vV l at', (b, 0)) := by unfold xN; rw [if_neg (by simp)]; dsimp only at hE ⊢; rw [if_pos hE]; dsimp only at hb; rw [hb]; rfl
    rw [e]
    dsimp only at hE hb
    rw [hE, hb] at hv
    generalize vV l at' = V at *
    obtain ⟨r1, r2⟩ := hd.go b hb2
    have HR : Aside (Rp w p F g off c wa l (b, 0) f (w.drew.setCell ⟨p, 1, none⟩ (.int .i64 b))) := ⟨r1, (Chg.of_below (Below.refl _ w).drew).trans r2⟩
    clear h hd r1 r2 hE hb fz e hb1 hb2
    go_enter Tryd.func102, Tryd.ntmps102
    go_wp2_with fail
    go_region_held3 (fun X => X.cell? ⟨p, 0, none⟩ = some (.slice (some ⟨g, off, none⟩) l.length c) ∧ X.cell? ⟨p, 1, none⟩ = some (.int .i64 at')) (exact ⟨d0, d1⟩) (first | (go_at_call 43; refine Calls.mono hv ?_; rintro e w4 ⟨rfl, hw4⟩; subst w4))
    clear hv
    go_wp2
    go_ret
    exact ⟨rfl, HR.out⟩
  · have e : xN l (at', 0) = (0, (at', 10)) := by unfold xN; rw [if_neg (by simp)]; dsimp only at hE ⊢; rw [if_neg (by rw [hE]; decide)]
    rw [e]
    dsimp only at hE
    rw [hE] at hv
    have hf := rfail_c hd 10 (by decide)
    rw [eV_num wa (by decide) (by decide)] at hf
    have e2 : flt (at', 0) 10 = (at', 10) := rfl
    rw [e2] at hf
    have HB : Aside (Chg (Kq p F) w w.drew) := Chg.of_below (Below.refl _ w).drew
    generalize vV l at' = V at *
    generalize vN l at' = V2 at *
    clear h hd hE fz e
    go_enter Tryd.func102, Tryd.ntmps102
    go_wp2_with fail
    go_region_held3 (fun X => X.cell? ⟨p, 0, none⟩ = some (.slice (some ⟨g, off, none⟩) l.length c) ∧ X.cell? ⟨p, 1, none⟩ = some (.int .i64 at')) (exact ⟨d0, d1⟩) (first | (go_at_call 43; refine Calls.mono hv ?_; rintro e w4 ⟨rfl, hw4⟩; subst w4))
    clear hv
    go_wp2_with fail
    refine hf.mono ?_
    rintro e w4 ⟨rfl, x1, x2⟩
    have HR : Aside (Rp w p F g off c wa l (at', 10) f w4) := ⟨x1, HB.out.trans x2⟩
    clear x1 x2 hf
    go_wp2
    go_ret
    exact ⟨rfl, HR.out⟩
/-- A number of a frame turned. -/
def Fr.put (f : Fr) (j : Nat) (v : Int) : Fr := match j with
  | 1 => { f with s := v }
  | 2 => { f with o := v }
  | 6 => { f with lim := v }
  | 7 => { f with code := v }
  | 8 => { f with of := v }
  | 10 => { f with del := v }
  | 11 => { f with e0 := v }
  | 12 => { f with e1 := v }
  | 13 => { f with e2 := v }
  | 14 => { f with seq := v }
  | 15 => { f with ret := v }
  | _ => f
def isNum (j : Nat) : Bool := [1, 2, 6, 7, 8, 10, 11, 12, 13, 14, 15].contains j
theorem Fr.put_cells (f : Fr) (j : Nat) (hj : isNum j = true) (v : Int) : f.cells.toArray.setIfInBounds j (.int .i64 v) = (f.put j v).cells.toArray ∧ ∃ x, f.cells[j]? = some x := by
  simp only [isNum, List.contains_cons, List.contains_nil, Bool.or_eq_true, beq_iff_eq, Bool.false_eq_true, or_false] at hj
  rcases hj with rfl | rfl | rfl | rfl | rfl | rfl | rfl | rfl | rfl | rfl | rfl <;> exact ⟨rfl, _, rfl⟩
/-- What numbers leaves. -/
def xNs (l : List UInt8) (a : Fr × Sq) (js : List Nat) : Fr × Sq := js.foldl (fun a j => (a.1.put j (xN l a.2).1, (xN l a.2).2)) a
theorem xNs_snoc (l : List UInt8) (a : Fr × Sq) (js : List Nat) (j : Nat) : xNs l a (js ++ [j]) = ((xNs l a js).1.put j (xN l (xNs l a js).2).1, (xN l (xNs l a js).2).2) := by simp [xNs]
set_option maxHeartbeats 1000000 in
theorem rnumbers_c (h : Rz w p F g off c wa l s f) (k : Nat) (js : List Nat) (hs : w.heap[k]? = some (.cells (js.map fun j => Value.pointer (some ⟨F, j, none⟩)).toArray 61 (0, 0))) (hkp : k ≠ p) (hkF : k ≠ F) (hj : ∀ j ∈ js, isNum j = true) (hn : js.length ≤ 3) :
    Calls Tryd.prog 99 #[.pointer (some ⟨p, 0, none⟩), .slice (some ⟨k, 0, none⟩) js.length js.length] w fun e w' => e = .returned (.tuple #[]) ∧ Rp w p F g off c wa l (xNs l (f, s) js).2 (xNs l (f, s) js).1 w' := by
  have H0 : Aside (Rp w p F g off c wa l (xNs l (f, s) (js.take 0)).2 (xNs l (f, s) (js.take 0)).1 w) := ⟨h, Chg.refl _ _⟩
  have HS : Aside _ := hs
  have HJ : Aside _ := hj
  clear h hs hj
  go_enter Tryd.func99, Tryd.ntmps99
  go_wp2
  go_loopg [8] (js.length + 1) (fun m i wr => ∃ q, q ≤ js.length ∧ m = js.length + 1 - q ∧ i = .int .i64 (q : Nat) ∧ Aside (Rp w p F g off c wa l (xNs l (f, s) (js.take q)).2 (xNs l (f, s) (js.take q)).1 wr))
  case atStart => exact ⟨0, by omega, by omega, rfl, H0⟩
  case round =>
    obtain ⟨q, hq, hm, rfl, HR⟩ := hrel
    clear H0
    by_cases hlt : q < js.length
    · obtain ⟨j, hx⟩ : ∃ j, js[q] = j := ⟨_, rfl⟩
      have hjn := HJ.out j (by rw [← hx]; exact List.getElem_mem hlt)
      have es := HR.out.2.blk HS.out (fun e => by rcases e with e | e; exact hkp e; exact hkF e)
      have c1 : wr.cell? ⟨k, q, none⟩ = some (.pointer (some ⟨F, j, none⟩)) := by
        unfold World.cell?
        rw [es]
        simp [List.getElem?_map, List.getElem?_eq_getElem hlt, hx]
      have hnu := rnumber_c HR.out.1
      have HTK : Aside (js.take (q + 1) = js.take q ++ [j]) := by
        show _ = _
        rw [List.take_add_one, List.getElem?_eq_getElem hlt, hx]
        rfl
      have HN : Aside (xNs l (f, s) (js.take (q + 1)) = ((xNs l (f, s) (js.take q)).1.put j (xN l (xNs l (f, s) (js.take q)).2).1, (xN l (xNs l (f, s) (js.take q)).2).2)) := by
        show _ = _
        rw [HTK.out, xNs_snoc]
      generalize (xNs l (f, s) (js.take q)).1 = f1 at *
      generalize (xNs l (f, s) (js.take q)).2 = s1 at *
      have HH : Aside (∀ X, Rp wr p F g off c wa l (xN l s1).2 f1 X → ∃ old, X.cell? ⟨F, j, none⟩ = some old ∧ X.frozen? ⟨F, j, none⟩ = false ∧ Rp w p F g off c wa l (xN l s1).2 (f1.put j (xN l s1).1) (X.setCell ⟨F, j, none⟩ (.int .i64 (xN l s1).1))) := by
        rintro X ⟨x1, x2⟩
        obtain ⟨hc1, x, hc2⟩ := Fr.put_cells f1 j hjn (xN l s1).1
        obtain ⟨r1, r2⟩ := x1.put j _ _ hc1
        exact ⟨x, x1.fm.at j _ hc2, x1.fm.fr j, r1, (HR.out.2.trans x2).trans r2⟩
      generalize (xN l s1).1 = V at *
      generalize (xN l s1).2 = s2 at *
      clear es hx HTK hjn HR
      go_wp2_with fail
      refine hnu.mono ?_
      rintro e W1 ⟨rfl, hr⟩
      obtain ⟨old, g1, g2, hr2⟩ := HH.out W1 hr
      have HR2 : Aside (Rp w p F g off c wa l (xNs l (f, s) (js.take (q + 1))).2 (xNs l (f, s) (js.take (q + 1))).1 (W1.setCell ⟨F, j, none⟩ (.int .i64 V))) := by
        show Rp _ _ _ _ _ _ _ _ _ _ _
        rw [HN.out]
        exact hr2
      clear hr hr2 HH hnu HN
      go_wp2
      go_roundg (js.length + 1 - (q + 1))
      case measure => omega
      case rel => exact ⟨q + 1, by omega, rfl, by go_num, HR2⟩
    · obtain rfl : q = js.length := by omega
      have h1 := HR.out
      rw [List.take_length] at h1
      have HE : Aside _ := h1
      clear h1 HR
      go_wp2
      go_end0
      exact ⟨rfl, HE.out⟩
end
end Go.Proofs.YtaeapgkfmofjlaaDoor
namespace Go.Proofs.YtaeapgkfmofjlaaDoor
open Go.ChangeShapes Go.WideShapes Go.ChangeAt Go.RowKit
set_option linter.unusedVariables false
set_option maxRecDepth 100000

/-- What take answers, and leaves. -/
def xT (l : List UInt8) (s : Sq) (n : Nat) : List UInt8 × Sq := if s.2 ≠ 0 then ([], s) else if l.length - s.1 < n then ([], (s.1, 10)) else (sub l s.1 n, (s.1 + n, 0))
theorem xT_no (l : List UInt8) (s : Sq) (n : Nat) (h : s.2 ≠ 0) : xT l s n = ([], s) := if_pos h
theorem xT_few (l : List UInt8) (a n : Nat) (h : l.length - a < n) : xT l (a, 0) n = ([], (a, 10)) := by unfold xT; rw [if_neg (by simp), if_pos h]
theorem xT_yes (l : List UInt8) (a n : Nat) (h : ¬ l.length - a < n) : xT l (a, 0) n = (sub l a n, (a + n, 0)) := by unfold xT; rw [if_neg (by simp), if_neg h]
theorem xT_at (l : List UInt8) (s : Sq) (n : Nat) (h : s.1 ≤ l.length) : (xT l s n).2.1 ≤ l.length := by
  unfold xT
  split
  · exact h
  · split
    · exact h
    · show s.1 + n ≤ _
      omega
theorem xT_len (l : List UInt8) (s : Sq) (n : Nat) (h : s.1 ≤ l.length) : (xT l s n).1.length = 0 ∨ (xT l s n).1.length = n := by
  unfold xT
  split
  · exact .inl rfl
  · split
    · exact .inl rfl
    · exact .inr (sub_length l s.1 n (by omega))
/-- What take answers, as it lies. -/
structure TkA (X : World) (g : Nat) (Y : List UInt8) (e : Ending) (v : Option Addr) (c' : Nat) : Prop where
  e : e = .returned (.slice v Y.length c')
  sl : Sl X v Y
  nil : v = none → Y.length = 0 ∧ c' = 0
  blk : ∀ a, v = some a → a.block = g
section
variable {w w' : World} {p F g off c : Nat} {wa : Option Addr} {l : List UInt8} {s : Sq} {f : Fr}
theorem rtake_no (h : Rz w p F g off c wa l s f) (n : Nat) (h0 : s.2 ≠ 0) : Calls Tryd.prog 104 #[.pointer (some ⟨p, 0, none⟩), .int .i64 n] w fun e w' => e = .returned (.slice none 0 0) ∧ w' = w := by
  obtain ⟨c0, c1, c2, fz⟩ := h.cs
  obtain ⟨T, v, hv⟩ := eV_some wa h0
  rw [hv] at c2
  have hn := run_neq_iface_nil (P := Tryd.prog) (w := w) 38 (by kernel_rfl) T v
  clear h hv fz c0 c1 h0
  go_enter Tryd.func104, Tryd.ntmps104
  go_wp2
  go_ret
  exact ⟨rfl, rfl⟩
set_option maxHeartbeats 1000000 in
theorem rtake_c (h : Rz w p F g off c wa l s f) (n : Nat) (hn : n ≤ 4611686018427387903) :
    Calls Tryd.prog 104 #[.pointer (some ⟨p, 0, none⟩), .int .i64 n] w fun e w' => (∃ v c', TkA w' g (xT l s n).1 e v c') ∧ Rp w p F g off c wa l (xT l s n).2 f w' := by
  by_cases h0 : s.2 ≠ 0
  · rw [xT_no l s n h0]
    exact (rtake_no h n h0).mono (by rintro e w' ⟨rfl, rfl⟩; exact ⟨⟨none, 0, rfl, fun j hj => absurd hj (by simp), fun _ => ⟨rfl, rfl⟩, fun a e => nomatch e⟩, h, Chg.refl _ _⟩)
  obtain ⟨at', e0⟩ := s
  simp only [ne_eq, Decidable.not_not] at h0
  subst h0
  obtain ⟨c0, c1, c2, fz⟩ := h.cs
  rw [eV_0] at c2
  dsimp only at c1
  have hla := h.la
  have hll := h.ll
  have hlc := h.lc
  dsimp only at hla
  have hd := h.bel (Below.refl _ w).drew
  have d0 : w.drew.cell? ⟨p, 0, none⟩ = some (.slice (some ⟨g, off, none⟩) l.length c) := c0
  have d1 : w.drew.cell? ⟨p, 1, none⟩ = some (.int .i64 at') := c1
  have hq : Sem.run Tryd.prog (binOp BinOp.neq 38 .nilIface .nilIface) w = .ok (.bool false) w := by kernel_rfl
  have i1 : IntKind.i64.wrap ((l.length : Int) - at') = (l.length : Int) - at' := wrp _ (by omega) (by omega)
  by_cases hf : l.length - at' < n
  · rw [xT_few l at' n hf]
    have hfl := rfail_c hd 10 (by decide)
    rw [eV_num wa (by decide) (by decide)] at hfl
    have e2 : flt (at', 0) 10 = (at', 10) := rfl
    rw [e2] at hfl
    have HB : Aside (Chg (Kq p F) w w.drew) := Chg.of_below (Below.refl _ w).drew
    have i2 : (l.length : Int) - at' < (n : Int) := by omega
    have i3 : decide ((l.length : Int) - at' < (n : Int)) = true := decide_eq_true i2
    clear h hd fz hf
    go_enter Tryd.func104, Tryd.ntmps104
    go_wp2_with fail
    go_region_held3 (fun X => X.cell? ⟨p, 0, none⟩ = some (.slice (some ⟨g, off, none⟩) l.length c) ∧ X.cell? ⟨p, 1, none⟩ = some (.int .i64 at')) (exact ⟨d0, d1⟩) (fail)
    go_wp2_with fail
    refine hfl.mono ?_
    rintro e w4 ⟨rfl, x1, x2⟩
    have HR : Aside (Rp w p F g off c wa l (at', 10) f w4) := ⟨x1, HB.out.trans x2⟩
    clear x1 x2 hfl
    go_wp2
    go_ret
    exact ⟨⟨none, 0, rfl, fun j hj => absurd hj (by simp), fun _ => ⟨rfl, rfl⟩, fun a e => nomatch e⟩, HR.out⟩
  · rw [xT_yes l at' n hf]
    have hd2 := hd.bel (Below.refl _ w.drew).drew
    obtain ⟨r1, r2⟩ := hd2.go (at' + n) (by omega)
    obtain ⟨b, hb⟩ : ∃ b : Int, ((at' + n : Nat) : Int) = b := ⟨_, rfl⟩
    have HR : Aside (Rp w p F g off c wa l (at' + n, 0) f (w.drew.drew.setCell ⟨p, 1, none⟩ (.int .i64 (at' + n : Nat)))) := ⟨r1, ((Chg.of_below (Below.refl _ w).drew).below (Below.refl _ w.drew).drew).trans r2⟩
    rw [hb] at HR
    have e0 : w.drew.drew.cell? ⟨p, 0, none⟩ = some (.slice (some ⟨g, off, none⟩) l.length c) := c0
    have e1 : w.drew.drew.cell? ⟨p, 1, none⟩ = some (.int .i64 at') := c1
    have f1 : w.drew.drew.frozen? ⟨p, 1, none⟩ = false := fz 1
    have i2 : ¬ ((l.length : Int) - at' < (n : Int)) := by omega
    have i2d : decide ((l.length : Int) - at' < (n : Int)) = false := decide_eq_false i2
    have i3 : IntKind.i64.wrap ((at' : Int) + n) = b := by rw [wrp _ (by omega) (by omega)]; omega
    have j0 : (0 : Int) ≤ (at' : Int) := by omega
    have j1 : (at' : Int) ≤ b := by omega
    have j2 : b ≤ (c : Int) := by omega
    have j5 : b ≤ (l.length : Int) := by omega
    have j6 : b.toNat = at' + n := by omega
    have j3 : (b - (at' : Int)).toNat = n := by omega
    have j4 : b.toNat - at' = n := by omega
    have HL : Aside ((sub l at' n).length = n) := sub_length l at' n (by omega)
    have HS : Aside (∀ X, Rz X p F g off c wa l (at' + n, 0) f → n ≠ 0 → Sl X (some ⟨g, off + at', none⟩) (sub l at' n)) := by
      intro X hx hn0
      obtain ⟨b', off', he, hcl⟩ := Sl_addr hx.sl (by omega)
      injection he with he
      injection he with he1 he2
      subst he1 he2
      have := Sl_sub at' n hcl (by omega)
      exact this
    clear h hd hd2 r1 r2 fz hb j6 hf
    by_cases hc : at' = c
    · have hn0 : Aside (n = 0) := by show n = 0; omega
      subst hc
      obtain rfl : b = (at' : Int) := by have := hn0.out; omega
      go_enter Tryd.func104, Tryd.ntmps104
      go_wp2_with fail
      go_region_held3 (fun X => X.cell? ⟨p, 0, none⟩ = some (.slice (some ⟨g, off, none⟩) l.length at') ∧ X.cell? ⟨p, 1, none⟩ = some (.int .i64 at')) (exact ⟨d0, d1⟩) (fail)
      go_wp2_with fail
      go_region_held3 (fun X => X.cell? ⟨p, 0, none⟩ = some (.slice (some ⟨g, off, none⟩) l.length at') ∧ X.cell? ⟨p, 1, none⟩ = some (.int .i64 at')) (exact ⟨e0, e1⟩) (fail)
      go_wp2
      go_ret
      refine ⟨⟨some ⟨g, off, none⟩, 0, ?_, fun j hj => absurd hj (by rw [HL.out, hn0.out]; simp), (fun e => nomatch e), fun a e => by cases e; rfl⟩, HR.out⟩
      rw [HL.out]
      first | rfl | (simp; exact hn0.out.symm)
    · have hcs : (at' : Int) ≠ (c : Int) := by omega
      go_enter Tryd.func104, Tryd.ntmps104
      go_wp2_with fail
      go_region_held3 (fun X => X.cell? ⟨p, 0, none⟩ = some (.slice (some ⟨g, off, none⟩) l.length c) ∧ X.cell? ⟨p, 1, none⟩ = some (.int .i64 at')) (exact ⟨d0, d1⟩) (fail)
      go_wp2_with fail
      go_region_held3 (fun X => X.cell? ⟨p, 0, none⟩ = some (.slice (some ⟨g, off, none⟩) l.length c) ∧ X.cell? ⟨p, 1, none⟩ = some (.int .i64 at')) (exact ⟨e0, e1⟩) (fail)
      go_wp2
      go_ret
      refine ⟨⟨some ⟨g, off + at', none⟩, c - at', ?_, ?_, (fun e => nomatch e), fun a e => by cases e; rfl⟩, HR.out⟩
      · rw [HL.out]
        first | rfl | (simp [j4])
      · by_cases hn0 : n = 0
        · intro j hj
          rw [HL.out] at hj
          omega
        · exact HS.out _ HR.out.1 hn0
end
end Go.Proofs.YtaeapgkfmofjlaaDoor
namespace Go.Proofs.YtaeapgkfmofjlaaDoor
open Go.ChangeShapes Go.WideShapes Go.ChangeAt Go.RowKit
set_option linter.unusedVariables false
set_option maxRecDepth 100000

theorem By.parts {B : Nat} {w : World} {v : Value} {X : List UInt8} (h : By B w v X) : ∃ ao c, v = .slice ao X.length c ∧ (ao = none → X.length = 0 ∧ c = 0) ∧ Sl w ao X ∧ X.length ≤ c ∧ c ≤ 9223372036854775807 ∧ (∀ ad, ao = some ad → ∃ g, ad = ⟨g, 0, none⟩ ∧ B ≤ g ∧ g < w.heap.size) := by
  obtain ⟨hl, ⟨h1, h2⟩ | ⟨g, cap, cur, he, k1, k2, k3, k4, k5, k6⟩⟩ := h
  · have : X = [] := List.eq_nil_of_length_eq_zero h2
    subst this
    exact ⟨none, 0, h1, fun _ => ⟨rfl, rfl⟩, fun j hj => absurd hj (by simp), by simp, by decide, fun _ h => by cases h⟩
  · exact ⟨some ⟨g, 0, none⟩, cap, he, (fun h => nomatch h), Sl_own k2 (by simpa using k6), k3, k4, fun ad h => ⟨g, (Option.some.inj h).symm, k1, lt_block k2⟩⟩
theorem By.mono {B B' : Nat} {w : World} {v : Value} {X : List UInt8} (h : By B w v X) (hB : B' ≤ B) : By B' w v X := by
  obtain ⟨hl, hc | ⟨g, cap, cur, he, k1, k2⟩⟩ := h
  · exact ⟨hl, .inl hc⟩
  · exact ⟨hl, .inr ⟨g, cap, cur, he, Nat.le_trans hB k1, k2⟩⟩
theorem eql_nil (w : World) : Sem.run Tryd.prog (binOp BinOp.eql 22 (.slice none 0 0) (.slice none 0 0)) w = .ok (.bool true) w := by kernel_rfl
theorem eql_some (ad : Addr) (n c : Nat) (w : World) : Sem.run Tryd.prog (binOp BinOp.eql 22 (.slice (some ad) n c) (.slice none 0 0)) w = .ok (.bool false) w := by kernel_rfl
theorem clone_any (ao : Option Addr) (X : List UInt8) (n c : Nat) (w : World) (hs : Sl w ao X) (hn : X.length = n) (hl : n ≤ 200000000000000) (hnil : ao = none → n = 0 ∧ c = 0) :
    Calls Tryd.prog 105 #[.slice ao n c] w fun e w' => ∃ oa cp, e = .returned (.slice oa n cp) ∧ By w.heap.size w' (.slice oa n cp) X ∧ Below w.heap.size w w' := by
  obtain ⟨i0, hi, hz0, hz1, hz2⟩ := info_parts info5
  cases ao with
  | none =>
    obtain ⟨rfl, rfl⟩ := hnil rfl
    have hX : X = [] := List.eq_nil_of_length_eq_zero hn
    clear hs hnil
    have q := eql_nil
    go_enter Tryd.func105, Tryd.ntmps105
    go_wp2
    go_ret
    subst hX
    exact ⟨none, 0, rfl, ⟨rfl, .inl ⟨rfl, rfl⟩⟩, Below.refl _ _⟩
  | some ad =>
    have HS := mkHid hs
    have HX := mkHid hn
    clear hs hn hnil
    have q := eql_some
    go_enter Tryd.func105, Tryd.ntmps105
    go_wp2_with ((at_builtin; refine wpList_append_own_wide _ rfl (.tmp 5) (.tmp 6) 22 rfl w.heap.size 5 i0 (.int .u8 0) 1 1 Tryd.underlying22 hi hz0 hz1 hz2 rfl (by decide) _ 0 [] rfl (World.ownsRow_made w #[] 0 (Nat.le_refl _) (by decide) rfl) ad n c (bc X) rfl (by rw [bc_length, HX.out, Nat.mul_one]) (Sl_cells (Sl_alloc HS.out _)) (bc_one X) (by unfold maxLen; omega) (by omega) (by simp) ?_; intro v1 w1 hown hgrow hq9; have HO1 := mkHid hown; have HG1 := mkHid hgrow; clear hown hgrow))
    go_ret
    have ho := HO1.out
    rw [List.nil_append, Nat.zero_add] at ho
    have hg : (w.alloc (.cells #[] 5)).grownBy w1 (Value.slice (some ⟨w.heap.size, 0, none⟩) 0 0).ownBlock := HG1.out
    have hB : Below w.heap.size w w1 := ((Below.refl w.heap.size w).alloc (Nat.le_refl _) _).grown hg (by simp) (fun k hk => by simp [Value.ownBlock] at hk; omega)
    have hy : By w.heap.size w1 v1 X := by unfold By; rw [HX.out]; exact ho
    obtain ⟨oa, cp, he, _⟩ := hy.parts
    rw [HX.out] at he
    subst he
    exact ⟨oa, cp, rfl, hy, hB⟩
/-- What a frame holds, without its addresses. -/
structure Fa where
  k : Int
  s : Int
  o : Int
  D : List UInt8
  fin : Bool
  len : Bool
  lim : Int
  code : Int
  of : Int
  A : List (Int × Int)
  del : Int
  e0 : Int
  e1 : Int
  e2 : Int
  seq : Int
  ret : Int
  I : List UInt8
  R : List UInt8
  T : List UInt8
  cnt : Int
def ab (f : Fr) (d : Da) : Fa := ⟨f.k, f.s, f.o, d.D, f.fin, f.len, f.lim, f.code, f.of, d.A, f.del, f.e0, f.e1, f.e2, f.seq, f.ret, d.I, d.R, d.T, f.cnt⟩
def Fa.put (f : Fa) (j : Nat) (v : Int) : Fa := match j with
  | 1 => { f with s := v }
  | 2 => { f with o := v }
  | 6 => { f with lim := v }
  | 7 => { f with code := v }
  | 8 => { f with of := v }
  | 10 => { f with del := v }
  | 11 => { f with e0 := v }
  | 12 => { f with e1 := v }
  | 13 => { f with e2 := v }
  | 14 => { f with seq := v }
  | 15 => { f with ret := v }
  | _ => f
theorem ab_put (f : Fr) (d : Da) (j : Nat) (v : Int) : ab (f.put j v) d = (ab f d).put j v := by
  unfold Fr.put Fa.put
  repeat' split
  all_goals first | rfl | (exfalso; simp_all; done)
def yNs (l : List UInt8) (a : Fa × Sq) (js : List Nat) : Fa × Sq := js.foldl (fun a j => (a.1.put j (xN l a.2).1, (xN l a.2).2)) a
theorem yNs_ab (l : List UInt8) (d : Da) : ∀ (js : List Nat) (f : Fr) (s : Sq), (ab (xNs l (f, s) js).1 d, (xNs l (f, s) js).2) = yNs l (ab f d, s) js
  | [], f, s => rfl
  | j :: js, f, s => by
    have h := yNs_ab l d js (f.put j (xN l s).1) (xN l s).2
    rw [ab_put] at h
    exact h
/-- spans of the call's own -/
def fl : List (Int × Int) → List Value
  | [] => []
  | p :: t => .int .i64 p.1 :: .int .i64 p.2 :: fl t
theorem fl_length (L : List (Int × Int)) : (fl L).length = L.length * 2 := by
  induction L with
  | nil => rfl
  | cons p t ih => simp only [fl, List.length_cons, ih]; omega
theorem fl_append (L M : List (Int × Int)) : fl (L ++ M) = fl L ++ fl M := by
  induction L with
  | nil => rfl
  | cons p t ih => simp only [List.cons_append, fl, ih]
theorem fl_one (L : List (Int × Int)) : ∀ v ∈ fl L, v.oneCell' = true := by
  induction L with
  | nil => simp [fl]
  | cons p t ih =>
    intro v hv
    simp only [fl, List.mem_cons] at hv
    rcases hv with rfl | rfl | h
    · rfl
    · rfl
    · exact ih v h
theorem fl_get (L : List (Int × Int)) (i : Nat) (h : i < L.length) : (fl L)[i * 2]? = some (.int .i64 L[i].1) ∧ (fl L)[i * 2 + 1]? = some (.int .i64 L[i].2) := by
  induction L generalizing i with
  | nil => simp at h
  | cons p t ih =>
    cases i with
    | zero => simp [fl]
    | succ i =>
      rw [show (i + 1) * 2 = i * 2 + 1 + 1 by omega]
      simpa [fl] using ih i (by simpa using h)
def Sy (B : Nat) (w : World) (v : Value) (A : List (Int × Int)) : Prop := w.ownsRow B 47 2 v A.length (fl A)
theorem own_chg {K : Nat → Prop} {B e k n : Nat} {w w' : World} {v : Value} {xs : List Value} (h : w.ownsRow B e k v n xs) (hc : Chg K w w') (hn : ∀ o n c, v = .slice (some o) n c → ¬ K o.block) : w'.ownsRow B e k v n xs := by
  obtain ⟨hl, hv | ⟨g, cap, cur, he, k1, k2, k3⟩⟩ := h
  · exact ⟨hl, .inl hv⟩
  · exact ⟨hl, .inr ⟨g, cap, cur, he, k1, hc.blk k2 (hn _ _ _ he), k3⟩⟩
/-- A slice that does not lie in blocks p, F. -/
def Np (p F : Nat) (v : Value) : Prop := ∀ o n c, v = .slice (some o) n c → o.block ≠ p ∧ o.block ≠ F
/-- A frame that is filled in: what it holds is the call's own. -/
structure Fg (w : World) (lo p F : Nat) (f : Fr) (d : Da) : Prop where
  lF : lo ≤ F
  vD : f.D = .slice d.oD d.D.length d.cD
  vA : f.A = .slice d.oA d.A.length d.cA
  vI : f.I = .slice d.oI d.I.length d.cI
  vR : f.rs = bc d.R
  vT : f.pt = bc d.T
  r16 : d.R.length = 16
  t8 : d.T.length = 8
  bD : By lo w f.D d.D
  nD : Np p F f.D
  bI : By lo w f.I d.I
  nI : Np p F f.I
  bA : Sy lo w f.A d.A
  nA : Np p F f.A
theorem Fg.on {w w' : World} {lo p F : Nat} {f : Fr} {d : Da} (h : Fg w lo p F f d) (hc : Chg (Kq p F) w w') : Fg w' lo p F f d :=
  have hk : ∀ {v}, Np p F v → ∀ o n c, v = .slice (some o) n c → ¬ Kq p F o.block := fun hn o n c e k => by
    obtain ⟨h1, h2⟩ := hn o n c e
    rcases k with k | k
    · exact h1 k
    · exact h2 k
  ⟨h.lF, h.vD, h.vA, h.vI, h.vR, h.vT, h.r16, h.t8, own_chg h.bD hc (hk h.nD), h.nD, own_chg h.bI hc (hk h.nI), h.nI, own_chg h.bA hc (hk h.nA), h.nA⟩
theorem Fr.put_D (f : Fr) (j : Nat) (v : Int) : (f.put j v).D = f.D ∧ (f.put j v).A = f.A ∧ (f.put j v).I = f.I ∧ (f.put j v).rs = f.rs ∧ (f.put j v).pt = f.pt := by
  unfold Fr.put
  split <;> exact ⟨rfl, rfl, rfl, rfl, rfl⟩
theorem Fg.num {w : World} {lo p F : Nat} {f : Fr} {d : Da} (h : Fg w lo p F f d) (f' : Fr) (hf : f'.D = f.D ∧ f'.A = f.A ∧ f'.I = f.I ∧ f'.rs = f.rs ∧ f'.pt = f.pt) : Fg w lo p F f' d := by
  obtain ⟨h1, h2, h3, h4, h5⟩ := hf
  exact ⟨h.lF, h1 ▸ h.vD, h2 ▸ h.vA, h3 ▸ h.vI, h4 ▸ h.vR, h5 ▸ h.vT, h.r16, h.t8, h1 ▸ h.bD, h1 ▸ h.nD, h3 ▸ h.bI, h3 ▸ h.nI, h2 ▸ h.bA, h2 ▸ h.nA⟩
theorem xNs_D (l : List UInt8) : ∀ (js : List Nat) (f : Fr) (s : Sq), (xNs l (f, s) js).1.D = f.D ∧ (xNs l (f, s) js).1.A = f.A ∧ (xNs l (f, s) js).1.I = f.I ∧ (xNs l (f, s) js).1.rs = f.rs ∧ (xNs l (f, s) js).1.pt = f.pt
  | [], f, s => ⟨rfl, rfl, rfl, rfl, rfl⟩
  | j :: js, f, s => by
    obtain ⟨h1, h2, h3, h4, h5⟩ := xNs_D l js (f.put j (xN l s).1) (xN l s).2
    obtain ⟨g1, g2, g3, g4, g5⟩ := f.put_D j (xN l s).1
    exact ⟨h1.trans g1, h2.trans g2, h3.trans g3, h4.trans g4, h5.trans g5⟩
/-- A reader and the frame that it fills in, from world w0 on. -/
def Wk (w0 : World) (lo p F g off c : Nat) (wa : Option Addr) (l : List UInt8) (a : Fa × Sq) (w' : World) : Prop := ∃ f d, ab f d = a.1 ∧ Rz w' p F g off c wa l a.2 f ∧ Fg w' lo p F f d ∧ Chg (Kq p F) w0 w'
section
variable {w0 w w' : World} {lo p F g off c : Nat} {wa : Option Addr} {l : List UInt8} {a : Fa × Sq}
theorem Wk.bel (h : Wk w0 lo p F g off c wa l a w) (hb : Below w.heap.size w w') : Wk w0 lo p F g off c wa l a w' := by
  obtain ⟨f, d, h1, h2, h3, h4⟩ := h
  exact ⟨f, d, h1, h2.bel hb, h3.on (Chg.of_below hb), h4.below hb⟩
theorem Wk.drew (h : Wk w0 lo p F g off c wa l a w) : Wk w0 lo p F g off c wa l a w.drew := h.bel (Below.refl _ w).drew
theorem Wk.numbers (h : Wk w0 lo p F g off c wa l a w) (js : List Nat) (hj : ∀ j ∈ js, isNum j = true) (hn : js.length ≤ 3) :
    Calls Tryd.prog 99 #[.pointer (some ⟨p, 0, none⟩), .slice (some ⟨w.heap.size, 0, none⟩) js.length js.length] (w.alloc (.cells (js.map fun j => Value.pointer (some ⟨F, j, none⟩)).toArray 61)).drew fun e w' => e = .returned (.tuple #[]) ∧ Aside (Wk w0 lo p F g off c wa l (yNs l a js) w') := by
  have hb := (bel1 w (.cells (js.map fun j => Value.pointer (some ⟨F, j, none⟩)).toArray 61)).drew
  have h' := h.bel hb
  obtain ⟨f, d, h1, h2, h3, h4⟩ := h'
  obtain ⟨a1, a2⟩ := a
  have hpF : p < w.heap.size ∧ F < w.heap.size := by
    obtain ⟨_, _, _, hz, _⟩ := h
    exact ⟨lt_block hz.rd, lt_block (show w.heap[F]? = _ from hz.fm)⟩
  obtain ⟨hp, hF⟩ := hpF
  refine (rnumbers_c h2 w.heap.size js (heap_alloc_new w _) (by omega) (by omega) hj hn).mono ?_
  rintro e w2 ⟨rfl, x1, x2⟩
  refine ⟨rfl, (xNs l (f, a2) js).1, d, ?_, ?_, (h3.num _ (xNs_D l js f a2)).on x2, h4.trans x2⟩
  · have := yNs_ab l d js f a2
    dsimp only at h1
    rw [h1] at this
    exact congrArg Prod.fst this
  · have := yNs_ab l d js f a2
    dsimp only at h1
    rw [h1] at this
    have e2 := congrArg Prod.snd this
    dsimp only at e2
    rw [← e2]
    exact x1
end
end Go.Proofs.YtaeapgkfmofjlaaDoor
