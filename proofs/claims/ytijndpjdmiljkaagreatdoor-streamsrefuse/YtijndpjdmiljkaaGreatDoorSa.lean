/- streams: a stream's number, and the small functions of a table. -/
import Derived.Test.YtijndpjdmiljkaaGreatDoorNx
import Derived.Laws.BitsLemmas
namespace Go.Proofs.YtijndpjdmiljkaaGreatDoor
open Go.RowKit
set_option linter.unusedVariables false

theorem mask_i64 (x : Int) (m : Nat) (hm : m < 9223372036854775808) : 0 ≤ bits .and .i64 x (m : Int) ∧ bits .and .i64 x (m : Int) ≤ m := by
  have h : ∃ a : Nat, a ≤ m ∧ bits .and .i64 x (m : Int) = (a : Int) := by
    refine ⟨((BitVec.ofInt 64 x).toNat &&& (BitVec.ofInt 64 (m : Int)).toNat), ?_, ?_⟩
    · refine Nat.le_trans Nat.and_le_right ?_
      rw [BitVec.ofInt_natCast, BitVec.toNat_ofNat]
      exact Nat.mod_le _ _
    · have h1 : ((BitVec.ofInt 64 x).toNat &&& (BitVec.ofInt 64 (m : Int)).toNat) ≤ m := by
        refine Nat.le_trans Nat.and_le_right ?_
        rw [BitVec.ofInt_natCast, BitVec.toNat_ofNat]
        exact Nat.mod_le _ _
      show IntKind.i64.wrap _ = _
      rw [show (IntKind.i64).bits = 64 from rfl, BitVec.toNat_and, IntKind.wrap_i64]
      omega
  obtain ⟨a, h1, h2⟩ := h
  rw [h2]
  omega
/-- A stream's number: its place, whose it is, which way. -/
def sid (p : Nat) (s u : Bool) : Int := 4 * (p : Int) + (if s then 1 else 0) + (if u then 2 else 0)
theorem sid_nat (p : Nat) (s u : Bool) : sid p s u = ((4 * p + (if s then 1 else 0) + (if u then 2 else 0) : Nat) : Int) := by
  cases s <;> cases u <;> simp [sid]
theorem and_nat (a b : Nat) (ha : a < 4611686018427387904) (hb : b < 4611686018427387904) : bits .and .i64 (a : Int) (b : Int) = ((a &&& b : Nat) : Int) := by
  refine (bits_nat .i64 62 (by decide) (fun n h0 h1 => ?_) a b (by simpa using ha) (by simpa using hb)).1
  rw [IntKind.wrap_i64]
  have : (2 : Int) ^ 62 = 4611686018427387904 := by decide
  omega
theorem sid_s (p : Nat) (s u : Bool) (hp : p < 1152921504606846976) : (bits .and .i64 (sid p s u) 1 != 0) = s := by
  rw [sid_nat, show (1 : Int) = ((1 : Nat) : Int) from rfl, and_nat _ _ (by cases s <;> cases u <;> simp <;> omega) (by decide), Nat.and_one_is_mod]
  cases s <;> cases u <;> simp <;> omega
theorem and_two (a : Nat) : a &&& 2 = 2 * (a / 2 % 2) := by
  have h : (a &&& 2) = (a / 2 &&& 1) * 2 := by
    apply Nat.eq_of_testBit_eq
    intro i
    rcases i with _ | i
    · simp
    · rw [Nat.testBit_and, Nat.testBit_succ, Nat.testBit_succ, Nat.testBit_succ, Nat.mul_div_cancel _ (by decide), Nat.testBit_and]
  rw [h, Nat.and_one_is_mod]
  omega
theorem sid_u (p : Nat) (s u : Bool) (hp : p < 1152921504606846976) : (bits .and .i64 (sid p s u) 2 != 0) = u := by
  rw [sid_nat, show (2 : Int) = ((2 : Nat) : Int) from rfl, and_nat _ _ (by cases s <;> cases u <;> simp <;> omega) (by decide), and_two]
  cases s <;> cases u <;> simp <;> omega
theorem sid_p (p : Nat) (s u : Bool) : sid p s u / 4 = (p : Int) := by
  cases s <;> cases u <;> simp [sid] <;> omega
theorem sid_0 (p : Nat) (s u : Bool) : 0 ≤ sid p s u := by
  cases s <;> cases u <;> simp [sid] <;> omega
theorem Tb.go {srv : Bool} {x y : Lm} {k : Bks} {s : Tst} {W Z : World} (h : Tb srv x y k s W) (hb : Below W.heap.size W Z) : Tb srv x y k s Z :=
  ⟨rt_bel h.tab hb, rt_bel h.hg hb, rt_bel h.ht hb, rt_bel h.hg0 hb, rt_bel h.ht0 hb, rt_bel h.hg1 hb, rt_bel h.ht1 hb, h.nd⟩
section
variable {srv : Bool} {x y : Lm} {k : Bks} {st : Tst} {w : World}
theorem tnone_c (h : Tb srv x y k st w) : Calls Tryz.prog 38 #[.pointer (some ⟨k.T, 0, none⟩)] w fun e w' => e = .returned (.bool false) ∧ w' = w := by
  have c : w.cell? ⟨k.T, 13, none⟩ = some (.map (some k.sb)) := h.tab.cell 13
  have hq : ∀ w, (binOp .eql 80 (.map (some k.sb)) (.map none)).run Tryz.prog w = .ok (.bool false) w := fun w => by kernel_rfl
  clear h
  go_enter Tryz.func38, Tryz.ntmps38
  go_wp2
  go_ret
  exact ⟨rfl, rfl⟩
theorem isUni_c (p : Nat) (s u : Bool) (w : World) (hp : p < 1152921504606846976) : Calls Tryz.prog 103 #[.int .i64 (sid p s u)] w fun e w' => e = .returned (.bool u) ∧ w' = w := by
  have h := sid_u p s u hp
  generalize sid p s u = id at *
  go_enter Tryz.func103, Tryz.ntmps103
  go_wp2
  go_ret
  refine ⟨?_, rfl⟩
  first | rfl | (show Ending.returned (.bool (bits .and .i64 id 2 != 0)) = _; rw [h])
theorem mine_c (h : Tb srv x y k st w) (p : Nat) (s u : Bool) (hp : p < 1152921504606846976) : Calls Tryz.prog 102 #[.pointer (some ⟨k.T, 0, none⟩), .int .i64 (sid p s u)] w fun e w' => e = .returned (.bool (s == srv)) ∧ w' = w := by
  have c : w.cell? ⟨k.T, 0, none⟩ = some (.bool srv) := h.tab.cell 0
  have h := sid_s p s u hp
  generalize sid p s u = id at *
  go_enter Tryz.func102, Tryz.ntmps102
  go_wp2
  go_ret
  refine ⟨?_, rfl⟩
  first | rfl | (show Ending.returned (.bool ((bits .and .i64 id 1 != 0) == srv)) = _; rw [h])
theorem place_c (p : Nat) (s u : Bool) (w : World) : Calls Tryz.prog 125 #[.int .i64 (sid p s u)] w fun e w' => e = .returned (.int .i64 p) ∧ w' = w := by
  have h := sid_p p s u
  generalize sid p s u = id at *
  go_enter Tryz.func125, Tryz.ntmps125
  go_wp2
  go_ret
  refine ⟨?_, rfl⟩
  first | rfl | (show Ending.returned (.int .i64 (id / 4)) = _; rw [h])
theorem reads_c (h : Tb srv x y k st w) (p : Nat) (s u : Bool) (hp : p < 1152921504606846976) : Calls Tryz.prog 62 #[.pointer (some ⟨k.T, 0, none⟩), .int .i64 (sid p s u)] w fun e w' => e = .returned (.bool (!(s == srv) || !u)) ∧ w' = w := by
  have hm : Hid _ := mine_c h p s u hp
  have hu : Hid (∀ w, _) := fun w => isUni_c p s u w hp
  clear h
  generalize sid p s u = id at *
  generalize (s == srv) = q at *
  go_enter Tryz.func62, Tryz.ntmps62
  go_wp2_with fail
  refine Calls.mono hm.out ?_
  rintro e w' ⟨rfl, rfl⟩
  cases q
  · go_wp2
    go_ret
    exact ⟨rfl, rfl⟩
  · go_wp2_with fail
    refine (hu.out _).mono ?_
    rintro e w' ⟨rfl, rfl⟩
    go_wp2
    go_ret
    exact ⟨by cases u <;> rfl, rfl⟩
theorem writes_c (h : Tb srv x y k st w) (p : Nat) (s u : Bool) (hp : p < 1152921504606846976) : Calls Tryz.prog 104 #[.pointer (some ⟨k.T, 0, none⟩), .int .i64 (sid p s u)] w fun e w' => e = .returned (.bool ((s == srv) || !u)) ∧ w' = w := by
  have hm : Hid _ := mine_c h p s u hp
  have hu : Hid (∀ w, _) := fun w => isUni_c p s u w hp
  clear h
  generalize sid p s u = id at *
  generalize (s == srv) = q at *
  go_enter Tryz.func104, Tryz.ntmps104
  go_wp2_with fail
  refine Calls.mono hm.out ?_
  rintro e w' ⟨rfl, rfl⟩
  cases q
  · go_wp2_with fail
    refine (hu.out _).mono ?_
    rintro e w' ⟨rfl, rfl⟩
    go_wp2
    go_ret
    exact ⟨by cases u <;> rfl, rfl⟩
  · go_wp2
    go_ret
    exact ⟨rfl, rfl⟩
/-- Where a kind lies in its table. -/
def kof (u : Bool) : Nat := if u then 20 else 17
theorem kind_c (T : Nat) (u : Bool) (w : World) : Calls Tryz.prog 47 #[.pointer (some ⟨T, 0, none⟩), .bool u] w fun e w' => e = .returned (.pointer (some ⟨T, kof u, none⟩)) ∧ w' = w := by
  cases u
  all_goals
    go_enter Tryz.func47, Tryz.ntmps47
    go_wp2
    go_ret
    exact ⟨rfl, rfl⟩
def Tst.gk (s : Tst) (u : Bool) : Gv := if u then s.g1 else s.g0
def Tst.tk (s : Tst) (u : Bool) : Tv := if u then s.t1 else s.t0
def Bks.gk (k : Bks) (u : Bool) : Nat := if u then k.g1 else k.g0
def Bks.tk (k : Bks) (u : Bool) : Nat := if u then k.t1 else k.t0
theorem Tb.hgk (h : Tb srv x y k st w) (u : Bool) : Rt 174 (st.gk u).p w (k.gk u) := by cases u; exact h.hg0; exact h.hg1
theorem Tb.htk (h : Tb srv x y k st w) (u : Bool) : Rt 176 (st.tk u).p w (k.tk u) := by cases u; exact h.ht0; exact h.ht1
theorem Tb.cg (h : Tb srv x y k st w) (u : Bool) : w.cell? ⟨k.T, kof u, none⟩ = some (.pointer (some ⟨k.gk u, 0, none⟩)) := by cases u; exact h.tab.cell 17; exact h.tab.cell 20
theorem Tb.ct (h : Tb srv x y k st w) (u : Bool) : w.cell? ⟨k.T, kof u + 2, none⟩ = some (.pointer (some ⟨k.tk u, 0, none⟩)) := by cases u; exact h.tab.cell 19; exact h.tab.cell 22
theorem spent_c (h : Tb srv x y k st w) (u : Bool) (h0 : 0 ≤ (st.gk u).s ∧ (st.gk u).s ≤ (st.gk u).l ∧ (st.gk u).l ≤ 4611686018427387903) : Calls Tryz.prog 49 #[.pointer (some ⟨k.T, kof u, none⟩)] w fun e w' => e = .returned (.int .i64 (st.gk u).s) ∧ Below w.heap.size w w' := by
  have hl : Hid _ := gleft_c _ _ w (h.hgk u)
  have c := h.cg u
  have e1 : IntKind.i64.wrap ((st.gk u).l - (st.gk u).s) = (st.gk u).l - (st.gk u).s := wrp _ (by omega) (by omega)
  have e2 : IntKind.i64.wrap ((st.gk u).l - ((st.gk u).l - (st.gk u).s)) = (st.gk u).s := by rw [wrp _ (by omega) (by omega)]; omega
  rw [e1] at hl
  clear h
  go_enter Tryz.func49, Tryz.ntmps49
  go_wp2_with fail
  refine Calls.mono hl.out ?_
  rintro e w' ⟨rfl, rfl⟩
  go_wp2
  go_ret
  exact ⟨rfl, bel_drew w⟩
theorem came_c (h : Tb srv x y k st w) (u : Bool) : Calls Tryz.prog 126 #[.pointer (some ⟨k.T, kof u, none⟩)] w fun e w' => e = .returned (.int .i64 (st.tk u).c) ∧ Below w.heap.size w w' := by
  have hl : Hid _ := ttold_c _ _ w (h.htk u)
  have c := h.ct u
  clear h
  go_enter Tryz.func126, Tryz.ntmps126
  go_wp2_with fail
  refine Calls.mono hl.out ?_
  rintro e w' ⟨rfl, rfl⟩
  go_wp2
  go_ret
  exact ⟨rfl, bel_drew w⟩
theorem allowed_c (h : Tb srv x y k st w) (u : Bool) : Calls Tryz.prog 178 #[.pointer (some ⟨k.T, kof u, none⟩)] w fun e w' => e = .returned (.int .i64 (st.tk u).l) ∧ Below w.heap.size w w' := by
  have hl : Hid _ := ttold_c _ _ w (h.htk u)
  have c := h.ct u
  clear h
  go_enter Tryz.func178, Tryz.ntmps178
  go_wp2_with fail
  refine Calls.mono hl.out ?_
  rintro e w' ⟨rfl, rfl⟩
  go_wp2
  go_ret
  exact ⟨rfl, bel_drew w⟩
/-- How many streams of a kind this side opened, or the peer. -/
def Tst.had (s : Tst) (srv sv u : Bool) : Int := if sv == srv then (s.gk u).s else (s.tk u).c
def Tst.fine (s : Tst) : Prop := ∀ u, 0 ≤ (s.gk u).s ∧ (s.gk u).s ≤ (s.gk u).l ∧ (s.gk u).l ≤ 4611686018427387903
theorem opened_c (h : Tb srv x y k st w) (hf : st.fine) (p : Nat) (s u : Bool) (hp : p < 1152921504606846976) : Calls Tryz.prog 61 #[.pointer (some ⟨k.T, 0, none⟩), .int .i64 (sid p s u)] w fun e w' => e = .returned (.bool (decide ((p : Int) < st.had srv s u))) ∧ Below w.heap.size w w' := by
  have h0 := sid_0 p s u
  have hm : Hid _ := mine_c h p s u hp
  have hu : Hid (∀ w, _) := fun w => isUni_c p s u w hp
  have hk : Hid (∀ w, _) := fun w => kind_c k.T u w
  have hpl : Hid (∀ w, _) := fun w => place_c p s u w
  have hsp : Hid _ := spent_c h u (hf u)
  have hca : Hid _ := came_c h u
  unfold Tst.had
  clear h hf
  generalize sid p s u = id at *
  generalize (s == srv) = q at *
  cases q
  all_goals
    go_enter Tryz.func61, Tryz.ntmps61
    go_wp2_with fail
    refine (hu.out _).mono ?_
    rintro e w' ⟨rfl, hw⟩
    subst w'
    go_wp2_with fail
    refine (hk.out _).mono ?_
    rintro e w' ⟨rfl, hw⟩
    subst w'
    go_wp2_with fail
    refine Calls.mono hm.out ?_
    rintro e w' ⟨rfl, hw⟩
    subst w'
    go_wp2_with fail
    refine (hpl.out _).mono ?_
    rintro e w' ⟨rfl, hw⟩
    subst w'
    go_wp2_with fail
    first | refine Calls.mono hca.out ?_ | refine Calls.mono hsp.out ?_
    rintro e w' ⟨rfl, hb⟩
    go_wp2
    go_ret
    exact ⟨rfl, hb⟩
end
end Go.Proofs.YtijndpjdmiljkaaGreatDoor
