/- What header.putVersions answers: a contract. -/
import Derived.Test.YtlllejgpmdeeiaaDoorBegin
import Derived.Deep.LoopGhost
namespace Go.Proofs.YtlllejgpmdeeiaaDoor
open Go.ChangeShapes Go.WideShapes Go.ChangeAt Go.RowKit
set_option linter.unusedVariables false

/-- versions in four bytes each -/
def vB (lst : List Int) : List UInt8 := lst.flatMap fun v => be 4 v.toNat
theorem vB_length (lst : List Int) : (vB lst).length = 4 * lst.length := by
  induction lst with
  | nil => rfl
  | cons x r ih => simp only [vB, List.flatMap_cons, List.length_append, be_length, List.length_cons] at ih ⊢; omega
theorem vB_snoc (lst : List Int) (v : Int) : vB (lst ++ [v]) = vB lst ++ be 4 v.toNat := by simp [vB]

/-- the loop's relation -/
structure PVR (w wr : World) (B : Nat) (X : List UInt8) (lst : List Int) (k : Nat) (v : Value) : Prop where
  below : Below B w wr
  own : wr.ownsRow B 5 1 v (X ++ vB (lst.take k)).length (bc (X ++ vB (lst.take k)))

set_option maxRecDepth 10000 in
set_option maxHeartbeats 400000 in
theorem putVersions_any (B : Nat) (v0 : Value) (X : List UInt8) (la : Option Addr) (lst : List Int) (lc : Nat) (w : World) (ho : By B w v0 X) (hB : B ≤ w.heap.size) (hil : Il w la lst) (hla : ∀ ad, la = some ad → ad.block < B) (hv : lst.any noV = false) (hX : X.length ≤ 1048576) (hl : lst.length ≤ 17592186044416) :
    Calls Tryd.prog 23 #[v0, .slice la lst.length lc] w fun e w' => ∃ v, e = .returned v ∧ By B w' v (X ++ vB lst) ∧ Below B w w' := by
  obtain ⟨i0, hi, hz0, hz1, hz2⟩ := info_parts info5
  have H0 : Hid (PVR w w B X lst 0 v0) := ⟨Below.refl _ _, by have := ho; unfold By at this; simpa [vB] using this⟩
  have HIL := mkHid hil
  have HLA := mkHid hla
  have HV := mkHid hv
  clear ho hil hla hv
  go_enter Tryd.func23, Tryd.ntmps23
  go_wp2
  go_loopg [0, 11] (lst.length + 1) (fun g v i wr => ∃ k, k ≤ lst.length ∧ g = lst.length + 1 - k ∧ i = .int .i64 (k : Nat) ∧ Hid (PVR w wr B X lst k v))
  case atStart => exact ⟨0, by omega, by omega, rfl, H0⟩
  case round =>
    obtain ⟨k, hk, hg, rfl, HR⟩ := hrel
    clear H0
    by_cases hlt : k < lst.length
    · obtain ⟨b, off, rfl, hc⟩ := Il_addr HIL.out (by omega)
      have hcell : wr.cell? ⟨b, off + k, none⟩ = some (.int .i64 lst[k]) := (HR.out.below.cell (p := ⟨b, off + k, none⟩) (show b < B from HLA.out ⟨b, off, none⟩ rfl)).trans (hc k hlt)
      have hv : noV lst[k] = false := by
        have := HV.out
        rw [List.any_eq_false] at this
        simpa using this lst[k] (List.getElem_mem hlt)
      have htk : lst.take (k + 1) = lst.take k ++ [lst[k]] := List.take_succ_eq_append_getElem hlt
      obtain ⟨x, hx⟩ : ∃ x, lst[k] = x := ⟨_, rfl⟩
      rw [hx] at hcell hv htk
      have hx1 : 1 ≤ x ∧ x ≤ 4294967295 := by unfold noV at hv; simp at hv; omega
      obtain ⟨hx1, hx2⟩ := hx1
      have HTK := mkHid htk
      have hlen : (X ++ vB (lst.take k)).length ≤ 70368745226240 := by rw [List.length_append, vB_length]; simp; omega
      obtain ⟨Y, hY⟩ : ∃ Y, X ++ vB (lst.take k) = Y := ⟨_, rfl⟩
      rw [hY] at hlen
      have HO : Hid (wr.ownsRow B 5 1 u0 Y.length (bc Y)) := by have := HR.out.own; rw [hY] at this; exact this
      have HY := mkHid hY
      have HB1 := mkHid HR.out.below
      clear hv htk hx hc hY
      have e64 : IntKind.u64.wrap x = x := by rw [IntKind.wrap_u64]; omega
      go_wp2_with fail
      refine (put_yes none [] 0 x 4 wr (fun j hj => absurd hj (by simp)) (by simp) (by omega) (by omega) (by decide) (by decide)).mono ?_
      rintro e w2 ⟨x1, rfl, hres, hB2⟩
      obtain ⟨g1, cp1, cur1, rfl, hg1, hblk, hroom, hsz, hcur⟩ := Res_ok hres
      have hl4 : ([] ++ be (4 : Int).toNat x.toNat : List UInt8).length = 4 := by simp [be_length]
      have HS4 : Hid (Sl w2 (some ⟨g1, 0, none⟩) (be 4 x.toNat)) := Sl_own hblk hcur
      have HB2 := mkHid hB2
      rw [hl4]
      have HO2 : Hid (w2.ownsRow B 5 1 u0 Y.length (bc Y)) := By.below (B := B) HO.out hB2
      clear hres hB2 hblk hcur hsz hroom hl4
      go_wp2_with ((at_builtin; refine wpList_append_bytes rfl (.tmp 21) (.tmp 22) rfl B i0 Tryd.underlying22 hi hz0 hz1 hz2 u0 Y.length (bc Y) rfl HO2.out (some ⟨g1, 0, none⟩) 4 cp1 (be 4 x.toNat) rfl (be_length _ _) (fun h => by cases h) HS4.out (by omega) (by have := HB1.out.size; have := HB2.out.size; omega) ?_; intro v1 w3 hown hgrow; have HO3 := mkHid hown; have HG3 := mkHid hgrow; clear hown hgrow))
      go_roundg (lst.length + 1 - (k + 1))
      case measure => omega
      case rel =>
        refine ⟨k + 1, by omega, rfl, by go_num, ?_⟩
        have hs1 := HB1.out.size
        have hs2 := HB2.out.size
        refine ⟨(HB1.out.trans (HB2.out.mono (by omega))).grown HG3.out (by omega) (fun k hk => (HO2.out.lt k hk).1), ?_⟩
        rw [HTK.out, vB_snoc, ← List.append_assoc, HY.out, List.length_append, be_length, bc_append]
        exact HO3.out
    · obtain rfl : k = lst.length := by omega
      go_wp2
      go_ret
      have ho := HR.out.own
      rw [List.take_length] at ho
      exact ⟨_, rfl, ho, HR.out.below⟩
end Go.Proofs.YtlllejgpmdeeiaaDoor
