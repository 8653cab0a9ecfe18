/- frame's reader: padding. -/
import Derived.Test.YtaeapgkfmofjlaaDoorSh
namespace Go.Proofs.YtaeapgkfmofjlaaDoor
open Go.ChangeShapes Go.WideShapes Go.ChangeAt Go.RowKit
set_option linter.unusedVariables false
set_option maxRecDepth 100000

/-- How many bytes 0 stand at a place. -/
def zc (l : List UInt8) (a : Nat) : Nat := ((l.drop a).takeWhile (· == 0)).length
def yZ (l : List UInt8) (a : Fa × Sq) : Fa × Sq := ({ a.1 with cnt := 1 + (zc l a.2.1 : Nat) }, (a.2.1 + zc l a.2.1, a.2.2))
theorem zc_le (l : List UInt8) (a : Nat) (h : a ≤ l.length) : a + zc l a ≤ l.length := by
  unfold zc
  have := (List.takeWhile_prefix (p := fun x : UInt8 => x == 0) (l := l.drop a)).length_le
  rw [List.length_drop] at this
  omega
theorem tw_in : ∀ (m : List UInt8) (k : Nat), k < (m.takeWhile (· == 0)).length → ∃ h : k < m.length, m[k] = 0
  | [], k, h => by simp at h
  | x :: t, k, h => by
    by_cases hx : x = 0
    · subst hx
      simp only [List.takeWhile_cons, beq_self_eq_true, if_true, List.length_cons] at h
      cases k with
      | zero => exact ⟨by simp, rfl⟩
      | succ k =>
        obtain ⟨h1, h2⟩ := tw_in t k (by omega)
        exact ⟨by simpa using h1, by simpa using h2⟩
    · have : (x == 0) = false := by simpa using hx
      simp only [List.takeWhile_cons, this, Bool.false_eq_true, if_false, List.length_nil] at h
      omega
theorem zc_in (l : List UInt8) (a k : Nat) (hk : k < zc l a) : ∃ hj : a + k < l.length, l[a + k] = 0 := by
  obtain ⟨h1, h2⟩ := tw_in (l.drop a) k hk
  rw [List.getElem_drop] at h2
  exact ⟨by rw [List.length_drop] at h1; omega, h2⟩
theorem zc_out (l : List UInt8) (a : Nat) (hj : a + zc l a < l.length) : l[a + zc l a] ≠ 0 := by
  intro h
  have h1 : ∀ m : List UInt8, ∀ hm : (m.takeWhile (· == 0)).length < m.length, m[(m.takeWhile (· == 0)).length] ≠ 0 := by
    intro m
    induction m with
    | nil => intro hm; simp at hm
    | cons x t ih =>
      intro hm
      by_cases hx : x = 0
      · subst hx
        simp only [List.takeWhile_cons, beq_self_eq_true, if_true, List.length_cons] at hm ⊢
        simpa using ih (by omega)
      · have : (x == 0) = false := by simpa using hx
        simp only [List.takeWhile_cons, this, Bool.false_eq_true, if_false, List.length_nil, List.getElem_cons_zero]
        exact hx
  have h2 := h1 (l.drop a) (by rw [List.length_drop]; unfold zc at hj; omega)
  rw [List.getElem_drop] at h2
  exact h2 h
section
variable {w0 w w' : World} {lo p F g off c : Nat} {wa : Option Addr} {l : List UInt8} {a : Fa × Sq} {s : Sq} {f : Fr}
theorem Fr.set41 (hr : f.rs.length = 16) (hp : f.pt.length = 8) (n : Int) : f.cells.toArray.setIfInBounds 41 (.int .i64 n) = ({ f with cnt := n } : Fr).cells.toArray := by
  rw [List.setIfInBounds_toArray]
  congr 1
  unfold Fr.cells
  rw [List.set_append_right _ _ (by simp), List.set_append_right _ _ (by simp [hr]), List.set_append_right _ _ (by simp [hr, hp])]
  simp [hr, hp]
set_option maxHeartbeats 1000000 in
theorem rpadding_c {at' : Nat} {ev : Int} (h : Rz w p F g off c wa l (at', ev) f) (hr : f.rs.length = 16) (hp : f.pt.length = 8) :
    Calls Tryd.prog 100 #[.pointer (some ⟨p, 0, none⟩), .pointer (some ⟨F, 41, none⟩)] w fun e w' => e = .returned (.tuple #[]) ∧ Rp w p F g off c wa l (at' + zc l at', ev) { f with cnt := 1 + (zc l at' : Nat) } w' := by
  have c41 := h.fm.at 41 _ (Fr.cnt41 hr hp)
  have f41 := h.fm.fr 41
  obtain ⟨r1, r2⟩ := h.put 41 (.int .i64 1) { f with cnt := 1 } (Fr.set41 hr hp 1)
  have H0 : Aside (Rp w p F g off c wa l (at' + 0, ev) { f with cnt := 1 + (0 : Nat) } (w.setCell ⟨F, 41, none⟩ (.int .i64 1))) := ⟨r1, r2⟩
  have hll := h.ll
  have HIN : Aside _ := zc_in l at'
  have HOUT : Aside _ := zc_out l at'
  have hle := zc_le l at' h.la
  clear h r1 r2
  obtain ⟨N, hN⟩ : ∃ N, zc l at' = N := ⟨_, rfl⟩
  rw [hN] at HIN HOUT hle ⊢
  go_enter Tryd.func100, Tryd.ntmps100
  go_wp2_with fail
  go_loopg [] N (fun kx wr => ∃ k : Nat, k ≤ N ∧ N - k ≤ kx ∧ Aside (Rp w p F g off c wa l (at' + k, ev) { f with cnt := 1 + (k : Nat) } wr))
  case atStart => exact ⟨0, by omega, by omega, H0.out⟩
  case round =>
    clear H0
    obtain ⟨k, hk, hgk, HI⟩ := hrel
    obtain ⟨c0, c1, _, fz⟩ := HI.out.1.cs
    have d0 : wr.drew.cell? ⟨p, 0, none⟩ = some (.slice (some ⟨g, off, none⟩) l.length c) := c0
    have d1 : wr.drew.cell? ⟨p, 1, none⟩ = some (.int .i64 (at' + k : Nat)) := c1
    by_cases hlt : k < N
    · obtain ⟨hj, hz⟩ := HIN.out k hlt
      obtain ⟨g0, off0, he, hb⟩ := HI.out.1.sl (at' + k) hj
      cases he
      rw [hz] at hb
      have d2 : wr.drew.cell? ⟨g, off + (at' + k), none⟩ = some (.int .u8 0) := hb
      have hd := HI.out.1.bel (Below.refl _ wr).drew
      have e41 : wr.drew.cell? ⟨F, 41, none⟩ = some (.int .i64 (1 + (k : Nat))) := hd.fm.at 41 _ (Fr.cnt41 (f := { f with cnt := 1 + (k : Nat) }) hr hp)
      have g41 : wr.drew.frozen? ⟨F, 41, none⟩ = false := hd.fm.fr 41
      obtain ⟨q, hq⟩ : ∃ q : Int, 1 + ((k + 1 : Nat) : Int) = q := ⟨_, rfl⟩
      obtain ⟨b, hb'⟩ : ∃ b : Int, ((at' + (k + 1) : Nat) : Int) = b := ⟨_, rfl⟩
      obtain ⟨r1, r2⟩ := hd.put 41 (.int .i64 q) { f with cnt := q } (Fr.set41 (f := { f with cnt := 1 + (k : Nat) }) hr hp _)
      obtain ⟨_, c1', _, fz'⟩ := r1.cs
      have x1' : (wr.drew.setCell ⟨F, 41, none⟩ (.int .i64 q)).cell? ⟨p, 1, none⟩ = some (.int .i64 (at' + k : Nat)) := c1'
      have fz1' : (wr.drew.setCell ⟨F, 41, none⟩ (.int .i64 q)).frozen? ⟨p, 1, none⟩ = false := fz' 1
      have x1 : (wr.setCell ⟨F, 41, none⟩ (.int .i64 q)).drew.cell? ⟨p, 1, none⟩ = some (.int .i64 (at' + k : Nat)) := c1'
      have fz1 : (wr.setCell ⟨F, 41, none⟩ (.int .i64 q)).drew.frozen? ⟨p, 1, none⟩ = false := fz' 1
      obtain ⟨r3, r4⟩ := r1.go (at' + (k + 1)) (by omega)
      have HO : Aside (Rp w p F g off c wa l (at' + (k + 1), ev) { f with cnt := q } ((wr.drew.setCell ⟨F, 41, none⟩ (.int .i64 q)).setCell ⟨p, 1, none⟩ (.int .i64 (at' + (k + 1) : Nat)))) := ⟨r3, ((HI.out.2.trans (Chg.of_below (Below.refl _ wr).drew)).trans r2).trans r4⟩
      rw [hb'] at HO
      have i0 : ((at' + k : Nat) : Int) < (l.length : Int) := by omega
      have i1 : IntKind.i64.wrap (1 + ((k : Nat) : Int) + 1) = q := by rw [wrp _ (by omega) (by omega)]; omega
      have i2 : IntKind.i64.wrap (((at' + k : Nat) : Int) + 1) = b := by rw [wrp _ (by omega) (by omega)]; omega
      have HQ : Aside _ := hq
      clear hd r1 r2 r3 r4 hb hz c0 c1 c1' fz fz' HI hq hb'
      generalize ha : at' + k = A at *
      go_wp2_with fail
      go_region_held3 (fun X => X.cell? ⟨p, 0, none⟩ = some (.slice (some ⟨g, off, none⟩) l.length c) ∧ X.cell? ⟨p, 1, none⟩ = some (.int .i64 (A : Nat)) ∧ X.cell? ⟨g, off + A, none⟩ = some (.int .u8 0)) (exact ⟨d0, d1, d2⟩) (fail)
      go_wp2
      go_roundg (N - (k + 1))
      case measure => omega
      case rel => exact ⟨k + 1, by omega, Nat.le_refl _, by rw [HQ.out]; exact HO.out⟩
    · obtain rfl : k = N := by omega
      have HO : Aside (Rp w p F g off c wa l (at' + k, ev) { f with cnt := 1 + (k : Nat) } wr.drew) := ⟨HI.out.1.bel (Below.refl _ wr).drew, HI.out.2.trans (Chg.of_below (Below.refl _ wr).drew)⟩
      by_cases hend : at' + k = l.length
      · have i0 : ¬ ((at' + k : Nat) : Int) < (l.length : Int) := by omega
        clear HI c0 c1 fz hN HIN HOUT
        generalize hA : at' + k = A at *
        have HA : Aside (at' + k = A) := hA
        clear hA
        have i0n : ¬ A < l.length := by omega
        have i0d : decide (A < l.length) = false := decide_eq_false i0n
        have i0e : decide ((A : Int) < (l.length : Int)) = false := decide_eq_false i0
        go_wp2_with fail
        refine wp_region_held_drew (S := fun X => X.cell? ⟨p, 0, none⟩ = some (.slice (some ⟨g, off, none⟩) l.length c) ∧ X.cell? ⟨p, 1, none⟩ = some (.int .i64 (A : Nat))) (by kernel_rfl) ⟨d0, d1⟩ (fun hHeld => ?_)
        refine wpAnyH_take (i := 0) (v := .pointer (some ⟨p, 0, none⟩)) rfl (by kernel_rfl) (by kernel_rfl) (by kernel_rfl) (fun _ _ _ h => h) (Or.inl ⟨by rfl, by intro w hs; go_simp⟩) hHeld ?_
        refine norm_any (fun K hK => ?_)
        go_simp
        refine hK _ _ ?_
        clear hK K
        refine wpAnyH_take (i := 1) (v := .pointer (some ⟨p, 0, none⟩)) rfl (by kernel_rfl) (by kernel_rfl) (by kernel_rfl) (fun _ _ _ h => h) (Or.inl ⟨by rfl, by intro w hs; go_simp⟩) hHeld ?_
        refine norm_any (fun K hK => ?_)
        go_simp
        refine hK _ _ ?_
        clear hK K
        refine wpAnyH_take (i := 2) (v := .pointer (some ⟨p, 1, none⟩)) rfl (by kernel_rfl) (by kernel_rfl) (by kernel_rfl) (fun _ _ _ h => h) (Or.inl ⟨by rfl, by intro w hs; go_simp⟩) hHeld ?_
        refine norm_any (fun K hK => ?_)
        go_simp
        refine hK _ _ ?_
        clear hK K
        refine wpAnyH_take (i := 3) (v := .int .i64 (A : Int)) rfl (by kernel_rfl) (by kernel_rfl) (by kernel_rfl) (fun _ _ _ h => h) (Or.inl ⟨by rfl, by rintro w ⟨s0, s1⟩; go_simp⟩) hHeld ?_
        refine norm_any (fun K hK => ?_)
        go_simp
        refine hK _ _ ?_
        clear hK K
        refine wpAnyH_take (i := 4) (v := .pointer (some ⟨p, 0, none⟩)) rfl (by kernel_rfl) (by kernel_rfl) (by kernel_rfl) (fun _ _ _ h => h) (Or.inl ⟨by rfl, by intro w hs; go_simp⟩) hHeld ?_
        refine norm_any (fun K hK => ?_)
        go_simp
        refine hK _ _ ?_
        clear hK K
        refine wpAnyH_take (i := 5) (v := .pointer (some ⟨p, 0, none⟩)) rfl (by kernel_rfl) (by kernel_rfl) (by kernel_rfl) (fun _ _ _ h => h) (Or.inl ⟨by rfl, by intro w hs; go_simp⟩) hHeld ?_
        refine norm_any (fun K hK => ?_)
        go_simp
        refine hK _ _ ?_
        clear hK K
        refine wpAnyH_take (i := 6) (v := .pointer (some ⟨p, 0, none⟩)) rfl (by kernel_rfl) (by kernel_rfl) (by kernel_rfl) (fun _ _ _ h => h) (Or.inl ⟨by rfl, by intro w hs; go_simp⟩) hHeld ?_
        refine norm_any (fun K hK => ?_)
        go_simp
        refine hK _ _ ?_
        clear hK K
        refine wpAnyH_take (i := 7) (v := .slice (some ⟨g, off, none⟩) l.length c) rfl (by kernel_rfl) (by kernel_rfl) (by kernel_rfl) (fun _ _ _ h => h) (Or.inl ⟨by rfl, by rintro w ⟨s0, s1⟩; go_simp⟩) hHeld ?_
        refine norm_any (fun K hK => ?_)
        go_simp
        refine hK _ _ ?_
        clear hK K
        refine wpAnyH_take (i := 8) (v := .int .i64 (l.length : Int)) rfl (by kernel_rfl) (by kernel_rfl) (by kernel_rfl) (fun _ _ _ h => h) (Or.inl ⟨by rfl, by intro w hs; go_simp⟩) hHeld ?_
        refine norm_any (fun K hK => ?_)
        go_simp
        refine hK _ _ ?_
        clear hK K
        refine wpAnyH_take (i := 9) (v := .bool false) rfl (by kernel_rfl) (by kernel_rfl) (by kernel_rfl) (fun _ _ _ h => h) (Or.inl ⟨by rfl, by intro w hs; go_simp⟩) hHeld ?_
        refine norm_any (fun K hK => ?_)
        go_simp
        refine hK _ _ ?_
        clear hK K
        refine wpAnyH_take (i := 10) (v := .bool false) rfl (by kernel_rfl) (by kernel_rfl) (by kernel_rfl) (fun _ _ _ h => h) (Or.inl ⟨by rfl, by intro w hs; go_simp⟩) hHeld ?_
        refine norm_any (fun K hK => ?_)
        go_simp
        refine hK _ _ ?_
        clear hK K
        refine wpAnyH_take (i := 11) (v := undef) rfl (by kernel_rfl) (by kernel_rfl) (by kernel_rfl) (fun _ _ _ h => h) (Or.inr ⟨by rfl, rfl⟩) hHeld ?_
        refine norm_any (fun K hK => ?_)
        go_simp
        refine hK _ _ ?_
        clear hK K
        refine wpAnyH_take (i := 12) (v := undef) rfl (by kernel_rfl) (by kernel_rfl) (by kernel_rfl) (fun _ _ _ h => h) (Or.inr ⟨by rfl, rfl⟩) hHeld ?_
        refine norm_any (fun K hK => ?_)
        go_simp
        refine hK _ _ ?_
        clear hK K
        refine wpAnyH_take (i := 13) (v := undef) rfl (by kernel_rfl) (by kernel_rfl) (by kernel_rfl) (fun _ _ _ h => h) (Or.inr ⟨by rfl, rfl⟩) hHeld ?_
        refine norm_any (fun K hK => ?_)
        go_simp
        refine hK _ _ ?_
        clear hK K
        refine wpAnyH_take (i := 14) (v := undef) rfl (by kernel_rfl) (by kernel_rfl) (by kernel_rfl) (fun _ _ _ h => h) (Or.inr ⟨by rfl, rfl⟩) hHeld ?_
        refine norm_any (fun K hK => ?_)
        go_simp
        refine hK _ _ ?_
        clear hK K
        refine wpAnyH_take (i := 15) (v := undef) rfl (by kernel_rfl) (by kernel_rfl) (by kernel_rfl) (fun _ _ _ h => h) (Or.inr ⟨by rfl, rfl⟩) hHeld ?_
        refine norm_any (fun K hK => ?_)
        go_simp
        refine hK _ _ ?_
        clear hK K
        refine wpAnyH_take (i := 16) (v := undef) rfl (by kernel_rfl) (by kernel_rfl) (by kernel_rfl) (fun _ _ _ h => h) (Or.inr ⟨by rfl, rfl⟩) hHeld ?_
        refine norm_any (fun K hK => ?_)
        go_simp
        refine hK _ _ ?_
        clear hK K
        refine wpAnyH_take (i := 17) (v := undef) rfl (by kernel_rfl) (by kernel_rfl) (by kernel_rfl) (fun _ _ _ h => h) (Or.inr ⟨by rfl, rfl⟩) hHeld ?_
        refine norm_any (fun K hK => ?_)
        go_simp
        refine hK _ _ ?_
        clear hK K
        refine wpAnyH_take (i := 18) (v := undef) rfl (by kernel_rfl) (by kernel_rfl) (by kernel_rfl) (fun _ _ _ h => h) (Or.inr ⟨by rfl, rfl⟩) hHeld ?_
        refine norm_any (fun K hK => ?_)
        go_simp
        refine hK _ _ ?_
        clear hK K
        refine wpAnyH_take (i := 19) (v := undef) rfl (by kernel_rfl) (by kernel_rfl) (by kernel_rfl) (fun _ _ _ h => h) (Or.inr ⟨by rfl, rfl⟩) hHeld ?_
        refine norm_any (fun K hK => ?_)
        go_simp
        refine hK _ _ ?_
        clear hK K
        refine wpAnyH_take (i := 20) (v := undef) rfl (by kernel_rfl) (by kernel_rfl) (by kernel_rfl) (fun _ _ _ h => h) (Or.inr ⟨by rfl, rfl⟩) hHeld ?_
        refine norm_any (fun K hK => ?_)
        go_simp
        refine hK _ _ ?_
        clear hK K
        refine wpAnyH_take (i := 21) (v := undef) rfl (by kernel_rfl) (by kernel_rfl) (by kernel_rfl) (fun _ _ _ h => h) (Or.inr ⟨by rfl, rfl⟩) hHeld ?_
        refine norm_any (fun K hK => ?_)
        go_simp
        refine hK _ _ ?_
        clear hK K
        refine wpAnyH_take (i := 22) (v := .bool false) rfl (by kernel_rfl) (by kernel_rfl) (by kernel_rfl) (fun _ _ _ h => h) (Or.inl ⟨by rfl, by intro w hs; go_simp⟩) hHeld ?_
        refine norm_any (fun K hK => ?_)
        go_simp
        refine hK _ _ ?_
        clear hK K
        refine wpAnyH_done (by kernel_rfl) ?_ _
        clear hHeld
        go_wp2
        go_end0
        rw [HA.out]
        exact ⟨rfl, HO.out⟩
      · have hj : at' + k < l.length := by omega
        obtain ⟨g0, off0, he, hb⟩ := HI.out.1.sl (at' + k) hj
        cases he
        have hz := HOUT.out hj
        obtain ⟨y, hy⟩ : ∃ y : UInt8, l[at' + k] = y := ⟨_, rfl⟩
        rw [hy] at hb hz
        have hyn : ((y.toNat : Int) == 0) = false := by
          have : y.toNat ≠ 0 := fun e => hz (UInt8.toNat_inj.1 e)
          simpa using this
        have hyn2 : ¬ (y.toNat : Int) = 0 := by simpa using hyn
        have hyn3 : ¬ y.toNat = 0 := by simpa using hyn
        have d2 : wr.drew.cell? ⟨g, off + (at' + k), none⟩ = some (.int .u8 y.toNat) := hb
        have i0 : ((at' + k : Nat) : Int) < (l.length : Int) := by omega
        clear HI c0 c1 fz hN HIN HOUT hy hz hb
        generalize hA : at' + k = A at *
        have HA : Aside (at' + k = A) := hA
        clear hA
        generalize y.toNat = Y at *
        go_wp2_with fail
        go_region_held3 (fun X => X.cell? ⟨p, 0, none⟩ = some (.slice (some ⟨g, off, none⟩) l.length c) ∧ X.cell? ⟨p, 1, none⟩ = some (.int .i64 (A : Nat)) ∧ X.cell? ⟨g, off + A, none⟩ = some (.int .u8 Y)) (exact ⟨d0, d1, d2⟩) (fail)
        go_wp2
        go_end0
        rw [HA.out]
        exact ⟨rfl, HO.out⟩
theorem Wk.padding (h : Wk w0 lo p F g off c wa l a w) : Calls Tryd.prog 100 #[.pointer (some ⟨p, 0, none⟩), .pointer (some ⟨F, 41, none⟩)] w fun e w' => e = .returned (.tuple #[]) ∧ Aside (Wk w0 lo p F g off c wa l (yZ l a) w') := by
  obtain ⟨f, d, h1, h2, h3, h4⟩ := h
  obtain ⟨a1, a2, a3⟩ := a
  refine (rpadding_c h2 (by rw [h3.vR, bc_length, h3.r16]) (by rw [h3.vT, bc_length, h3.t8])).mono ?_
  rintro e w2 ⟨rfl, x1, x2⟩
  refine ⟨rfl, _, d, ?_, x1, (h3.num { f with cnt := 1 + (zc l a2 : Nat) } ⟨rfl, rfl, rfl, rfl, rfl⟩).on x2, h4.trans x2⟩
  unfold yZ
  rw [← h1]
  rfl
end
end Go.Proofs.YtaeapgkfmofjlaaDoor
