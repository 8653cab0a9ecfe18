/- frame's reader: padding, take, array. -/
import Derived.Test.YtfejhlfcabbkcaaDoorRe
import Derived.Laws.CopyRow
import Derived.Deep.RegionLaw
namespace Go.Proofs.YtfejhlfcabbkcaaDoor
open Go.ChangeShapes Go.WideShapes Go.ChangeAt Go.RowKit
set_option linter.unusedVariables false
set_option maxRecDepth 100000

theorem wrp' (x : Int) (h0 : -9223372036854775808 ≤ x) (h1 : x ≤ 9223372036854775807) : IntKind.i64.wrap x = x := by rw [IntKind.wrap_i64]; omega
theorem norm_any' {φ : Act → World → Prop} {a : Act} {w : World} (h : ∀ K : Act → World → Prop, (∀ a w, φ a w → K a w) → K a w) : φ a w := h φ (fun _ _ h => h)
section
variable {w w' : World} {p F : Nat} {ao : Option Addr} {c : Nat} {l : List UInt8} {at' : Nat} {f : Fr}
theorem Fr.long (hr : f.rs.length = 16) (hp : f.pt.length = 8) : f.cells.length = 42 := by simp [Fr.cells, hr, hp]
theorem Fr.cnt41 (hr : f.rs.length = 16) (hp : f.pt.length = 8) : f.cells[41]? = some (.int .i64 f.cnt) := by
  unfold Fr.cells
  rw [List.getElem?_append_right (by simp)]
  rw [List.getElem?_append_right (by simp [hr])]
  rw [List.getElem?_append_right (by simp [hr, hp])]
  simp [hr, hp]
theorem Fr.set41 (hr : f.rs.length = 16) (hp : f.pt.length = 8) (n : Int) : f.cells.toArray.setIfInBounds 41 (.int .i64 n) = ({ f with cnt := n } : Fr).cells.toArray := by
  rw [List.setIfInBounds_toArray]
  congr 1
  unfold Fr.cells
  rw [List.set_append_right _ _ (by simp), List.set_append_right _ _ (by simp [hr]), List.set_append_right _ _ (by simp [hr, hp])]
  simp [hr, hp]
set_option maxHeartbeats 1000000 in
theorem rpadding_c (h : Rq w p F ao c l at' f) (hr : f.rs.length = 16) (hp : f.pt.length = 8) (ha : at' ≤ l.length) (hz : ∀ j (hj : j < l.length), at' ≤ j → l[j] = 0) :
    Calls Tryd.prog 74 #[.pointer (some ⟨p, 0, none⟩), .pointer (some ⟨F, 41, none⟩)] w fun e w' => e = .returned (.tuple #[]) ∧ Rp w p F ao c l l.length { f with cnt := 1 + (l.length - at' : Nat) } w' := by
  have c41 := h.fm.at 41 _ (Fr.cnt41 hr hp)
  have f41 := h.fm.fr 41
  obtain ⟨r1, r2⟩ := h.put 41 (.int .i64 1) { f with cnt := 1 } (Fr.set41 hr hp 1)
  have H0 : Aside (Rp w p F ao c l (at' + 0) { f with cnt := 1 + (0 : Nat) } (w.setCell ⟨F, 41, none⟩ (.int .i64 1))) := ⟨r1, r2⟩
  have hll := h.ll
  have HZ : Aside _ := hz
  clear h r1 r2 hz
  obtain ⟨N, hN⟩ : ∃ N, l.length - at' = N := ⟨_, rfl⟩
  rw [hN]
  go_enter Tryd.func74, Tryd.ntmps74
  go_wp2_with fail
  go_loopg [] N (fun kx wr => ∃ k : Nat, k ≤ N ∧ N - k ≤ kx ∧ Aside (Rp w p F ao c l (at' + k) { f with cnt := 1 + (k : Nat) } wr))
  case atStart => exact ⟨0, by omega, by omega, H0.out⟩
  case round =>
    clear H0
    obtain ⟨k, hk, hgk, HI⟩ := hrel
    obtain ⟨c0, c1, _, fz⟩ := HI.out.1.cs
    have d0 : wr.drew.cell? ⟨p, 0, none⟩ = some (.slice ao l.length c) := c0
    have d1 : wr.drew.cell? ⟨p, 1, none⟩ = some (.int .i64 (at' + k : Nat)) := c1
    by_cases hlt : k < N
    · have hj : at' + k < l.length := by omega
      obtain ⟨g, off, rfl, hb⟩ := HI.out.1.sl (at' + k) hj
      rw [HZ.out (at' + k) hj (by omega)] at hb
      have d2 : wr.drew.cell? ⟨g, off + (at' + k), none⟩ = some (.int .u8 0) := hb
      have hd := HI.out.1.bel (Below.refl _ wr).drew
      have e41 : wr.drew.cell? ⟨F, 41, none⟩ = some (.int .i64 (1 + (k : Nat))) := hd.fm.at 41 _ (Fr.cnt41 (f := { f with cnt := 1 + (k : Nat) }) hr hp)
      have g41 : wr.drew.frozen? ⟨F, 41, none⟩ = false := hd.fm.fr 41
      obtain ⟨q, hq⟩ : ∃ q : Int, 1 + ((k + 1 : Nat) : Int) = q := ⟨_, rfl⟩
      obtain ⟨b, hb'⟩ : ∃ b : Int, ((at' + (k + 1) : Nat) : Int) = b := ⟨_, rfl⟩
      obtain ⟨r1, r2⟩ := hd.put 41 (.int .i64 q) { f with cnt := q } (Fr.set41 (f := { f with cnt := 1 + (k : Nat) }) hr hp _)
      obtain ⟨_, c1', _, fz'⟩ := r1.cs
      have x1 : (wr.setCell ⟨F, 41, none⟩ (.int .i64 q)).drew.cell? ⟨p, 1, none⟩ = some (.int .i64 (at' + k : Nat)) := c1'
      have fz1 : (wr.setCell ⟨F, 41, none⟩ (.int .i64 q)).drew.frozen? ⟨p, 1, none⟩ = false := fz' 1
      have x1' : (wr.drew.setCell ⟨F, 41, none⟩ (.int .i64 q)).cell? ⟨p, 1, none⟩ = some (.int .i64 (at' + k : Nat)) := c1'
      have fz1' : (wr.drew.setCell ⟨F, 41, none⟩ (.int .i64 q)).frozen? ⟨p, 1, none⟩ = false := fz' 1
      obtain ⟨r3, r4⟩ := r1.go (at' + (k + 1))
      have HO : Aside (Rp w p F (some ⟨g, off, none⟩) c l (at' + (k + 1)) { f with cnt := q } ((wr.drew.setCell ⟨F, 41, none⟩ (.int .i64 q)).setCell ⟨p, 1, none⟩ (.int .i64 (at' + (k + 1) : Nat)))) := ⟨r3, ((HI.out.2.trans (Chg.of_below (Below.refl _ wr).drew)).trans r2).trans r4⟩
      rw [hb'] at HO
      have i0 : ((at' + k : Nat) : Int) < (l.length : Int) := by omega
      have i1 : IntKind.i64.wrap (1 + ((k : Nat) : Int) + 1) = q := by rw [wrp' _ (by omega) (by omega)]; omega
      have i2 : IntKind.i64.wrap (((at' + k : Nat) : Int) + 1) = b := by rw [wrp' _ (by omega) (by omega)]; omega
      have HQ : Aside _ := hq
      clear hd r1 r2 r3 r4 hb c0 c1 c1' fz fz' HI hq hb'
      generalize ha : at' + k = A at *
      go_wp2_with fail
      go_region_held3 (fun X => X.cell? ⟨p, 0, none⟩ = some (.slice (some ⟨g, off, none⟩) l.length c) ∧ X.cell? ⟨p, 1, none⟩ = some (.int .i64 (A : Nat)) ∧ X.cell? ⟨g, off + A, none⟩ = some (.int .u8 0)) (exact ⟨d0, d1, d2⟩) (fail)
      go_wp2
      go_roundg (N - (k + 1))
      case measure => omega
      case rel => exact ⟨k + 1, by omega, Nat.le_refl _, by rw [HQ.out]; exact HO.out⟩
    · obtain rfl : k = N := by omega
      have i0 : ¬ ((at' + k : Nat) : Int) < (l.length : Int) := by omega
      have HO : Aside (Rp w p F ao c l l.length { f with cnt := 1 + (k : Nat) } wr.drew) := by
        have e : at' + k = l.length := by omega
        have := HI.out
        rw [e] at this
        exact ⟨this.1.bel (Below.refl _ wr).drew, this.2.trans (Chg.of_below (Below.refl _ wr).drew)⟩
      clear HI c0 c1 fz hN
      generalize at' + k = A at *
      have i0n : ¬ A < l.length := by omega
      have i0d : decide (A < l.length) = false := decide_eq_false i0n
      have i0e : decide ((A : Int) < (l.length : Int)) = false := decide_eq_false i0
      go_wp2_with fail
      refine wp_region_held_drew (S := fun X => X.cell? ⟨p, 0, none⟩ = some (.slice ao l.length c) ∧ X.cell? ⟨p, 1, none⟩ = some (.int .i64 (A : Nat))) (by kernel_rfl) ⟨d0, d1⟩ (fun hHeld => ?_)
      refine wpAnyH_take (i := 0) (v := .pointer (some ⟨p, 0, none⟩)) rfl (by kernel_rfl) (by kernel_rfl) (by kernel_rfl) (fun _ _ _ h => h) (Or.inl ⟨by rfl, by intro w hs; go_simp⟩) hHeld ?_
      refine norm_any' (fun K hK => ?_)
      go_simp
      refine hK _ _ ?_
      clear hK K
      refine wpAnyH_take (i := 1) (v := .pointer (some ⟨p, 0, none⟩)) rfl (by kernel_rfl) (by kernel_rfl) (by kernel_rfl) (fun _ _ _ h => h) (Or.inl ⟨by rfl, by intro w hs; go_simp⟩) hHeld ?_
      refine norm_any' (fun K hK => ?_)
      go_simp
      refine hK _ _ ?_
      clear hK K
      refine wpAnyH_take (i := 2) (v := .pointer (some ⟨p, 1, none⟩)) rfl (by kernel_rfl) (by kernel_rfl) (by kernel_rfl) (fun _ _ _ h => h) (Or.inl ⟨by rfl, by intro w hs; go_simp⟩) hHeld ?_
      refine norm_any' (fun K hK => ?_)
      go_simp
      refine hK _ _ ?_
      clear hK K
      refine wpAnyH_take (i := 3) (v := .int .i64 (A : Int)) rfl (by kernel_rfl) (by kernel_rfl) (by kernel_rfl) (fun _ _ _ h => h) (Or.inl ⟨by rfl, by rintro w ⟨s0, s1⟩; go_simp⟩) hHeld ?_
      refine norm_any' (fun K hK => ?_)
      go_simp
      refine hK _ _ ?_
      clear hK K
      refine wpAnyH_take (i := 4) (v := .pointer (some ⟨p, 0, none⟩)) rfl (by kernel_rfl) (by kernel_rfl) (by kernel_rfl) (fun _ _ _ h => h) (Or.inl ⟨by rfl, by intro w hs; go_simp⟩) hHeld ?_
      refine norm_any' (fun K hK => ?_)
      go_simp
      refine hK _ _ ?_
      clear hK K
      refine wpAnyH_take (i := 5) (v := .pointer (some ⟨p, 0, none⟩)) rfl (by kernel_rfl) (by kernel_rfl) (by kernel_rfl) (fun _ _ _ h => h) (Or.inl ⟨by rfl, by intro w hs; go_simp⟩) hHeld ?_
      refine norm_any' (fun K hK => ?_)
      go_simp
      refine hK _ _ ?_
      clear hK K
      refine wpAnyH_take (i := 6) (v := .pointer (some ⟨p, 0, none⟩)) rfl (by kernel_rfl) (by kernel_rfl) (by kernel_rfl) (fun _ _ _ h => h) (Or.inl ⟨by rfl, by intro w hs; go_simp⟩) hHeld ?_
      refine norm_any' (fun K hK => ?_)
      go_simp
      refine hK _ _ ?_
      clear hK K
      refine wpAnyH_take (i := 7) (v := .slice ao l.length c) rfl (by kernel_rfl) (by kernel_rfl) (by kernel_rfl) (fun _ _ _ h => h) (Or.inl ⟨by rfl, by rintro w ⟨s0, s1⟩; go_simp⟩) hHeld ?_
      refine norm_any' (fun K hK => ?_)
      go_simp
      refine hK _ _ ?_
      clear hK K
      refine wpAnyH_take (i := 8) (v := .int .i64 (l.length : Int)) rfl (by kernel_rfl) (by kernel_rfl) (by kernel_rfl) (fun _ _ _ h => h) (Or.inl ⟨by rfl, by intro w hs; go_simp⟩) hHeld ?_
      refine norm_any' (fun K hK => ?_)
      go_simp
      refine hK _ _ ?_
      clear hK K
      refine wpAnyH_take (i := 9) (v := .bool false) rfl (by kernel_rfl) (by kernel_rfl) (by kernel_rfl) (fun _ _ _ h => h) (Or.inl ⟨by rfl, by intro w hs; go_simp⟩) hHeld ?_
      refine norm_any' (fun K hK => ?_)
      go_simp
      refine hK _ _ ?_
      clear hK K
      refine wpAnyH_take (i := 10) (v := .bool false) rfl (by kernel_rfl) (by kernel_rfl) (by kernel_rfl) (fun _ _ _ h => h) (Or.inl ⟨by rfl, by intro w hs; go_simp⟩) hHeld ?_
      refine norm_any' (fun K hK => ?_)
      go_simp
      refine hK _ _ ?_
      clear hK K
      refine wpAnyH_take (i := 11) (v := undef) rfl (by kernel_rfl) (by kernel_rfl) (by kernel_rfl) (fun _ _ _ h => h) (Or.inr ⟨by rfl, rfl⟩) hHeld ?_
      refine norm_any' (fun K hK => ?_)
      go_simp
      refine hK _ _ ?_
      clear hK K
      refine wpAnyH_take (i := 12) (v := undef) rfl (by kernel_rfl) (by kernel_rfl) (by kernel_rfl) (fun _ _ _ h => h) (Or.inr ⟨by rfl, rfl⟩) hHeld ?_
      refine norm_any' (fun K hK => ?_)
      go_simp
      refine hK _ _ ?_
      clear hK K
      refine wpAnyH_take (i := 13) (v := undef) rfl (by kernel_rfl) (by kernel_rfl) (by kernel_rfl) (fun _ _ _ h => h) (Or.inr ⟨by rfl, rfl⟩) hHeld ?_
      refine norm_any' (fun K hK => ?_)
      go_simp
      refine hK _ _ ?_
      clear hK K
      refine wpAnyH_take (i := 14) (v := undef) rfl (by kernel_rfl) (by kernel_rfl) (by kernel_rfl) (fun _ _ _ h => h) (Or.inr ⟨by rfl, rfl⟩) hHeld ?_
      refine norm_any' (fun K hK => ?_)
      go_simp
      refine hK _ _ ?_
      clear hK K
      refine wpAnyH_take (i := 15) (v := undef) rfl (by kernel_rfl) (by kernel_rfl) (by kernel_rfl) (fun _ _ _ h => h) (Or.inr ⟨by rfl, rfl⟩) hHeld ?_
      refine norm_any' (fun K hK => ?_)
      go_simp
      refine hK _ _ ?_
      clear hK K
      refine wpAnyH_take (i := 16) (v := undef) rfl (by kernel_rfl) (by kernel_rfl) (by kernel_rfl) (fun _ _ _ h => h) (Or.inr ⟨by rfl, rfl⟩) hHeld ?_
      refine norm_any' (fun K hK => ?_)
      go_simp
      refine hK _ _ ?_
      clear hK K
      refine wpAnyH_take (i := 17) (v := undef) rfl (by kernel_rfl) (by kernel_rfl) (by kernel_rfl) (fun _ _ _ h => h) (Or.inr ⟨by rfl, rfl⟩) hHeld ?_
      refine norm_any' (fun K hK => ?_)
      go_simp
      refine hK _ _ ?_
      clear hK K
      refine wpAnyH_take (i := 18) (v := undef) rfl (by kernel_rfl) (by kernel_rfl) (by kernel_rfl) (fun _ _ _ h => h) (Or.inr ⟨by rfl, rfl⟩) hHeld ?_
      refine norm_any' (fun K hK => ?_)
      go_simp
      refine hK _ _ ?_
      clear hK K
      refine wpAnyH_take (i := 19) (v := undef) rfl (by kernel_rfl) (by kernel_rfl) (by kernel_rfl) (fun _ _ _ h => h) (Or.inr ⟨by rfl, rfl⟩) hHeld ?_
      refine norm_any' (fun K hK => ?_)
      go_simp
      refine hK _ _ ?_
      clear hK K
      refine wpAnyH_take (i := 20) (v := undef) rfl (by kernel_rfl) (by kernel_rfl) (by kernel_rfl) (fun _ _ _ h => h) (Or.inr ⟨by rfl, rfl⟩) hHeld ?_
      refine norm_any' (fun K hK => ?_)
      go_simp
      refine hK _ _ ?_
      clear hK K
      refine wpAnyH_take (i := 21) (v := undef) rfl (by kernel_rfl) (by kernel_rfl) (by kernel_rfl) (fun _ _ _ h => h) (Or.inr ⟨by rfl, rfl⟩) hHeld ?_
      refine norm_any' (fun K hK => ?_)
      go_simp
      refine hK _ _ ?_
      clear hK K
      refine wpAnyH_take (i := 22) (v := .bool false) rfl (by kernel_rfl) (by kernel_rfl) (by kernel_rfl) (fun _ _ _ h => h) (Or.inl ⟨by rfl, by intro w hs; go_simp⟩) hHeld ?_
      refine norm_any' (fun K hK => ?_)
      go_simp
      refine hK _ _ ?_
      clear hK K
      refine wpAnyH_done (by kernel_rfl) ?_ _
      clear hHeld
      go_wp2
      go_end0
      exact ⟨rfl, HO.out⟩
end
end Go.Proofs.YtfejhlfcabbkcaaDoor
