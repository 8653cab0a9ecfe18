/- streams: put: a piece of a stream, refused or taken. -/
import Derived.Test.YtijndpjdmiljkaaGreatDoorSf
namespace Go.Proofs.YtijndpjdmiljkaaGreatDoor
open Go.RowKit Go.Maps
set_option linter.unusedVariables false

/-- A frame in its box, the table, and a stream. -/
structure Px (srv : Bool) (x y : Lm) (k : Bks) (st : Tst) (k_ id o : Int) (la : Option Addr) (N cap : Nat) (fin : Bool) (w : World) (B S : Nat) (cs : Array Value) (ib mb n : Nat) (V : Nat → Option UInt8) (p R hd rm lm rc : Int) (kn : Bool) (X : World) : Prop where
  bx : Bx srv x y k st k_ id o (.slice la N cap) fin w B X
  s : St X S cs ib mb n V p R hd rm lm rc kn
section
variable {srv : Bool} {x y : Lm} {k : Bks} {st : Tst} {k_ id o : Int} {la : Option Addr} {N cap : Nat} {fin : Bool} {w : World} {B S : Nat} {cs : Array Value} {ib mb n : Nat} {V : Nat → Option UInt8} {p R hd rm lm rc : Int} {kn : Bool} {X : World}
theorem Px.go (h : Px srv x y k st k_ id o la N cap fin w B S cs ib mb n V p R hd rm lm rc kn X) {Z : World} (hb : Below X.heap.size X Z) : Px srv x y k st k_ id o la N cap fin w B S cs ib mb n V p R hd rm lm rc kn Z := ⟨h.bx.go hb, h.s.go hb⟩
theorem Tb.c16 (h : Tb srv x y k st w) : w.cell? ⟨k.T, 16, none⟩ = some (.pointer (some ⟨k.t, 0, none⟩)) := h.tab.cell 16
end
set_option maxRecDepth 10000 in
set_option maxHeartbeats 2000000 in
theorem put_above {srv : Bool} {x y : Lm} {k : Bks} {st : Tst} {w : World} (h : Tb srv x y k st w) {S : Nat} {cs : Array Value} {ib mb n : Nat} {V : Nat → Option UInt8} {p R hd rm lm : Int} {rc : Nat} (hs : St w S cs ib mb n V p R hd rm lm (rc : Int) false) (i1 : cs[1]? = some (.bool false)) (i2 : cs[2]? = some (.bool false))
    (k_ id : Int) (o N cap : Nat) (la : Option Addr) (fin : Bool) (ho : o + N ≤ 4611686018427387903) (hr : rc ≤ 4611686018427387903) (hl : -9223372036854775808 ≤ st.t.l - st.t.c ∧ st.t.l - st.t.c ≤ 9223372036854775807) (ha : st.t.l - st.t.c < (o : Int) + N - rc)  :
    Calls Tryz.prog 179 #[.pointer (some ⟨k.T, 0, none⟩), .pointer (some ⟨S, 0, none⟩), .agg (fr6 k_ id o (.slice la N cap) fin).toArray] w fun e w' => ∃ v, e = .returned v ∧ Cl w' v 3 k_ 30 ∧ Below w.heap.size w w' := by
  have HX0 : Hid (Px srv x y k st k_ id (o : Int) la N cap fin w w.heap.size S cs ib mb n V p R hd rm lm (rc : Int) false (w.alloc (.cells (fr6 k_ id o (.slice la N cap) fin).toArray 66))) := ⟨Bx.new h k_ id o (.slice la N cap) fin, hs.go (bel1 _ _)⟩
  have HR : Hid (∀ X, St X S cs ib mb n V p R hd rm lm (rc : Int) false → _) := fun X (hX : St X S cs ib mb n V p R hd rm lm (rc : Int) false) => reach_c hX.io
  have HBO : Hid (∀ X, St X S cs ib mb n V p R hd rm lm (rc : Int) false → _) := fun X (hX : St X S cs ib mb n V p R hd rm lm (rc : Int) false) => bounded_c hX
  have HAB : Hid (∀ X n, Tb srv x y k st X → _) := fun X n (hX : Tb srv x y k st X) => above_c hX n hl
  have e0 : IntKind.i64.wrap (4611686018427387903 - (N : Int)) = 4611686018427387903 - (N : Int) := wrp _ (by omega) (by omega)
  have e1 : (if 4611686018427387903 - (N : Int) < (o : Int) then 4611686018427387903 - (N : Int) else (o : Int)) = (o : Int) := by rw [if_neg (by omega)]
  have e2 : IntKind.i64.wrap ((o : Int) + (N : Int)) = (o : Int) + (N : Int) := wrp _ (by omega) (by omega)
  have e3 : IntKind.i64.wrap ((o : Int) + (N : Int) - (rc : Int)) = (o : Int) + (N : Int) - (rc : Int) := wrp _ (by omega) (by omega)
  have o0 : ¬ ((o : Int) < 0) := by omega
  have q3 : decide (st.t.l - st.t.c < (o : Int) + (N : Int) - (rc : Int)) = true := decide_eq_true ha
  clear h hs hl 
  go_enter Tryz.func179, Tryz.ntmps179
  go_upto_region 1 with fail
  generalize w.alloc (.cells (fr6 k_ id o (.slice la N cap) fin).toArray 66) = X at *
  obtain ⟨B, hB⟩ : ∃ B, w.heap.size = B := ⟨_, rfl⟩
  rw [hB] at HX0
  rw [hB]
  clear hB
  have c2 := HX0.out.bx.c2
  have c3 := HX0.out.bx.c3
  go_upto_region 4 with fail
  clear c2 c3
  have HXD : Hid _ := HX0.out.go (bel_drew X)
  refine wp_region_held_drew (S := fun X => Px srv x y k st k_ id (o : Int) la N cap fin w B S cs ib mb n V p R hd rm lm (rc : Int) false X) (by kernel_rfl) HXD.out (fun hHeld => ?_)
  generalize X.drew = Y at *
  clear HX0
  refine wpAnyH_take (i := 0) (v := .int .i64 (o : Int)) rfl (by kernel_rfl) (by kernel_rfl) (by kernel_rfl) (fun _ _ _ h => h) (Or.inl ⟨by rfl, by intro w hs; go_simp⟩) hHeld ?_
  refine norm_any' (fun K hK => ?_); go_simp; refine hK _ _ ?_; clear hK K
  refine wpAnyH_take (i := 1) (v := .pointer (some ⟨B, 3, none⟩)) rfl (by kernel_rfl) (by kernel_rfl) (by kernel_rfl) (fun _ _ _ h => h) (Or.inl ⟨by rfl, by intro w hs; go_simp⟩) hHeld ?_
  refine norm_any' (fun K hK => ?_); go_simp; refine hK _ _ ?_; clear hK K
  refine wpAnyH_take (i := 2) (v := .slice la N cap) rfl (by kernel_rfl) (by kernel_rfl) (by kernel_rfl) (fun _ _ _ h => h) (Or.inl ⟨by rfl, by intro w_ hs; have := hs.bx.c3; go_simp⟩) hHeld ?_
  refine norm_any' (fun K hK => ?_); go_simp; refine hK _ _ ?_; clear hK K
  refine wpAnyH_take (i := 3) (v := .int .i64 (N : Int)) rfl (by kernel_rfl) (by kernel_rfl) (by kernel_rfl) (fun _ _ _ h => h) (Or.inl ⟨by rfl, by intro w hs; go_simp⟩) hHeld ?_
  refine norm_any' (fun K hK => ?_); go_simp; refine hK _ _ ?_; clear hK K
  refine wpAnyH_take (i := 4) (v := .int .i64 ((o : Int) + (N : Int))) rfl (by kernel_rfl) (by kernel_rfl) (by kernel_rfl) (fun _ _ _ h => h) (Or.inl ⟨by rfl, by intro w_ hs; go_simp⟩) hHeld ?_
  refine norm_any' (fun K hK => ?_); go_simp; refine hK _ _ ?_; clear hK K
  refine wpAnyH_take (i := 5) (v := .pointer (some ⟨S, 0, none⟩)) rfl (by kernel_rfl) (by kernel_rfl) (by kernel_rfl) (fun _ _ _ h => h) (Or.inl ⟨by rfl, by intro w hs; go_simp⟩) hHeld ?_
  refine norm_any' (fun K hK => ?_); go_simp; refine hK _ _ ?_; clear hK K
  refine wpAnyH_take (i := 6) (v := .pointer (some ⟨S, 0, none⟩)) rfl (by kernel_rfl) (by kernel_rfl) (by kernel_rfl) (fun _ _ _ h => h) (Or.inl ⟨by rfl, by intro w hs; go_simp⟩) hHeld ?_
  refine norm_any' (fun K hK => ?_); go_simp; refine hK _ _ ?_; clear hK K
  refine wpAnyH_take (i := 7) (v := .pointer (some ⟨S, 11, none⟩)) rfl (by kernel_rfl) (by kernel_rfl) (by kernel_rfl) (fun _ _ _ h => h) (Or.inl ⟨by rfl, by intro w hs; go_simp⟩) hHeld ?_
  refine norm_any' (fun K hK => ?_); go_simp; refine hK _ _ ?_; clear hK K
  refine wpAnyH_take (i := 8) (v := .pointer (some ⟨ib, 0, none⟩)) rfl (by kernel_rfl) (by kernel_rfl) (by kernel_rfl) (fun _ _ _ h => h) (Or.inl ⟨by rfl, by intro w_ hs; have := hs.s.c11; go_simp⟩) hHeld ?_
  refine norm_any' (fun K hK => ?_); go_simp; refine hK _ _ ?_; clear hK K
  refine wpAnyH_ready (rs := [9]) (by kernel_rfl) (by simp) (AllReadyH.cons rfl (fun K hK => ?_) AllReadyH.nil)
  go_simp
  refine Calls.mono (HR.out _ HXD.out.s) ?_
  rintro e Y' ⟨rfl, hw⟩
  subst Y'
  refine hK.out _ _ HXD.out (fun hHeld => ?_)
  clear hK K
  refine norm_any' (fun K hK => ?_); go_simp; refine hK _ _ ?_; clear hK K
  refine wpAnyH_take (i := 10) (v := .int .i64 ((o : Int) + (N : Int))) rfl (by kernel_rfl) (by kernel_rfl) (by kernel_rfl) (fun _ _ _ h => h) (Or.inl ⟨by rfl, by intro w hs; go_simp⟩) hHeld ?_
  refine norm_any' (fun K hK => ?_); go_simp; refine hK _ _ ?_; clear hK K
  refine wpAnyH_take (i := 11) (v := .int .i64 (rc : Int)) rfl (by kernel_rfl) (by kernel_rfl) (by kernel_rfl) (fun _ _ _ h => h) (Or.inl ⟨by rfl, by intro w hs; go_simp⟩) hHeld ?_
  refine norm_any' (fun K hK => ?_); go_simp; refine hK _ _ ?_; clear hK K
  refine wpAnyH_done (by kernel_rfl) ?_ _
  go_wp2_with fail
  refine Calls.mono (HBO.out _ HXD.out.s) ?_
  rintro e w' ⟨rfl, hw⟩
  subst w'
  go_wp2_with fail
  refine Calls.mono (HAB.out _ _ HXD.out.bx.tb) ?_
  rintro e X1 ⟨rfl, hb1⟩
  have HX1 : Hid _ := HXD.out.go hb1
  clear hb1 HXD
  rw [q3]
  have c0 := HX1.out.bx.c0
  go_wp2_with fail
  refine Calls.mono (closed_c 3 _ 30 _) ?_
  rintro e w' ⟨v, rfl, hcl, hbl⟩
  have HB : Hid _ := bel_trans HX1.out.bx.bel hbl
  have HC : Hid _ := hcl
  clear hcl hbl
  go_wp2
  go_ret
  exact ⟨v, rfl, HC.out, HB.out⟩
set_option maxRecDepth 10000 in
set_option maxHeartbeats 2000000 in
theorem put_flow_ {srv : Bool} {x y : Lm} {k : Bks} {st : Tst} {w : World} (h : Tb srv x y k st w) {S : Nat} {cs : Array Value} {ib mb n : Nat} {V : Nat → Option UInt8} {p R hd rm lm : Int} {rc : Nat} (hs : St w S cs ib mb n V p R hd rm lm (rc : Int) false) (i1 : cs[1]? = some (.bool false)) (i2 : cs[2]? = some (.bool false))
    (k_ id : Int) (o N cap : Nat) (la : Option Addr) (fin : Bool) (ho : o + N ≤ 4611686018427387903) (hr : rc ≤ 4611686018427387903) (hl : -9223372036854775808 ≤ st.t.l - st.t.c ∧ st.t.l - st.t.c ≤ 9223372036854775807) (ha : ¬ (st.t.l - st.t.c < (o : Int) + N - rc)) (hput : ∀ X, Below w.heap.size w X → St X S cs ib mb n V p R hd rm lm (rc : Int) false → Calls Tryz.prog 151 #[.pointer (some ⟨ib, 0, none⟩), .int .i64 (o : Int), .slice la N cap, .bool fin] X fun e w' => e = .returned (.int .i64 30) ∧ w' = X) :
    Calls Tryz.prog 179 #[.pointer (some ⟨k.T, 0, none⟩), .pointer (some ⟨S, 0, none⟩), .agg (fr6 k_ id o (.slice la N cap) fin).toArray] w fun e w' => ∃ v, e = .returned v ∧ Cl w' v 3 k_ 30 ∧ Below w.heap.size w w' := by
  have HX0 : Hid (Px srv x y k st k_ id (o : Int) la N cap fin w w.heap.size S cs ib mb n V p R hd rm lm (rc : Int) false (w.alloc (.cells (fr6 k_ id o (.slice la N cap) fin).toArray 66))) := ⟨Bx.new h k_ id o (.slice la N cap) fin, hs.go (bel1 _ _)⟩
  have HR : Hid (∀ X, St X S cs ib mb n V p R hd rm lm (rc : Int) false → _) := fun X (hX : St X S cs ib mb n V p R hd rm lm (rc : Int) false) => reach_c hX.io
  have HBO : Hid (∀ X, St X S cs ib mb n V p R hd rm lm (rc : Int) false → _) := fun X (hX : St X S cs ib mb n V p R hd rm lm (rc : Int) false) => bounded_c hX
  have HAB : Hid (∀ X n, Tb srv x y k st X → _) := fun X n (hX : Tb srv x y k st X) => above_c hX n hl
  have e0 : IntKind.i64.wrap (4611686018427387903 - (N : Int)) = 4611686018427387903 - (N : Int) := wrp _ (by omega) (by omega)
  have e1 : (if 4611686018427387903 - (N : Int) < (o : Int) then 4611686018427387903 - (N : Int) else (o : Int)) = (o : Int) := by rw [if_neg (by omega)]
  have e2 : IntKind.i64.wrap ((o : Int) + (N : Int)) = (o : Int) + (N : Int) := wrp _ (by omega) (by omega)
  have e3 : IntKind.i64.wrap ((o : Int) + (N : Int) - (rc : Int)) = (o : Int) + (N : Int) - (rc : Int) := wrp _ (by omega) (by omega)
  have o0 : ¬ ((o : Int) < 0) := by omega
  have HPUT : Hid _ := hput
  have q3 : decide (st.t.l - st.t.c < (o : Int) + (N : Int) - (rc : Int)) = false := decide_eq_false ha
  clear h hs hl hput
  go_enter Tryz.func179, Tryz.ntmps179
  go_upto_region 1 with fail
  generalize w.alloc (.cells (fr6 k_ id o (.slice la N cap) fin).toArray 66) = X at *
  obtain ⟨B, hB⟩ : ∃ B, w.heap.size = B := ⟨_, rfl⟩
  rw [hB] at HX0
  rw [hB]
  clear hB
  have c2 := HX0.out.bx.c2
  have c3 := HX0.out.bx.c3
  go_upto_region 4 with fail
  clear c2 c3
  have HXD : Hid _ := HX0.out.go (bel_drew X)
  refine wp_region_held_drew (S := fun X => Px srv x y k st k_ id (o : Int) la N cap fin w B S cs ib mb n V p R hd rm lm (rc : Int) false X) (by kernel_rfl) HXD.out (fun hHeld => ?_)
  generalize X.drew = Y at *
  clear HX0
  refine wpAnyH_take (i := 0) (v := .int .i64 (o : Int)) rfl (by kernel_rfl) (by kernel_rfl) (by kernel_rfl) (fun _ _ _ h => h) (Or.inl ⟨by rfl, by intro w hs; go_simp⟩) hHeld ?_
  refine norm_any' (fun K hK => ?_); go_simp; refine hK _ _ ?_; clear hK K
  refine wpAnyH_take (i := 1) (v := .pointer (some ⟨B, 3, none⟩)) rfl (by kernel_rfl) (by kernel_rfl) (by kernel_rfl) (fun _ _ _ h => h) (Or.inl ⟨by rfl, by intro w hs; go_simp⟩) hHeld ?_
  refine norm_any' (fun K hK => ?_); go_simp; refine hK _ _ ?_; clear hK K
  refine wpAnyH_take (i := 2) (v := .slice la N cap) rfl (by kernel_rfl) (by kernel_rfl) (by kernel_rfl) (fun _ _ _ h => h) (Or.inl ⟨by rfl, by intro w_ hs; have := hs.bx.c3; go_simp⟩) hHeld ?_
  refine norm_any' (fun K hK => ?_); go_simp; refine hK _ _ ?_; clear hK K
  refine wpAnyH_take (i := 3) (v := .int .i64 (N : Int)) rfl (by kernel_rfl) (by kernel_rfl) (by kernel_rfl) (fun _ _ _ h => h) (Or.inl ⟨by rfl, by intro w hs; go_simp⟩) hHeld ?_
  refine norm_any' (fun K hK => ?_); go_simp; refine hK _ _ ?_; clear hK K
  refine wpAnyH_take (i := 4) (v := .int .i64 ((o : Int) + (N : Int))) rfl (by kernel_rfl) (by kernel_rfl) (by kernel_rfl) (fun _ _ _ h => h) (Or.inl ⟨by rfl, by intro w_ hs; go_simp⟩) hHeld ?_
  refine norm_any' (fun K hK => ?_); go_simp; refine hK _ _ ?_; clear hK K
  refine wpAnyH_take (i := 5) (v := .pointer (some ⟨S, 0, none⟩)) rfl (by kernel_rfl) (by kernel_rfl) (by kernel_rfl) (fun _ _ _ h => h) (Or.inl ⟨by rfl, by intro w hs; go_simp⟩) hHeld ?_
  refine norm_any' (fun K hK => ?_); go_simp; refine hK _ _ ?_; clear hK K
  refine wpAnyH_take (i := 6) (v := .pointer (some ⟨S, 0, none⟩)) rfl (by kernel_rfl) (by kernel_rfl) (by kernel_rfl) (fun _ _ _ h => h) (Or.inl ⟨by rfl, by intro w hs; go_simp⟩) hHeld ?_
  refine norm_any' (fun K hK => ?_); go_simp; refine hK _ _ ?_; clear hK K
  refine wpAnyH_take (i := 7) (v := .pointer (some ⟨S, 11, none⟩)) rfl (by kernel_rfl) (by kernel_rfl) (by kernel_rfl) (fun _ _ _ h => h) (Or.inl ⟨by rfl, by intro w hs; go_simp⟩) hHeld ?_
  refine norm_any' (fun K hK => ?_); go_simp; refine hK _ _ ?_; clear hK K
  refine wpAnyH_take (i := 8) (v := .pointer (some ⟨ib, 0, none⟩)) rfl (by kernel_rfl) (by kernel_rfl) (by kernel_rfl) (fun _ _ _ h => h) (Or.inl ⟨by rfl, by intro w_ hs; have := hs.s.c11; go_simp⟩) hHeld ?_
  refine norm_any' (fun K hK => ?_); go_simp; refine hK _ _ ?_; clear hK K
  refine wpAnyH_ready (rs := [9]) (by kernel_rfl) (by simp) (AllReadyH.cons rfl (fun K hK => ?_) AllReadyH.nil)
  go_simp
  refine Calls.mono (HR.out _ HXD.out.s) ?_
  rintro e Y' ⟨rfl, hw⟩
  subst Y'
  refine hK.out _ _ HXD.out (fun hHeld => ?_)
  clear hK K
  refine norm_any' (fun K hK => ?_); go_simp; refine hK _ _ ?_; clear hK K
  refine wpAnyH_take (i := 10) (v := .int .i64 ((o : Int) + (N : Int))) rfl (by kernel_rfl) (by kernel_rfl) (by kernel_rfl) (fun _ _ _ h => h) (Or.inl ⟨by rfl, by intro w hs; go_simp⟩) hHeld ?_
  refine norm_any' (fun K hK => ?_); go_simp; refine hK _ _ ?_; clear hK K
  refine wpAnyH_take (i := 11) (v := .int .i64 (rc : Int)) rfl (by kernel_rfl) (by kernel_rfl) (by kernel_rfl) (fun _ _ _ h => h) (Or.inl ⟨by rfl, by intro w hs; go_simp⟩) hHeld ?_
  refine norm_any' (fun K hK => ?_); go_simp; refine hK _ _ ?_; clear hK K
  refine wpAnyH_done (by kernel_rfl) ?_ _
  go_wp2_with fail
  refine Calls.mono (HBO.out _ HXD.out.s) ?_
  rintro e w' ⟨rfl, hw⟩
  subst w'
  go_wp2_with fail
  refine Calls.mono (HAB.out _ _ HXD.out.bx.tb) ?_
  rintro e X1 ⟨rfl, hb1⟩
  have HX1 : Hid _ := HXD.out.go hb1
  clear hb1 HXD
  rw [q3]
  have s1 : X1.cell? ⟨S, 1, none⟩ = some (Value.bool false) := (HX1.out.s.sc.cell 1).trans i1
  have s2 : X1.cell? ⟨S, 2, none⟩ = some (Value.bool false) := (HX1.out.s.sc.cell 2).trans i2
  go_upto_region 9 with fail
  clear s1 s2
  have HX2 : Hid _ := HX1.out.go (bel_drew X1)
  clear HX1
  refine wp_region_held_drew (S := fun X => Px srv x y k st k_ id (o : Int) la N cap fin w B S cs ib mb n V p R hd rm lm (rc : Int) false X) (by kernel_rfl) HX2.out (fun hHeld => ?_)
  generalize X1.drew = Y2 at *
  refine wpAnyH_take (i := 0) (v := .pointer (some ⟨S, 0, none⟩)) rfl (by kernel_rfl) (by kernel_rfl) (by kernel_rfl) (fun _ _ _ h => h) (Or.inl ⟨by rfl, by intro w hs; go_simp⟩) hHeld ?_
  refine norm_any' (fun K hK => ?_); go_simp; refine hK _ _ ?_; clear hK K
  refine wpAnyH_take (i := 1) (v := .pointer (some ⟨S, 0, none⟩)) rfl (by kernel_rfl) (by kernel_rfl) (by kernel_rfl) (fun _ _ _ h => h) (Or.inl ⟨by rfl, by intro w hs; go_simp⟩) hHeld ?_
  refine norm_any' (fun K hK => ?_); go_simp; refine hK _ _ ?_; clear hK K
  refine wpAnyH_take (i := 2) (v := .pointer (some ⟨S, 11, none⟩)) rfl (by kernel_rfl) (by kernel_rfl) (by kernel_rfl) (fun _ _ _ h => h) (Or.inl ⟨by rfl, by intro w hs; go_simp⟩) hHeld ?_
  refine norm_any' (fun K hK => ?_); go_simp; refine hK _ _ ?_; clear hK K
  refine wpAnyH_take (i := 3) (v := .pointer (some ⟨ib, 0, none⟩)) rfl (by kernel_rfl) (by kernel_rfl) (by kernel_rfl) (fun _ _ _ h => h) (Or.inl ⟨by rfl, by intro w_ hs; have := hs.s.c11; go_simp⟩) hHeld ?_
  refine norm_any' (fun K hK => ?_); go_simp; refine hK _ _ ?_; clear hK K
  refine wpAnyH_take (i := 4) (v := .int .i64 (o : Int)) rfl (by kernel_rfl) (by kernel_rfl) (by kernel_rfl) (fun _ _ _ h => h) (Or.inl ⟨by rfl, by intro w hs; go_simp⟩) hHeld ?_
  refine norm_any' (fun K hK => ?_); go_simp; refine hK _ _ ?_; clear hK K
  refine wpAnyH_take (i := 5) (v := .pointer (some ⟨B, 3, none⟩)) rfl (by kernel_rfl) (by kernel_rfl) (by kernel_rfl) (fun _ _ _ h => h) (Or.inl ⟨by rfl, by intro w hs; go_simp⟩) hHeld ?_
  refine norm_any' (fun K hK => ?_); go_simp; refine hK _ _ ?_; clear hK K
  refine wpAnyH_take (i := 6) (v := .slice la N cap) rfl (by kernel_rfl) (by kernel_rfl) (by kernel_rfl) (fun _ _ _ h => h) (Or.inl ⟨by rfl, by intro w_ hs; have := hs.bx.c3; go_simp⟩) hHeld ?_
  refine norm_any' (fun K hK => ?_); go_simp; refine hK _ _ ?_; clear hK K
  refine wpAnyH_take (i := 7) (v := .pointer (some ⟨B, 4, none⟩)) rfl (by kernel_rfl) (by kernel_rfl) (by kernel_rfl) (fun _ _ _ h => h) (Or.inl ⟨by rfl, by intro w hs; go_simp⟩) hHeld ?_
  refine norm_any' (fun K hK => ?_); go_simp; refine hK _ _ ?_; clear hK K
  refine wpAnyH_take (i := 8) (v := .bool fin) rfl (by kernel_rfl) (by kernel_rfl) (by kernel_rfl) (fun _ _ _ h => h) (Or.inl ⟨by rfl, by intro w_ hs; have := hs.bx.c4; go_simp⟩) hHeld ?_
  refine norm_any' (fun K hK => ?_); go_simp; refine hK _ _ ?_; clear hK K
  refine wpAnyH_ready (rs := [9]) (by kernel_rfl) (by simp) (AllReadyH.cons rfl (fun K hK => ?_) AllReadyH.nil)
  go_simp
  refine Calls.mono (HPUT.out _ HX2.out.bx.bel HX2.out.s) ?_
  rintro e Y' ⟨rfl, hw⟩
  subst Y'
  refine hK.out _ _ HX2.out (fun hHeld => ?_)
  clear hK K
  refine norm_any' (fun K hK => ?_); go_simp; refine hK _ _ ?_; clear hK K
  refine wpAnyH_take (i := 10) (v := .int .i64 30) rfl (by kernel_rfl) (by kernel_rfl) (by kernel_rfl) (fun _ _ _ h => h) (Or.inl ⟨by rfl, by intro w hs; go_simp⟩) hHeld ?_
  refine norm_any' (fun K hK => ?_); go_simp; refine hK _ _ ?_; clear hK K
  refine wpAnyH_done (by kernel_rfl) ?_ _
  have c0 := HX2.out.bx.c0
  go_wp2_with fail
  refine Calls.mono (closed_c 3 _ _ _) ?_
  rintro e w' ⟨v, rfl, hcl, hbl⟩
  have HB : Hid _ := bel_trans HX2.out.bx.bel hbl
  have HC : Hid _ := hcl
  clear hcl hbl
  go_wp2
  go_ret
  exact ⟨v, rfl, HC.out, HB.out⟩
set_option maxRecDepth 10000 in
set_option maxHeartbeats 2000000 in
theorem put_final_ {srv : Bool} {x y : Lm} {k : Bks} {st : Tst} {w : World} (h : Tb srv x y k st w) {S : Nat} {cs : Array Value} {ib mb n : Nat} {V : Nat → Option UInt8} {p R hd rm lm : Int} {rc : Nat} (hs : St w S cs ib mb n V p R hd rm lm (rc : Int) true) (i1 : cs[1]? = some (.bool false)) (i2 : cs[2]? = some (.bool false))
    (k_ id : Int) (o N cap : Nat) (la : Option Addr) (fin : Bool) (ho : o + N ≤ 4611686018427387903) (hr : rc ≤ 4611686018427387903) (hl : -9223372036854775808 ≤ st.t.l - st.t.c ∧ st.t.l - st.t.c ≤ 9223372036854775807)  (hput : ∀ X, Below w.heap.size w X → St X S cs ib mb n V p R hd rm lm (rc : Int) true → Calls Tryz.prog 151 #[.pointer (some ⟨ib, 0, none⟩), .int .i64 (o : Int), .slice la N cap, .bool fin] X fun e w' => e = .returned (.int .i64 33) ∧ w' = X) :
    Calls Tryz.prog 179 #[.pointer (some ⟨k.T, 0, none⟩), .pointer (some ⟨S, 0, none⟩), .agg (fr6 k_ id o (.slice la N cap) fin).toArray] w fun e w' => ∃ v, e = .returned v ∧ Cl w' v 6 k_ 33 ∧ Below w.heap.size w w' := by
  have HX0 : Hid (Px srv x y k st k_ id (o : Int) la N cap fin w w.heap.size S cs ib mb n V p R hd rm lm (rc : Int) true (w.alloc (.cells (fr6 k_ id o (.slice la N cap) fin).toArray 66))) := ⟨Bx.new h k_ id o (.slice la N cap) fin, hs.go (bel1 _ _)⟩
  have HR : Hid (∀ X, St X S cs ib mb n V p R hd rm lm (rc : Int) true → _) := fun X (hX : St X S cs ib mb n V p R hd rm lm (rc : Int) true) => reach_c hX.io
  have HBO : Hid (∀ X, St X S cs ib mb n V p R hd rm lm (rc : Int) true → _) := fun X (hX : St X S cs ib mb n V p R hd rm lm (rc : Int) true) => bounded_c hX
  have HAB : Hid (∀ X n, Tb srv x y k st X → _) := fun X n (hX : Tb srv x y k st X) => above_c hX n hl
  have e0 : IntKind.i64.wrap (4611686018427387903 - (N : Int)) = 4611686018427387903 - (N : Int) := wrp _ (by omega) (by omega)
  have e1 : (if 4611686018427387903 - (N : Int) < (o : Int) then 4611686018427387903 - (N : Int) else (o : Int)) = (o : Int) := by rw [if_neg (by omega)]
  have e2 : IntKind.i64.wrap ((o : Int) + (N : Int)) = (o : Int) + (N : Int) := wrp _ (by omega) (by omega)
  have e3 : IntKind.i64.wrap ((o : Int) + (N : Int) - (rc : Int)) = (o : Int) + (N : Int) - (rc : Int) := wrp _ (by omega) (by omega)
  have o0 : ¬ ((o : Int) < 0) := by omega
  have HPUT : Hid _ := hput
  clear h hs hl hput
  go_enter Tryz.func179, Tryz.ntmps179
  go_upto_region 1 with fail
  generalize w.alloc (.cells (fr6 k_ id o (.slice la N cap) fin).toArray 66) = X at *
  obtain ⟨B, hB⟩ : ∃ B, w.heap.size = B := ⟨_, rfl⟩
  rw [hB] at HX0
  rw [hB]
  clear hB
  have c2 := HX0.out.bx.c2
  have c3 := HX0.out.bx.c3
  go_upto_region 4 with fail
  clear c2 c3
  have HXD : Hid _ := HX0.out.go (bel_drew X)
  refine wp_region_held_drew (S := fun X => Px srv x y k st k_ id (o : Int) la N cap fin w B S cs ib mb n V p R hd rm lm (rc : Int) true X) (by kernel_rfl) HXD.out (fun hHeld => ?_)
  generalize X.drew = Y at *
  clear HX0
  refine wpAnyH_take (i := 0) (v := .int .i64 (o : Int)) rfl (by kernel_rfl) (by kernel_rfl) (by kernel_rfl) (fun _ _ _ h => h) (Or.inl ⟨by rfl, by intro w hs; go_simp⟩) hHeld ?_
  refine norm_any' (fun K hK => ?_); go_simp; refine hK _ _ ?_; clear hK K
  refine wpAnyH_take (i := 1) (v := .pointer (some ⟨B, 3, none⟩)) rfl (by kernel_rfl) (by kernel_rfl) (by kernel_rfl) (fun _ _ _ h => h) (Or.inl ⟨by rfl, by intro w hs; go_simp⟩) hHeld ?_
  refine norm_any' (fun K hK => ?_); go_simp; refine hK _ _ ?_; clear hK K
  refine wpAnyH_take (i := 2) (v := .slice la N cap) rfl (by kernel_rfl) (by kernel_rfl) (by kernel_rfl) (fun _ _ _ h => h) (Or.inl ⟨by rfl, by intro w_ hs; have := hs.bx.c3; go_simp⟩) hHeld ?_
  refine norm_any' (fun K hK => ?_); go_simp; refine hK _ _ ?_; clear hK K
  refine wpAnyH_take (i := 3) (v := .int .i64 (N : Int)) rfl (by kernel_rfl) (by kernel_rfl) (by kernel_rfl) (fun _ _ _ h => h) (Or.inl ⟨by rfl, by intro w hs; go_simp⟩) hHeld ?_
  refine norm_any' (fun K hK => ?_); go_simp; refine hK _ _ ?_; clear hK K
  refine wpAnyH_take (i := 4) (v := .int .i64 ((o : Int) + (N : Int))) rfl (by kernel_rfl) (by kernel_rfl) (by kernel_rfl) (fun _ _ _ h => h) (Or.inl ⟨by rfl, by intro w_ hs; go_simp⟩) hHeld ?_
  refine norm_any' (fun K hK => ?_); go_simp; refine hK _ _ ?_; clear hK K
  refine wpAnyH_take (i := 5) (v := .pointer (some ⟨S, 0, none⟩)) rfl (by kernel_rfl) (by kernel_rfl) (by kernel_rfl) (fun _ _ _ h => h) (Or.inl ⟨by rfl, by intro w hs; go_simp⟩) hHeld ?_
  refine norm_any' (fun K hK => ?_); go_simp; refine hK _ _ ?_; clear hK K
  refine wpAnyH_take (i := 6) (v := .pointer (some ⟨S, 0, none⟩)) rfl (by kernel_rfl) (by kernel_rfl) (by kernel_rfl) (fun _ _ _ h => h) (Or.inl ⟨by rfl, by intro w hs; go_simp⟩) hHeld ?_
  refine norm_any' (fun K hK => ?_); go_simp; refine hK _ _ ?_; clear hK K
  refine wpAnyH_take (i := 7) (v := .pointer (some ⟨S, 11, none⟩)) rfl (by kernel_rfl) (by kernel_rfl) (by kernel_rfl) (fun _ _ _ h => h) (Or.inl ⟨by rfl, by intro w hs; go_simp⟩) hHeld ?_
  refine norm_any' (fun K hK => ?_); go_simp; refine hK _ _ ?_; clear hK K
  refine wpAnyH_take (i := 8) (v := .pointer (some ⟨ib, 0, none⟩)) rfl (by kernel_rfl) (by kernel_rfl) (by kernel_rfl) (fun _ _ _ h => h) (Or.inl ⟨by rfl, by intro w_ hs; have := hs.s.c11; go_simp⟩) hHeld ?_
  refine norm_any' (fun K hK => ?_); go_simp; refine hK _ _ ?_; clear hK K
  refine wpAnyH_ready (rs := [9]) (by kernel_rfl) (by simp) (AllReadyH.cons rfl (fun K hK => ?_) AllReadyH.nil)
  go_simp
  refine Calls.mono (HR.out _ HXD.out.s) ?_
  rintro e Y' ⟨rfl, hw⟩
  subst Y'
  refine hK.out _ _ HXD.out (fun hHeld => ?_)
  clear hK K
  refine norm_any' (fun K hK => ?_); go_simp; refine hK _ _ ?_; clear hK K
  refine wpAnyH_take (i := 10) (v := .int .i64 ((o : Int) + (N : Int))) rfl (by kernel_rfl) (by kernel_rfl) (by kernel_rfl) (fun _ _ _ h => h) (Or.inl ⟨by rfl, by intro w hs; go_simp⟩) hHeld ?_
  refine norm_any' (fun K hK => ?_); go_simp; refine hK _ _ ?_; clear hK K
  refine wpAnyH_take (i := 11) (v := .int .i64 (rc : Int)) rfl (by kernel_rfl) (by kernel_rfl) (by kernel_rfl) (fun _ _ _ h => h) (Or.inl ⟨by rfl, by intro w hs; go_simp⟩) hHeld ?_
  refine norm_any' (fun K hK => ?_); go_simp; refine hK _ _ ?_; clear hK K
  refine wpAnyH_done (by kernel_rfl) ?_ _
  go_wp2_with fail
  refine Calls.mono (HBO.out _ HXD.out.s) ?_
  rintro e w' ⟨rfl, hw⟩
  subst w'
  have s1 : Y.cell? ⟨S, 1, none⟩ = some (Value.bool false) := (HXD.out.s.sc.cell 1).trans i1
  have s2 : Y.cell? ⟨S, 2, none⟩ = some (Value.bool false) := (HXD.out.s.sc.cell 2).trans i2
  go_upto_region 9 with fail
  clear s1 s2
  have HX2 : Hid _ := HXD.out.go (bel_drew Y)
  clear HXD
  refine wp_region_held_drew (S := fun X => Px srv x y k st k_ id (o : Int) la N cap fin w B S cs ib mb n V p R hd rm lm (rc : Int) true X) (by kernel_rfl) HX2.out (fun hHeld => ?_)
  generalize Y.drew = Y2 at *
  refine wpAnyH_take (i := 0) (v := .pointer (some ⟨S, 0, none⟩)) rfl (by kernel_rfl) (by kernel_rfl) (by kernel_rfl) (fun _ _ _ h => h) (Or.inl ⟨by rfl, by intro w hs; go_simp⟩) hHeld ?_
  refine norm_any' (fun K hK => ?_); go_simp; refine hK _ _ ?_; clear hK K
  refine wpAnyH_take (i := 1) (v := .pointer (some ⟨S, 0, none⟩)) rfl (by kernel_rfl) (by kernel_rfl) (by kernel_rfl) (fun _ _ _ h => h) (Or.inl ⟨by rfl, by intro w hs; go_simp⟩) hHeld ?_
  refine norm_any' (fun K hK => ?_); go_simp; refine hK _ _ ?_; clear hK K
  refine wpAnyH_take (i := 2) (v := .pointer (some ⟨S, 11, none⟩)) rfl (by kernel_rfl) (by kernel_rfl) (by kernel_rfl) (fun _ _ _ h => h) (Or.inl ⟨by rfl, by intro w hs; go_simp⟩) hHeld ?_
  refine norm_any' (fun K hK => ?_); go_simp; refine hK _ _ ?_; clear hK K
  refine wpAnyH_take (i := 3) (v := .pointer (some ⟨ib, 0, none⟩)) rfl (by kernel_rfl) (by kernel_rfl) (by kernel_rfl) (fun _ _ _ h => h) (Or.inl ⟨by rfl, by intro w_ hs; have := hs.s.c11; go_simp⟩) hHeld ?_
  refine norm_any' (fun K hK => ?_); go_simp; refine hK _ _ ?_; clear hK K
  refine wpAnyH_take (i := 4) (v := .int .i64 (o : Int)) rfl (by kernel_rfl) (by kernel_rfl) (by kernel_rfl) (fun _ _ _ h => h) (Or.inl ⟨by rfl, by intro w hs; go_simp⟩) hHeld ?_
  refine norm_any' (fun K hK => ?_); go_simp; refine hK _ _ ?_; clear hK K
  refine wpAnyH_take (i := 5) (v := .pointer (some ⟨B, 3, none⟩)) rfl (by kernel_rfl) (by kernel_rfl) (by kernel_rfl) (fun _ _ _ h => h) (Or.inl ⟨by rfl, by intro w hs; go_simp⟩) hHeld ?_
  refine norm_any' (fun K hK => ?_); go_simp; refine hK _ _ ?_; clear hK K
  refine wpAnyH_take (i := 6) (v := .slice la N cap) rfl (by kernel_rfl) (by kernel_rfl) (by kernel_rfl) (fun _ _ _ h => h) (Or.inl ⟨by rfl, by intro w_ hs; have := hs.bx.c3; go_simp⟩) hHeld ?_
  refine norm_any' (fun K hK => ?_); go_simp; refine hK _ _ ?_; clear hK K
  refine wpAnyH_take (i := 7) (v := .pointer (some ⟨B, 4, none⟩)) rfl (by kernel_rfl) (by kernel_rfl) (by kernel_rfl) (fun _ _ _ h => h) (Or.inl ⟨by rfl, by intro w hs; go_simp⟩) hHeld ?_
  refine norm_any' (fun K hK => ?_); go_simp; refine hK _ _ ?_; clear hK K
  refine wpAnyH_take (i := 8) (v := .bool fin) rfl (by kernel_rfl) (by kernel_rfl) (by kernel_rfl) (fun _ _ _ h => h) (Or.inl ⟨by rfl, by intro w_ hs; have := hs.bx.c4; go_simp⟩) hHeld ?_
  refine norm_any' (fun K hK => ?_); go_simp; refine hK _ _ ?_; clear hK K
  refine wpAnyH_ready (rs := [9]) (by kernel_rfl) (by simp) (AllReadyH.cons rfl (fun K hK => ?_) AllReadyH.nil)
  go_simp
  refine Calls.mono (HPUT.out _ HX2.out.bx.bel HX2.out.s) ?_
  rintro e Y' ⟨rfl, hw⟩
  subst Y'
  refine hK.out _ _ HX2.out (fun hHeld => ?_)
  clear hK K
  refine norm_any' (fun K hK => ?_); go_simp; refine hK _ _ ?_; clear hK K
  refine wpAnyH_take (i := 10) (v := .int .i64 33) rfl (by kernel_rfl) (by kernel_rfl) (by kernel_rfl) (fun _ _ _ h => h) (Or.inl ⟨by rfl, by intro w hs; go_simp⟩) hHeld ?_
  refine norm_any' (fun K hK => ?_); go_simp; refine hK _ _ ?_; clear hK K
  refine wpAnyH_done (by kernel_rfl) ?_ _
  have c0 := HX2.out.bx.c0
  go_wp2_with fail
  refine Calls.mono (closed_c 6 _ _ _) ?_
  rintro e w' ⟨v, rfl, hcl, hbl⟩
  have HB : Hid _ := bel_trans HX2.out.bx.bel hbl
  have HC : Hid _ := hcl
  clear hcl hbl
  go_wp2
  go_ret
  exact ⟨v, rfl, HC.out, HB.out⟩
end Go.Proofs.YtijndpjdmiljkaaGreatDoor
