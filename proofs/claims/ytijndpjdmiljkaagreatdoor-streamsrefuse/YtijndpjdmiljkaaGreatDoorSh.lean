/- streams: put: a piece of a stream that is taken. -/
import Derived.Test.YtijndpjdmiljkaaGreatDoorSg
namespace Go.Proofs.YtijndpjdmiljkaaGreatDoor
open Go.RowKit Go.Maps
set_option linter.unusedVariables false

section
variable {srv : Bool} {x y : Lm} {k : Bks} {st : Tst} {w W Z : World} {ib mb n : Nat} {V : Nat → Option UInt8} {p R hd rm lm rc : Int} {kn : Bool}
theorem Ib.rt (h : Ib W ib mb n V p R hd rm lm rc kn) (hc : Chg (fun j => j = ib ∨ j = mb) W Z) {T b : Nat} {cs : Array Value} (hr : Rt T cs W b) (hT : T ≠ 201) : Rt T cs Z b := by
  have h' : W.heap[b]? = _ := hr
  refine (hc.2.2.2.2 b hr.lt ?_).trans hr
  rintro (rfl | rfl)
  · rw [h.1] at h'
    simp only [Option.some.injEq, Obj.cells.injEq] at h'
    exact hT h'.2.1.symm
  · obtain ⟨_, D, ⟨es, ck, h5, _⟩, _⟩ := h
    rw [h5] at h'
    simp at h'
theorem Tb.chg (h : Tb srv x y k st W) (hi : Ib W ib mb n V p R hd rm lm rc kn) (hc : Chg (fun j => j = ib ∨ j = mb) W Z) : Tb srv x y k st Z :=
  ⟨hi.rt hc h.tab (by decide), hi.rt hc h.hg (by decide), hi.rt hc h.ht (by decide), hi.rt hc h.hg0 (by decide), hi.rt hc h.ht0 (by decide), hi.rt hc h.hg1 (by decide), hi.rt hc h.ht1 (by decide), h.nd⟩
/-- What came in all streams has turned. -/
theorem Tb.setT (h : Tb srv x y k st W) {v : Tv} (hv : Rt 176 v.p Z k.t) (hn : Tn k.t W Z) : Tb srv x y k { st with t := v } Z := by
  have nd := h.nd
  simp only [Bks.l, List.nodup_cons, List.mem_cons, not_or] at nd
  obtain ⟨⟨n1, n2, n3, n4, n5, n6, n7, n8, n9, _⟩, _⟩ := nd
  exact ⟨hn.rt h.tab (fun e => n2 e.symm), hn.rt h.hg (fun e => n1 e.symm), hv, hn.rt h.hg0 (fun e => n6 e.symm), hn.rt h.ht0 (fun e => n7 e.symm), hn.rt h.hg1 (fun e => n8 e.symm), hn.rt h.ht1 (fun e => n9 e.symm), h.nd⟩
theorem tn_chg {b : Nat} (h : Tn b W Z) : Chg (fun j => j = b) W Z := ⟨h.1, h.2.1, h.2.2.1, h.2.2.2.1, fun j hj hx => h.2.2.2.2 j hj hx⟩
theorem bel_chg {X : Nat → Prop} (h : Below W.heap.size W Z) : Chg X W Z := ⟨h.os, h.tape, h.output, h.size, fun j hj _ => h.block j hj⟩
end
/-- A frame in its box, the table, and a stream, behind what has turned. -/
structure Py (srv : Bool) (x y : Lm) (k : Bks) (st : Tst) (k_ id o : Int) (la : Option Addr) (N cap : Nat) (fin : Bool) (w : World) (B S : Nat) (cs : Array Value) (ib mb n : Nat) (V : Nat → Option UInt8) (p R hd rm lm rc : Int) (kn : Bool) (X : World) : Prop where
  bx : Rt 66 (fr6 k_ id o (.slice la N cap) fin).toArray X B
  tb : Tb srv x y k st X
  s : St X S cs ib mb n V p R hd rm lm rc kn
  nn : X.heap[k.nb]? = some (.map #[] 0)
  ch : Chg (fun j => j = ib ∨ j = mb ∨ j = k.t) w X
section
variable {srv : Bool} {x y : Lm} {k : Bks} {st : Tst} {k_ id o : Int} {la : Option Addr} {N cap : Nat} {fin : Bool} {w : World} {B S : Nat} {cs : Array Value} {ib mb n : Nat} {V : Nat → Option UInt8} {p R hd rm lm rc : Int} {kn : Bool} {X : World}
theorem Py.go (h : Py srv x y k st k_ id o la N cap fin w B S cs ib mb n V p R hd rm lm rc kn X) {Z : World} (hb : Below X.heap.size X Z) : Py srv x y k st k_ id o la N cap fin w B S cs ib mb n V p R hd rm lm rc kn Z := ⟨rt_bel h.bx hb, h.tb.go hb, h.s.go hb, heap_bel h.nn hb, h.ch.andThen (bel_chg hb) (fun _ _ e => e)⟩
end
set_option maxRecDepth 10000 in
set_option maxHeartbeats 4000000 in
theorem put_ok_ {srv : Bool} {x y : Lm} {k : Bks} {st : Tst} {w : World} (h : Tb srv x y k st w) (hn : w.heap[k.nb]? = some (.map #[] 0)) {S : Nat} {cs : Array Value} {ib mb n : Nat} {V : Nat → Option UInt8} {p R hd rm lm : Int} {rc : Nat} (hs : St w S cs ib mb n V p R hd rm lm (rc : Int) false) (sid_ : Int) (i0 : cs[0]? = some (.int .i64 sid_)) (i1 : cs[1]? = some (.bool false)) (i2 : cs[2]? = some (.bool false)) (hmb : k.nb ≠ mb)
    (id : Int) (o N cap : Nat) (la : Option Addr) (fin : Bool) (ho : o + N ≤ 4611686018427387903) (hr : rc ≤ 4611686018427387903) (hl : -9223372036854775808 ≤ st.t.l - st.t.c ∧ st.t.l - st.t.c ≤ 9223372036854775807) (ha : ¬ (st.t.l - st.t.c < (o : Int) + N - rc)) (mx : Nat) (hmx : mx = max rc (o + N)) (E' hd' : Int) (V' : Nat → Option UInt8)
    (hput : ∀ X, Below w.heap.size w X → St X S cs ib mb n V p R hd rm lm (rc : Int) false → Calls Tryz.prog 151 #[.pointer (some ⟨ib, 0, none⟩), .int .i64 (o : Int), .slice la N cap, .bool fin] X fun e w' => e = .returned (.int .i64 0) ∧ (∃ nn, Ib w' ib mb nn V' p E' hd' rm lm mx fin) ∧ Chg (fun j => j = ib ∨ j = mb) X w') :
    Calls Tryz.prog 179 #[.pointer (some ⟨k.T, 0, none⟩), .pointer (some ⟨S, 0, none⟩), .agg (fr6 8 id o (.slice la N cap) fin).toArray] w fun e w' => e = .returned .nilIface ∧ Tb srv x y k { st with t := (st.t.tak ((mx : Int) - rc)).2 } w' ∧ (∃ nn, St w' S cs ib mb nn V' p E' hd' rm lm mx fin) ∧ Chg (fun j => j = ib ∨ j = mb ∨ j = k.t) w w' := by
  have HX0 : Hid (Px srv x y k st 8 id (o : Int) la N cap fin w w.heap.size S cs ib mb n V p R hd rm lm (rc : Int) false (w.alloc (.cells (fr6 8 id o (.slice la N cap) fin).toArray 66))) := ⟨Bx.new h 8 id o (.slice la N cap) fin, hs.go (bel1 _ _)⟩
  have HNN : Hid _ := hn
  have HR : Hid (∀ X, St X S cs ib mb n V p R hd rm lm (rc : Int) false → _) := fun X (hX : St X S cs ib mb n V p R hd rm lm (rc : Int) false) => reach_c hX.io
  have HBO : Hid (∀ X, St X S cs ib mb n V p R hd rm lm (rc : Int) false → _) := fun X (hX : St X S cs ib mb n V p R hd rm lm (rc : Int) false) => bounded_c hX
  have HAB : Hid (∀ X n, Tb srv x y k st X → _) := fun X n (hX : Tb srv x y k st X) => above_c hX n hl
  have HTA : Hid (∀ X n, Tb srv x y k st X → _) := fun X n (hX : Tb srv x y k st X) => ttake_c k.t st.t n X hX.ht
  have HPUT : Hid _ := hput
  have e0 : IntKind.i64.wrap (4611686018427387903 - (N : Int)) = 4611686018427387903 - (N : Int) := wrp _ (by omega) (by omega)
  have e1 : (if 4611686018427387903 - (N : Int) < (o : Int) then 4611686018427387903 - (N : Int) else (o : Int)) = (o : Int) := by rw [if_neg (by omega)]
  have e2 : IntKind.i64.wrap ((o : Int) + (N : Int)) = (o : Int) + (N : Int) := wrp _ (by omega) (by omega)
  have e3 : IntKind.i64.wrap ((o : Int) + (N : Int) - (rc : Int)) = (o : Int) + (N : Int) - (rc : Int) := wrp _ (by omega) (by omega)
  have e4 : IntKind.i64.wrap ((mx : Int) - (rc : Int)) = (mx : Int) - (rc : Int) := wrp _ (by omega) (by omega)
  have o0 : ¬ ((o : Int) < 0) := by omega
  have q3 : decide (st.t.l - st.t.c < (o : Int) + (N : Int) - (rc : Int)) = false := decide_eq_false ha
  clear h hs hl hput hn hmx
  go_enter Tryz.func179, Tryz.ntmps179
  go_upto_region 1 with fail
  generalize w.alloc (.cells (fr6 8 id o (.slice la N cap) fin).toArray 66) = X at *
  obtain ⟨B, hB⟩ : ∃ B, w.heap.size = B := ⟨_, rfl⟩
  rw [hB] at HX0
  rw [hB]
  clear hB
  have c2 := HX0.out.bx.c2
  have c3 := HX0.out.bx.c3
  go_upto_region 4 with fail
  clear c2 c3
  have HXD : Hid _ := HX0.out.go (bel_drew X)
  refine wp_region_held_drew (S := fun X => Px srv x y k st 8 id (o : Int) la N cap fin w B S cs ib mb n V p R hd rm lm (rc : Int) false X) (by kernel_rfl) HXD.out (fun hHeld => ?_)
  generalize X.drew = Y at *
  clear HX0
  refine wpAnyH_take (i := 0) (v := .int .i64 (o : Int)) rfl (by kernel_rfl) (by kernel_rfl) (by kernel_rfl) (fun _ _ _ h => h) (Or.inl ⟨by rfl, by intro w hs; go_simp⟩) hHeld ?_
  refine norm_any' (fun K hK => ?_); go_simp; refine hK _ _ ?_; clear hK K
  refine wpAnyH_take (i := 1) (v := .pointer (some ⟨B, 3, none⟩)) rfl (by kernel_rfl) (by kernel_rfl) (by kernel_rfl) (fun _ _ _ h => h) (Or.inl ⟨by rfl, by intro w hs; go_simp⟩) hHeld ?_
  refine norm_any' (fun K hK => ?_); go_simp; refine hK _ _ ?_; clear hK K
  refine wpAnyH_take (i := 2) (v := .slice la N cap) rfl (by kernel_rfl) (by kernel_rfl) (by kernel_rfl) (fun _ _ _ h => h) (Or.inl ⟨by rfl, by intro w_ hs; have := hs.bx.c3; go_simp⟩) hHeld ?_
  refine norm_any' (fun K hK => ?_); go_simp; refine hK _ _ ?_; clear hK K
  refine wpAnyH_take (i := 3) (v := .int .i64 (N : Int)) rfl (by kernel_rfl) (by kernel_rfl) (by kernel_rfl) (fun _ _ _ h => h) (Or.inl ⟨by rfl, by intro w hs; go_simp⟩) hHeld ?_
  refine norm_any' (fun K hK => ?_); go_simp; refine hK _ _ ?_; clear hK K
  refine wpAnyH_take (i := 4) (v := .int .i64 ((o : Int) + (N : Int))) rfl (by kernel_rfl) (by kernel_rfl) (by kernel_rfl) (fun _ _ _ h => h) (Or.inl ⟨by rfl, by intro w_ hs; go_simp⟩) hHeld ?_
  refine norm_any' (fun K hK => ?_); go_simp; refine hK _ _ ?_; clear hK K
  refine wpAnyH_take (i := 5) (v := .pointer (some ⟨S, 0, none⟩)) rfl (by kernel_rfl) (by kernel_rfl) (by kernel_rfl) (fun _ _ _ h => h) (Or.inl ⟨by rfl, by intro w hs; go_simp⟩) hHeld ?_
  refine norm_any' (fun K hK => ?_); go_simp; refine hK _ _ ?_; clear hK K
  refine wpAnyH_take (i := 6) (v := .pointer (some ⟨S, 0, none⟩)) rfl (by kernel_rfl) (by kernel_rfl) (by kernel_rfl) (fun _ _ _ h => h) (Or.inl ⟨by rfl, by intro w hs; go_simp⟩) hHeld ?_
  refine norm_any' (fun K hK => ?_); go_simp; refine hK _ _ ?_; clear hK K
  refine wpAnyH_take (i := 7) (v := .pointer (some ⟨S, 11, none⟩)) rfl (by kernel_rfl) (by kernel_rfl) (by kernel_rfl) (fun _ _ _ h => h) (Or.inl ⟨by rfl, by intro w hs; go_simp⟩) hHeld ?_
  refine norm_any' (fun K hK => ?_); go_simp; refine hK _ _ ?_; clear hK K
  refine wpAnyH_take (i := 8) (v := .pointer (some ⟨ib, 0, none⟩)) rfl (by kernel_rfl) (by kernel_rfl) (by kernel_rfl) (fun _ _ _ h => h) (Or.inl ⟨by rfl, by intro w_ hs; have := hs.s.c11; go_simp⟩) hHeld ?_
  refine norm_any' (fun K hK => ?_); go_simp; refine hK _ _ ?_; clear hK K
  refine wpAnyH_ready (rs := [9]) (by kernel_rfl) (by simp) (AllReadyH.cons rfl (fun K hK => ?_) AllReadyH.nil)
  go_simp
  refine Calls.mono (HR.out _ HXD.out.s) ?_
  rintro e Y' ⟨rfl, hw⟩
  subst Y'
  refine hK.out _ _ HXD.out (fun hHeld => ?_)
  clear hK K
  refine norm_any' (fun K hK => ?_); go_simp; refine hK _ _ ?_; clear hK K
  refine wpAnyH_take (i := 10) (v := .int .i64 ((o : Int) + (N : Int))) rfl (by kernel_rfl) (by kernel_rfl) (by kernel_rfl) (fun _ _ _ h => h) (Or.inl ⟨by rfl, by intro w hs; go_simp⟩) hHeld ?_
  refine norm_any' (fun K hK => ?_); go_simp; refine hK _ _ ?_; clear hK K
  refine wpAnyH_take (i := 11) (v := .int .i64 (rc : Int)) rfl (by kernel_rfl) (by kernel_rfl) (by kernel_rfl) (fun _ _ _ h => h) (Or.inl ⟨by rfl, by intro w hs; go_simp⟩) hHeld ?_
  refine norm_any' (fun K hK => ?_); go_simp; refine hK _ _ ?_; clear hK K
  refine wpAnyH_done (by kernel_rfl) ?_ _
  go_wp2_with fail
  refine Calls.mono (HBO.out _ HXD.out.s) ?_
  rintro e w' ⟨rfl, hw⟩
  subst w'
  go_wp2_with fail
  refine Calls.mono (HAB.out _ _ HXD.out.bx.tb) ?_
  rintro e X1 ⟨rfl, hb1⟩
  have HX1 : Hid _ := HXD.out.go hb1
  clear hb1 HXD
  rw [q3]
  have s1 : X1.cell? ⟨S, 1, none⟩ = some (Value.bool false) := (HX1.out.s.sc.cell 1).trans i1
  have s2 : X1.cell? ⟨S, 2, none⟩ = some (Value.bool false) := (HX1.out.s.sc.cell 2).trans i2
  go_upto_region 9 with fail
  clear s1 s2
  have HX2 : Hid _ := HX1.out
  clear HX1
  have HX3 : Hid _ := HX2.out.go (bel_drew X1)
  have HS9 : Hid (X1.drew.cell? ⟨B, 3, none⟩ = some (.slice la N cap) ∧ X1.drew.cell? ⟨B, 4, none⟩ = some (.bool fin) ∧ X1.drew.cell? ⟨S, 11, none⟩ = some (.pointer (some ⟨ib, 0, none⟩))) := ⟨HX3.out.bx.c3, HX3.out.bx.c4, HX3.out.s.c11⟩
  refine wp_region_held_drew (S := fun X => X.cell? ⟨B, 3, none⟩ = some (.slice la N cap) ∧ X.cell? ⟨B, 4, none⟩ = some (.bool fin) ∧ X.cell? ⟨S, 11, none⟩ = some (.pointer (some ⟨ib, 0, none⟩))) (by kernel_rfl) HS9.out (fun hHeld => ?_)
  generalize X1.drew = Y3 at *
  clear HX2
  refine wpAnyH_take (i := 0) (v := .pointer (some ⟨S, 0, none⟩)) rfl (by kernel_rfl) (by kernel_rfl) (by kernel_rfl) (fun _ _ _ h => h) (Or.inl ⟨by rfl, by intro w hs; go_simp⟩) hHeld ?_
  refine norm_any' (fun K hK => ?_); go_simp; refine hK _ _ ?_; clear hK K
  refine wpAnyH_take (i := 1) (v := .pointer (some ⟨S, 0, none⟩)) rfl (by kernel_rfl) (by kernel_rfl) (by kernel_rfl) (fun _ _ _ h => h) (Or.inl ⟨by rfl, by intro w hs; go_simp⟩) hHeld ?_
  refine norm_any' (fun K hK => ?_); go_simp; refine hK _ _ ?_; clear hK K
  refine wpAnyH_take (i := 2) (v := .pointer (some ⟨S, 11, none⟩)) rfl (by kernel_rfl) (by kernel_rfl) (by kernel_rfl) (fun _ _ _ h => h) (Or.inl ⟨by rfl, by intro w hs; go_simp⟩) hHeld ?_
  refine norm_any' (fun K hK => ?_); go_simp; refine hK _ _ ?_; clear hK K
  refine wpAnyH_take (i := 3) (v := .pointer (some ⟨ib, 0, none⟩)) rfl (by kernel_rfl) (by kernel_rfl) (by kernel_rfl) (fun _ _ _ h => h) (Or.inl ⟨by rfl, by rintro w_ ⟨s0, s1, s2⟩; go_simp⟩) hHeld ?_
  refine norm_any' (fun K hK => ?_); go_simp; refine hK _ _ ?_; clear hK K
  refine wpAnyH_take (i := 4) (v := .int .i64 (o : Int)) rfl (by kernel_rfl) (by kernel_rfl) (by kernel_rfl) (fun _ _ _ h => h) (Or.inl ⟨by rfl, by intro w hs; go_simp⟩) hHeld ?_
  refine norm_any' (fun K hK => ?_); go_simp; refine hK _ _ ?_; clear hK K
  refine wpAnyH_take (i := 5) (v := .pointer (some ⟨B, 3, none⟩)) rfl (by kernel_rfl) (by kernel_rfl) (by kernel_rfl) (fun _ _ _ h => h) (Or.inl ⟨by rfl, by intro w hs; go_simp⟩) hHeld ?_
  refine norm_any' (fun K hK => ?_); go_simp; refine hK _ _ ?_; clear hK K
  refine wpAnyH_take (i := 6) (v := .slice la N cap) rfl (by kernel_rfl) (by kernel_rfl) (by kernel_rfl) (fun _ _ _ h => h) (Or.inl ⟨by rfl, by rintro w_ ⟨s0, s1, s2⟩; go_simp⟩) hHeld ?_
  refine norm_any' (fun K hK => ?_); go_simp; refine hK _ _ ?_; clear hK K
  refine wpAnyH_take (i := 7) (v := .pointer (some ⟨B, 4, none⟩)) rfl (by kernel_rfl) (by kernel_rfl) (by kernel_rfl) (fun _ _ _ h => h) (Or.inl ⟨by rfl, by intro w hs; go_simp⟩) hHeld ?_
  refine norm_any' (fun K hK => ?_); go_simp; refine hK _ _ ?_; clear hK K
  refine wpAnyH_take (i := 8) (v := .bool fin) rfl (by kernel_rfl) (by kernel_rfl) (by kernel_rfl) (fun _ _ _ h => h) (Or.inl ⟨by rfl, by rintro w_ ⟨s0, s1, s2⟩; go_simp⟩) hHeld ?_
  refine norm_any' (fun K hK => ?_); go_simp; refine hK _ _ ?_; clear hK K
  refine wpAnyH_ready (rs := [9]) (by kernel_rfl) (by simp) (AllReadyH.cons rfl (fun K hK => ?_) AllReadyH.nil)
  go_simp
  refine Calls.mono (HPUT.out _ HX3.out.bx.bel HX3.out.s) ?_
  rintro e Z ⟨rfl, ⟨nn, hib⟩, hch⟩
  have HPY : Hid (Py srv x y k st 8 id (o : Int) la N cap fin w B S cs ib mb nn V' p E' hd' rm lm mx fin Z) := by
    have hx := HX3.out
    have hnn := heap_bel HNN.out hx.bx.bel
    refine ⟨hx.s.io.rt hch hx.bx.bx (by decide), hx.bx.tb.chg hx.s.io hch, ⟨hx.s.io.rt hch hx.s.sc (by decide), hx.s.ci, hib⟩, (hch.2.2.2.2 k.nb (Array.getElem?_eq_some_iff.1 hnn).1 ?_).trans hnn, ?_⟩
    · rintro (e | e)
      · rw [e, hx.s.io.1] at hnn
        simp at hnn
      · exact hmb e
    · exact (bel_chg hx.bx.bel).andThen hch (fun j _ e => e.elim .inl (fun e => .inr (.inl e)))
  have HSZ : Hid (Z.cell? ⟨B, 3, none⟩ = some (.slice la N cap) ∧ Z.cell? ⟨B, 4, none⟩ = some (.bool fin) ∧ Z.cell? ⟨S, 11, none⟩ = some (.pointer (some ⟨ib, 0, none⟩))) := ⟨HPY.out.bx.cell 3, HPY.out.bx.cell 4, HPY.out.s.c11⟩
  clear hib hch HX3 HS9
  refine hK.out _ _ HSZ.out (fun hHeld => ?_)
  clear hK K
  refine norm_any' (fun K hK => ?_); go_simp; refine hK _ _ ?_; clear hK K
  refine wpAnyH_take (i := 10) (v := .int .i64 0) rfl (by kernel_rfl) (by kernel_rfl) (by kernel_rfl) (fun _ _ _ h => h) (Or.inl ⟨by rfl, by intro w hs; go_simp⟩) hHeld ?_
  refine norm_any' (fun K hK => ?_); go_simp; refine hK _ _ ?_; clear hK K
  refine wpAnyH_done (by kernel_rfl) ?_ _
  go_upto_region 15 with fail
  have HPD : Hid _ := HPY.out.go (bel_drew Z)
  have HS15 : Hid (Z.drew.cell? ⟨k.T, 16, none⟩ = some (.pointer (some ⟨k.t, 0, none⟩)) ∧ Z.drew.cell? ⟨S, 11, none⟩ = some (.pointer (some ⟨ib, 0, none⟩))) := ⟨HPD.out.tb.c16, HPD.out.s.c11⟩
  clear HSZ HPY
  refine wp_region_held_drew (S := fun X => X.cell? ⟨k.T, 16, none⟩ = some (.pointer (some ⟨k.t, 0, none⟩)) ∧ X.cell? ⟨S, 11, none⟩ = some (.pointer (some ⟨ib, 0, none⟩))) (by kernel_rfl) HS15.out (fun hHeld => ?_)
  generalize Z.drew = Z1 at *
  refine wpAnyH_take (i := 0) (v := .pointer (some ⟨k.T, 0, none⟩)) rfl (by kernel_rfl) (by kernel_rfl) (by kernel_rfl) (fun _ _ _ h => h) (Or.inl ⟨by rfl, by intro w hs; go_simp⟩) hHeld ?_
  refine norm_any' (fun K hK => ?_); go_simp; refine hK _ _ ?_; clear hK K
  refine wpAnyH_take (i := 1) (v := .pointer (some ⟨k.T, 0, none⟩)) rfl (by kernel_rfl) (by kernel_rfl) (by kernel_rfl) (fun _ _ _ h => h) (Or.inl ⟨by rfl, by intro w hs; go_simp⟩) hHeld ?_
  refine norm_any' (fun K hK => ?_); go_simp; refine hK _ _ ?_; clear hK K
  refine wpAnyH_take (i := 2) (v := .pointer (some ⟨k.T, 16, none⟩)) rfl (by kernel_rfl) (by kernel_rfl) (by kernel_rfl) (fun _ _ _ h => h) (Or.inl ⟨by rfl, by intro w hs; go_simp⟩) hHeld ?_
  refine norm_any' (fun K hK => ?_); go_simp; refine hK _ _ ?_; clear hK K
  refine wpAnyH_take (i := 3) (v := .pointer (some ⟨k.t, 0, none⟩)) rfl (by kernel_rfl) (by kernel_rfl) (by kernel_rfl) (fun _ _ _ h => h) (Or.inl ⟨by rfl, by rintro w_ ⟨s0, s1⟩; go_simp⟩) hHeld ?_
  refine norm_any' (fun K hK => ?_); go_simp; refine hK _ _ ?_; clear hK K
  refine wpAnyH_take (i := 4) (v := .pointer (some ⟨S, 0, none⟩)) rfl (by kernel_rfl) (by kernel_rfl) (by kernel_rfl) (fun _ _ _ h => h) (Or.inl ⟨by rfl, by intro w hs; go_simp⟩) hHeld ?_
  refine norm_any' (fun K hK => ?_); go_simp; refine hK _ _ ?_; clear hK K
  refine wpAnyH_take (i := 5) (v := .pointer (some ⟨S, 0, none⟩)) rfl (by kernel_rfl) (by kernel_rfl) (by kernel_rfl) (fun _ _ _ h => h) (Or.inl ⟨by rfl, by intro w hs; go_simp⟩) hHeld ?_
  refine norm_any' (fun K hK => ?_); go_simp; refine hK _ _ ?_; clear hK K
  refine wpAnyH_take (i := 6) (v := .pointer (some ⟨S, 11, none⟩)) rfl (by kernel_rfl) (by kernel_rfl) (by kernel_rfl) (fun _ _ _ h => h) (Or.inl ⟨by rfl, by intro w hs; go_simp⟩) hHeld ?_
  refine norm_any' (fun K hK => ?_); go_simp; refine hK _ _ ?_; clear hK K
  refine wpAnyH_take (i := 7) (v := .pointer (some ⟨ib, 0, none⟩)) rfl (by kernel_rfl) (by kernel_rfl) (by kernel_rfl) (fun _ _ _ h => h) (Or.inl ⟨by rfl, by rintro w_ ⟨s0, s1⟩; go_simp⟩) hHeld ?_
  refine norm_any' (fun K hK => ?_); go_simp; refine hK _ _ ?_; clear hK K
  refine wpAnyH_take (i := 9) (v := .int .i64 (rc : Int)) rfl (by kernel_rfl) (by kernel_rfl) (by kernel_rfl) (fun _ _ _ h => h) (Or.inl ⟨by rfl, by intro w hs; go_simp⟩) hHeld ?_
  refine norm_any' (fun K hK => ?_); go_simp; refine hK _ _ ?_; clear hK K
  refine wpAnyH_ready (rs := [8]) (by kernel_rfl) (by simp) (AllReadyH.cons rfl (fun K hK => ?_) AllReadyH.nil)
  go_simp
  refine Calls.mono (reach_c HPD.out.s.io) ?_
  rintro e Z' ⟨rfl, hw⟩
  subst Z'
  refine hK.out _ _ HS15.out (fun hHeld => ?_)
  clear hK K
  refine norm_any' (fun K hK => ?_); go_simp; refine hK _ _ ?_; clear hK K
  refine wpAnyH_take (i := 10) (v := .int .i64 ((mx : Int) - (rc : Int))) rfl (by kernel_rfl) (by kernel_rfl) (by kernel_rfl) (fun _ _ _ h => h) (Or.inl ⟨by rfl, by intro w hs; go_simp⟩) hHeld ?_
  refine norm_any' (fun K hK => ?_); go_simp; refine hK _ _ ?_; clear hK K
  refine wpAnyH_ready (rs := [11]) (by kernel_rfl) (by simp) (AllReadyH.cons rfl (fun K hK => ?_) AllReadyH.nil)
  go_simp
  refine Calls.mono (HTA.out _ _ HPD.out.tb) ?_
  rintro e Z2 ⟨rfl, htv, htn⟩
  have HPZ : Hid (Py srv x y k { st with t := (st.t.tak ((mx : Int) - rc)).2 } 8 id (o : Int) la N cap fin w B S cs ib mb nn V' p E' hd' rm lm mx fin Z2) := by
    have hx := HPD.out
    have hnt : ∀ {b : Nat} {T : Nat} {cs : Array Value}, Rt T cs Z1 b → T ≠ 176 → b ≠ k.t := by
      rintro b T cs hr hT rfl
      have h1 : Z1.heap[k.t]? = _ := hr
      have h2 : Z1.heap[k.t]? = _ := hx.tb.ht
      rw [h1] at h2
      simp only [Option.some.injEq, Obj.cells.injEq] at h2
      exact hT h2.2.1
    have hi := hx.s.io
    have n1 : ib ≠ k.t := hnt (T := 201) hi.1 (by decide)
    have n2 : mb ≠ k.t := by
      rintro rfl
      obtain ⟨_, D, ⟨es, ck, h5, _⟩, _⟩ := hi
      have h2 : Z1.heap[k.t]? = _ := hx.tb.ht
      rw [h5] at h2
      simp at h2
    have n3 : k.nb ≠ k.t := by
      intro e
      have h2 : Z1.heap[k.t]? = _ := hx.tb.ht
      rw [← e, hx.nn] at h2
      simp at h2
    refine ⟨htn.rt hx.bx (hnt hx.bx (by decide)), hx.tb.setT htv htn, ⟨htn.rt hx.s.sc (hnt hx.s.sc (by decide)), hx.s.ci, ⟨(htn.2.2.2.2 ib (Array.getElem?_eq_some_iff.1 hi.1).1 n1).trans hi.1, hi.2.kept (htn.2.2.2.2 mb hi.2.lt n2)⟩⟩, (htn.2.2.2.2 k.nb (Array.getElem?_eq_some_iff.1 hx.nn).1 n3).trans hx.nn, ?_⟩
    exact hx.ch.andThen (tn_chg htn) (fun j _ e => .inr (.inr e))
  have HSW : Hid (Z2.cell? ⟨k.T, 16, none⟩ = some (.pointer (some ⟨k.t, 0, none⟩)) ∧ Z2.cell? ⟨S, 11, none⟩ = some (.pointer (some ⟨ib, 0, none⟩))) := ⟨HPZ.out.tb.c16, HPZ.out.s.c11⟩
  clear htv htn HPD HS15
  refine hK.out _ _ HSW.out (fun hHeld => ?_)
  clear hK K
  refine norm_any' (fun K hK => ?_); go_simp; refine hK _ _ ?_; clear hK K
  refine wpAnyH_done (by kernel_rfl) ?_ _
  go_wp2_with (refine wpList_load_row rfl 66 (.tmp 5) rfl B rfl 66 _ (0, 0) _ HPZ.out.bx u66 rfl i66 ?_)
  have HTK : Hid (Calls Tryz.prog 208 #[.pointer (some ⟨k.T, 0, none⟩), .pointer (some ⟨S, 0, none⟩), .agg (fr6 8 id o (.slice la N cap) fin).toArray] Z2 fun e w' => e = .returned (.tuple #[]) ∧ Below Z2.heap.size Z2 w') := by
    have hx := HPZ.out
    have hs := hx.s
    cases fin
    · exact took_no hx.tb hx.nn hs sid_ i0 i1 i2 8 id o _ false rfl
    · exact took_yes hx.tb hx.nn hs sid_ i0 i1 i2 8 id o _ true rfl
  refine Calls.mono HTK.out ?_
  rintro e Z3 ⟨rfl, hb3⟩
  have HPW : Hid _ := HPZ.out.go hb3
  clear hb3 HPZ HSW HTK
  go_wp2
  go_ret
  exact ⟨rfl, HPW.out.tb, ⟨nn, HPW.out.s⟩, HPW.out.ch⟩
end Go.Proofs.YtijndpjdmiljkaaGreatDoor
