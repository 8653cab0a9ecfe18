/- vault: Open. -/
import Derived.Test.YthhoknkdmmldbaaBz
namespace Go.Proofs.Ythhoknkdmmldbaa
open Go.RowKit Go.Shelf Go.Lib
set_option linter.unusedVariables false

section
variable {n₀ V G c M : Nat} {L : List Tm} {w : World}
theorem bz_c (h : Va n₀ w V G c M L) (hle : L.length ≤ 1000000) (o : Option Addr) (cp : Nat) (l : List UInt8) (hB : By n₀ w o cp l) : Calls Try.prog 49 #[.pointer (some ⟨V, 0, none⟩), .slice o l.length cp] w (BzP L l w) := by
  by_cases hs : l.length < 16
  · exact bz_short o cp l w hs
  · obtain ⟨b, off, rfl, _⟩ := hB.at' (by rintro rfl; simp at hs)
    exact bz_long h hle b off cp l hB.sl hB.len hB.cap hB.c64 (by omega)
theorem tv_all (t : Tm) : tv t = .agg #[.int .i64 (t.kd : Int), .int .i64 (t.of' : Int), .int .i64 t.wi, .string t.un, .string t.by'] := rfl
/-- What a key opens. -/
def Opens (L : List Tm) (k : Nat) (n : Int) (la l : List UInt8) (S : ByteArray) : Prop := ∃ i : Nat, L[i]? = some ⟨6, k, n, ⟨la.toArray⟩, S⟩ ∧ l = List.replicate S.size 0 ++ nameL i
/-- How Open ends. -/
def OpP (L : List Tm) (k : Nat) (n : Int) (la l : List UInt8) (n₀ : Nat) (w : World) (e : Ending) (w' : World) : Prop :=
  ((∃ (S : ByteArray) (g cg : Nat), Opens L k n la l S ∧ e = .returned (.tuple #[.slice (some ⟨g, 0, none⟩) S.size cg, .int .i64 0]) ∧ By n₀ w' (some ⟨g, 0, none⟩) cg S.data.toList) ∨ ((∀ S, ¬ Opens L k n la l S) ∧ e = .returned (.tuple #[.slice none 0 0, .int .i64 20]))) ∧ Below w.heap.size w w'
set_option maxRecDepth 100000 in
set_option maxHeartbeats 2000000 in
theorem open_c (h : Va n₀ w V G c M L) (hSm : Small L) (hle : L.length ≤ 1000000) (k : Nat) (hk : k < L.length) (n : Int) (hn : 0 ≤ n) (oa o : Option Addr) (ca cp : Nat) (la l : List UInt8) (hSa : Sl w oa la) (hB : By n₀ w o cp l) :
    Calls Try.prog 19 #[.pointer (some ⟨V, 0, none⟩), hv (nameL k), .int .i64 n, .slice oa la.length ca, .slice o l.length cp] w (OpP L k n la l n₀ w) := by
  obtain ⟨b1, b3⟩ := box1 w (nameL k)
  have h1 := h.bel b3
  have HSE : Aside _ := sealer_yes h1 hle k hk n hn
  have HB : Aside _ := b3
  have HBZ : Aside (∀ W, Below w.heap.size w W → Calls Try.prog 49 #[.pointer (some ⟨V, 0, none⟩), .slice o l.length cp] W (BzP L l W)) := fun W hW => bz_c (h.bel hW) hle o cp l (hB.bel hW)
  have HST : Aside (∀ W S, Below w.heap.size w W → Calls Try.prog 48 #[.int .i64 (k : Int), .int .i64 n, .slice oa la.length ca, .string S] W fun e w' => e = .returned (tv ⟨6, k, n, ⟨la.toArray⟩, S⟩) ∧ Below W.heap.size W w') := fun W S hW => sealedText_c k n oa ca la S W (hSa.bel hW)
  have hs := nameL_len k
  obtain ⟨NL, hNL⟩ : ∃ NL, l.length = NL := ⟨_, rfl⟩
  rw [hNL] at HBZ ⊢
  obtain ⟨NA, hNA⟩ : ∃ NA, la.length = NA := ⟨_, rfl⟩
  rw [hNA] at HST ⊢
  have HL : Aside _ := hle
  have HSM : Aside _ := hSm
  clear h1 h b3 hNL hNA hSa hB hle hSm
  have mixed : Try.prog.follows Departure.mixedOrders = true := by kernel_rfl
  go_enter Try.func19, Try.ntmps19
  go_wp2_with (refine ld28 rfl (.tmp 6) rfl w.heap.size rfl (nameL k) b1 hs ?_)
  refine Calls.mono HSE.out ?_
  rintro e W1 ⟨rfl, hb⟩
  have HB1 : Aside (Below w.heap.size w W1) := HB.out.trans (hb.mono HB.out.size)
  clear hb HSE HB b1
  go_wp2_with fail
  refine Calls.mono (HBZ.out W1 HB1.out) ?_
  rintro e W2 ⟨hP, hb⟩
  have HB2 : Aside (Below w.heap.size w W2) := HB1.out.trans (hb.mono HB1.out.size)
  clear hb HBZ HB1
  rcases hP with ⟨i, t, ht, hl, rfl⟩ | ⟨hno, rfl⟩
  · rw [tv_all]
    have HT : Aside _ := ht
    have HLE : Aside _ := hl
    clear ht hl
    go_wp2_with fail
    have hR : (W2.alloc (.cells #[.int .i64 (t.kd : Int), .int .i64 (t.of' : Int), .int .i64 t.wi, .string t.un, .string t.by'] 64)).heap[W2.heap.size]? = some (.cells #[.int .i64 (t.kd : Int), .int .i64 (t.of' : Int), .int .i64 t.wi, .string t.un, .string t.by'] 64 (0, 0)) := heap_alloc_new W2 _
    have hb3 : Below w.heap.size w (W2.alloc (.cells #[.int .i64 (t.kd : Int), .int .i64 (t.of' : Int), .int .i64 t.wi, .string t.un, .string t.by'] 64)) := HB2.out.trans ((bel1 W2 _).mono HB2.out.size)
    generalize W2.alloc (.cells #[.int .i64 (t.kd : Int), .int .i64 (t.of' : Int), .int .i64 t.wi, .string t.un, .string t.by'] 64) = W3 at *
    have hbd : Below w.heap.size w W3.drew := hb3.trans ((bel_drew W3).mono hb3.size)
    generalize W2.heap.size = Tb at *
    have HCL : Aside (Calls Try.prog 48 #[.int .i64 (k : Int), .int .i64 n, .slice oa NA ca, .string t.by'] W3.drew fun e w' => e = .returned (tv ⟨6, k, n, ⟨la.toArray⟩, t.by'⟩) ∧ Below W3.drew.heap.size W3.drew w') := HST.out W3.drew t.by' hbd
    have HRG : Aside (∀ X : World, X.heap[Tb]? = some (.cells #[.int .i64 (t.kd : Int), .int .i64 (t.of' : Int), .int .i64 t.wi, .string t.un, .string t.by'] 64 (0, 0)) → X.rangeAt Tb 0 [.int .i64 (t.kd : Int), .int .i64 (t.of' : Int), .int .i64 t.wi, .string t.un, .string t.by']) := by
      intro X hX j v hv
      unfold World.cell?
      simp only [hX]
      simpa using hv
    have hc4 : ∀ X : World, X.heap[Tb]? = some (.cells #[.int .i64 (t.kd : Int), .int .i64 (t.of' : Int), .int .i64 t.wi, .string t.un, .string t.by'] 64 (0, 0)) → X.cell? ⟨Tb, 4, none⟩ = some (.string t.by') := by
      intro X hX
      simp [World.cell?, hX]
    have hm5 : (Try.prog.info? 64).map (·.size) = some ([.int .i64 (t.kd : Int), .int .i64 (t.of' : Int), .int .i64 t.wi, .string t.un, .string t.by'] : List Value).length := i64s
    have HNE : Aside (∀ X, (binOp .neq 64 (.agg #[.int .i64 (t.kd : Int), .int .i64 (t.of' : Int), .int .i64 t.wi, .string t.un, .string t.by']) (tv ⟨6, k, n, ⟨la.toArray⟩, t.by'⟩)).run Try.prog X = .ok (.bool (!(eqT t ⟨6, k, n, ⟨la.toArray⟩, t.by'⟩))) X) := fun X => neq64 t _ X
    have HEI : Aside (∀ X, (Op.equalIn 10000 64 (.agg #[.int .i64 (t.kd : Int), .int .i64 (t.of' : Int), .int .i64 t.wi, .string t.un, .string t.by']) (tv ⟨6, k, n, ⟨la.toArray⟩, t.by'⟩)).run Try.prog X = .ok (eqT t ⟨6, k, n, ⟨la.toArray⟩, t.by'⟩) X) := fun X => equalIn64 t _ X
    obtain ⟨q, hq⟩ : ∃ q, eqT t ⟨6, k, n, ⟨la.toArray⟩, t.by'⟩ = q := ⟨_, rfl⟩
    have HQ : Aside _ := hq
    have hne := HNE.out
    have hei := HEI.out
    rw [hq] at hne hei
    rw [tv_sea] at hne hei HCL
    have hmu := u64s
    clear HNE HEI hq HST
    refine wp_region_held_drew (S := fun X => X.heap[Tb]? = some (.cells #[.int .i64 (t.kd : Int), .int .i64 (t.of' : Int), .int .i64 t.wi, .string t.un, .string t.by'] 64 (0, 0))) (by kernel_rfl) (show W3.drew.heap[Tb]? = _ from hR) (fun hHeld => ?_)
    refine wpAnyH_take (i := 0) (v := .bool true) rfl (by kernel_rfl) (by kernel_rfl) (by kernel_rfl) (fun _ _ _ h => h) (Or.inl ⟨by rfl, by intro w hs; go_simp⟩) hHeld ?_
    refine norm_any' (fun K hK => ?_)
    go_simp
    refine hK _ _ ?_
    clear hK K
    refine wpAnyH_take (i := 1) (v := .bool false) rfl (by kernel_rfl) (by kernel_rfl) (by kernel_rfl) (fun _ _ _ h => h) (Or.inl ⟨by rfl, by intro w hs; go_simp⟩) hHeld ?_
    refine norm_any' (fun K hK => ?_)
    go_simp
    refine hK _ _ ?_
    clear hK K
    refine wpAnyH_take (i := 2) (v := .bool false) rfl (by kernel_rfl) (by kernel_rfl) (by kernel_rfl) (fun _ _ _ h => h) (Or.inl ⟨by rfl, by intro w hs; go_simp⟩) hHeld ?_
    refine norm_any' (fun K hK => ?_)
    go_simp
    refine hK _ _ ?_
    clear hK K
    refine wpAnyH_take (i := 3) (v := .agg #[.int .i64 (t.kd : Int), .int .i64 (t.of' : Int), .int .i64 t.wi, .string t.un, .string t.by']) rfl (by kernel_rfl) (by kernel_rfl) (by kernel_rfl) (fun _ _ _ h => h) (yieldsIf_load_mid (by rfl) 64 _ rfl Tb 0 rfl [.int .i64 (t.kd : Int), .int .i64 (t.of' : Int), .int .i64 t.wi, .string t.un, .string t.by'] _ (fun X h => HRG.out X h) hmu rfl hm5) hHeld ?_
    refine norm_any' (fun K hK => ?_)
    go_simp
    refine hK _ _ ?_
    clear hK K
    refine wpAnyH_take (i := 4) (v := .int .i64 (k : Int)) rfl (by kernel_rfl) (by kernel_rfl) (by kernel_rfl) (fun _ _ _ h => h) (Or.inl ⟨by rfl, by intro w hs; go_simp⟩) hHeld ?_
    refine norm_any' (fun K hK => ?_)
    go_simp
    refine hK _ _ ?_
    clear hK K
    refine wpAnyH_take (i := 5) (v := .int .i64 n) rfl (by kernel_rfl) (by kernel_rfl) (by kernel_rfl) (fun _ _ _ h => h) (Or.inl ⟨by rfl, by intro w hs; go_simp⟩) hHeld ?_
    refine norm_any' (fun K hK => ?_)
    go_simp
    refine hK _ _ ?_
    clear hK K
    refine wpAnyH_take (i := 6) (v := .slice oa NA ca) rfl (by kernel_rfl) (by kernel_rfl) (by kernel_rfl) (fun _ _ _ h => h) (Or.inl ⟨by rfl, by intro w hs; go_simp⟩) hHeld ?_
    refine norm_any' (fun K hK => ?_)
    go_simp
    refine hK _ _ ?_
    clear hK K
    refine wpAnyH_take (i := 7) (v := .pointer (some ⟨Tb, 4, none⟩)) rfl (by kernel_rfl) (by kernel_rfl) (by kernel_rfl) (fun _ _ _ h => h) (Or.inl ⟨by rfl, by intro w hs; go_simp⟩) hHeld ?_
    refine norm_any' (fun K hK => ?_)
    go_simp
    refine hK _ _ ?_
    clear hK K
    refine wpAnyH_take (i := 8) (v := .string t.by') rfl (by kernel_rfl) (by kernel_rfl) (by kernel_rfl) (fun _ _ _ h => h) (Or.inl ⟨by rfl, by intro w hs; have := hc4 w hs; go_simp⟩) hHeld ?_
    refine norm_any' (fun K hK => ?_)
    go_simp
    refine hK _ _ ?_
    clear hK K
    refine wpAnyH_ready (rs := [9]) (by kernel_rfl) (by simp) (AllReadyH.cons rfl (fun K hK => ?_) AllReadyH.nil)
    go_simp
    refine Calls.mono HCL.out ?_
    rintro e W4 ⟨rfl, hz⟩
    have HR4 : Aside _ := heap_bel (show W3.drew.heap[Tb]? = _ from hR) hz
    have HB4 : Aside (Below w.heap.size w W4) := hbd.trans (hz.mono hbd.size)
    clear hz
    refine hK.out _ _ HR4.out (fun hHeld => ?_)
    clear hK K
    refine norm_any' (fun K hK => ?_)
    go_simp
    refine hK _ _ ?_
    clear hK K
    have c4 := hc4 _ HR4.out
    refine wpAnyH_take (i := 10) (v := .bool (!q)) rfl (by kernel_rfl) (by kernel_rfl) (by kernel_rfl) (fun _ _ _ h => h) (Or.inl ⟨by rfl, by intro w hs; go_simp⟩) hHeld ?_
    refine norm_any' (fun K hK => ?_)
    go_simp
    refine hK _ _ ?_
    clear hK K
    refine wpAnyH_take (i := 11) (v := .bool (!q)) rfl (by kernel_rfl) (by kernel_rfl) (by kernel_rfl) (fun _ _ _ h => h) (Or.inl ⟨by rfl, by intro w hs; go_simp⟩) hHeld ?_
    refine norm_any' (fun K hK => ?_)
    go_simp
    refine hK _ _ ?_
    clear hK K
    refine wpAnyH_done (by kernel_rfl) ?_ _
    clear hHeld HCL HRG hc4 hne hei
    cases q with
    | false =>
      have HF : Aside (∀ S, ¬ Opens L k n la l S) := by
        rintro S ⟨i', hi', e⟩
        obtain ⟨s1, s2, _⟩ := split_zeros e
        obtain ⟨r1, r2, _⟩ := split_zeros HLE.out
        rw [← s1] at s2
        rw [← r1] at r2
        have li' := (List.getElem?_eq_some_iff.1 hi').1
        have li := (List.getElem?_eq_some_iff.1 HT.out).1
        have hl6 := HL.out
        have e2 : i' = i := name_inj (by omega) (by omega) (s2.symm.trans r2)
        subst e2
        have e3 := hi'.symm.trans HT.out
        injection e3 with e3
        have := HQ.out
        rw [← e3, eqT_self] at this
        cases this
      go_wp2
      go_ret2
      exact ⟨.inr ⟨HF.out, rfl⟩, HB4.out⟩
    | true =>
      have et := (eqT_iff _ _).1 HQ.out
      have h6 : t.kd = 6 := by rw [et]
      obtain ⟨cg, W5, hcv, hb5, hby⟩ := conv_string n₀ t.by' (by have := HSM.out i t HT.out h6; omega) W4
      have HO : Aside (Opens L k n la l t.by') := ⟨i, by rw [← et]; exact HT.out, HLE.out⟩
      have HB5 : Aside (Below w.heap.size w W5) := HB4.out.trans (hb5.mono HB4.out.size)
      have HBY : Aside (By n₀ W5 (some ⟨W4.heap.size, 0, none⟩) cg t.by'.data.toList) := hby
      clear et hb5 hby h6
      go_wp2
      go_ret2
      exact ⟨.inl ⟨t.by', W4.heap.size, cg, HO.out, rfl, HBY.out⟩, HB5.out⟩
  · have HF : Aside (∀ S, ¬ Opens L k n la l S) := by
      rintro S ⟨i, hi, e⟩
      exact hno i _ hi e
    have HB3 : Aside (Below w.heap.size w (W2.alloc (.cells zt 64)).drew) := (HB2.out.trans ((bel1 W2 _).mono HB2.out.size)).trans ((bel_drew _).mono (by have := HB2.out.size; simp; omega))
    clear hno HST
    go_wp2_with fail
    refine wp_region_held_drew (S := fun _ => True) (by kernel_rfl) trivial (fun hHeld => ?_)
    refine wpAnyH_take (i := 0) (v := .bool false) rfl (by kernel_rfl) (by kernel_rfl) (by kernel_rfl) (fun _ _ _ h => h) (Or.inl ⟨by rfl, by intro w hs; go_simp⟩) hHeld ?_
    refine norm_any' (fun K hK => ?_)
    go_simp
    refine hK _ _ ?_
    clear hK K
    refine wpAnyH_take (i := 1) (v := .bool true) rfl (by kernel_rfl) (by kernel_rfl) (by kernel_rfl) (fun _ _ _ h => h) (Or.inl ⟨by rfl, by intro w hs; go_simp⟩) hHeld ?_
    refine norm_any' (fun K hK => ?_)
    go_simp
    refine hK _ _ ?_
    clear hK K
    refine wpAnyH_take (i := 2) (v := .bool true) rfl (by kernel_rfl) (by kernel_rfl) (by kernel_rfl) (fun _ _ _ h => h) (Or.inl ⟨by rfl, by intro w hs; go_simp⟩) hHeld ?_
    refine norm_any' (fun K hK => ?_)
    go_simp
    refine hK _ _ ?_
    clear hK K
    refine wpAnyH_take (i := 3) (v := undef) rfl (by kernel_rfl) (by kernel_rfl) (by kernel_rfl) (fun _ _ _ h => h) (Or.inr ⟨by rfl, rfl⟩) hHeld ?_
    refine norm_any' (fun K hK => ?_)
    go_simp
    refine hK _ _ ?_
    clear hK K
    refine wpAnyH_take (i := 4) (v := undef) rfl (by kernel_rfl) (by kernel_rfl) (by kernel_rfl) (fun _ _ _ h => h) (Or.inr ⟨by rfl, rfl⟩) hHeld ?_
    refine norm_any' (fun K hK => ?_)
    go_simp
    refine hK _ _ ?_
    clear hK K
    refine wpAnyH_take (i := 5) (v := undef) rfl (by kernel_rfl) (by kernel_rfl) (by kernel_rfl) (fun _ _ _ h => h) (Or.inr ⟨by rfl, rfl⟩) hHeld ?_
    refine norm_any' (fun K hK => ?_)
    go_simp
    refine hK _ _ ?_
    clear hK K
    refine wpAnyH_take (i := 6) (v := undef) rfl (by kernel_rfl) (by kernel_rfl) (by kernel_rfl) (fun _ _ _ h => h) (Or.inr ⟨by rfl, rfl⟩) hHeld ?_
    refine norm_any' (fun K hK => ?_)
    go_simp
    refine hK _ _ ?_
    clear hK K
    refine wpAnyH_take (i := 7) (v := undef) rfl (by kernel_rfl) (by kernel_rfl) (by kernel_rfl) (fun _ _ _ h => h) (Or.inr ⟨by rfl, rfl⟩) hHeld ?_
    refine norm_any' (fun K hK => ?_)
    go_simp
    refine hK _ _ ?_
    clear hK K
    refine wpAnyH_take (i := 8) (v := undef) rfl (by kernel_rfl) (by kernel_rfl) (by kernel_rfl) (fun _ _ _ h => h) (Or.inr ⟨by rfl, rfl⟩) hHeld ?_
    refine norm_any' (fun K hK => ?_)
    go_simp
    refine hK _ _ ?_
    clear hK K
    refine wpAnyH_take (i := 9) (v := undef) rfl (by kernel_rfl) (by kernel_rfl) (by kernel_rfl) (fun _ _ _ h => h) (Or.inr ⟨by rfl, rfl⟩) hHeld ?_
    refine norm_any' (fun K hK => ?_)
    go_simp
    refine hK _ _ ?_
    clear hK K
    refine wpAnyH_take (i := 10) (v := undef) rfl (by kernel_rfl) (by kernel_rfl) (by kernel_rfl) (fun _ _ _ h => h) (Or.inr ⟨by rfl, rfl⟩) hHeld ?_
    refine norm_any' (fun K hK => ?_)
    go_simp
    refine hK _ _ ?_
    clear hK K
    refine wpAnyH_take (i := 11) (v := .bool true) rfl (by kernel_rfl) (by kernel_rfl) (by kernel_rfl) (fun _ _ _ h => h) (Or.inl ⟨by rfl, by intro w hs; go_simp⟩) hHeld ?_
    refine norm_any' (fun K hK => ?_)
    go_simp
    refine hK _ _ ?_
    clear hK K
    refine wpAnyH_done (by kernel_rfl) ?_ _
    go_wp2
    go_ret2
    exact ⟨.inr ⟨HF.out, rfl⟩, HB3.out⟩
end
end Go.Proofs.Ythhoknkdmmldbaa
