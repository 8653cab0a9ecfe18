/- vault: made. -/
import Derived.Test.YthdenbclfogojaaGreatDoorAd
namespace Go.Proofs.YthdenbclfogojaaGreatDoor
open Go.RowKit Go.Shelf Go.Lib
set_option linter.unusedVariables false

/-- What made leaves. -/
def Made (n₀ : Nat) (w w' : World) (V G M : Nat) (L : List Tm) (t : Tm) (i : Nat) : Prop :=
  ∃ G' c' L', Va n₀ w' V G' c' M L' ∧ Vc V G M w w' ∧ (G' = G ∨ w.heap.size ≤ G') ∧ L'[i]? = some t ∧ ((L' = L) ∨ (L' = L ++ [t] ∧ i = L.length ∧ t ∉ L))
theorem Vc.of_bel {V G M : Nat} {w w' : World} (h : Below w.heap.size w w') : Vc V G M w w' := ⟨h.os, h.tape, h.output, h.size, fun k hk _ => h.block k hk⟩
theorem Vc.trans {V G M : Nat} {a b c : World} (h : Vc V G M a b) (k : Vc V G M b c) : Vc V G M a c := Chg.trans h k
theorem boxt (w : World) (t : Tm) : ((w.alloc (.cells (tc t).toArray 108)).alloc (.cells (hl z16).toArray 29)).heap[w.heap.size]? = some (.cells (tc t).toArray 108 (0, 0)) ∧ ((w.alloc (.cells (tc t).toArray 108)).alloc (.cells (hl z16).toArray 29)).heap[w.heap.size + 1]? = some (.cells (hl z16).toArray 29 (0, 0)) ∧ Below w.heap.size w ((w.alloc (.cells (tc t).toArray 108)).alloc (.cells (hl z16).toArray 29)) ∧ ((w.alloc (.cells (tc t).toArray 108)).alloc (.cells (hl z16).toArray 29)).heap.size = w.heap.size + 2 := by
  refine ⟨?_, ?_, (bel1 w _).alloc (by simp) _, by simp⟩
  · rw [Below.heap_alloc _ _ _ (by simp)]; exact heap_alloc_new w _
  · have := heap_alloc_new (w.alloc (.cells (tc t).toArray 108)) (.cells (hl z16).toArray 29)
    rwa [World.size_alloc] at this
theorem tcells {w : World} {b : Nat} {t : Tm} (h : w.heap[b]? = some (.cells (tc t).toArray 108 (0, 0))) : w.cell? ⟨b, 0, none⟩ = some (.int .i64 (t.kd : Int)) ∧ w.cell? ⟨b, 1, none⟩ = some (.int .i64 (t.of' : Int)) ∧ w.cell? ⟨b, 2, none⟩ = some (.int .i64 t.wi) ∧ w.cell? ⟨b, 3, none⟩ = some (.string t.un) ∧ w.cell? ⟨b, 4, none⟩ = some (.string t.by') := by
  simp [World.cell?, h, tc]
set_option maxRecDepth 100000 in
set_option maxHeartbeats 1000000 in
theorem made_yes (n₀ V G c M i : Nat) (L : List Tm) (t : Tm) (w : World) (h : Va n₀ w V G c M L) (hle : L.length ≤ 1000000) (hi : L[i]? = some t) (h2 : 2 ≤ t.kd) :
    Calls Tryz.prog 38 #[.pointer (some ⟨V, 0, none⟩), tv t] w fun e w' => e = .returned (hv (nameL i)) ∧ Below w.heap.size w w' := by
  obtain ⟨b1, b2, b3, b4⟩ := boxt w t
  have hil : i < L.length := (List.getElem?_eq_some_iff.1 hi).1
  obtain ⟨es, ck, hm, ho⟩ := (h.bel b3).hM
  have hlk := fun (W : World) (hW : W.heap[M]? = some (.map es ck)) => look_yes t hW ho hi h2
  have HSS : Aside _ := (show ∀ W : World, W.heap = ((w.alloc (.cells (tc t).toArray 108)).alloc (.cells (hl z16).toArray 29)).heap → W.cell? ⟨V, 1, none⟩ = some (.map (some M)) ∧ W.cell? ⟨w.heap.size, 0, none⟩ = some (.int .i64 (t.kd : Int)) ∧ W.cell? ⟨w.heap.size, 1, none⟩ = some (.int .i64 (t.of' : Int)) ∧ W.cell? ⟨w.heap.size, 2, none⟩ = some (.int .i64 t.wi) ∧ W.cell? ⟨w.heap.size, 3, none⟩ = some (.string t.un) ∧ W.cell? ⟨w.heap.size, 4, none⟩ = some (.string t.by') ∧ (Instr.lookup 110 (.map (some M)) (tv t) true).run Tryz.prog W = .ok (.tuple #[.int .i64 (i : Int), .bool true]) W from
    fun W hW => ⟨by have := (h.bel b3).hV; rw [← hW] at this; simp [World.cell?, this], by rw [← hW] at b1; obtain ⟨q1, q2, q3, q4, q5⟩ := tcells b1; exact ⟨q1, q2, q3, q4, q5, hlk W (by rw [hW]; exact hm)⟩⟩)
  have HNM : Aside _ := name_c i (by omega)
  have HB2 : Aside _ := b2
  have HB3 : Aside _ := b3
  clear hlk hm ho b1 b2 b3 b4 h
  show Calls Tryz.prog 38 #[.pointer (some ⟨V, 0, none⟩), .agg #[.int .i64 (t.kd : Int), .int .i64 (t.of' : Int), .int .i64 t.wi, .string t.un, .string t.by']] w _
  have eT : tv t = .agg #[.int .i64 (t.kd : Int), .int .i64 (t.of' : Int), .int .i64 t.wi, .string t.un, .string t.by'] := rfl
  have eW : (w.alloc (.cells (tc t).toArray 108)).alloc (.cells (hl z16).toArray 29) = (w.alloc (.cells #[.int .i64 (t.kd : Int), .int .i64 (t.of' : Int), .int .i64 t.wi, .string t.un, .string t.by'] 108)).alloc (.cells #[.int .u8 0, .int .u8 0, .int .u8 0, .int .u8 0, .int .u8 0, .int .u8 0, .int .u8 0, .int .u8 0, .int .u8 0, .int .u8 0, .int .u8 0, .int .u8 0, .int .u8 0, .int .u8 0, .int .u8 0, .int .u8 0] 29) := rfl
  rw [eW] at HB2 HB3 HSS
  rw [eT] at HSS
  clear eT eW
  generalize hk1 : (t.kd : Int) = k1 at *
  generalize hk2 : (t.of' : Int) = k2 at *
  generalize hk3 : t.wi = k3 at *
  generalize hk4 : t.un = k4 at *
  generalize hk5 : t.by' = k5 at *
  clear hk1 hk2 hk3 hk4 hk5
  go_enter Tryz.func38, Tryz.ntmps38
  go_wp2_with fail
  generalize (w.alloc (.cells #[.int .i64 k1, .int .i64 k2, .int .i64 k3, .string k4, .string k5] 108)).alloc (.cells #[.int .u8 0, .int .u8 0, .int .u8 0, .int .u8 0, .int .u8 0, .int .u8 0, .int .u8 0, .int .u8 0, .int .u8 0, .int .u8 0, .int .u8 0, .int .u8 0, .int .u8 0, .int .u8 0, .int .u8 0, .int .u8 0] 29) = W1 at *
  go_region_held3 (fun w' => w'.cell? ⟨V, 1, none⟩ = some (.map (some M)) ∧ w'.cell? ⟨w.heap.size, 0, none⟩ = some (.int .i64 k1) ∧ w'.cell? ⟨w.heap.size, 1, none⟩ = some (.int .i64 k2) ∧ w'.cell? ⟨w.heap.size, 2, none⟩ = some (.int .i64 k3) ∧ w'.cell? ⟨w.heap.size, 3, none⟩ = some (.string k4) ∧ w'.cell? ⟨w.heap.size, 4, none⟩ = some (.string k5) ∧ (Instr.lookup 110 (.map (some M)) (.agg #[.int .i64 k1, .int .i64 k2, .int .i64 k3, .string k4, .string k5]) true).run Tryz.prog w' = .ok (.tuple #[.int .i64 (i : Int), .bool true]) w') (exact HSS.out _ rfl) (fail)
  go_wp2_with fail
  refine Calls.mono (HNM.out _) ?_
  rintro e W2 ⟨rfl, hb⟩
  have h2' := heap_bel (show W1.drew.heap[w.heap.size + 1]? = _ from HB2.out) hb
  have HE : Aside _ := bel_set (HB3.out.trans (((bel_drew W1).trans hb).mono HB3.out.size)) (show w.heap.size ≤ w.heap.size + 1 by omega) (hl (nameL i)).toArray
  have HR : Aside _ := setRow_heap W2 (w.heap.size + 1) _ (hl (nameL i)).toArray 29 (0, 0) h2'
  clear HSS HNM HB2 HB3 hb
  go_wp2_with (refine st28 rfl (.tmp 4) (.tmp 28) rfl (w.heap.size + 1) (nameL i) rfl rfl z16 h2' (nameL_len i) rfl ?_)
  refine bodyPost_ret (v := hv (nameL i)) (res_1 (fn := Tryz.f38) (p := 4) rfl _ _ (w.heap.size + 1) (nameL i) rfl HR.out (nameL_len i)) rfl ?_
  exact ⟨rfl, HE.out⟩
set_option maxRecDepth 100000 in
set_option maxHeartbeats 1000000 in
theorem made_no (n₀ V G c M : Nat) (L : List Tm) (t : Tm) (w : World) (h : Va n₀ w V G c M L) (hle : L.length ≤ 1000000) (hn : t ∉ L) (h2 : 2 ≤ t.kd) (hfit : Fit t L.length) :
    Calls Tryz.prog 38 #[.pointer (some ⟨V, 0, none⟩), tv t] w fun e w' => e = .returned (hv (nameL L.length)) ∧ Made n₀ w w' V G M L t L.length := by
  obtain ⟨b1, b2, b3, b4⟩ := boxt w t
  obtain ⟨es, ck, hm, ho⟩ := (h.bel b3).hM
  have hlk := fun (W : World) (hW : W.heap[M]? = some (.map es ck)) => look_no t hW ho (fun _ => hn) h2
  have HSS : Aside _ := (show ∀ W : World, W.heap = ((w.alloc (.cells (tc t).toArray 108)).alloc (.cells (hl z16).toArray 29)).heap → W.cell? ⟨V, 1, none⟩ = some (.map (some M)) ∧ W.cell? ⟨w.heap.size, 0, none⟩ = some (.int .i64 (t.kd : Int)) ∧ W.cell? ⟨w.heap.size, 1, none⟩ = some (.int .i64 (t.of' : Int)) ∧ W.cell? ⟨w.heap.size, 2, none⟩ = some (.int .i64 t.wi) ∧ W.cell? ⟨w.heap.size, 3, none⟩ = some (.string t.un) ∧ W.cell? ⟨w.heap.size, 4, none⟩ = some (.string t.by') ∧ (Instr.lookup 110 (.map (some M)) (tv t) true).run Tryz.prog W = .ok (.tuple #[.int .i64 0, .bool false]) W from
    fun W hW => ⟨by have := (h.bel b3).hV; rw [← hW] at this; simp [World.cell?, this], by rw [← hW] at b1; obtain ⟨q1, q2, q3, q4, q5⟩ := tcells b1; exact ⟨q1, q2, q3, q4, q5, hlk W (by rw [hW]; exact hm)⟩⟩)
  have HNM : Aside _ := name_c L.length (by omega)
  have HAD : Aside (∀ W : World, W.heap = ((w.alloc (.cells (tc t).toArray 108)).alloc (.cells (hl z16).toArray 29)).heap → Calls Tryz.prog 36 #[.pointer (some ⟨V, 0, none⟩), tv t] W fun e w' => e = .returned (.int .i64 (L.length : Int)) ∧ ∃ G' c', Ad n₀ W w' V G G' c' M L t) := fun W hW => add_c n₀ V G c M L t W ((h.bel b3).keep (by rw [hW]) (by rw [hW]) (by rw [hW])) hle
  have lV := h.lV
  have lG := h.lG
  have lM := h.lM
  have vm := h.vm
  have gm := h.gm
  have vg := h.vg
  -- what holds behind add and the map's update
  have HP : Aside (∀ W W' : World, W.heap = ((w.alloc (.cells (tc t).toArray 108)).alloc (.cells (hl z16).toArray 29)).heap → Below w.heap.size w W → (∃ G' c', Ad n₀ W W' V G G' c' M L t) →
      (∀ X : World, X.heap = W'.heap → X.os = W'.os → X.tape = W'.tape → X.output = W'.output → X.cell? ⟨V, 1, none⟩ = some (.map (some M)) ∧ X.cell? ⟨w.heap.size, 0, none⟩ = some (.int .i64 (t.kd : Int)) ∧ X.cell? ⟨w.heap.size, 1, none⟩ = some (.int .i64 (t.of' : Int)) ∧ X.cell? ⟨w.heap.size, 2, none⟩ = some (.int .i64 t.wi) ∧ X.cell? ⟨w.heap.size, 3, none⟩ = some (.string t.un) ∧ X.cell? ⟨w.heap.size, 4, none⟩ = some (.string t.by') ∧
        ∃ Y : World, (Instr.mapUpdate 110 (.map (some M)) (tv t) (.int .i64 (L.length : Int))).run Tryz.prog X = .ok () Y ∧ Y.cell? ⟨V, 1, none⟩ = some (.map (some M)) ∧ Y.cell? ⟨w.heap.size, 0, none⟩ = some (.int .i64 (t.kd : Int)) ∧ Y.cell? ⟨w.heap.size, 1, none⟩ = some (.int .i64 (t.of' : Int)) ∧ Y.cell? ⟨w.heap.size, 2, none⟩ = some (.int .i64 t.wi) ∧ Y.cell? ⟨w.heap.size, 3, none⟩ = some (.string t.un) ∧ Y.cell? ⟨w.heap.size, 4, none⟩ = some (.string t.by') ∧ Y.heap[w.heap.size + 1]? = some (.cells (hl z16).toArray 29 (0, 0)) ∧ Made n₀ w Y V G M L t L.length)) := by
    rintro W W' hW hbW ⟨G', c', hA⟩ X hX ho1 ho2 ho3
    have sW : W.heap.size = w.heap.size + 2 := by rw [hW, b4]
    have keepW : ∀ k, k < W.heap.size → k ≠ V → k ≠ G → X.heap[k]? = W.heap[k]? := fun k hk h1 h2 => by rw [hX]; exact hA.chg.2.2.2.2 k hk (by rintro (e | e); exact h1 e; exact h2 e)
    have hXb : X.heap[w.heap.size]? = some (.cells (tc t).toArray 108 (0, 0)) := (keepW _ (by omega) (by omega) (by omega)).trans (by rw [hW]; exact b1)
    have hXz : X.heap[w.heap.size + 1]? = some (.cells (hl z16).toArray 29 (0, 0)) := (keepW _ (by omega) (by omega) (by omega)).trans (by rw [hW]; exact b2)
    have hXm : X.heap[M]? = some (.map es ck) := (keepW _ (by omega) vm.symm gm.symm).trans (by rw [hW]; exact hm)
    have hXV : X.heap[V]? = some (.cells #[.slice (some ⟨G', 0, none⟩) (L.length + 1) c', .map (some M)] 112 (0, 0)) := by rw [hX]; exact hA.hV
    obtain ⟨q1, q2, q3, q4, q5⟩ := tcells hXb
    have hMG' : M ≠ G' := by
      rcases hA.at' with e | e
      · rw [e]; exact gm.symm
      · omega
    have lMX : M < X.heap.size := (Array.getElem?_eq_some_iff.1 hXm).1
    refine ⟨by simp [World.cell?, hXV], q1, q2, q3, q4, q5, X.putObj M (.map (es.push { key := tv t, val := .int .i64 (L.length : Int), born := ck }) (ck + 1)), upd_new t _ hXm ho hn, ?_⟩
    have kY : ∀ k, k ≠ M → (X.putObj M (.map (es.push { key := tv t, val := .int .i64 (L.length : Int), born := ck }) (ck + 1))).heap[k]? = X.heap[k]? := fun k hk => World.putObj_heap_other hk
    have hYM : (X.putObj M (.map (es.push { key := tv t, val := .int .i64 (L.length : Int), born := ck }) (ck + 1))).heap[M]? = some (.map (es.push { key := tv t, val := .int .i64 (L.length : Int), born := ck }) (ck + 1)) := World.putObj_heap_same lMX
    have hYo : (X.putObj M (.map (es.push { key := tv t, val := .int .i64 (L.length : Int), born := ck }) (ck + 1))).os = X.os ∧ (X.putObj M (.map (es.push { key := tv t, val := .int .i64 (L.length : Int), born := ck }) (ck + 1))).tape = X.tape ∧ (X.putObj M (.map (es.push { key := tv t, val := .int .i64 (L.length : Int), born := ck }) (ck + 1))).output = X.output ∧ (X.putObj M (.map (es.push { key := tv t, val := .int .i64 (L.length : Int), born := ck }) (ck + 1))).heap.size = X.heap.size := ⟨rfl, rfl, rfl, by simp [World.putObj]⟩
    generalize X.putObj M (.map (es.push { key := tv t, val := .int .i64 (L.length : Int), born := ck }) (ck + 1)) = Y at *
    obtain ⟨p1, p2, p3, p4, p5⟩ := tcells ((kY w.heap.size (by omega)).trans hXb)
    refine ⟨by have := (kY V vm).trans hXV; simp [World.cell?, this], p1, p2, p3, p4, p5, (kY _ (by omega)).trans hXz, G', c', L ++ [t], ?_, ?_, ?_, by simp, .inr ⟨rfl, rfl, hn⟩⟩
    · refine ⟨by rw [List.length_append]; exact (kY V vm).trans hXV, ?_, ⟨_, _, hYM, ?_⟩, h.bV, ?_, h.bM, ?_, good_push h.good hfit⟩
      · obtain ⟨R, r1, r2⟩ := hA.hG
        exact ⟨R, (kY G' hMG'.symm).trans (by rw [hX]; exact r1), by rw [List.length_append]; exact r2⟩
      · rw [Array.toList_push]
        exact ho.push t h2 hn ck
      · rcases hA.at' with e | e
        · rw [e]; exact h.bG
        · have := h.bV; omega
      · obtain ⟨r, hr⟩ := h.root
        exact ⟨r ++ [t], by rw [hr]; rfl⟩
    · refine ⟨?_, ?_, ?_, ?_, fun k hk hx => ?_⟩
      · rw [hYo.1, ho1, hA.chg.1, hbW.os]
      · rw [hYo.2.1, ho2, hA.chg.2.1, hbW.tape]
      · rw [hYo.2.2.1, ho3, hA.chg.2.2.1, hbW.output]
      · rw [hYo.2.2.2, hX]; have := hA.chg.2.2.2.1; omega
      · rw [kY k (fun e => hx (.inr (.inr e))), keepW k (by omega) (fun e => hx (.inl e)) (fun e => hx (.inr (.inl e)))]
        exact hbW.block k hk
    · rcases hA.at' with e | e
      · exact .inl e
      · exact .inr (by omega)
  have HB2 : Aside _ := b2
  have HB3 : Aside _ := b3
  clear hlk hm ho b1 b2 b3 b4 h lV lG lM vm gm vg hfit hn
  generalize L.length = N at *
  obtain ⟨Pm, hPm⟩ : ∃ Pm : World → Prop, ∀ Y, Pm Y = Made n₀ w Y V G M L t N := ⟨_, fun _ => rfl⟩
  have HBM : Aside (∀ Y, Pm Y → Made n₀ w Y V G M L t N) := fun Y h => by rw [← hPm]; exact h
  obtain ⟨Pa, hPa⟩ : ∃ Pa : World → World → Prop, ∀ W W', Pa W W' = (∃ G' c', Ad n₀ W W' V G G' c' M L t) := ⟨_, fun _ _ => rfl⟩
  simp only [← hPm, ← hPa] at HP HAD
  clear hPm hPa
  show Calls Tryz.prog 38 #[.pointer (some ⟨V, 0, none⟩), .agg #[.int .i64 (t.kd : Int), .int .i64 (t.of' : Int), .int .i64 t.wi, .string t.un, .string t.by']] w _
  have eT : tv t = .agg #[.int .i64 (t.kd : Int), .int .i64 (t.of' : Int), .int .i64 t.wi, .string t.un, .string t.by'] := rfl
  have eW : (w.alloc (.cells (tc t).toArray 108)).alloc (.cells (hl z16).toArray 29) = (w.alloc (.cells #[.int .i64 (t.kd : Int), .int .i64 (t.of' : Int), .int .i64 t.wi, .string t.un, .string t.by'] 108)).alloc (.cells #[.int .u8 0, .int .u8 0, .int .u8 0, .int .u8 0, .int .u8 0, .int .u8 0, .int .u8 0, .int .u8 0, .int .u8 0, .int .u8 0, .int .u8 0, .int .u8 0, .int .u8 0, .int .u8 0, .int .u8 0, .int .u8 0] 29) := rfl
  rw [eW] at HB2 HB3 HSS HAD HP
  rw [eT] at HSS HAD HP
  clear eT eW
  generalize hk1 : (t.kd : Int) = k1 at *
  generalize hk2 : (t.of' : Int) = k2 at *
  generalize hk3 : t.wi = k3 at *
  generalize hk4 : t.un = k4 at *
  generalize hk5 : t.by' = k5 at *
  clear hk1 hk2 hk3 hk4 hk5
  go_enter Tryz.func38, Tryz.ntmps38
  go_wp2_with fail
  generalize (w.alloc (.cells #[.int .i64 k1, .int .i64 k2, .int .i64 k3, .string k4, .string k5] 108)).alloc (.cells #[.int .u8 0, .int .u8 0, .int .u8 0, .int .u8 0, .int .u8 0, .int .u8 0, .int .u8 0, .int .u8 0, .int .u8 0, .int .u8 0, .int .u8 0, .int .u8 0, .int .u8 0, .int .u8 0, .int .u8 0, .int .u8 0] 29) = W1 at *
  go_region_held3 (fun w' => w'.cell? ⟨V, 1, none⟩ = some (.map (some M)) ∧ w'.cell? ⟨w.heap.size, 0, none⟩ = some (.int .i64 k1) ∧ w'.cell? ⟨w.heap.size, 1, none⟩ = some (.int .i64 k2) ∧ w'.cell? ⟨w.heap.size, 2, none⟩ = some (.int .i64 k3) ∧ w'.cell? ⟨w.heap.size, 3, none⟩ = some (.string k4) ∧ w'.cell? ⟨w.heap.size, 4, none⟩ = some (.string k5) ∧ (Instr.lookup 110 (.map (some M)) (.agg #[.int .i64 k1, .int .i64 k2, .int .i64 k3, .string k4, .string k5]) true).run Tryz.prog w' = .ok (.tuple #[.int .i64 0, .bool false]) w') (exact HSS.out _ rfl) (fail)
  obtain ⟨_, d0, d1, d2, d3, d4, _⟩ := HSS.out W1.drew rfl
  go_wp2_with fail
  refine Calls.mono (HAD.out _ rfl) ?_
  rintro e W2 ⟨rfl, ha⟩
  have HQ : Aside _ := HP.out W1.drew W2 rfl (HB3.out.trans ((bel_drew W1).mono HB3.out.size)) ha
  clear d0 d1 d2 d3 d4 HP ha HAD HSS
  obtain ⟨s0, s1, s2, s3, s4, s5, Y, hup, y0, y1, y2, y3, y4, y5, yz, ym⟩ := HQ.out W2.drew rfl rfl rfl rfl
  have HS : Aside _ := And.intro s0 (And.intro s1 (And.intro s2 (And.intro s3 (And.intro s4 s5))))
  have HY : Aside _ := And.intro y0 (And.intro y1 (And.intro y2 (And.intro y3 (And.intro y4 y5))))
  have HZ : Aside _ := yz
  have HM : Aside _ := HBM.out _ ym
  clear s0 s1 s2 s3 s4 s5 y0 y1 y2 y3 y4 y5 yz ym HQ HBM
  go_wp2_with fail
  go_region_held3 (fun w' => w'.cell? ⟨V, 1, none⟩ = some (.map (some M)) ∧ w'.cell? ⟨w.heap.size, 0, none⟩ = some (.int .i64 k1) ∧ w'.cell? ⟨w.heap.size, 1, none⟩ = some (.int .i64 k2) ∧ w'.cell? ⟨w.heap.size, 2, none⟩ = some (.int .i64 k3) ∧ w'.cell? ⟨w.heap.size, 3, none⟩ = some (.string k4) ∧ w'.cell? ⟨w.heap.size, 4, none⟩ = some (.string k5)) (first | exact HS.out | exact HY.out) (fail)
  go_wp2_with fail
  refine Calls.mono (HNM.out _) ?_
  rintro e W3 ⟨rfl, hb⟩
  have hz := heap_bel HZ.out hb
  have HE : Aside (Made n₀ w (W3.setRow (w.heap.size + 1) (hl (nameL N)).toArray) V G M L t N) := by
    obtain ⟨G', c', L', a1, a2, a3, a4, a5⟩ := HM.out
    have hs : w.heap.size ≤ Y.heap.size := a2.2.2.2.1
    have hv3 := a1.bel hb
    have ne : ∀ k o, W3.heap[k]? = some o → (∀ cs, o ≠ .cells cs 29 (0, 0)) → k ≠ w.heap.size + 1 := by
      rintro k o hk hne rfl
      exact hne _ (by have := hk.symm.trans hz; simpa using this)
    have kk : ∀ k, k ≠ w.heap.size + 1 → (W3.setRow (w.heap.size + 1) (hl (nameL N)).toArray).heap[k]? = W3.heap[k]? := fun k hk => setRow_other _ _ _ _ hk
    refine ⟨G', c', L', hv3.keep (kk V (ne V _ hv3.hV (by simp))) (kk G' ?_) (kk M ?_), ?_, a3, a4, a5⟩
    · obtain ⟨R, r1, _⟩ := hv3.hG
      exact ne G' _ r1 (by simp)
    · obtain ⟨es, ck, m1, _⟩ := hv3.hM
      exact ne M _ m1 (by simp)
    · exact ⟨hb.os.trans a2.1, hb.tape.trans a2.2.1, hb.output.trans a2.2.2.1, by have := hb.size; simp; omega, fun k hk hx => (kk k (by omega)).trans ((hb.block k (by omega)).trans (a2.2.2.2.2 k hk hx))⟩
  have HR : Aside _ := setRow_heap W3 (w.heap.size + 1) _ (hl (nameL N)).toArray 29 (0, 0) hz
  clear HNM HB2 HB3 hb HM HZ HY HS
  go_wp2_with (refine st28 rfl (.tmp 4) (.tmp 28) rfl (w.heap.size + 1) (nameL N) rfl rfl z16 hz (nameL_len N) rfl ?_)
  refine bodyPost_ret (v := hv (nameL N)) (res_1 (fn := Tryz.f38) (p := 4) rfl _ _ (w.heap.size + 1) (nameL N) rfl HR.out (nameL_len N)) rfl ?_
  exact ⟨rfl, HE.out⟩
/-- made: whichever way. -/
theorem made_c (n₀ V G c M : Nat) (L : List Tm) (t : Tm) (w : World) (h : Va n₀ w V G c M L) (hle : L.length ≤ 1000000) (h2 : 2 ≤ t.kd) (hfit : Fit t L.length) :
    Calls Tryz.prog 38 #[.pointer (some ⟨V, 0, none⟩), tv t] w fun e w' => ∃ i, e = .returned (hv (nameL i)) ∧ i ≤ L.length ∧ Made n₀ w w' V G M L t i := by
  by_cases hn : t ∈ L
  · obtain ⟨i, hi⟩ := List.mem_iff_getElem?.1 hn
    refine (made_yes n₀ V G c M i L t w h hle hi h2).mono ?_
    rintro e w' ⟨rfl, hb⟩
    exact ⟨i, rfl, Nat.le_of_lt (List.getElem?_eq_some_iff.1 hi).1, G, c, L, h.bel hb, Vc.of_bel hb, .inl rfl, hi, .inl rfl⟩
  · refine (made_no n₀ V G c M L t w h hle hn h2 hfit).mono ?_
    rintro e w' ⟨rfl, hb⟩
    exact ⟨L.length, rfl, Nat.le_refl _, hb⟩
end Go.Proofs.YthdenbclfogojaaGreatDoor
