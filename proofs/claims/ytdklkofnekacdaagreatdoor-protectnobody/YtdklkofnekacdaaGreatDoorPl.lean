/- ProtectNobody, the walk. -/
import Derived.Test.YtdklkofnekacdaaGreatDoorPq
namespace Go.Proofs.YtdklkofnekacdaaGreatDoor
open Go.RowKit
set_option linter.unusedVariables false

/-- What stays while the vaults are gone through. -/
structure Lq (w X : World) (A : List Value) : Prop where
  bel : Below w.heap.size w X
  job : X.heap[w.heap.size]? = some (.cells A.toArray 30 (0, 0))
  va : X.heap[w.heap.size + 1]? = some (.cells #[.slice none 0 0, .map none] 74 (0, 0))
  two : X.heap[w.heap.size + 1 + 1]? = some (.cells #[.pointer none, .pointer (some ⟨w.heap.size + 1, 0, none⟩)] 31 (0, 0))
theorem Lq.go {w X X' : World} {A : List Value} (h : Lq w X A) (hb : Below X.heap.size X X') : Lq w X' A := ⟨bel_trans h.bel hb, heap_bel h.job hb, heap_bel h.va hb, heap_bel h.two hb⟩
theorem Lq.at {w X : World} {A : List Value} (h : Lq w X A) (i : Nat) (hi : i < 2) : ∃ p, X.cell? ⟨w.heap.size + 1 + 1, i, none⟩ = some (.pointer p) ∧ No X p := by
  match i, hi with
  | 0, _ => exact ⟨none, by simp [World.cell?, h.two], .inl rfl⟩
  | 1, _ => exact ⟨some ⟨w.heap.size + 1, 0, none⟩, by simp [World.cell?, h.two], .inr ⟨_, rfl, by simp [World.cell?, h.va]⟩⟩
theorem Lq.cell {w X : World} {A : List Value} (h : Lq w X A) {j : Nat} {x : Value} (hj : A[j]? = some x) : X.cell? ⟨w.heap.size, j, none⟩ = some x := by
  unfold World.cell?
  simp only [h.job]
  simpa using hj
theorem Lq.pk {w X : World} {A : List Value} (h : Lq w X A) : X.rangeAt w.heap.size 0 (A.take 27) := by
  intro j v hv
  have hj : A[j]? = some v := by
    rw [List.getElem?_take] at hv
    split at hv
    · exact hv
    · cases hv
  have := h.cell hj
  simpa using this
theorem three (w : World) (A : List Value) : Lq w (((w.alloc (.cells A.toArray 30)).alloc (.cells #[.slice none 0 0, .map none] 74)).alloc (.cells #[.pointer none, .pointer (some ⟨w.heap.size + 1, 0, none⟩)] 31)) A := by
  have a1 := heap_alloc_new w (.cells A.toArray 30)
  have b1 := bel1 w (.cells A.toArray 30)
  have a2 := heap_alloc_new (w.alloc (.cells A.toArray 30)) (.cells #[.slice none 0 0, .map none] 74)
  have b2 := bel1 (w.alloc (.cells A.toArray 30)) (.cells #[.slice none 0 0, .map none] 74)
  have a3 := heap_alloc_new ((w.alloc (.cells A.toArray 30)).alloc (.cells #[.slice none 0 0, .map none] 74)) (.cells #[.pointer none, .pointer (some ⟨w.heap.size + 1, 0, none⟩)] 31)
  have b3 := bel1 ((w.alloc (.cells A.toArray 30)).alloc (.cells #[.slice none 0 0, .map none] 74)) (.cells #[.pointer none, .pointer (some ⟨w.heap.size + 1, 0, none⟩)] 31)
  refine ⟨bel_trans (bel_trans b1 b2) b3, heap_bel (heap_bel a1 b2) b3, ?_, ?_⟩
  · have := heap_bel a2 b3
    simpa using this
  · simpa using a3
theorem eq38 (w : World) : (Op.equalIn 10000 38 (.agg zk.toArray) (.agg zk.toArray)).run Tryz.prog w = .ok true w := by kernel_rfl
theorem ld38g {ops : Array Oper} {rest : List Oper} {o : Oper} {a : Act} {w : World} {Q : Exit → Act → World → Prop} (hw : Region.wanted o (yielded ops a.tmps) = true) (x : Operand) (ho : o.op = .load 38 x) (g : Nat) (hx : a.eval x = .pointer (some ⟨g, 0, none⟩)) (Z : List Value) (hg : w.heap[g]? = some (.cells Z.toArray 38 (0, 0))) (hs : Z.length = 48)
    (h : wpList Tryz.prog ops Q rest (a.put o.dst (.agg Z.toArray)) w) : wpList Tryz.prog ops Q (o :: rest) a w :=
  wpList_step fun K hK => by
    simp only [hw, if_true]
    exact wp_load_row 38 x ho g hx 38 _ (0, 0) _ hg u38 rfl (i38.trans (by simp [hs])) (hK _ _ h)
theorem ut38 : Tryz.prog.underlying 38 = some (.struct (Tryz.prog.fieldsOf 38)) := u38
theorem ut28 : Tryz.prog.underlying 28 = some (.struct (Tryz.prog.fieldsOf 28)) := u28
def h1 : List UInt8 := 1 :: List.replicate 15 0
set_option maxRecDepth 100000 in
set_option maxHeartbeats 2000000 in
theorem nobody_law (A : List Value) (hA : A.length = 33) (w : World) (hE : w.cell? ⟨0, 0, none⟩ = some (rtp 57)) :
    Calls Tryz.prog 4 #[.agg A.toArray] w fun e w' => e = .returned (.bool true) ∧ Below w.heap.size w w' := by
  obtain ⟨x27, hx27⟩ : ∃ x, A[27]? = some x := ⟨_, List.getElem?_eq_getElem (by rw [hA]; decide)⟩
  obtain ⟨x28, hx28⟩ : ∃ x, A[28]? = some x := ⟨_, List.getElem?_eq_getElem (by rw [hA]; decide)⟩
  obtain ⟨x29, hx29⟩ : ∃ x, A[29]? = some x := ⟨_, List.getElem?_eq_getElem (by rw [hA]; decide)⟩
  obtain ⟨x32, hx32⟩ : ∃ x, A[32]? = some x := ⟨_, List.getElem?_eq_getElem (by rw [hA]; decide)⟩
  have HA27 : Hid ((A.take 27).length = 27) := by show _ = _; rw [List.length_take, hA]; rfl
  have X27 : Hid _ := hx27
  have X28 : Hid _ := hx28
  have X29 : Hid _ := hx29
  have X32 : Hid _ := hx32
  have HEE : Hid _ := hE
  have HMK : Hid (∀ p X, No X p → Calls Tryz.prog 8 #[.pointer p, hv h1] X fun e w' => e = .returned (.tuple #[.agg zk.toArray, .int .i64 1]) ∧ Below X.heap.size X w') := fun p X h => make_no p h1 rfl X h
  have HIN : Hid (∀ p bv x X, No X p → _) := initial_no
  have HNX : Hid (∀ p X, No X p → _) := next_no
  have HSE : Hid (∀ p A x X, No X p → Calls Tryz.prog 13 #[.pointer p, .agg zk.toArray, .agg (A : List Value).toArray, x] X _) := fun p A x X h => seal_no p zk A rfl x X h
  have HOP : Hid (∀ p x y z X, No X p → Calls Tryz.prog 16 #[.pointer p, .agg zk.toArray, x, y, z] X _) := fun p x y z X h => open_no p zk rfl x y z X h
  have HPH : Hid (∀ p x y X, No X p → Calls Tryz.prog 18 #[.pointer p, .agg zk.toArray, x, y] X _) := fun p x y X h => phase_no p zk rfl x y X h
  have HTG : Hid (∀ p x y X, No X p → _) := tag_no
  have HWR : Hid (∀ X : World, X.cell? ⟨0, 0, none⟩ = some (rtp 57) → _) := wrong_1
  have HQ38 : Hid (∀ X, _) := eq38
  have q := z38
  have hz : zk.length = 48 := rfl
  have hzn : ¬ zk = [] := fun h => by rw [h] at hz; cases hz
  have HZ1 : Hid _ := zk_1
  have H3 : Hid _ := three w A
  have q28 := z28
  have hp : pk0.length = 27 := rfl
  have hpn : ¬ pk0 = [] := fun h => by rw [h] at hp; cases hp
  have HP1 : Hid _ := pk_1
  have HP26 : Hid (pk0[26]? = some (.int .i64 0)) := rfl
  have HQ36 : Hid (∀ X, _) := eqz_t
  clear hx27 hx28 hx29 hx32 hE hA
  generalize zk = Z at *
  generalize pk0 = PK at *
  go_enter Tryz.func4, Tryz.ntmps4
  go_wp2_with fail
  generalize ((w.alloc (.cells A.toArray 30)).alloc (.cells #[.slice none 0 0, .map none] 74)).alloc (.cells #[.pointer none, .pointer (some ⟨w.heap.size + 1, 0, none⟩)] 31) = W1 at *
  go_loopg [23] 3 (fun kx s23 wr => ∃ i : Nat, s23 = .int .i64 (i : Int) ∧ i ≤ 2 ∧ 2 - i ≤ kx ∧ Hid (Lq w wr A))
  case atStart => exact ⟨0, rfl, by omega, by omega, H3.out⟩
  case round =>
    obtain ⟨i, rfl, hi1, hg, HQ2⟩ := hrel
    by_cases hlt : i < 2
    · have i1 : (i : Int) < 2 := by omega
      have i1' : decide ((i : Int) < 2) = true := by simpa using i1
      have i0' : (0 : Int) ≤ (i : Int) := by omega
      have iw : IntKind.i64.wrap ((i : Int) + 1) = ((i + 1 : Nat) : Int) := by rw [IntKind.wrap_i64]; omega
      obtain ⟨p, hc, hn⟩ := HQ2.out.at i hlt
      have HNwr : Hid _ := hn
      have Hwr : Hid (Lq w wr A) := HQ2.out
      clear hn HQ2
      as_aux_lemma =>
      go_wp2_with fail
      refine Calls.mono (HMK.out p wr HNwr.out) ?_
      rintro e wra ⟨rfl, hbx⟩
      have Hwra : Hid (Lq w wra A) := Hwr.out.go hbx
      have HNN : Hid (No wra p) := No.bel (show No wr p from HNwr.out) hbx
      have HNW : Hid _ := heap_alloc_new wra (.cells Z.toArray 38)
      clear hbx Hwr HNwr
      as_aux_lemma =>
      go_wp2_with (refine wpList_store_row rfl 38 (.tmp 5) (.tmp 31) rfl wra.heap.size Z.toArray rfl rfl 38 _ HNW.out (i38.trans (by simp [hz])) rfl HZ1.out (Hid.out ?_))
      have hbs : Below wra.heap.size wra ((wra.alloc (.cells Z.toArray 38)).setRow wra.heap.size Z.toArray) := bel_set (bel1 wra _) (Nat.le_refl _) _
      have HY1 : Hid (Lq w ((wra.alloc (.cells Z.toArray 38)).setRow wra.heap.size Z.toArray) A) := Hwra.out.go hbs
      have HNY1 : Hid (No ((wra.alloc (.cells Z.toArray 38)).setRow wra.heap.size Z.toArray) p) := No.bel (show No wra p from HNN.out) hbs
      have HKY1 : Hid _ := setRow_heap (wra.alloc (.cells Z.toArray 38)) wra.heap.size _ Z.toArray 38 (0, 0) HNW.out
      clear hbs HNW HNN Hwra
      refine mkHid ?_
      generalize (wra.alloc (.cells Z.toArray 38)).setRow wra.heap.size Z.toArray = Y1 at *
      obtain ⟨B1, hB1⟩ : ∃ B, wra.heap.size = B := ⟨_, rfl⟩
      have K1 : Hid (Y1.heap[B1]? = some (.cells Z.toArray 38 (0, 0))) := by rw [← hB1]; exact HKY1.out
      rw [hB1]
      clear HKY1 hB1
      have c32 := HY1.out.cell X32.out
      as_aux_lemma =>
      go_wp2_with fail
      refine Calls.mono (HIN.out p x32 true Y1 HNY1.out) ?_
      rintro e Y1a ⟨rfl, hbx⟩
      have HY1a : Hid (Lq w Y1a A) := HY1.out.go hbx
      have HNN : Hid (No Y1a p) := No.bel (show No Y1 p from HNY1.out) hbx
      have HNW : Hid _ := heap_alloc_new Y1a (.cells Z.toArray 38)
      have K1' : Hid (Y1a.heap[B1]? = some (.cells Z.toArray 38 (0, 0))) := heap_bel K1.out hbx
      clear K1
      clear hbx HY1 HNY1
      as_aux_lemma =>
      go_wp2_with (refine wpList_store_row rfl 38 (.tmp 7) (.tmp 38) rfl Y1a.heap.size Z.toArray rfl rfl 38 _ HNW.out (i38.trans (by simp [hz])) rfl HZ1.out (Hid.out ?_))
      have hbs : Below Y1a.heap.size Y1a ((Y1a.alloc (.cells Z.toArray 38)).setRow Y1a.heap.size Z.toArray) := bel_set (bel1 Y1a _) (Nat.le_refl _) _
      have HY2 : Hid (Lq w ((Y1a.alloc (.cells Z.toArray 38)).setRow Y1a.heap.size Z.toArray) A) := HY1a.out.go hbs
      have HNY2 : Hid (No ((Y1a.alloc (.cells Z.toArray 38)).setRow Y1a.heap.size Z.toArray) p) := No.bel (show No Y1a p from HNN.out) hbs
      have HKY2 : Hid _ := setRow_heap (Y1a.alloc (.cells Z.toArray 38)) Y1a.heap.size _ Z.toArray 38 (0, 0) HNW.out
      have K1 : Hid (((Y1a.alloc (.cells Z.toArray 38)).setRow Y1a.heap.size Z.toArray).heap[B1]? = some (.cells Z.toArray 38 (0, 0))) := heap_bel K1'.out hbs
      clear K1'
      clear hbs HNW HNN HY1a
      refine mkHid ?_
      generalize (Y1a.alloc (.cells Z.toArray 38)).setRow Y1a.heap.size Z.toArray = Y2 at *
      obtain ⟨B2, hB2⟩ : ∃ B, Y1a.heap.size = B := ⟨_, rfl⟩
      have K2 : Hid (Y2.heap[B2]? = some (.cells Z.toArray 38 (0, 0))) := by rw [← hB2]; exact HKY2.out
      rw [hB2]
      clear HKY2 hB2
      as_aux_lemma =>
      go_wp2_with fail
      refine Calls.mono (HNX.out p Y2 HNY2.out) ?_
      rintro e Y2a ⟨rfl, hbx⟩
      have HY2a : Hid (Lq w Y2a A) := HY2.out.go hbx
      have HNN : Hid (No Y2a p) := No.bel (show No Y2 p from HNY2.out) hbx
      have HNW : Hid _ := heap_alloc_new Y2a (.cells Z.toArray 38)
      have K1' : Hid (Y2a.heap[B1]? = some (.cells Z.toArray 38 (0, 0))) := heap_bel K1.out hbx
      have K2' : Hid (Y2a.heap[B2]? = some (.cells Z.toArray 38 (0, 0))) := heap_bel K2.out hbx
      clear K1 K2
      clear hbx HY2 HNY2
      as_aux_lemma =>
      go_wp2_with (refine wpList_store_row rfl 38 (.tmp 9) (.tmp 44) rfl Y2a.heap.size Z.toArray rfl rfl 38 _ HNW.out (i38.trans (by simp [hz])) rfl HZ1.out (Hid.out ?_))
      have hbs : Below Y2a.heap.size Y2a ((Y2a.alloc (.cells Z.toArray 38)).setRow Y2a.heap.size Z.toArray) := bel_set (bel1 Y2a _) (Nat.le_refl _) _
      have HY3 : Hid (Lq w ((Y2a.alloc (.cells Z.toArray 38)).setRow Y2a.heap.size Z.toArray) A) := HY2a.out.go hbs
      have HNY3 : Hid (No ((Y2a.alloc (.cells Z.toArray 38)).setRow Y2a.heap.size Z.toArray) p) := No.bel (show No Y2a p from HNN.out) hbs
      have HKY3 : Hid _ := setRow_heap (Y2a.alloc (.cells Z.toArray 38)) Y2a.heap.size _ Z.toArray 38 (0, 0) HNW.out
      have K1 : Hid (((Y2a.alloc (.cells Z.toArray 38)).setRow Y2a.heap.size Z.toArray).heap[B1]? = some (.cells Z.toArray 38 (0, 0))) := heap_bel K1'.out hbs
      have K2 : Hid (((Y2a.alloc (.cells Z.toArray 38)).setRow Y2a.heap.size Z.toArray).heap[B2]? = some (.cells Z.toArray 38 (0, 0))) := heap_bel K2'.out hbs
      clear K1' K2'
      clear hbs HNW HNN HY2a
      refine mkHid ?_
      generalize (Y2a.alloc (.cells Z.toArray 38)).setRow Y2a.heap.size Z.toArray = Y3 at *
      obtain ⟨B3, hB3⟩ : ∃ B, Y2a.heap.size = B := ⟨_, rfl⟩
      have K3 : Hid (Y3.heap[B3]? = some (.cells Z.toArray 38 (0, 0))) := by rw [← hB3]; exact HKY3.out
      rw [hB3]
      clear HKY3 hB3
      have c27 := HY3.out.cell X27.out
      have HPKR : Hid _ := HY3.out.pk
      have p27 : (Tryz.prog.info? 28).map (·.size) = some (A.take 27).length := i28.trans (by rw [HA27.out])
      as_aux_lemma =>
      go_wp2_with (refine wpList_load_mid rfl 28 (.tmp 49) rfl w.heap.size 0 rfl (A.take 27) _ HPKR.out ut28 rfl p27 ?_)
      refine Calls.mono (HSE.out p (A.take 27) x27 Y3 HNY3.out) ?_
      rintro e Y4 ⟨rfl, hbx⟩
      have HY4 : Hid (Lq w Y4 A) := HY3.out.go hbx
      have HNY4 : Hid (No Y4 p) := No.bel (show No Y3 p from HNY3.out) hbx
      have K1' : Hid (Y4.heap[B1]? = some (.cells Z.toArray 38 (0, 0))) := heap_bel K1.out hbx
      have K2' : Hid (Y4.heap[B2]? = some (.cells Z.toArray 38 (0, 0))) := heap_bel K2.out hbx
      have K3' : Hid (Y4.heap[B3]? = some (.cells Z.toArray 38 (0, 0))) := heap_bel K3.out hbx
      clear hbx HY3 HNY3 K1 K2 K3
      have K1 : Hid _ := K1'.out
      have K2 : Hid _ := K2'.out
      have K3 : Hid _ := K3'.out
      clear K1' K2' K3'
      have c32 := HY4.out.cell X32.out
      have c29 := HY4.out.cell X29.out
      have c28 := HY4.out.cell X28.out
      as_aux_lemma =>
      go_wp2_with fail
      refine Calls.mono (HOP.out p x32 x29 x28 Y4 HNY4.out) ?_
      rintro e Y5 ⟨rfl, hbx⟩
      have hbs : Below Y5.heap.size Y5 ((Y5.alloc (.cells PK.toArray 28)).setRow Y5.heap.size PK.toArray) := bel_set (bel1 Y5 _) (Nat.le_refl _) _
      have hbt := bel_trans hbx hbs
      have HY6 : Hid (Lq w ((Y5.alloc (.cells PK.toArray 28)).setRow Y5.heap.size PK.toArray) A) := HY4.out.go hbt
      have HNY6 : Hid (No ((Y5.alloc (.cells PK.toArray 28)).setRow Y5.heap.size PK.toArray) p) := No.bel (show No Y4 p from HNY4.out) hbt
      have HNW : Hid _ := heap_alloc_new Y5 (.cells PK.toArray 28)
      have KP : Hid _ := setRow_heap (Y5.alloc (.cells PK.toArray 28)) Y5.heap.size _ PK.toArray 28 (0, 0) HNW.out
      have K1' : Hid (((Y5.alloc (.cells PK.toArray 28)).setRow Y5.heap.size PK.toArray).heap[B1]? = some (.cells Z.toArray 38 (0, 0))) := heap_bel K1.out hbt
      have K2' : Hid (((Y5.alloc (.cells PK.toArray 28)).setRow Y5.heap.size PK.toArray).heap[B2]? = some (.cells Z.toArray 38 (0, 0))) := heap_bel K2.out hbt
      have K3' : Hid (((Y5.alloc (.cells PK.toArray 28)).setRow Y5.heap.size PK.toArray).heap[B3]? = some (.cells Z.toArray 38 (0, 0))) := heap_bel K3.out hbt
      clear K1 K2 K3
      have K1 : Hid _ := K1'.out
      have K2 : Hid _ := K2'.out
      have K3 : Hid _ := K3'.out
      clear K1' K2' K3'
      clear hbx hbs hbt HY4 HNY4 c32 c28 c29
      as_aux_lemma =>
      go_wp2_with (refine wpList_store_row rfl 28 (.tmp 13) (.tmp 66) rfl Y5.heap.size PK.toArray rfl rfl 28 _ HNW.out (i28.trans (by simp [hp])) rfl HP1.out (Hid.out ?_))
      clear HNW
      refine mkHid ?_
      generalize (Y5.alloc (.cells PK.toArray 28)).setRow Y5.heap.size PK.toArray = Y6 at *
      generalize Y5.heap.size = B4 at *
      have c32 := HY6.out.cell X32.out
      have c29 := HY6.out.cell X29.out
      as_aux_lemma =>
      go_wp2_with fail
      refine Calls.mono (HPH.out p x32 x29 Y6 HNY6.out) ?_
      rintro e Y7 ⟨rfl, hbx⟩
      have HY7 : Hid (Lq w Y7 A) := HY6.out.go hbx
      have HNY7 : Hid (No Y7 p) := No.bel (show No Y6 p from HNY6.out) hbx
      have KP' : Hid (Y7.heap[B4]? = some (.cells PK.toArray 28 (0, 0))) := heap_bel KP.out hbx
      clear KP
      have KP : Hid _ := KP'.out
      have K1' : Hid (Y7.heap[B1]? = some (.cells Z.toArray 38 (0, 0))) := heap_bel K1.out hbx
      have K2' : Hid (Y7.heap[B2]? = some (.cells Z.toArray 38 (0, 0))) := heap_bel K2.out hbx
      have K3' : Hid (Y7.heap[B3]? = some (.cells Z.toArray 38 (0, 0))) := heap_bel K3.out hbx
      clear K1 K2 K3
      have K1 : Hid _ := K1'.out
      have K2 : Hid _ := K2'.out
      have K3 : Hid _ := K3'.out
      clear K1' K2' K3'
      clear hbx KP' HY6 HNY6 c32 c29
      have c32 := HY7.out.cell X32.out
      as_aux_lemma =>
      go_wp2_with fail
      refine Calls.mono (HTG.out p (.slice none 0 0) x32 Y7 HNY7.out) ?_
      rintro e Y8 ⟨rfl, hbx⟩
      have hbs : Below Y8.heap.size Y8 ((Y8.alloc (.cells (hl z16).toArray 36)).setRow Y8.heap.size (hl z16).toArray) := bel_set (bel1 Y8 _) (Nat.le_refl _) _
      have hbt := bel_trans hbx hbs
      have HY9 : Hid (Lq w ((Y8.alloc (.cells (hl z16).toArray 36)).setRow Y8.heap.size (hl z16).toArray) A) := HY7.out.go hbt
      have HNW : Hid _ := heap_alloc_new Y8 (.cells (hl z16).toArray 36)
      have KT : Hid _ := setRow_heap (Y8.alloc (.cells (hl z16).toArray 36)) Y8.heap.size _ (hl z16).toArray 36 (0, 0) HNW.out
      have KP' : Hid (((Y8.alloc (.cells (hl z16).toArray 36)).setRow Y8.heap.size (hl z16).toArray).heap[B4]? = some (.cells PK.toArray 28 (0, 0))) := heap_bel KP.out hbt
      clear KP
      have KP : Hid _ := KP'.out
      have K1' : Hid (((Y8.alloc (.cells (hl z16).toArray 36)).setRow Y8.heap.size (hl z16).toArray).heap[B1]? = some (.cells Z.toArray 38 (0, 0))) := heap_bel K1.out hbt
      have K2' : Hid (((Y8.alloc (.cells (hl z16).toArray 36)).setRow Y8.heap.size (hl z16).toArray).heap[B2]? = some (.cells Z.toArray 38 (0, 0))) := heap_bel K2.out hbt
      have K3' : Hid (((Y8.alloc (.cells (hl z16).toArray 36)).setRow Y8.heap.size (hl z16).toArray).heap[B3]? = some (.cells Z.toArray 38 (0, 0))) := heap_bel K3.out hbt
      clear K1 K2 K3
      have K1 : Hid _ := K1'.out
      have K2 : Hid _ := K2'.out
      have K3 : Hid _ := K3'.out
      clear K1' K2' K3'
      clear hbx hbs hbt KP' HY7 HNY7 c32
      as_aux_lemma =>
      go_wp2_with (refine st28 rfl (.tmp 17) (.tmp 83) rfl Y8.heap.size z16 rfl rfl z16 HNW.out rfl rfl (Hid.out ?_))
      clear HNW
      rw [hz28]
      refine mkHid ?_
      generalize (Y8.alloc (.cells (hl z16).toArray 36)).setRow Y8.heap.size (hl z16).toArray = Y9 at *
      generalize Y8.heap.size = B5 at *
      have c26 : Y9.cell? ⟨B4, 26, none⟩ = some (.int .i64 0) := by
        unfold World.cell?
        simp only [KP.out]
        simpa using HP26.out
      have q38 := HQ38.out
      have q36 := HQ36.out
      have HE9 : Hid (Y9.cell? ⟨0, 0, none⟩ = some (rtp 57)) := cell_bel HEE.out HY9.out.bel
      as_aux_lemma =>
      go_wp2_with (first
        | refine wpList_load_row rfl 38 (.tmp 5) rfl B1 rfl 38 _ (0, 0) _ K1.out ut38 rfl (i38.trans (by simp [hz])) ?_
        | refine ld38g (by rfl) (.tmp 7) rfl B2 rfl Z K2.out hz ?_
        | refine ld38g (by rfl) (.tmp 5) rfl B1 rfl Z K1.out hz ?_
        | refine ld38g (by rfl) (.tmp 9) rfl B3 rfl Z K3.out hz ?_)
      refine Calls.mono (HWR.out Y9 HE9.out) ?_
      rintro e Y10 ⟨rfl, hbx⟩
      have HY10 : Hid (Lq w Y10 A) := HY9.out.go hbx
      have KT' : Hid (Y10.heap[B5]? = some (.cells (hl z16).toArray 36 (0, 0))) := heap_bel KT.out hbx
      have c26' := cell_bel c26 hbx
      clear hbx c26 KT HY9 HE9 K1 K2 K3 KP
      as_aux_lemma =>
      go_wp2_with (refine ld28g (by rfl) (.tmp 17) rfl B5 rfl z16 KT'.out rfl ?_)
      go_roundg (2 - (i + 1))
      case measure => omega
      case rel => exact ⟨i + 1, rfl, by omega, Nat.le_refl _, HY10.out⟩
    · have i1 : ¬ (i : Int) < 2 := by omega
      have i1' : decide ((i : Int) < 2) = false := by simpa using i1
      as_aux_lemma =>
      go_wp2_with fail
      go_ret
      exact ⟨rfl, HQ2.out.bel⟩
end Go.Proofs.YtdklkofnekacdaaGreatDoor
