/- HandshakeNobody, the walk. -/
import Derived.Test.YthdenbclfogojaaGreatDoorNw
import Derived.Deep.RegionHeld
import Derived.Deep.RegionHeld3
namespace Go.Proofs.YthdenbclfogojaaGreatDoor
open Go.RowKit Go.Shelf Go.Lib
set_option linter.unusedVariables false

theorem newBook_c (w : World) : Calls Tryz.prog 15 #[] w fun e w' => (∃ k, e = .returned (.pointer k)) ∧ Below w.heap.size w w' := by
  have hb : Below w.heap.size w ((w.alloc (.map #[] 0)).alloc (.cells #[.map (some w.heap.size)] 64)) := bel_trans (bel1 w _) (bel1 _ _)
  have HB : Hid _ := hb
  clear hb
  have q : ∀ W : World, (Instr.makeMap 62 none).run Tryz.prog W = .ok (.map (some W.heap.size)) (W.alloc (.map #[] 0)) := fun W => by
    kernel_rfl
  go_enter Tryz.func15, Tryz.ntmps15
  go_wp2_with fail
  go_ret
  exact ⟨⟨_, rfl⟩, HB.out⟩
/-- What stays while the machines are gone through. -/
structure Lp (w X : World) (A : List Value) : Prop where
  bel : Below w.heap.size w X
  side : X.heap[w.heap.size]? = some (.cells A.toArray 25 (0, 0))
  ma : X.heap[w.heap.size + 1]? = some (.cells ma0.toArray 46 (0, 0))
  two : X.heap[w.heap.size + 1 + 1]? = some (.cells #[.pointer none, .pointer (some ⟨w.heap.size + 1, 0, none⟩)] 26 (0, 0))
theorem Lp.go {w X X' : World} {A : List Value} (h : Lp w X A) (hb : Below X.heap.size X X') : Lp w X' A := ⟨bel_trans h.bel hb, heap_bel h.side hb, heap_bel h.ma hb, heap_bel h.two hb⟩
theorem Lp.at {w X : World} {A : List Value} (h : Lp w X A) (i : Nat) (hi : i < 2) : ∃ p, X.cell? ⟨w.heap.size + 1 + 1, i, none⟩ = some (.pointer p) ∧ Nm X p := by
  match i, hi with
  | 0, _ => exact ⟨none, by simp [World.cell?, h.two], .inl rfl⟩
  | 1, _ => exact ⟨some ⟨w.heap.size + 1, 0, none⟩, by simp [World.cell?, h.two], .inr ⟨_, rfl, h.ma⟩⟩
theorem three (w : World) (A : List Value) : Lp w (((w.alloc (.cells A.toArray 25)).alloc (.cells ma0.toArray 46)).alloc (.cells #[.pointer none, .pointer (some ⟨w.heap.size + 1, 0, none⟩)] 26)) A := by
  have a1 := heap_alloc_new w (.cells A.toArray 25)
  have b1 := bel1 w (.cells A.toArray 25)
  have a2 := heap_alloc_new (w.alloc (.cells A.toArray 25)) (.cells ma0.toArray 46)
  have b2 := bel1 (w.alloc (.cells A.toArray 25)) (.cells ma0.toArray 46)
  have a3 := heap_alloc_new ((w.alloc (.cells A.toArray 25)).alloc (.cells ma0.toArray 46)) (.cells #[.pointer none, .pointer (some ⟨w.heap.size + 1, 0, none⟩)] 26)
  have b3 := bel1 ((w.alloc (.cells A.toArray 25)).alloc (.cells ma0.toArray 46)) (.cells #[.pointer none, .pointer (some ⟨w.heap.size + 1, 0, none⟩)] 26)
  refine ⟨bel_trans (bel_trans b1 b2) b3, heap_bel (heap_bel a1 b2) b3, ?_, ?_⟩
  · have := heap_bel a2 b3
    simpa using this
  · simpa using a3
/-- The law's state: the machines, and a vault. -/
structure Ly (w : World) (A : List Value) (V : Nat) (X : World) : Prop where
  lp : Lp w X A
  va : ∃ n G c M, Va n X V G c M [rt]
theorem Ly.go {w X X' : World} {A : List Value} {V : Nat} (h : Ly w A V X) (hb : Below X.heap.size X X') : Ly w A V X' := by
  obtain ⟨h1, n, G, c, M, hv⟩ := h
  exact ⟨h1.go hb, n, G, c, M, hv.bel hb⟩
theorem Ly.root {w X : World} {A : List Value} {V : Nat} (h : Ly w A V X) : Calls Tryz.prog 13 #[.pointer (some ⟨V, 0, none⟩)] X fun e w' => e = .returned (hv (nameL 0)) ∧ Below X.heap.size X w' := by
  obtain ⟨h1, n, G, c, M, hv⟩ := h
  exact root_c hv (by decide)
theorem Ly.rng {w X : World} {A : List Value} {V : Nat} (h : Ly w A V X) : X.rangeAt w.heap.size 0 A := by
  intro j v hv
  unfold World.cell?
  simp only [h.lp.side]
  simpa using hv
theorem ut25 : Tryz.prog.underlying 25 = some (.struct (Tryz.prog.fieldsOf 25)) := by kernel_rfl
theorem it25 : (Tryz.prog.info? 25).map (·.size) = some 6 := by kernel_rfl
theorem step_store_row {P : Program} {ops : Array Oper} {o : Oper} {a : Act} {w : World} {K : Act → World → Prop} {Q : Exit → Act → World → Prop} {E : Prop} (hgd : o.guard = none) (ty : TypeId) (x y : Operand) (ho : o.op = .store ty x y)
    (g : Nat) (cells : Array Value) (hx : a.eval x = .pointer (some ⟨g, 0, none⟩)) (hy : a.eval y = .agg cells)
    (t : TypeId) (old : Array Value) (hg : w.heap[g]? = some (.cells old t (0, 0))) (hi : (P.info? ty).map (·.size) = some cells.size)
    (hold : old.size = cells.size) (h1 : cells.all (·.oneCell') = true) (h : K (a.put o.dst undef) (w.setRow g cells)) :
    if Region.wanted o (yielded ops a.tmps) = true then Oper.wp P o a w K Q else E := by
  have hw : Region.wanted o (yielded ops a.tmps) = true := by simp [Region.wanted, hgd]
  rw [if_pos hw]
  exact wp_store_row ty x y ho g cells hx hy t old hg hi hold h1 h
theorem Va.setBox33 {n₀ V G c M : Nat} {L : List Tm} {w : World} (h : Va n₀ w V G c M L) {B : Nat} {cs : Array Value} (hB : w.heap[B]? = some (.cells cs 33 (0, 0))) (ds : Array Value) : Va n₀ (w.setRow B ds) V G c M L := by
  have ne : ∀ k o, w.heap[k]? = some o → (∀ cs, o ≠ .cells cs 33 (0, 0)) → k ≠ B := by
    rintro k o hk hne rfl
    exact hne _ (by have := hk.symm.trans hB; simpa using this)
  refine h.keep (setRow_other _ _ _ _ (ne V _ h.hV (by simp))) (setRow_other _ _ _ _ ?_) (setRow_other _ _ _ _ ?_)
  · obtain ⟨R, r1, _⟩ := h.hG
    exact ne G _ r1 (by simp)
  · obtain ⟨es, ck, m1, _⟩ := h.hM
    exact ne M _ m1 (by simp)
theorem Ly.set {w X : World} {A : List Value} {V : Nat} (h : Ly w A V X) {B : Nat} {cs : Array Value} (hB : X.heap[B]? = some (.cells cs 33 (0, 0))) (hb : w.heap.size ≤ B) (ds : Array Value) : Ly w A V (X.setRow B ds) := by
  have ne : ∀ k o, X.heap[k]? = some o → (∀ cs, o ≠ .cells cs 33 (0, 0)) → k ≠ B := by
    rintro k o hk hne rfl
    exact hne _ (by have := hk.symm.trans hB; simpa using this)
  obtain ⟨h1, n, G, c, M, hv⟩ := h
  exact ⟨⟨bel_set h1.bel hb ds, (setRow_other _ _ _ _ (ne _ _ h1.side (by simp))).trans h1.side, (setRow_other _ _ _ _ (ne _ _ h1.ma (by simp))).trans h1.ma, (setRow_other _ _ _ _ (ne _ _ h1.two (by simp))).trans h1.two⟩, n, G, c, M, hv.setBox33 hB ds⟩
theorem ut33 : Tryz.prog.underlying 33 = some (.struct (Tryz.prog.fieldsOf 33)) := u33
theorem rng33 {X : World} {B : Nat} {C : List Value} (h : X.heap[B]? = some (.cells C.toArray 33 (0, 0))) : X.rangeAt B 0 C := by
  intro j v hv
  unfold World.cell?
  simp only [h]
  simpa using hv
/-- New of no vault; New of a vault and no book. -/
theorem nov (p : Option Addr) (w : World) (h : No w p) (k : Option Addr) : ∀ (S : List Value) (X : World), Below w.heap.size w X → S[0]? = some (.pointer p) → S[1]? = some (.bool true) → S[58]? = some (.pointer k) → Calls Tryz.prog 34 #[.agg S.toArray] X fun e w' => e = .returned (.bool true) ∧ Below X.heap.size X w' :=
  fun S X hb h0 _ _ => snone_a S p h0 X (h.bel hb)
theorem nob (V : Nat) (w : World) {n G c M : Nat} (h : Va n w V G c M [rt]) (k : Option Addr) (hk : Nb w k) : ∀ (S : List Value) (X : World), Below w.heap.size w X → S[0]? = some (.pointer (some ⟨V, 0, none⟩)) → S[1]? = some (.bool true) → S[58]? = some (.pointer k) → Calls Tryz.prog 34 #[.agg S.toArray] X fun e w' => e = .returned (.bool true) ∧ Below X.heap.size X w' :=
  fun S X hb h0 h1 h58 => snone_b S V k h0 h1 h58 X (h.bel hb) (by decide) (hk.bel hb)
theorem cfg_at (H : List UInt8) (hH : H.length = 16) (nm : ByteArray) (o1 : Option Addr) (n1 c1 : Nat) (o2 : Option Addr) (n2 c2 : Nat) (ea : Bool) (li : Int) : (cfg H nm o1 n1 c1 o2 n2 c2 ea li)[0]? = some (.bool true) ∧ (cfg H nm o1 n1 c1 o2 n2 c2 ea li)[34]? = some (.slice o1 n1 c1) ∧ (cfg H nm o1 n1 c1 o2 n2 c2 ea li)[35]? = some (.slice o2 n2 c2) ∧ (cfg H nm o1 n1 c1 o2 n2 c2 ea li)[36]? = some (.slice none 0 0) := by
  have e : cfg H nm o1 n1 c1 o2 n2 c2 ea li = ([.bool true, .string nm] ++ hl H ++ hl z16 : List Value) ++ ([.slice o1 n1 c1, .slice o2 n2 c2] ++ (bf0 ++ [.bool ea, .int .i64 li])) := by simp [cfg]
  have l : ([.bool true, .string nm] ++ hl H ++ hl z16 : List Value).length = 34 := by simp [hH, z16]
  refine ⟨rfl, ?_, ?_, ?_⟩
  · rw [e, List.getElem?_append_right (by omega), l]; rfl
  · rw [e, List.getElem?_append_right (by omega), l]; rfl
  · rw [e, List.getElem?_append_right (by omega), l]; rfl
theorem eq39 (w : World) : (Op.equalIn 10000 39 (.agg in0.toArray) (.agg #[.bool false, .string ⟨#[]⟩, .bool false, .bool false, .int .u8 0, .int .u8 0, .int .u8 0, .int .u8 0, .int .u8 0, .int .u8 0, .int .u8 0, .int .u8 0, .int .u8 0, .int .u8 0, .int .u8 0, .int .u8 0, .int .u8 0, .int .u8 0, .int .u8 0, .int .u8 0, .int .u8 0, .int .u8 0, .int .u8 0, .int .u8 0, .int .u8 0, .int .u8 0, .int .u8 0, .int .u8 0, .int .u8 0, .int .u8 0, .int .u8 0, .int .u8 0, .int .u8 0, .int .u8 0, .int .u8 0, .int .u8 0, .int .u8 0, .int .u8 0, .int .u8 0, .int .u8 0, .int .u8 0, .int .u8 0, .int .u8 0, .int .u8 0, .int .u8 0, .int .u8 0, .int .u8 0, .int .u8 0, .int .u8 0, .int .u8 0, .int .u8 0, .int .u8 0])).run Tryz.prog w = .ok true w := by kernel_rfl
theorem zc46 : Tryz.zeroCells46 = ma0.toArray := by kernel_rfl
set_option maxRecDepth 100000 in
set_option maxHeartbeats 1000000 in
theorem nobody_law (nm : ByteArray) (o1 : Option Addr) (n1 c1 : Nat) (o2 : Option Addr) (n2 c2 : Nat) (ea : Bool) (li tr : Int) (o3 : Option Addr) (n3 c3 : Nat) (w : World) (s1 : Sw w 16 o1 n1 c1) (s2 : Sw w 1 o2 n2 c2) :
    Calls Tryz.prog 3 #[.agg #[.string nm, .slice o1 n1 c1, .slice o2 n2 c2, .bool ea, .int .i64 li, .int .i64 tr], .slice o3 n3 c3] w fun e w' => e = .returned (.bool true) ∧ Below w.heap.size w w' := by
  have HS : Hid (∀ p X, Nm X p → _) := start_no
  have HT : Hid (∀ p l o n c X, Nm X p → _) := take_no
  have HI : Hid (∀ p X, Nm X p → _) := info_no
  have HQ : Hid (∀ X, _) := is_one
  have H3 : Hid _ := three w [.string nm, .slice o1 n1 c1, .slice o2 n2 c2, .bool ea, .int .i64 li, .int .i64 tr]
  have HNEW : Hid (∀ (C : List Value) (hl : C.length = 57) (h1 : C.toArray.all (·.oneCell') = true) (e0 : C[0]? = some (.bool true) ∧ C[34]? = some (.slice o1 n1 c1) ∧ C[35]? = some (.slice o2 n2 c2) ∧ C[36]? = some (.slice none 0 0)) (X : World) (hb : Below w.heap.size w X) (p k : Option Addr) (hno : ∀ (S : List Value) (Y : World), Below X.heap.size X Y → S[0]? = some (.pointer p) → S[1]? = some (.bool true) → S[58]? = some (.pointer k) → Calls Tryz.prog 34 #[.agg S.toArray] Y fun e w' => e = .returned (.bool true) ∧ Below Y.heap.size Y w'), Calls Tryz.prog 14 #[.pointer p, .agg C.toArray, .pointer k] X fun e w' => e = .returned (.tuple #[.pointer none, .int .i64 1]) ∧ Below X.heap.size X w') := fun C hl h1 e0 X hb p k hno => new_no C hl h1 o1 n1 c1 o2 n2 c2 e0.1 e0.2.1 e0.2.2.1 e0.2.2.2 X (s1.bel hb) (s2.bel hb) p k hno
  clear s1 s2
  go_enter Tryz.func3, Tryz.ntmps3
  go_wp2_with fail
  rw [zc46]
  generalize ((w.alloc (.cells #[.string nm, .slice o1 n1 c1, .slice o2 n2 c2, .bool ea, .int .i64 li, .int .i64 tr] 25)).alloc (.cells ma0.toArray 46)).alloc (.cells #[.pointer none, .pointer (some ⟨w.heap.size + 1, 0, none⟩)] 26) = W1 at *
  generalize ma0.toArray = MA at *
  have HCF : Hid (∀ X, _) := config_c (nameL 0) (nameL 0) (nameL_len 0) (nameL_len 0) nm o1 n1 c1 o2 n2 c2 ea li tr
  have HA6 : Hid (([.string nm, .slice o1 n1 c1, .slice o2 n2 c2, .bool ea, .int .i64 li, .int .i64 tr] : List Value).length = 6) := rfl
  have HC1 : Hid _ := cfg_len (nameL 0) (nameL_len 0) nm o1 n1 c1 o2 n2 c2 ea li
  have HC2 : Hid _ := cfg_1 (nameL 0) nm o1 n1 c1 o2 n2 c2 ea li
  have HC3 : Hid _ := cfg_at (nameL 0) (nameL_len 0) nm o1 n1 c1 o2 n2 c2 ea li
  generalize cfg (nameL 0) nm o1 n1 c1 o2 n2 c2 ea li = C at *
  generalize ([.string nm, .slice o1 n1 c1, .slice o2 n2 c2, .bool ea, .int .i64 li, .int .i64 tr] : List Value) = A at *
  go_loopg [23] 3 (fun kx s23 wr => ∃ i : Nat, s23 = .int .i64 (i : Int) ∧ i ≤ 2 ∧ 2 - i ≤ kx ∧ Hid (Lp w wr A))
  case atStart => exact ⟨0, rfl, by omega, by omega, H3.out⟩
  case round =>
    obtain ⟨i, rfl, hi1, hg, HQ2⟩ := hrel
    by_cases hlt : i < 2
    · have i1 : (i : Int) < 2 := by omega
      have i1' : decide ((i : Int) < 2) = true := by simpa using i1
      have i0' : (0 : Int) ≤ (i : Int) := by omega
      have iw : IntKind.i64.wrap ((i : Int) + 1) = ((i + 1 : Nat) : Int) := by rw [IntKind.wrap_i64]; omega
      obtain ⟨p, hc, hn⟩ := HQ2.out.at i hlt
      have HN : Hid _ := hn
      clear hn
      as_aux_lemma =>
      go_wp2_with fail
      refine Calls.mono (HS.out p wr HN.out) ?_
      rintro e X1 ⟨rfl, hb1⟩
      have HL1 : Hid (Lp w X1 A) := HQ2.out.go hb1
      have HN1 : Hid (Nm X1 p) := Nm.bel (show Nm wr p from HN.out) hb1
      clear hb1 HQ2 HN hc
      go_wp2_with fail
      refine Calls.mono (HT.out p 0 o3 n3 c3 X1 HN1.out) ?_
      rintro e X2 ⟨rfl, hb1⟩
      have HL2 : Hid (Lp w X2 A) := HL1.out.go hb1
      have HN2 : Hid (Nm X2 p) := Nm.bel (show Nm X1 p from HN1.out) hb1
      clear hb1 HL1 HN1
      go_wp2_with fail
      refine Calls.mono (HQ.out X2) ?_
      rintro e X3 ⟨rfl, rfl⟩
      go_wp2_with fail
      refine Calls.mono (HQ.out X3) ?_
      rintro e X4 ⟨rfl, rfl⟩
      go_wp2_with fail
      refine Calls.mono (HI.out p X4 HN2.out) ?_
      rintro e X5 ⟨rfl, hb1⟩
      have HL3 : Hid (Lp w X5 A) := HL2.out.go hb1
      have q2 := eq39
      clear hb1 HL2 HN2
      go_wp2_with fail
      go_roundg (2 - (i + 1))
      case measure => omega
      case rel => exact ⟨i + 1, rfl, by omega, Nat.le_refl _, HL3.out⟩
    · have i1 : ¬ (i : Int) < 2 := by omega
      have i1' : decide ((i : Int) < 2) = false := by simpa using i1
      as_aux_lemma =>
      go_wp2_with fail
      refine Calls.mono (new_c wr) ?_
      rintro e X1 ⟨V, G, cc, M, rfl, hv1, hb1⟩
      have HV1 : Hid (Va wr.heap.size X1 V G cc M [rt]) := hv1
      have HL1 : Hid (Lp w X1 A) := HQ2.out.go hb1
      clear hb1 HQ2 hv1
      go_wp2_with fail
      -- TAIL
      have q2 := z33
      have hcf : cf0.length = 57 := rfl
      have hcn : ¬ cf0 = [] := fun h => by rw [h] at hcf; cases hcf
      generalize cf0 = CF at *
      have HY0 : Hid (Ly w A V X1) := ⟨HL1.out, _, _, _, _, HV1.out⟩
      have HYX : Hid (Ly w A V X1.drew) := HY0.out.go (bel_drew X1)
      clear HV1 HL1 HY0
      refine wp_region_held_drew (S := fun X => Ly w A V X) (by kernel_rfl) HYX.out (fun hHeld => ?_)
      generalize X1.drew = X at *
      refine wpAnyH_take (i := 0) (v := .pointer (some ⟨V, 0, none⟩)) rfl (by kernel_rfl) (by kernel_rfl) (by kernel_rfl) (fun _ _ _ h => h) (Or.inl ⟨by rfl, by intro w hs; go_simp⟩) hHeld ?_
      refine norm_any' (fun K hK => ?_)
      go_simp
      refine hK _ _ ?_
      clear hK K
      refine wpAnyH_take (i := 2) (v := .pointer (some ⟨V, 0, none⟩)) rfl (by kernel_rfl) (by kernel_rfl) (by kernel_rfl) (fun _ _ _ h => h) (Or.inl ⟨by rfl, by intro w hs; go_simp⟩) hHeld ?_
      refine norm_any' (fun K hK => ?_)
      go_simp
      refine hK _ _ ?_
      clear hK K
      refine wpAnyH_take (i := 4) (v := .agg A.toArray) rfl (by kernel_rfl) (by kernel_rfl) (by kernel_rfl) (fun _ _ _ h => h) (yieldsIf_load_mid rfl 25 (.tmp 2) rfl w.heap.size 0 rfl A _ (fun X hX => Ly.rng hX) ut25 rfl (it25.trans (by rw [HA6.out]))) hHeld ?_
      refine norm_any' (fun K hK => ?_)
      go_simp
      refine hK _ _ ?_
      clear hK K
      refine wpAnyH_take (i := 5) (v := .agg bf0.toArray) rfl (by kernel_rfl) (by kernel_rfl) (by kernel_rfl) (fun _ _ _ h => h) (Or.inl ⟨by rfl, by intro w hs; go_simp; rfl⟩) hHeld ?_
      refine norm_any' (fun K hK => ?_)
      go_simp
      refine hK _ _ ?_
      clear hK K
      refine wpAnyH_ready (rs := [1, 7]) (by kernel_rfl) (by simp) (AllReadyH.cons rfl (fun K hK => ?_) (AllReadyH.cons rfl (fun K hK => ?_) AllReadyH.nil))
      · go_simp
        refine Calls.mono HYX.out.root ?_
        rintro e Xb ⟨rfl, hbx⟩
        have HYXb : Hid (Ly w A V Xb) := HYX.out.go hbx
        clear hbx
        refine hK.out _ _ HYXb.out (fun hHeld => ?_)
        clear hK K
        refine norm_any' (fun K hK => ?_)
        go_simp
        refine hK _ _ ?_
        clear hK K
        refine wpAnyH_ready (rs := [3, 7]) (by kernel_rfl) (by simp) (AllReadyH.cons rfl (fun K hK => ?_) (AllReadyH.cons rfl (fun K hK => ?_) AllReadyH.nil))
        · go_simp
          refine Calls.mono HYXb.out.root ?_
          rintro e Xbb ⟨rfl, hbx⟩
          have HYXbb : Hid (Ly w A V Xbb) := HYXb.out.go hbx
          clear hbx
          refine hK.out _ _ HYXbb.out (fun hHeld => ?_)
          clear hK K
          refine norm_any' (fun K hK => ?_)
          go_simp
          refine hK _ _ ?_
          clear hK K
          refine wpAnyH_ready (rs := [6, 7]) (by kernel_rfl) (by simp) (AllReadyH.cons rfl (fun K hK => ?_) (AllReadyH.cons rfl (fun K hK => ?_) AllReadyH.nil))
          · go_simp
            refine Calls.mono (HCF.out Xbb) ?_
            rintro e Xbbb ⟨rfl, hbx⟩
            have HYXbbb : Hid (Ly w A V Xbbb) := HYXbb.out.go hbx
            clear hbx
            refine hK.out _ _ HYXbbb.out (fun hHeld => ?_)
            clear hK K
            refine norm_any' (fun K hK => ?_)
            go_simp
            refine hK _ _ ?_
            clear hK K
            refine wpAnyH_ready (rs := [7]) (by kernel_rfl) (by simp) (AllReadyH.cons rfl (fun K hK => ?_) AllReadyH.nil)
            go_simp
            have HBXbbba : Hid _ := heap_alloc_new Xbbb (.cells CF.toArray 33)
            have HYXbbba : Hid _ := Ly.go HYXbbb.out (bel1 Xbbb (.cells CF.toArray 33))
            obtain ⟨B, hB⟩ : ∃ B, Xbbb.heap.size = B := ⟨_, rfl⟩
            have HBG : Hid (w.heap.size ≤ B) := by show _ ≤ _; rw [← hB]; exact HYXbbb.out.lp.bel.size
            rw [hB] at HBXbbba
            generalize Xbbb.alloc (.cells CF.toArray 33) = Xbbba at *
            rw [hB]
            clear hB
            refine hK.out _ _ HYXbbba.out (fun hHeld => ?_)
            clear hK K
            refine norm_any' (fun K hK => ?_)
            go_simp
            refine hK _ _ ?_
            clear hK K
            refine wpAnyH_ready (rs := [8]) (by kernel_rfl) (by simp) (AllReadyH.cons rfl (fun K hK => ?_) AllReadyH.nil)
            refine step_store_row rfl 33 (.tmp 12) (.tmp 72) rfl B C.toArray rfl rfl 33 _ HBXbbba.out (i33.trans (by simp [HC1.out])) (by simp [HC1.out, hcf]) HC2.out ?_
            have HYZ : Hid _ := HYXbbba.out.set HBXbbba.out HBG.out C.toArray
            have HCB : Hid _ := setRow_heap Xbbba B _ C.toArray 33 (0, 0) HBXbbba.out
            generalize Xbbba.setRow B C.toArray = Z at *
            refine hK.out _ _ HYZ.out (fun hHeld => ?_)
            clear hK K
            refine norm_any' (fun K hK => ?_)
            go_simp
            refine hK _ _ ?_
            clear hK K
            refine wpAnyH_done (by kernel_rfl) ?_ _
            clear hHeld
            as_aux_lemma =>
            go_wp2_with fail
            have HYD : Hid (Ly w A V Z.drew) := HYZ.out.go (bel_drew Z)
            have HCD : Hid (Z.drew.heap[B]? = some (.cells C.toArray 33 (0, 0))) := HCB.out
            refine wp_region_held_drew (S := fun X => X.heap[B]? = some (.cells C.toArray 33 (0, 0))) (by kernel_rfl) HCD.out (fun hHeld => ?_)
            generalize Z.drew = Y at *
            refine wpAnyH_take (i := 0) (v := .agg C.toArray) rfl (by kernel_rfl) (by kernel_rfl) (by kernel_rfl) (fun _ _ _ h => h) (yieldsIf_load_mid rfl 33 (.tmp 12) rfl B 0 rfl C _ (fun X hX => rng33 hX) ut33 rfl (i33.trans (by rw [HC1.out]))) hHeld ?_
            refine norm_any' (fun K hK => ?_)
            go_simp
            refine hK _ _ ?_
            clear hK K
            refine wpAnyH_ready (rs := [1]) (by kernel_rfl) (by simp) (AllReadyH.cons rfl (fun K hK => ?_) AllReadyH.nil)
            go_simp
            refine Calls.mono (newBook_c Y) ?_
            rintro e Y1 ⟨⟨bk, rfl⟩, hbx⟩
            have HYD1 : Hid (Ly w A V Y1) := HYD.out.go hbx
            have HCD1 : Hid (Y1.heap[B]? = some (.cells C.toArray 33 (0, 0))) := heap_bel HCD.out hbx
            clear hbx
            refine hK.out _ _ HCD1.out (fun hHeld => ?_)
            clear hK K
            refine norm_any' (fun K hK => ?_)
            go_simp
            refine hK _ _ ?_
            clear hK K
            refine wpAnyH_ready (rs := [2]) (by kernel_rfl) (by simp) (AllReadyH.cons rfl (fun K hK => ?_) AllReadyH.nil)
            go_simp
            refine Calls.mono (HNEW.out C HC1.out HC2.out HC3.out Y1 HYD1.out.lp.bel none bk (nov none Y1 (.inl rfl) bk)) ?_
            rintro e Y2 ⟨rfl, hbx⟩
            have HYD2 : Hid (Ly w A V Y2) := HYD1.out.go hbx
            have HCD2 : Hid (Y2.heap[B]? = some (.cells C.toArray 33 (0, 0))) := heap_bel HCD1.out hbx
            clear hbx
            refine hK.out _ _ HCD2.out (fun hHeld => ?_)
            clear hK K
            refine norm_any' (fun K hK => ?_)
            go_simp
            refine hK _ _ ?_
            clear hK K
            refine wpAnyH_take (i := 3) (v := .tuple #[.pointer none, .int .i64 1]) rfl (by kernel_rfl) (by kernel_rfl) (by kernel_rfl) (fun _ _ _ h => h) (Or.inl ⟨by rfl, by intro w hs; go_simp⟩) hHeld ?_
            refine norm_any' (fun K hK => ?_)
            go_simp
            refine hK _ _ ?_
            clear hK K
            refine wpAnyH_take (i := 4) (v := .pointer none) rfl (by kernel_rfl) (by kernel_rfl) (by kernel_rfl) (fun _ _ _ h => h) (Or.inl ⟨by rfl, by intro w hs; go_simp⟩) hHeld ?_
            refine norm_any' (fun K hK => ?_)
            go_simp
            refine hK _ _ ?_
            clear hK K
            refine wpAnyH_take (i := 5) (v := .int .i64 1) rfl (by kernel_rfl) (by kernel_rfl) (by kernel_rfl) (fun _ _ _ h => h) (Or.inl ⟨by rfl, by intro w hs; go_simp⟩) hHeld ?_
            refine norm_any' (fun K hK => ?_)
            go_simp
            refine hK _ _ ?_
            clear hK K
            refine wpAnyH_take (i := 6) (v := .pointer none) rfl (by kernel_rfl) (by kernel_rfl) (by kernel_rfl) (fun _ _ _ h => h) (Or.inl ⟨by rfl, by intro w hs; go_simp⟩) hHeld ?_
            refine norm_any' (fun K hK => ?_)
            go_simp
            refine hK _ _ ?_
            clear hK K
            refine wpAnyH_take (i := 7) (v := .int .i64 1) rfl (by kernel_rfl) (by kernel_rfl) (by kernel_rfl) (fun _ _ _ h => h) (Or.inl ⟨by rfl, by intro w hs; go_simp⟩) hHeld ?_
            refine norm_any' (fun K hK => ?_)
            go_simp
            refine hK _ _ ?_
            clear hK K
            refine wpAnyH_done (by kernel_rfl) ?_ _
            clear hHeld HYD HYD1 HCD HCD1 HYZ HCB
            as_aux_lemma =>
            go_wp2_with (refine wpList_load_row rfl 33 (.tmp 12) rfl B rfl 33 _ (0, 0) _ HCD2.out ut33 rfl (i33.trans (by simp [HC1.out])) ?_)
            obtain ⟨n5, G5, c5, M5, hv5⟩ := HYD2.out.va
            refine Calls.mono (HNEW.out C HC1.out HC2.out HC3.out Y2 HYD2.out.lp.bel (some ⟨V, 0, none⟩) none (nob V Y2 hv5 none (.inl rfl))) ?_
            rintro e Y3 ⟨rfl, hbx⟩
            have HYD3 : Hid (Ly w A V Y3) := HYD2.out.go hbx
            have HCD3 : Hid (Y3.heap[B]? = some (.cells C.toArray 33 (0, 0))) := heap_bel HCD2.out hbx
            clear hbx hv5 HYD2 HCD2
            as_aux_lemma =>
            have hbx := bel1 Y3 (.cells #[.map none] 64)
            have hk : Nb (Y3.alloc (.cells #[.map none] 64)) (some ⟨Y3.heap.size, 0, none⟩) := .inr ⟨_, rfl, cell_new (w := Y3) (S := [.map none]) (t := 64) (i := 0) rfl⟩
            have HYD4 : Hid (Ly w A V (Y3.alloc (.cells #[.map none] 64))) := HYD3.out.go hbx
            have HCD4 : Hid ((Y3.alloc (.cells #[.map none] 64)).heap[B]? = some (.cells C.toArray 33 (0, 0))) := heap_bel HCD3.out hbx
            have HKN : Hid _ := hk
            clear hbx hk
            go_wp2_with (refine wpList_load_row rfl 33 (.tmp 12) rfl B rfl 33 _ (0, 0) _ HCD3.out ut33 rfl (i33.trans (by simp [HC1.out])) ?_)
            obtain ⟨n5, G5, c5, M5, hv5⟩ := HYD4.out.va
            refine Calls.mono (HNEW.out C HC1.out HC2.out HC3.out _ HYD4.out.lp.bel (some ⟨V, 0, none⟩) (some ⟨Y3.heap.size, 0, none⟩) (nob V _ hv5 _ HKN.out)) ?_
            rintro e Y4 ⟨rfl, hbx⟩
            have HYD5 : Hid (Below w.heap.size w Y4) := bel_trans HYD4.out.lp.bel hbx
            clear hbx hv5 HYD3 HCD3 HYD4 HCD4 HKN
            as_aux_lemma =>
            go_wp2_with fail
            go_ret
            exact ⟨rfl, HYD5.out⟩
          · go_simp
            have HBXbba : Hid _ := heap_alloc_new Xbb (.cells CF.toArray 33)
            have HYXbba : Hid _ := Ly.go HYXbb.out (bel1 Xbb (.cells CF.toArray 33))
            obtain ⟨B, hB⟩ : ∃ B, Xbb.heap.size = B := ⟨_, rfl⟩
            have HBG : Hid (w.heap.size ≤ B) := by show _ ≤ _; rw [← hB]; exact HYXbb.out.lp.bel.size
            rw [hB] at HBXbba
            generalize Xbb.alloc (.cells CF.toArray 33) = Xbba at *
            rw [hB]
            clear hB
            refine hK.out _ _ HYXbba.out (fun hHeld => ?_)
            clear hK K
            refine norm_any' (fun K hK => ?_)
            go_simp
            refine hK _ _ ?_
            clear hK K
            refine wpAnyH_ready (rs := [6]) (by kernel_rfl) (by simp) (AllReadyH.cons rfl (fun K hK => ?_) AllReadyH.nil)
            go_simp
            refine Calls.mono (HCF.out Xbba) ?_
            rintro e Xbbab ⟨rfl, hbx⟩
            have HYXbbab : Hid (Ly w A V Xbbab) := HYXbba.out.go hbx
            have HBXbbab : Hid (Xbbab.heap[B]? = some (.cells CF.toArray 33 (0, 0))) := heap_bel HBXbba.out hbx
            clear hbx
            refine hK.out _ _ HYXbbab.out (fun hHeld => ?_)
            clear hK K
            refine norm_any' (fun K hK => ?_)
            go_simp
            refine hK _ _ ?_
            clear hK K
            refine wpAnyH_ready (rs := [8]) (by kernel_rfl) (by simp) (AllReadyH.cons rfl (fun K hK => ?_) AllReadyH.nil)
            refine step_store_row rfl 33 (.tmp 12) (.tmp 72) rfl B C.toArray rfl rfl 33 _ HBXbbab.out (i33.trans (by simp [HC1.out])) (by simp [HC1.out, hcf]) HC2.out ?_
            have HYZ : Hid _ := HYXbbab.out.set HBXbbab.out HBG.out C.toArray
            have HCB : Hid _ := setRow_heap Xbbab B _ C.toArray 33 (0, 0) HBXbbab.out
            generalize Xbbab.setRow B C.toArray = Z at *
            refine hK.out _ _ HYZ.out (fun hHeld => ?_)
            clear hK K
            refine norm_any' (fun K hK => ?_)
            go_simp
            refine hK _ _ ?_
            clear hK K
            refine wpAnyH_done (by kernel_rfl) ?_ _
            clear hHeld
            as_aux_lemma =>
            go_wp2_with fail
            have HYD : Hid (Ly w A V Z.drew) := HYZ.out.go (bel_drew Z)
            have HCD : Hid (Z.drew.heap[B]? = some (.cells C.toArray 33 (0, 0))) := HCB.out
            refine wp_region_held_drew (S := fun X => X.heap[B]? = some (.cells C.toArray 33 (0, 0))) (by kernel_rfl) HCD.out (fun hHeld => ?_)
            generalize Z.drew = Y at *
            refine wpAnyH_take (i := 0) (v := .agg C.toArray) rfl (by kernel_rfl) (by kernel_rfl) (by kernel_rfl) (fun _ _ _ h => h) (yieldsIf_load_mid rfl 33 (.tmp 12) rfl B 0 rfl C _ (fun X hX => rng33 hX) ut33 rfl (i33.trans (by rw [HC1.out]))) hHeld ?_
            refine norm_any' (fun K hK => ?_)
            go_simp
            refine hK _ _ ?_
            clear hK K
            refine wpAnyH_ready (rs := [1]) (by kernel_rfl) (by simp) (AllReadyH.cons rfl (fun K hK => ?_) AllReadyH.nil)
            go_simp
            refine Calls.mono (newBook_c Y) ?_
            rintro e Y1 ⟨⟨bk, rfl⟩, hbx⟩
            have HYD1 : Hid (Ly w A V Y1) := HYD.out.go hbx
            have HCD1 : Hid (Y1.heap[B]? = some (.cells C.toArray 33 (0, 0))) := heap_bel HCD.out hbx
            clear hbx
            refine hK.out _ _ HCD1.out (fun hHeld => ?_)
            clear hK K
            refine norm_any' (fun K hK => ?_)
            go_simp
            refine hK _ _ ?_
            clear hK K
            refine wpAnyH_ready (rs := [2]) (by kernel_rfl) (by simp) (AllReadyH.cons rfl (fun K hK => ?_) AllReadyH.nil)
            go_simp
            refine Calls.mono (HNEW.out C HC1.out HC2.out HC3.out Y1 HYD1.out.lp.bel none bk (nov none Y1 (.inl rfl) bk)) ?_
            rintro e Y2 ⟨rfl, hbx⟩
            have HYD2 : Hid (Ly w A V Y2) := HYD1.out.go hbx
            have HCD2 : Hid (Y2.heap[B]? = some (.cells C.toArray 33 (0, 0))) := heap_bel HCD1.out hbx
            clear hbx
            refine hK.out _ _ HCD2.out (fun hHeld => ?_)
            clear hK K
            refine norm_any' (fun K hK => ?_)
            go_simp
            refine hK _ _ ?_
            clear hK K
            refine wpAnyH_take (i := 3) (v := .tuple #[.pointer none, .int .i64 1]) rfl (by kernel_rfl) (by kernel_rfl) (by kernel_rfl) (fun _ _ _ h => h) (Or.inl ⟨by rfl, by intro w hs; go_simp⟩) hHeld ?_
            refine norm_any' (fun K hK => ?_)
            go_simp
            refine hK _ _ ?_
            clear hK K
            refine wpAnyH_take (i := 4) (v := .pointer none) rfl (by kernel_rfl) (by kernel_rfl) (by kernel_rfl) (fun _ _ _ h => h) (Or.inl ⟨by rfl, by intro w hs; go_simp⟩) hHeld ?_
            refine norm_any' (fun K hK => ?_)
            go_simp
            refine hK _ _ ?_
            clear hK K
            refine wpAnyH_take (i := 5) (v := .int .i64 1) rfl (by kernel_rfl) (by kernel_rfl) (by kernel_rfl) (fun _ _ _ h => h) (Or.inl ⟨by rfl, by intro w hs; go_simp⟩) hHeld ?_
            refine norm_any' (fun K hK => ?_)
            go_simp
            refine hK _ _ ?_
            clear hK K
            refine wpAnyH_take (i := 6) (v := .pointer none) rfl (by kernel_rfl) (by kernel_rfl) (by kernel_rfl) (fun _ _ _ h => h) (Or.inl ⟨by rfl, by intro w hs; go_simp⟩) hHeld ?_
            refine norm_any' (fun K hK => ?_)
            go_simp
            refine hK _ _ ?_
            clear hK K
            refine wpAnyH_take (i := 7) (v := .int .i64 1) rfl (by kernel_rfl) (by kernel_rfl) (by kernel_rfl) (fun _ _ _ h => h) (Or.inl ⟨by rfl, by intro w hs; go_simp⟩) hHeld ?_
            refine norm_any' (fun K hK => ?_)
            go_simp
            refine hK _ _ ?_
            clear hK K
            refine wpAnyH_done (by kernel_rfl) ?_ _
            clear hHeld HYD HYD1 HCD HCD1 HYZ HCB
            as_aux_lemma =>
            go_wp2_with (refine wpList_load_row rfl 33 (.tmp 12) rfl B rfl 33 _ (0, 0) _ HCD2.out ut33 rfl (i33.trans (by simp [HC1.out])) ?_)
            obtain ⟨n5, G5, c5, M5, hv5⟩ := HYD2.out.va
            refine Calls.mono (HNEW.out C HC1.out HC2.out HC3.out Y2 HYD2.out.lp.bel (some ⟨V, 0, none⟩) none (nob V Y2 hv5 none (.inl rfl))) ?_
            rintro e Y3 ⟨rfl, hbx⟩
            have HYD3 : Hid (Ly w A V Y3) := HYD2.out.go hbx
            have HCD3 : Hid (Y3.heap[B]? = some (.cells C.toArray 33 (0, 0))) := heap_bel HCD2.out hbx
            clear hbx hv5 HYD2 HCD2
            as_aux_lemma =>
            have hbx := bel1 Y3 (.cells #[.map none] 64)
            have hk : Nb (Y3.alloc (.cells #[.map none] 64)) (some ⟨Y3.heap.size, 0, none⟩) := .inr ⟨_, rfl, cell_new (w := Y3) (S := [.map none]) (t := 64) (i := 0) rfl⟩
            have HYD4 : Hid (Ly w A V (Y3.alloc (.cells #[.map none] 64))) := HYD3.out.go hbx
            have HCD4 : Hid ((Y3.alloc (.cells #[.map none] 64)).heap[B]? = some (.cells C.toArray 33 (0, 0))) := heap_bel HCD3.out hbx
            have HKN : Hid _ := hk
            clear hbx hk
            go_wp2_with (refine wpList_load_row rfl 33 (.tmp 12) rfl B rfl 33 _ (0, 0) _ HCD3.out ut33 rfl (i33.trans (by simp [HC1.out])) ?_)
            obtain ⟨n5, G5, c5, M5, hv5⟩ := HYD4.out.va
            refine Calls.mono (HNEW.out C HC1.out HC2.out HC3.out _ HYD4.out.lp.bel (some ⟨V, 0, none⟩) (some ⟨Y3.heap.size, 0, none⟩) (nob V _ hv5 _ HKN.out)) ?_
            rintro e Y4 ⟨rfl, hbx⟩
            have HYD5 : Hid (Below w.heap.size w Y4) := bel_trans HYD4.out.lp.bel hbx
            clear hbx hv5 HYD3 HCD3 HYD4 HCD4 HKN
            as_aux_lemma =>
            go_wp2_with fail
            go_ret
            exact ⟨rfl, HYD5.out⟩
        · go_simp
          have HBXba : Hid _ := heap_alloc_new Xb (.cells CF.toArray 33)
          have HYXba : Hid _ := Ly.go HYXb.out (bel1 Xb (.cells CF.toArray 33))
          obtain ⟨B, hB⟩ : ∃ B, Xb.heap.size = B := ⟨_, rfl⟩
          have HBG : Hid (w.heap.size ≤ B) := by show _ ≤ _; rw [← hB]; exact HYXb.out.lp.bel.size
          rw [hB] at HBXba
          generalize Xb.alloc (.cells CF.toArray 33) = Xba at *
          rw [hB]
          clear hB
          refine hK.out _ _ HYXba.out (fun hHeld => ?_)
          clear hK K
          refine norm_any' (fun K hK => ?_)
          go_simp
          refine hK _ _ ?_
          clear hK K
          refine wpAnyH_ready (rs := [3]) (by kernel_rfl) (by simp) (AllReadyH.cons rfl (fun K hK => ?_) AllReadyH.nil)
          go_simp
          refine Calls.mono HYXba.out.root ?_
          rintro e Xbab ⟨rfl, hbx⟩
          have HYXbab : Hid (Ly w A V Xbab) := HYXba.out.go hbx
          have HBXbab : Hid (Xbab.heap[B]? = some (.cells CF.toArray 33 (0, 0))) := heap_bel HBXba.out hbx
          clear hbx
          refine hK.out _ _ HYXbab.out (fun hHeld => ?_)
          clear hK K
          refine norm_any' (fun K hK => ?_)
          go_simp
          refine hK _ _ ?_
          clear hK K
          refine wpAnyH_ready (rs := [6]) (by kernel_rfl) (by simp) (AllReadyH.cons rfl (fun K hK => ?_) AllReadyH.nil)
          go_simp
          refine Calls.mono (HCF.out Xbab) ?_
          rintro e Xbabb ⟨rfl, hbx⟩
          have HYXbabb : Hid (Ly w A V Xbabb) := HYXbab.out.go hbx
          have HBXbabb : Hid (Xbabb.heap[B]? = some (.cells CF.toArray 33 (0, 0))) := heap_bel HBXbab.out hbx
          clear hbx
          refine hK.out _ _ HYXbabb.out (fun hHeld => ?_)
          clear hK K
          refine norm_any' (fun K hK => ?_)
          go_simp
          refine hK _ _ ?_
          clear hK K
          refine wpAnyH_ready (rs := [8]) (by kernel_rfl) (by simp) (AllReadyH.cons rfl (fun K hK => ?_) AllReadyH.nil)
          refine step_store_row rfl 33 (.tmp 12) (.tmp 72) rfl B C.toArray rfl rfl 33 _ HBXbabb.out (i33.trans (by simp [HC1.out])) (by simp [HC1.out, hcf]) HC2.out ?_
          have HYZ : Hid _ := HYXbabb.out.set HBXbabb.out HBG.out C.toArray
          have HCB : Hid _ := setRow_heap Xbabb B _ C.toArray 33 (0, 0) HBXbabb.out
          generalize Xbabb.setRow B C.toArray = Z at *
          refine hK.out _ _ HYZ.out (fun hHeld => ?_)
          clear hK K
          refine norm_any' (fun K hK => ?_)
          go_simp
          refine hK _ _ ?_
          clear hK K
          refine wpAnyH_done (by kernel_rfl) ?_ _
          clear hHeld
          as_aux_lemma =>
          go_wp2_with fail
          have HYD : Hid (Ly w A V Z.drew) := HYZ.out.go (bel_drew Z)
          have HCD : Hid (Z.drew.heap[B]? = some (.cells C.toArray 33 (0, 0))) := HCB.out
          refine wp_region_held_drew (S := fun X => X.heap[B]? = some (.cells C.toArray 33 (0, 0))) (by kernel_rfl) HCD.out (fun hHeld => ?_)
          generalize Z.drew = Y at *
          refine wpAnyH_take (i := 0) (v := .agg C.toArray) rfl (by kernel_rfl) (by kernel_rfl) (by kernel_rfl) (fun _ _ _ h => h) (yieldsIf_load_mid rfl 33 (.tmp 12) rfl B 0 rfl C _ (fun X hX => rng33 hX) ut33 rfl (i33.trans (by rw [HC1.out]))) hHeld ?_
          refine norm_any' (fun K hK => ?_)
          go_simp
          refine hK _ _ ?_
          clear hK K
          refine wpAnyH_ready (rs := [1]) (by kernel_rfl) (by simp) (AllReadyH.cons rfl (fun K hK => ?_) AllReadyH.nil)
          go_simp
          refine Calls.mono (newBook_c Y) ?_
          rintro e Y1 ⟨⟨bk, rfl⟩, hbx⟩
          have HYD1 : Hid (Ly w A V Y1) := HYD.out.go hbx
          have HCD1 : Hid (Y1.heap[B]? = some (.cells C.toArray 33 (0, 0))) := heap_bel HCD.out hbx
          clear hbx
          refine hK.out _ _ HCD1.out (fun hHeld => ?_)
          clear hK K
          refine norm_any' (fun K hK => ?_)
          go_simp
          refine hK _ _ ?_
          clear hK K
          refine wpAnyH_ready (rs := [2]) (by kernel_rfl) (by simp) (AllReadyH.cons rfl (fun K hK => ?_) AllReadyH.nil)
          go_simp
          refine Calls.mono (HNEW.out C HC1.out HC2.out HC3.out Y1 HYD1.out.lp.bel none bk (nov none Y1 (.inl rfl) bk)) ?_
          rintro e Y2 ⟨rfl, hbx⟩
          have HYD2 : Hid (Ly w A V Y2) := HYD1.out.go hbx
          have HCD2 : Hid (Y2.heap[B]? = some (.cells C.toArray 33 (0, 0))) := heap_bel HCD1.out hbx
          clear hbx
          refine hK.out _ _ HCD2.out (fun hHeld => ?_)
          clear hK K
          refine norm_any' (fun K hK => ?_)
          go_simp
          refine hK _ _ ?_
          clear hK K
          refine wpAnyH_take (i := 3) (v := .tuple #[.pointer none, .int .i64 1]) rfl (by kernel_rfl) (by kernel_rfl) (by kernel_rfl) (fun _ _ _ h => h) (Or.inl ⟨by rfl, by intro w hs; go_simp⟩) hHeld ?_
          refine norm_any' (fun K hK => ?_)
          go_simp
          refine hK _ _ ?_
          clear hK K
          refine wpAnyH_take (i := 4) (v := .pointer none) rfl (by kernel_rfl) (by kernel_rfl) (by kernel_rfl) (fun _ _ _ h => h) (Or.inl ⟨by rfl, by intro w hs; go_simp⟩) hHeld ?_
          refine norm_any' (fun K hK => ?_)
          go_simp
          refine hK _ _ ?_
          clear hK K
          refine wpAnyH_take (i := 5) (v := .int .i64 1) rfl (by kernel_rfl) (by kernel_rfl) (by kernel_rfl) (fun _ _ _ h => h) (Or.inl ⟨by rfl, by intro w hs; go_simp⟩) hHeld ?_
          refine norm_any' (fun K hK => ?_)
          go_simp
          refine hK _ _ ?_
          clear hK K
          refine wpAnyH_take (i := 6) (v := .pointer none) rfl (by kernel_rfl) (by kernel_rfl) (by kernel_rfl) (fun _ _ _ h => h) (Or.inl ⟨by rfl, by intro w hs; go_simp⟩) hHeld ?_
          refine norm_any' (fun K hK => ?_)
          go_simp
          refine hK _ _ ?_
          clear hK K
          refine wpAnyH_take (i := 7) (v := .int .i64 1) rfl (by kernel_rfl) (by kernel_rfl) (by kernel_rfl) (fun _ _ _ h => h) (Or.inl ⟨by rfl, by intro w hs; go_simp⟩) hHeld ?_
          refine norm_any' (fun K hK => ?_)
          go_simp
          refine hK _ _ ?_
          clear hK K
          refine wpAnyH_done (by kernel_rfl) ?_ _
          clear hHeld HYD HYD1 HCD HCD1 HYZ HCB
          as_aux_lemma =>
          go_wp2_with (refine wpList_load_row rfl 33 (.tmp 12) rfl B rfl 33 _ (0, 0) _ HCD2.out ut33 rfl (i33.trans (by simp [HC1.out])) ?_)
          obtain ⟨n5, G5, c5, M5, hv5⟩ := HYD2.out.va
          refine Calls.mono (HNEW.out C HC1.out HC2.out HC3.out Y2 HYD2.out.lp.bel (some ⟨V, 0, none⟩) none (nob V Y2 hv5 none (.inl rfl))) ?_
          rintro e Y3 ⟨rfl, hbx⟩
          have HYD3 : Hid (Ly w A V Y3) := HYD2.out.go hbx
          have HCD3 : Hid (Y3.heap[B]? = some (.cells C.toArray 33 (0, 0))) := heap_bel HCD2.out hbx
          clear hbx hv5 HYD2 HCD2
          as_aux_lemma =>
          have hbx := bel1 Y3 (.cells #[.map none] 64)
          have hk : Nb (Y3.alloc (.cells #[.map none] 64)) (some ⟨Y3.heap.size, 0, none⟩) := .inr ⟨_, rfl, cell_new (w := Y3) (S := [.map none]) (t := 64) (i := 0) rfl⟩
          have HYD4 : Hid (Ly w A V (Y3.alloc (.cells #[.map none] 64))) := HYD3.out.go hbx
          have HCD4 : Hid ((Y3.alloc (.cells #[.map none] 64)).heap[B]? = some (.cells C.toArray 33 (0, 0))) := heap_bel HCD3.out hbx
          have HKN : Hid _ := hk
          clear hbx hk
          go_wp2_with (refine wpList_load_row rfl 33 (.tmp 12) rfl B rfl 33 _ (0, 0) _ HCD3.out ut33 rfl (i33.trans (by simp [HC1.out])) ?_)
          obtain ⟨n5, G5, c5, M5, hv5⟩ := HYD4.out.va
          refine Calls.mono (HNEW.out C HC1.out HC2.out HC3.out _ HYD4.out.lp.bel (some ⟨V, 0, none⟩) (some ⟨Y3.heap.size, 0, none⟩) (nob V _ hv5 _ HKN.out)) ?_
          rintro e Y4 ⟨rfl, hbx⟩
          have HYD5 : Hid (Below w.heap.size w Y4) := bel_trans HYD4.out.lp.bel hbx
          clear hbx hv5 HYD3 HCD3 HYD4 HCD4 HKN
          as_aux_lemma =>
          go_wp2_with fail
          go_ret
          exact ⟨rfl, HYD5.out⟩
      · go_simp
        have HBXa : Hid _ := heap_alloc_new X (.cells CF.toArray 33)
        have HYXa : Hid _ := Ly.go HYX.out (bel1 X (.cells CF.toArray 33))
        obtain ⟨B, hB⟩ : ∃ B, X.heap.size = B := ⟨_, rfl⟩
        have HBG : Hid (w.heap.size ≤ B) := by show _ ≤ _; rw [← hB]; exact HYX.out.lp.bel.size
        rw [hB] at HBXa
        generalize X.alloc (.cells CF.toArray 33) = Xa at *
        rw [hB]
        clear hB
        refine hK.out _ _ HYXa.out (fun hHeld => ?_)
        clear hK K
        refine norm_any' (fun K hK => ?_)
        go_simp
        refine hK _ _ ?_
        clear hK K
        refine wpAnyH_ready (rs := [1]) (by kernel_rfl) (by simp) (AllReadyH.cons rfl (fun K hK => ?_) AllReadyH.nil)
        go_simp
        refine Calls.mono HYXa.out.root ?_
        rintro e Xab ⟨rfl, hbx⟩
        have HYXab : Hid (Ly w A V Xab) := HYXa.out.go hbx
        have HBXab : Hid (Xab.heap[B]? = some (.cells CF.toArray 33 (0, 0))) := heap_bel HBXa.out hbx
        clear hbx
        refine hK.out _ _ HYXab.out (fun hHeld => ?_)
        clear hK K
        refine norm_any' (fun K hK => ?_)
        go_simp
        refine hK _ _ ?_
        clear hK K
        refine wpAnyH_ready (rs := [3]) (by kernel_rfl) (by simp) (AllReadyH.cons rfl (fun K hK => ?_) AllReadyH.nil)
        go_simp
        refine Calls.mono HYXab.out.root ?_
        rintro e Xabb ⟨rfl, hbx⟩
        have HYXabb : Hid (Ly w A V Xabb) := HYXab.out.go hbx
        have HBXabb : Hid (Xabb.heap[B]? = some (.cells CF.toArray 33 (0, 0))) := heap_bel HBXab.out hbx
        clear hbx
        refine hK.out _ _ HYXabb.out (fun hHeld => ?_)
        clear hK K
        refine norm_any' (fun K hK => ?_)
        go_simp
        refine hK _ _ ?_
        clear hK K
        refine wpAnyH_ready (rs := [6]) (by kernel_rfl) (by simp) (AllReadyH.cons rfl (fun K hK => ?_) AllReadyH.nil)
        go_simp
        refine Calls.mono (HCF.out Xabb) ?_
        rintro e Xabbb ⟨rfl, hbx⟩
        have HYXabbb : Hid (Ly w A V Xabbb) := HYXabb.out.go hbx
        have HBXabbb : Hid (Xabbb.heap[B]? = some (.cells CF.toArray 33 (0, 0))) := heap_bel HBXabb.out hbx
        clear hbx
        refine hK.out _ _ HYXabbb.out (fun hHeld => ?_)
        clear hK K
        refine norm_any' (fun K hK => ?_)
        go_simp
        refine hK _ _ ?_
        clear hK K
        refine wpAnyH_ready (rs := [8]) (by kernel_rfl) (by simp) (AllReadyH.cons rfl (fun K hK => ?_) AllReadyH.nil)
        refine step_store_row rfl 33 (.tmp 12) (.tmp 72) rfl B C.toArray rfl rfl 33 _ HBXabbb.out (i33.trans (by simp [HC1.out])) (by simp [HC1.out, hcf]) HC2.out ?_
        have HYZ : Hid _ := HYXabbb.out.set HBXabbb.out HBG.out C.toArray
        have HCB : Hid _ := setRow_heap Xabbb B _ C.toArray 33 (0, 0) HBXabbb.out
        generalize Xabbb.setRow B C.toArray = Z at *
        refine hK.out _ _ HYZ.out (fun hHeld => ?_)
        clear hK K
        refine norm_any' (fun K hK => ?_)
        go_simp
        refine hK _ _ ?_
        clear hK K
        refine wpAnyH_done (by kernel_rfl) ?_ _
        clear hHeld
        as_aux_lemma =>
        go_wp2_with fail
        have HYD : Hid (Ly w A V Z.drew) := HYZ.out.go (bel_drew Z)
        have HCD : Hid (Z.drew.heap[B]? = some (.cells C.toArray 33 (0, 0))) := HCB.out
        refine wp_region_held_drew (S := fun X => X.heap[B]? = some (.cells C.toArray 33 (0, 0))) (by kernel_rfl) HCD.out (fun hHeld => ?_)
        generalize Z.drew = Y at *
        refine wpAnyH_take (i := 0) (v := .agg C.toArray) rfl (by kernel_rfl) (by kernel_rfl) (by kernel_rfl) (fun _ _ _ h => h) (yieldsIf_load_mid rfl 33 (.tmp 12) rfl B 0 rfl C _ (fun X hX => rng33 hX) ut33 rfl (i33.trans (by rw [HC1.out]))) hHeld ?_
        refine norm_any' (fun K hK => ?_)
        go_simp
        refine hK _ _ ?_
        clear hK K
        refine wpAnyH_ready (rs := [1]) (by kernel_rfl) (by simp) (AllReadyH.cons rfl (fun K hK => ?_) AllReadyH.nil)
        go_simp
        refine Calls.mono (newBook_c Y) ?_
        rintro e Y1 ⟨⟨bk, rfl⟩, hbx⟩
        have HYD1 : Hid (Ly w A V Y1) := HYD.out.go hbx
        have HCD1 : Hid (Y1.heap[B]? = some (.cells C.toArray 33 (0, 0))) := heap_bel HCD.out hbx
        clear hbx
        refine hK.out _ _ HCD1.out (fun hHeld => ?_)
        clear hK K
        refine norm_any' (fun K hK => ?_)
        go_simp
        refine hK _ _ ?_
        clear hK K
        refine wpAnyH_ready (rs := [2]) (by kernel_rfl) (by simp) (AllReadyH.cons rfl (fun K hK => ?_) AllReadyH.nil)
        go_simp
        refine Calls.mono (HNEW.out C HC1.out HC2.out HC3.out Y1 HYD1.out.lp.bel none bk (nov none Y1 (.inl rfl) bk)) ?_
        rintro e Y2 ⟨rfl, hbx⟩
        have HYD2 : Hid (Ly w A V Y2) := HYD1.out.go hbx
        have HCD2 : Hid (Y2.heap[B]? = some (.cells C.toArray 33 (0, 0))) := heap_bel HCD1.out hbx
        clear hbx
        refine hK.out _ _ HCD2.out (fun hHeld => ?_)
        clear hK K
        refine norm_any' (fun K hK => ?_)
        go_simp
        refine hK _ _ ?_
        clear hK K
        refine wpAnyH_take (i := 3) (v := .tuple #[.pointer none, .int .i64 1]) rfl (by kernel_rfl) (by kernel_rfl) (by kernel_rfl) (fun _ _ _ h => h) (Or.inl ⟨by rfl, by intro w hs; go_simp⟩) hHeld ?_
        refine norm_any' (fun K hK => ?_)
        go_simp
        refine hK _ _ ?_
        clear hK K
        refine wpAnyH_take (i := 4) (v := .pointer none) rfl (by kernel_rfl) (by kernel_rfl) (by kernel_rfl) (fun _ _ _ h => h) (Or.inl ⟨by rfl, by intro w hs; go_simp⟩) hHeld ?_
        refine norm_any' (fun K hK => ?_)
        go_simp
        refine hK _ _ ?_
        clear hK K
        refine wpAnyH_take (i := 5) (v := .int .i64 1) rfl (by kernel_rfl) (by kernel_rfl) (by kernel_rfl) (fun _ _ _ h => h) (Or.inl ⟨by rfl, by intro w hs; go_simp⟩) hHeld ?_
        refine norm_any' (fun K hK => ?_)
        go_simp
        refine hK _ _ ?_
        clear hK K
        refine wpAnyH_take (i := 6) (v := .pointer none) rfl (by kernel_rfl) (by kernel_rfl) (by kernel_rfl) (fun _ _ _ h => h) (Or.inl ⟨by rfl, by intro w hs; go_simp⟩) hHeld ?_
        refine norm_any' (fun K hK => ?_)
        go_simp
        refine hK _ _ ?_
        clear hK K
        refine wpAnyH_take (i := 7) (v := .int .i64 1) rfl (by kernel_rfl) (by kernel_rfl) (by kernel_rfl) (fun _ _ _ h => h) (Or.inl ⟨by rfl, by intro w hs; go_simp⟩) hHeld ?_
        refine norm_any' (fun K hK => ?_)
        go_simp
        refine hK _ _ ?_
        clear hK K
        refine wpAnyH_done (by kernel_rfl) ?_ _
        clear hHeld HYD HYD1 HCD HCD1 HYZ HCB
        as_aux_lemma =>
        go_wp2_with (refine wpList_load_row rfl 33 (.tmp 12) rfl B rfl 33 _ (0, 0) _ HCD2.out ut33 rfl (i33.trans (by simp [HC1.out])) ?_)
        obtain ⟨n5, G5, c5, M5, hv5⟩ := HYD2.out.va
        refine Calls.mono (HNEW.out C HC1.out HC2.out HC3.out Y2 HYD2.out.lp.bel (some ⟨V, 0, none⟩) none (nob V Y2 hv5 none (.inl rfl))) ?_
        rintro e Y3 ⟨rfl, hbx⟩
        have HYD3 : Hid (Ly w A V Y3) := HYD2.out.go hbx
        have HCD3 : Hid (Y3.heap[B]? = some (.cells C.toArray 33 (0, 0))) := heap_bel HCD2.out hbx
        clear hbx hv5 HYD2 HCD2
        as_aux_lemma =>
        have hbx := bel1 Y3 (.cells #[.map none] 64)
        have hk : Nb (Y3.alloc (.cells #[.map none] 64)) (some ⟨Y3.heap.size, 0, none⟩) := .inr ⟨_, rfl, cell_new (w := Y3) (S := [.map none]) (t := 64) (i := 0) rfl⟩
        have HYD4 : Hid (Ly w A V (Y3.alloc (.cells #[.map none] 64))) := HYD3.out.go hbx
        have HCD4 : Hid ((Y3.alloc (.cells #[.map none] 64)).heap[B]? = some (.cells C.toArray 33 (0, 0))) := heap_bel HCD3.out hbx
        have HKN : Hid _ := hk
        clear hbx hk
        go_wp2_with (refine wpList_load_row rfl 33 (.tmp 12) rfl B rfl 33 _ (0, 0) _ HCD3.out ut33 rfl (i33.trans (by simp [HC1.out])) ?_)
        obtain ⟨n5, G5, c5, M5, hv5⟩ := HYD4.out.va
        refine Calls.mono (HNEW.out C HC1.out HC2.out HC3.out _ HYD4.out.lp.bel (some ⟨V, 0, none⟩) (some ⟨Y3.heap.size, 0, none⟩) (nob V _ hv5 _ HKN.out)) ?_
        rintro e Y4 ⟨rfl, hbx⟩
        have HYD5 : Hid (Below w.heap.size w Y4) := bel_trans HYD4.out.lp.bel hbx
        clear hbx hv5 HYD3 HCD3 HYD4 HCD4 HKN
        as_aux_lemma =>
        go_wp2_with fail
        go_ret
        exact ⟨rfl, HYD5.out⟩
end Go.Proofs.YthdenbclfogojaaGreatDoor
