/- VaultNames, the walk. -/
import Derived.Test.YthhoknkdmmldbaaNc
namespace Go.Proofs.Ythhoknkdmmldbaa
open Go.RowKit Go.Shelf Go.Lib
set_option linter.unusedVariables false

theorem and_15 (a : Int) : 0 ≤ bits .and .i64 a 15 ∧ bits .and .i64 a 15 ≤ 15 := by
  have h : (BitVec.ofInt 64 a &&& BitVec.ofInt 64 15).toNat ≤ 15 := by
    rw [BitVec.toNat_and]
    exact Nat.and_le_right
  have e : bits .and .i64 a 15 = IntKind.i64.wrap ((BitVec.ofInt 64 a &&& BitVec.ofInt 64 15).toNat : Int) := rfl
  rw [e, IntKind.wrap_i64]
  omega
theorem unc {n : Nat} {H : List UInt8} (h : H.length = n + 1) : ∃ x t, H = x :: t ∧ t.length = n := by
  cases H with
  | nil => cases h
  | cons x t => exact ⟨x, t, rfl, by simpa using h⟩
theorem fold16 {H : List UInt8} (h : H.length = 16) : List.foldl (fun (cs : Array Value) (x : Value × Nat) => cs.setIfInBounds x.snd x.fst) #[.int .u8 0, .int .u8 0, .int .u8 0, .int .u8 0, .int .u8 0, .int .u8 0, .int .u8 0, .int .u8 0, .int .u8 0, .int .u8 0, .int .u8 0, .int .u8 0, .int .u8 0, .int .u8 0, .int .u8 0, .int .u8 0] (hl H).zipIdx = (hl H).toArray := by
  obtain ⟨a0, H0, rfl, h0⟩ := unc h
  obtain ⟨a1, H1, rfl, h1⟩ := unc h0
  obtain ⟨a2, H2, rfl, h2⟩ := unc h1
  obtain ⟨a3, H3, rfl, h3⟩ := unc h2
  obtain ⟨a4, H4, rfl, h4⟩ := unc h3
  obtain ⟨a5, H5, rfl, h5⟩ := unc h4
  obtain ⟨a6, H6, rfl, h6⟩ := unc h5
  obtain ⟨a7, H7, rfl, h7⟩ := unc h6
  obtain ⟨a8, H8, rfl, h8⟩ := unc h7
  obtain ⟨a9, H9, rfl, h9⟩ := unc h8
  obtain ⟨a10, H10, rfl, h10⟩ := unc h9
  obtain ⟨a11, H11, rfl, h11⟩ := unc h10
  obtain ⟨a12, H12, rfl, h12⟩ := unc h11
  obtain ⟨a13, H13, rfl, h13⟩ := unc h12
  obtain ⟨a14, H14, rfl, h14⟩ := unc h13
  obtain ⟨a15, H15, rfl, h15⟩ := unc h14
  obtain rfl : H15 = [] := List.length_eq_zero_iff.1 h15
  simp [hl, List.zipIdx, Array.setIfInBounds]
theorem ap16 {X : World} {n₀ g off : Nat} {v : Value} {l H : List UInt8} (hr : X.rangeAt g off (hl H)) (hH : H.length = 16) (hn : n₀ ≤ X.heap.size) (hown : X.ownsRow n₀ 5 1 v l.length (hl l)) (hll : l.length ≤ 140737488351232) :
    ∃ gx c X', (Builtin.append_ #[38, 38] 38 #[v, .slice (some ⟨g, off, none⟩) 16 16]).run Try.prog X = .ok (.slice (some ⟨gx, 0, none⟩) (l.length + 16) c) X' ∧ Sl X' (some ⟨gx, 0, none⟩) (l ++ H) ∧ Gw X X' n₀ := by
  obtain ⟨i, hi, hz, hs, hb⟩ := inf5
  have hcell : ∀ j u, (hl H)[j]? = some u → X.cell? ((⟨g, off, none⟩ : Addr).add j) = some u := by
    intro j u hu
    rw [Addr.add_mid]
    exact hr j u hu
  obtain ⟨v', w', hrun, hown', hgr, _, _⟩ := run_append_own_at (P := Try.prog) X n₀ 38 38 5 i (.int .u8 0) 1 1 Try.underlying38 hi hz hs hb rfl (by decide) _ _ _ hown ⟨g, off, none⟩ 16 16 (hl H) (by simp [hH]) hcell (hl_oc _) (by unfold maxLen; omega) (by omega) hn
  rw [← hl_app] at hown'
  have hg2 := own_gw hown hgr
  have hcopy := hown'
  obtain ⟨_, h | ⟨gx, cap, cur, rfl, _⟩⟩ := hcopy
  · omega
  · exact ⟨gx, cap, w', hrun, own_sl hown' (by simp [hH]), hg2⟩
theorem by_in {w : World} {o : Option Addr} {c : Nat} {l : List UInt8} (hS : Sl w o l) (h1 : l.length ≤ 140737488351232) (h2 : l.length ≤ c) (h3 : c ≤ 9223372036854775807) : By w.heap.size w o c l := by
  refine ⟨hS, by omega, h2, h3, fun hl => ?_⟩
  have h0 : 0 < l.length := by cases l with | nil => exact absurd rfl hl | cons x t => simp
  obtain ⟨b, off, e, hc⟩ := hS 0 h0
  refine ⟨b, off, e, .inl ?_⟩
  cases hh : w.heap[b]? with
  | none => simp [World.cell?, hh] at hc
  | some o => exact (Array.getElem?_eq_some_iff.1 hh).1
theorem Nm.toq {W0 w : World} {V g cl N NB : Nat} {lb : List UInt8} (h : Nm W0 w V N N (some ⟨g, 0, none⟩) cl) : Nq W0 w V g cl N NB lb 0 none 0 [] :=
  ⟨by rw [Lt_zero]; exact h.ag, h.row, Tx.nil _ _ _⟩
set_option maxRecDepth 100000 in
set_option maxHeartbeats 2000000 in
theorem names_walk (num : Int) (ob : Option Addr) (cb : Nat) (lb : List UInt8) (w : World) (hSb : Sl w ob lb) (hlb : lb.length ≤ 140737488351232) (hcap : lb.length ≤ cb) (hc64 : cb ≤ 9223372036854775807) : Calls Try.prog 7 #[.int .i64 num, .slice ob lb.length cb] w fun e w' => e = .returned (.bool true) ∧ Below w.heap.size w w' := by
  obtain ⟨hn0, hn1⟩ := and_15 num
  obtain ⟨N, hN⟩ : ∃ N : Nat, 2 + bits .and .i64 num 15 = (N : Int) := ⟨(2 + bits .and .i64 num 15).toNat, by omega⟩
  have h2N : 2 ≤ N := by omega
  have h17 : N ≤ 17 := by omega
  obtain ⟨q, hq⟩ : ∃ q : Int, bits .and .i64 num 15 = q := ⟨_, rfl⟩
  have jw : IntKind.i64.wrap (2 + q) = (N : Int) := by rw [IntKind.wrap_i64]; omega
  clear hN hn0 hn1
  have HBY : Aside (By w.heap.size w ob cb lb) := by_in hSb hlb hcap hc64
  obtain ⟨NB, hNB⟩ : ∃ NB, lb.length = NB := ⟨_, rfl⟩
  rw [hNB]
  have HSB : Aside (Sl w ob lb) := hSb
  have HNB : Aside _ := hNB
  have HLB : Aside _ := hlb
  have hNBl : NB ≤ 140737488351232 := by omega
  clear hSb hNB hlb hcap hc64
  go_enter Try.func7, Try.ntmps7
  go_wp2_with fail
  refine (new_c _).mono ?_
  rintro e W1 ⟨V, Gb, c, M, rfl, hv, hb⟩
  have HA0 : Aside (Nm w W1 V 0 0 none 0) := ⟨⟨hb, Gb, c, M, hv⟩, ⟨rfl, .inl ⟨rfl, rfl⟩⟩⟩
  clear hv hb
  go_wp2_with fail
  go_loopg [6, 7] N (fun kx s6 s7 wr => ∃ (k cl : Nat) (o : Option Addr), s7 = .int .i64 (k : Int) ∧ s6 = .slice o k cl ∧ k ≤ N ∧ N - k ≤ kx ∧ Aside (Nm w wr V k k o cl))
  case atStart => exact ⟨0, 0, none, rfl, rfl, by omega, by omega, HA0.out⟩
  case round =>
    obtain ⟨k, cl, o, rfl, rfl, hk, hg, HN⟩ := hrel
    clear HA0
    by_cases hlt : k < N
    · have i1 : (k : Int) < (N : Int) := by omega
      have iw : IntKind.i64.wrap ((k : Int) + 1) = (k : Int) + 1 := by rw [IntKind.wrap_i64]; omega
      go_wp2_with fail
      refine Calls.mono (HN.out.fresh (by omega)) ?_
      rintro e W2 ⟨rfl, hn⟩
      obtain ⟨Hn, hHn⟩ : ∃ Hn, nameL (k + 1) = Hn := ⟨_, rfl⟩
      have hHl : Hn.length = 16 := by rw [← hHn]; exact nameL_len _
      have HHN : Aside _ := hHn
      rw [hHn]
      clear hHn
      have HN2 : Aside (Nm w W2 V (k + 1) k o cl) := hn
      clear hn HN
      go_wp2_with (refine st28 rfl (.tmp 8) (.tmp 26) rfl W2.heap.size Hn rfl rfl z16 (heap_alloc_new W2 _) hHl rfl (Hid.out ?_))
      rw [hz28]
      have HB8 : Aside _ := (nbox W2 z16 Hn).1
      have HN3 : Aside (Nm w ((W2.alloc (.cells (hl z16).toArray 28)).setRow W2.heap.size (hl Hn).toArray) V (k + 1) k o cl) := HN2.out.bel (nbox W2 z16 Hn).2
      generalize (W2.alloc (.cells (hl z16).toArray 28)).setRow W2.heap.size (hl Hn).toArray = W3 at *
      clear HN2
      generalize W2.heap.size = B8 at *
      refine mkHid ?_
      go_wp2_with fail
      go_loopg [9] k (fun kx s9 wx => ∃ j : Nat, s9 = .int .i64 (j : Int) ∧ j ≤ k ∧ k - j ≤ kx ∧ Aside (Nm w wx V (k + 1) k o cl) ∧ Aside (wx.heap[B8]? = some (.cells (hl Hn).toArray 28 (0, 0))))
      case atStart => exact ⟨0, rfl, by omega, by omega, HN3.out, HB8.out⟩
      case round =>
        obtain ⟨j, rfl, hj, hg2, HNj, HBj⟩ := hrel
        clear HN3 HB8
        by_cases hlt2 : j < k
        · have i2 : (j : Int) < (k : Int) := by omega
          have i0 : (0 : Int) ≤ (j : Int) := by omega
          have iw2 : IntKind.i64.wrap ((j : Int) + 1) = (j : Int) + 1 := by rw [IntKind.wrap_i64]; omega
          obtain ⟨g, rfl⟩ : ∃ g, o = some ⟨g, 0, none⟩ := by
            obtain ⟨_, h | ⟨g, cap, cur, e, _⟩⟩ := HNj.out.row
            · omega
            · injection e with e; exact ⟨g, e⟩
          have HR1 : Aside _ := (row_at HNj.out.row hlt2).1
          have HR2 : Aside _ := range_of' HBj.out
          have hmj : (Try.prog.info? 28).map (·.size) = some (hl (nameL (j + 1))).length := hi28.trans (by simp [nameL_len])
          have hmk : (Try.prog.info? 28).map (·.size) = some (hl Hn).length := hi28.trans (by simp [hHl])
          have hmu := hu28
          have nne : (nameL (j + 1) == Hn) = false := by
            have : nameL (j + 1) ≠ Hn := fun h => absurd (name_inj (by omega) (by omega) (h.trans HHN.out.symm)) (by omega)
            simpa using this
          have heq : ∀ X, (binOp .eql 28 (.agg (hl (nameL (j + 1))).toArray) (.agg (hl Hn).toArray)).run Try.prog X = .ok (.bool false) X := fun X => by
            have := eql28 (nameL (j + 1)) Hn (nameL_len _) hHl X
            rw [nne] at this
            exact this
          have heqn : ∀ X, (Op.equalIn 10000 28 (.agg (hl (nameL (j + 1))).toArray) (.agg (hl Hn).toArray)).run Try.prog X = .ok false X := fun X => by
            have := equalIn_h 28 hu28 9998 (nameL (j + 1)) Hn (nameL_len _) hHl X
            rw [nne] at this
            exact this
          have HNd : Aside (Nm w wr.drew V (k + 1) k (some ⟨g, 0, none⟩) cl) := HNj.out.bel (bel_drew wr)
          have HBd : Aside _ := heap_bel HBj.out (bel_drew wr)
          clear nne HNj HBj
          go_wp2_with fail
          unfold hv at *
          generalize hl (nameL (j + 1)) = Zj at *
          generalize hZk : hl Hn = Zk at *
          refine wp_region_held_drew (S := fun X => X.rangeAt g (j * 16) Zj ∧ X.rangeAt B8 0 Zk) (by kernel_rfl) ⟨HR1.out, HR2.out⟩ (fun hHeld => ?_)
          refine wpAnyH_take (i := 0) (v := .slice (some ⟨g, 0, none⟩) k cl) rfl (by kernel_rfl) (by kernel_rfl) (by kernel_rfl) (fun _ _ _ h => h) (Or.inl ⟨by rfl, by intro w hs; go_simp⟩) hHeld ?_
          refine norm_any' (fun K hK => ?_)
          go_simp
          refine hK _ _ ?_
          clear hK K
          refine wpAnyH_take (i := 1) (v := .int .i64 (j : Int)) rfl (by kernel_rfl) (by kernel_rfl) (by kernel_rfl) (fun _ _ _ h => h) (Or.inl ⟨by rfl, by intro w hs; go_simp⟩) hHeld ?_
          refine norm_any' (fun K hK => ?_)
          go_simp
          refine hK _ _ ?_
          clear hK K
          refine wpAnyH_take (i := 2) (v := .pointer (some ⟨g, j * 16, none⟩)) rfl (by kernel_rfl) (by kernel_rfl) (by kernel_rfl) (fun _ _ _ h => h) (Or.inl ⟨by rfl, by intro w hs; go_simp⟩) hHeld ?_
          refine norm_any' (fun K hK => ?_)
          go_simp
          refine hK _ _ ?_
          clear hK K
          refine wpAnyH_take (i := 3) (v := .agg Zj.toArray) rfl (by kernel_rfl) (by kernel_rfl) (by kernel_rfl) (fun _ _ _ h => h) (yieldsIf_load_mid (by rfl) 28 _ rfl g (j * 16) rfl Zj _ (fun X h => h.1) hmu rfl hmj) hHeld ?_
          refine norm_any' (fun K hK => ?_)
          go_simp
          refine hK _ _ ?_
          clear hK K
          refine wpAnyH_take (i := 4) (v := .agg Zk.toArray) rfl (by kernel_rfl) (by kernel_rfl) (by kernel_rfl) (fun _ _ _ h => h) (yieldsIf_load_mid (by rfl) 28 _ rfl B8 0 rfl Zk _ (fun X h => h.2) hmu rfl hmk) hHeld ?_
          refine norm_any' (fun K hK => ?_)
          go_simp
          refine hK _ _ ?_
          clear hK K
          refine wpAnyH_take (i := 5) (v := .bool false) rfl (by kernel_rfl) (by kernel_rfl) (by kernel_rfl) (fun _ _ _ h => h) (Or.inl ⟨by rfl, by intro w hs; go_simp⟩) hHeld ?_
          refine norm_any' (fun K hK => ?_)
          go_simp
          refine hK _ _ ?_
          clear hK K
          refine wpAnyH_done (by kernel_rfl) ?_ _
          clear hHeld heq heqn
          go_wp2
          go_roundg (k - (j + 1))
          case measure => omega
          case rel => exact ⟨j + 1, by simp, by omega, Nat.le_refl _, HNd.out, HBd.out⟩
        · obtain rfl : j = k := by omega
          have i2 : ¬ ((j : Int) < (j : Int)) := by omega
          have HNx : Aside (Nm w (wr.alloc (.cells (hl Hn).toArray 28)) V (j + 1) j o cl) := HNj.out.bel (bel1 _ _)
          obtain ⟨g, c', W5, hrun, hn5⟩ := HNx.out.push (b := wr.heap.size) (by omega) (by rw [HHN.out]; exact heap_alloc_new wr _)
          have HN5 : Aside (Nm w W5 V (j + 1) (j + 1) (some ⟨g, 0, none⟩) c') := hn5
          have HRUN : Aside _ := hrun
          clear hn5 HNx HNj hrun
          go_wp2_with (refine ld28 rfl (.tmp 8) rfl B8 rfl Hn HBj.out hHl (Hid.out ?_))
          refine mkHid ?_
          have hfold := fold16 hHl
          go_wp2_with (refine wpList_append_run' rfl _ _ 33 33 rfl _ _ rfl rfl HRUN.out ?_)
          go_roundg (N - (j + 1))
          case measure => omega
          case rel => exact ⟨j + 1, c', some ⟨g, 0, none⟩, by simp, rfl, by omega, Nat.le_refl _, HN5.out⟩
    · obtain rfl : k = N := by omega
      have i1 : ¬ ((k : Int) < (k : Int)) := by omega
      obtain ⟨g, rfl⟩ : ∃ g, o = some ⟨g, 0, none⟩ := by
        obtain ⟨_, h | ⟨g, cap, cur, e, _⟩⟩ := HN.out.row
        · omega
        · injection e with e; exact ⟨g, e⟩
      have HHB : Aside (Calls Try.prog 24 #[.pointer (some ⟨V, 0, none⟩), .slice ob NB cb, .slice none 0 0] wr fun e w' => ∃ b : Bool, e = .returned (.bool b) ∧ Below wr.heap.size wr w') := by
        obtain ⟨G, c, M, hv⟩ := HN.out.ag.va
        have := hidden_c w.heap.size V G c M cb 0 (Ls k) ob none lb [] wr hv (HBY.out.bel HN.out.ag.bel) ⟨fun x hx => (by cases hx), fun j x hx => (by simp at hx)⟩ (by rw [← Lt_zero k []]; exact Lt_small (by simp)) (by rw [Ls_len]; omega) (by simp) (by
          have hl : (Ls k).length ≤ 18 := by rw [Ls_len]; omega
          have := Nat.mul_le_mul hl (show 200000 + 2 * (Ls k).length * 65537 ≤ 200000 + 2 * 18 * 65537 by omega)
          simp only [tot, List.map_nil, List.sum_nil]
          omega)
        rw [HNB.out] at this
        exact this.mono fun e w' ⟨b, h1, _, h2⟩ => ⟨b, h1, h2⟩
      go_wp2_with fail
      refine Calls.mono HHB.out ?_
      rintro e W6 ⟨b, rfl, hb⟩
      have HN6 : Aside (Nm w W6 V k k (some ⟨g, 0, none⟩) cl) := HN.out.bel hb
      clear hb HHB HN
      cases b with
      | true =>
        go_wp2
        go_ret
        exact ⟨rfl, HN6.out.ag.bel⟩
      | false =>
      have HQ0 : Aside (Nq w W6 V g cl k NB lb 0 none 0 []) := HN6.out.toq
      clear HN6
      go_wp2_with fail
      go_loopg [10, 11] k (fun kx s10 s11 wx => ∃ (i ct : Nat) (os : Option Addr) (T : List (Nat × Nat × ByteArray)), s11 = .int .i64 (i : Int) ∧ s10 = .slice os i ct ∧ i + 1 ≤ k ∧ k - i ≤ kx ∧ Aside (i = 0 ∨ NB + 16 ≤ 65536) ∧ Aside (Nq w wx V g cl k NB lb i os ct T ∧ T.map (fun x => x.2.2) = zs k NB i))
      case atStart => exact ⟨0, 0, none, [], rfl, rfl, by omega, by omega, .inl rfl, ⟨HQ0.out, rfl⟩⟩
      case round =>
        obtain ⟨i, ct, os, T, rfl, rfl, hi, hg2, HOR, HQ⟩ := hrel
        clear HQ0
        have iw : IntKind.i64.wrap ((i : Int) + 1) = (i : Int) + 1 := by rw [IntKind.wrap_i64]; omega
        by_cases hlt2 : i + 1 < k
        · have i2 : (i : Int) + 1 < (k : Int) := by omega
          have i0 : (0 : Int) ≤ (i : Int) := by omega
          have i3 : (i : Int) < (k : Int) := by omega
          have i4 : (0 : Int) ≤ (i : Int) + 1 := by omega
          have i5 : ((i : Int) + 1).toNat = i + 1 := by omega
          have HTL : Aside (T.length = i) := (zs_size HQ.out.2).1
          obtain ⟨F, hF⟩ : ∃ F : World → Prop, ∀ X, F X ↔ Below wr.heap.size wr X := ⟨_, fun _ => Iff.rfl⟩
          have HF : Aside (F wr.drew) := (hF _).2 (bel_drew wr)
          have HSZ : Aside (∀ X, F X → wr.heap.size ≤ X.heap.size) := fun X h => ((hF X).1 h).size
          have HFL : Aside (∀ X, F X → X.rangeAt g (i * 16) (hl (nameL (i + 1)))) := fun X h => (row_at (HQ.out.1.bel ((hF X).1 h)).row (by omega)).1
          have HFB : Aside (∀ X X', F X → Below wr.heap.size X X' → F X') := fun X X' hX hb => (hF _).2 (((hF X).1 hX).trans hb)
          have HFQ : Aside (∀ X, F X → Nq w X V g cl k NB lb i os ct T) := fun X h => HQ.out.1.bel ((hF X).1 h)
          have HSL : Aside (∀ X, F X → Sl X ob lb) := fun X hX => HSB.out.bel (HFQ.out X hX).ag.bel
          have HA1 : Aside (∀ X kk, F X → X.heap[kk]? = some (.cells #[] 5 (0, 0)) → wr.heap.size ≤ kk → ∃ v X', (Builtin.append_ #[38, 38] 38 #[.slice (some ⟨kk, 0, none⟩) 0 0, .slice ob NB cb]).run Try.prog X = .ok v X' ∧ X'.ownsRow wr.heap.size 5 1 v NB (hl lb) ∧ F X') := fun X kk hX hk hge => by
            obtain ⟨v, X', h1, h2, h3, h4⟩ := ap1 (cp := cb) hk hge (HSZ.out X hX) (HSL.out X hX) HLB.out
            rw [HNB.out] at h1 h2
            exact ⟨v, X', h1, h2, HFB.out _ _ hX (h3.bel (HSZ.out X hX))⟩
          have HA2 : Aside (∀ X v, F X → X.ownsRow wr.heap.size 5 1 v NB (hl lb) → ∃ gx c X', (Builtin.append_ #[38, 38] 38 #[v, .slice (some ⟨g, (i + 1) * 16, none⟩) 16 16]).run Try.prog X = .ok (.slice (some ⟨gx, 0, none⟩) (NB + 16) c) X' ∧ Sl X' (some ⟨gx, 0, none⟩) (lb ++ nameL (i + 2)) ∧ F X') := fun X v hX ho => by
            have hr := (row_at (HFQ.out X hX).row (show i + 1 < k by omega)).1
            obtain ⟨gx, c, X', h1, h2, h3⟩ := ap16 hr (nameL_len _) (HSZ.out X hX) (by rw [HNB.out]; exact ho) HLB.out
            rw [HNB.out] at h1
            exact ⟨gx, c, X', h1, h2, HFB.out _ _ hX (h3.bel (HSZ.out X hX))⟩
          have HAL : Aside (∀ X o, F X → F (X.alloc o)) := fun X o hX => HFB.out _ _ hX ((bel1 X o).mono (HSZ.out X hX))
          have hmu := hu28
          have HQB : Aside (Below w.heap.size w wr) := HQ.out.1.ag.bel
          by_cases hbig : NB + 16 ≤ 65536
          · have HSE : Aside (∀ X gx cx, F X → Sl X (some ⟨gx, 0, none⟩) (lb ++ nameL (i + 2)) → Calls Try.prog 18 #[.pointer (some ⟨V, 0, none⟩), hv (nameL (i + 1)), .int .i64 (i : Int), .slice none 0 0, .slice (some ⟨gx, 0, none⟩) (NB + 16) cx] X fun e w' => ∃ gz cz, e = .returned (.tuple #[.slice (some ⟨gz, 0, none⟩) (NB + 16 + 16) cz, .int .i64 0]) ∧ Nq w w' V g cl k NB lb (i + 1) os ct T ∧ By w.heap.size w' (some ⟨gz, 0, none⟩) cz (zn (NB + 16) (k + 1 + i))) := fun X gx cx hX hs => (HFQ.out X hX).seal hlt2 h17 HNB.out hbig hs
            have HTE : Aside _ := HQ.out.2
            have HFZ : Aside (∀ X, Nq w X V g cl k NB lb (i + 1) os ct T → X.rangeAt g (i * 16) (hl (nameL (i + 1)))) := fun X h => (row_at h.row (by omega)).1
            have hmi : (Try.prog.info? 28).map (·.size) = some (hl (nameL (i + 1))).length := hi28.trans (by simp [nameL_len])
            clear hF HQ HFQ HSL HFB
            unfold hv at HSE
            generalize hl (nameL (i + 1)) = Zi at *
            generalize hHL : hl lb = ZL at *
            clear hHL
            obtain ⟨LQ, hLQ⟩ : ∃ LQ, lb ++ nameL (i + 2) = LQ := ⟨_, rfl⟩
            rw [hLQ] at HA2 HSE
            clear hLQ
            go_wp2_with fail
            refine wp_region_held_drew (S := fun X => X.rangeAt g (i * 16) Zi) (by kernel_rfl) (HFL.out _ HF.out) (fun hHeld => ?_)
            refine wpAnyH_take (i := 0) (v := .pointer (some ⟨V, 0, none⟩)) rfl (by kernel_rfl) (by kernel_rfl) (by kernel_rfl) (fun _ _ _ h => h) (Or.inl ⟨by rfl, by intro w hs; go_simp⟩) hHeld ?_
            refine norm_any' (fun K hK => ?_)
            go_simp
            refine hK _ _ ?_
            clear hK K
            refine wpAnyH_take (i := 1) (v := .slice (some ⟨g, 0, none⟩) k cl) rfl (by kernel_rfl) (by kernel_rfl) (by kernel_rfl) (fun _ _ _ h => h) (Or.inl ⟨by rfl, by intro w hs; go_simp⟩) hHeld ?_
            refine norm_any' (fun K hK => ?_)
            go_simp
            refine hK _ _ ?_
            clear hK K
            refine wpAnyH_take (i := 2) (v := .int .i64 (i : Int)) rfl (by kernel_rfl) (by kernel_rfl) (by kernel_rfl) (fun _ _ _ h => h) (Or.inl ⟨by rfl, by intro w hs; go_simp⟩) hHeld ?_
            refine norm_any' (fun K hK => ?_)
            go_simp
            refine hK _ _ ?_
            clear hK K
            refine wpAnyH_take (i := 3) (v := .pointer (some ⟨g, i * 16, none⟩)) rfl (by kernel_rfl) (by kernel_rfl) (by kernel_rfl) (fun _ _ _ h => h) (Or.inl ⟨by rfl, by intro w hs; go_simp⟩) hHeld ?_
            refine norm_any' (fun K hK => ?_)
            go_simp
            refine hK _ _ ?_
            clear hK K
            refine wpAnyH_take (i := 4) (v := .agg Zi.toArray) rfl (by kernel_rfl) (by kernel_rfl) (by kernel_rfl) (fun _ _ _ h => h) (yieldsIf_load_mid (by rfl) 28 _ rfl g (i * 16) rfl Zi _ (fun X h => h) hmu rfl hmi) hHeld ?_
            refine norm_any' (fun K hK => ?_)
            go_simp
            refine hK _ _ ?_
            clear hK K
            refine wpAnyH_take (i := 5) (v := .int .i64 (i : Int)) rfl (by kernel_rfl) (by kernel_rfl) (by kernel_rfl) (fun _ _ _ h => h) (Or.inl ⟨by rfl, by intro w hs; go_simp⟩) hHeld ?_
            refine norm_any' (fun K hK => ?_)
            go_simp
            refine hK _ _ ?_
            clear hK K
            refine wpAnyH_take (i := 7) (v := .slice ob NB cb) rfl (by kernel_rfl) (by kernel_rfl) (by kernel_rfl) (fun _ _ _ h => h) (Or.inl ⟨by rfl, by intro w hs; go_simp⟩) hHeld ?_
            refine norm_any' (fun K hK => ?_)
            go_simp
            refine hK _ _ ?_
            clear hK K
            refine wpAnyH_take (i := 9) (v := .slice (some ⟨g, 0, none⟩) k cl) rfl (by kernel_rfl) (by kernel_rfl) (by kernel_rfl) (fun _ _ _ h => h) (Or.inl ⟨by rfl, by intro w hs; go_simp⟩) hHeld ?_
            refine norm_any' (fun K hK => ?_)
            go_simp
            refine hK _ _ ?_
            clear hK K
            refine wpAnyH_take (i := 10) (v := .int .i64 (i : Int)) rfl (by kernel_rfl) (by kernel_rfl) (by kernel_rfl) (fun _ _ _ h => h) (Or.inl ⟨by rfl, by intro w hs; go_simp⟩) hHeld ?_
            refine norm_any' (fun K hK => ?_)
            go_simp
            refine hK _ _ ?_
            clear hK K
            refine wpAnyH_take (i := 11) (v := .int .i64 ((i : Int) + 1)) rfl (by kernel_rfl) (by kernel_rfl) (by kernel_rfl) (fun _ _ _ h => h) (Or.inl ⟨by rfl, by intro w hs; go_simp⟩) hHeld ?_
            refine norm_any' (fun K hK => ?_)
            go_simp
            refine hK _ _ ?_
            clear hK K
            refine wpAnyH_take (i := 12) (v := .pointer (some ⟨g, (i + 1) * 16, none⟩)) rfl (by kernel_rfl) (by kernel_rfl) (by kernel_rfl) (fun _ _ _ h => h) (Or.inl ⟨by rfl, by intro w hs; go_simp⟩) hHeld ?_
            refine norm_any' (fun K hK => ?_)
            go_simp
            refine hK _ _ ?_
            clear hK K
            refine wpAnyH_take (i := 13) (v := .slice (some ⟨g, (i + 1) * 16, none⟩) 16 16) rfl (by kernel_rfl) (by kernel_rfl) (by kernel_rfl) (fun _ _ _ h => h) (Or.inl ⟨by rfl, by intro w hs; go_simp⟩) hHeld ?_
            refine norm_any' (fun K hK => ?_)
            go_simp
            refine hK _ _ ?_
            clear hK K
            have HFa : Aside (F (wr.drew.alloc (.cells #[] 5))) := HAL.out _ _ HF.out
            have HKa : Aside _ := heap_alloc_new wr.drew (.cells #[] 5)
            refine wpAnyH_ready (rs := [6]) (by kernel_rfl) (by simp) (AllReadyH.cons rfl (fun K hK => ?_) AllReadyH.nil)
            go_simp
            skip
            refine hK.out _ _ (HFL.out _ HFa.out) (fun hHeld => ?_)
            clear hK K
            refine norm_any' (fun K hK => ?_)
            go_simp
            refine hK _ _ ?_
            clear hK K
            obtain ⟨v1, Y3, hr1, ho1, hf1⟩ := HA1.out _ _ HFa.out HKa.out (Nat.le_refl _)
            have HR1 : Aside _ := hr1
            have HO1 : Aside _ := ho1
            have HF3 : Aside (F Y3) := hf1
            clear hr1 ho1 hf1
            refine wpAnyH_ready (rs := [8]) (by kernel_rfl) (by simp) (AllReadyH.cons rfl (fun K hK => ?_) AllReadyH.nil)
            refine step_append_g (by rfl) _ _ 38 38 rfl _ _ (by rfl) (by rfl) HR1.out ?_
            refine hK.out _ _ (HFL.out _ HF3.out) (fun hHeld => ?_)
            clear hK K
            refine norm_any' (fun K hK => ?_)
            go_simp
            refine hK _ _ ?_
            clear hK K
            obtain ⟨gx, cx, Y4, hr2, hs4, hf4⟩ := HA2.out _ _ HF3.out HO1.out
            have HR2 : Aside _ := hr2
            have HS4 : Aside _ := hs4
            have HF4 : Aside (F Y4) := hf4
            clear hr2 hs4 hf4
            refine wpAnyH_ready (rs := [14]) (by kernel_rfl) (by simp) (AllReadyH.cons rfl (fun K hK => ?_) AllReadyH.nil)
            refine step_append_g (by rfl) _ _ 38 38 rfl _ _ (by rfl) (by rfl) HR2.out ?_
            refine hK.out _ _ (HFL.out _ HF4.out) (fun hHeld => ?_)
            clear hK K
            refine norm_any' (fun K hK => ?_)
            go_simp
            refine hK _ _ ?_
            clear hK K
            refine wpAnyH_ready (rs := [15]) (by kernel_rfl) (by simp) (AllReadyH.cons rfl (fun K hK => ?_) AllReadyH.nil)
            go_simp
            refine Calls.mono (HSE.out _ _ _ HF4.out HS4.out) ?_
            rintro e Y5 ⟨gz, cz, rfl, hz1, hz2⟩
            have HQ5 : Aside (Nq w Y5 V g cl k NB lb (i + 1) os ct T) := hz1
            have HB5 : Aside (By w.heap.size Y5 (some ⟨gz, 0, none⟩) cz (zn (NB + 16) (k + 1 + i))) := hz2
            clear hz1 hz2
            refine hK.out _ _ (HFZ.out _ HQ5.out) (fun hHeld => ?_)
            clear hK K
            refine norm_any' (fun K hK => ?_)
            go_simp
            refine hK _ _ ?_
            clear hK K
            refine wpAnyH_take (i := 16) (v := .tuple #[.slice (some ⟨gz, 0, none⟩) (NB + 16 + 16) cz, .int .i64 0]) rfl (by kernel_rfl) (by kernel_rfl) (by kernel_rfl) (fun _ _ _ h => h) (Or.inl ⟨by rfl, by intro w hs; go_simp⟩) hHeld ?_
            refine norm_any' (fun K hK => ?_)
            go_simp
            refine hK _ _ ?_
            clear hK K
            refine wpAnyH_take (i := 17) (v := .slice (some ⟨gz, 0, none⟩) (NB + 16 + 16) cz) rfl (by kernel_rfl) (by kernel_rfl) (by kernel_rfl) (fun _ _ _ h => h) (Or.inl ⟨by rfl, by intro w hs; go_simp⟩) hHeld ?_
            refine norm_any' (fun K hK => ?_)
            go_simp
            refine hK _ _ ?_
            clear hK K
            refine wpAnyH_take (i := 18) (v := .int .i64 0) rfl (by kernel_rfl) (by kernel_rfl) (by kernel_rfl) (fun _ _ _ h => h) (Or.inl ⟨by rfl, by intro w hs; go_simp⟩) hHeld ?_
            refine norm_any' (fun K hK => ?_)
            go_simp
            refine hK _ _ ?_
            clear hK K
            refine wpAnyH_take (i := 19) (v := .slice (some ⟨gz, 0, none⟩) (NB + 16 + 16) cz) rfl (by kernel_rfl) (by kernel_rfl) (by kernel_rfl) (fun _ _ _ h => h) (Or.inl ⟨by rfl, by intro w hs; go_simp⟩) hHeld ?_
            refine norm_any' (fun K hK => ?_)
            go_simp
            refine hK _ _ ?_
            clear hK K
            refine wpAnyH_take (i := 20) (v := .int .i64 0) rfl (by kernel_rfl) (by kernel_rfl) (by kernel_rfl) (fun _ _ _ h => h) (Or.inl ⟨by rfl, by intro w hs; go_simp⟩) hHeld ?_
            refine norm_any' (fun K hK => ?_)
            go_simp
            refine hK _ _ ?_
            clear hK K
            refine wpAnyH_done (by kernel_rfl) ?_ _
            have hsz : (⟨(zn (NB + 16) (k + 1 + i)).toArray⟩ : ByteArray).size = NB + 16 + 16 := by rw [ba_size, zn_len]
            obtain ⟨gs, c', X', hrun, hq1, hq2⟩ := (HQ5.out.bel (bel1 Y5 (.cells #[.slice (some ⟨gz, 0, none⟩) (NB + 16 + 16) cz] 38))).push (k := Y5.heap.size) (gx := gz) (cx := cz) (l := ⟨(zn (NB + 16) (k + 1 + i)).toArray⟩) (by rw [HTL.out]; omega) (HB5.out.bel (bel1 _ _)) (by rw [hsz]; exact heap_alloc_new Y5 _)
            rw [HTL.out] at hrun
            have HRUN : Aside _ := hrun
            have HNX : Aside (Nq w X' V g cl k NB lb (i + 1) (some ⟨gs, 0, none⟩) c' (T ++ [((gz : Nat), (cz : Nat), (⟨(zn (NB + 16) (k + 1 + i)).toArray⟩ : ByteArray))]) ∧ (T ++ [((gz : Nat), (cz : Nat), (⟨(zn (NB + 16) (k + 1 + i)).toArray⟩ : ByteArray))]).map (fun x => x.2.2) = zs k NB (i + 1)) := ⟨hq1, by rw [List.map_append, HTE.out, zs_succ]; rfl⟩
            have HBG : Aside (NB + 16 ≤ 65536) := hbig
            clear hrun hq1 hq2 HQ5 HB5 hsz hHeld HA1 HA2 HSE HFL HFZ HAL HF HSZ HR1 HR2 HO1 HF3 HF4 HS4 HFa HKa hbig
            go_wp2_with (refine wpList_append_run' rfl _ _ 34 34 rfl _ _ rfl rfl HRUN.out ?_)
            go_roundg (k - (i + 1))
            case measure => omega
            case rel => exact ⟨i + 1, c', some ⟨gs, 0, none⟩, _, by simp, rfl, by omega, Nat.le_refl _, .inr HBG.out, HNX.out⟩
          · have HSE : Aside (∀ X gx cx, F X → Calls Try.prog 18 #[.pointer (some ⟨V, 0, none⟩), hv (nameL (i + 1)), .int .i64 (i : Int), .slice none 0 0, .slice (some ⟨gx, 0, none⟩) (NB + 16) cx] X fun e w' => e = .returned (.tuple #[.slice none 0 0, .int .i64 3]) ∧ Below X.heap.size X w') := fun X gx cx hX => (HFQ.out X hX).seal_big hlt2 h17 (by omega)
            have HFS : Aside (∀ X w', F X → Below X.heap.size X w' → F w') := fun X w' hX hb => (hF _).2 (((hF X).1 hX).trans (hb.mono ((hF X).1 hX).size))
            have HFE : Aside (∀ X w', F X → Below X.heap.size X w' → Below w.heap.size w w') := fun X w' hX hb => ((HFQ.out X hX).bel hb).ag.bel
            have hmi : (Try.prog.info? 28).map (·.size) = some (hl (nameL (i + 1))).length := hi28.trans (by simp [nameL_len])
            clear hF HQ HFQ HSL HFB
            unfold hv at HSE
            generalize hl (nameL (i + 1)) = Zi at *
            generalize hHL : hl lb = ZL at *
            clear hHL
            obtain ⟨LQ, hLQ⟩ : ∃ LQ, lb ++ nameL (i + 2) = LQ := ⟨_, rfl⟩
            rw [hLQ] at HA2
            clear hLQ
            have j1 : (65520 : Int) < (NB : Int) := by omega
            have j2 : decide ((65520 : Int) < (NB : Int)) = true := by simpa using j1
            go_wp2_with fail
            refine wp_region_held_drew (S := fun X => X.rangeAt g (i * 16) Zi) (by kernel_rfl) (HFL.out _ HF.out) (fun hHeld => ?_)
            refine wpAnyH_take (i := 0) (v := .pointer (some ⟨V, 0, none⟩)) rfl (by kernel_rfl) (by kernel_rfl) (by kernel_rfl) (fun _ _ _ h => h) (Or.inl ⟨by rfl, by intro w hs; go_simp⟩) hHeld ?_
            refine norm_any' (fun K hK => ?_)
            go_simp
            refine hK _ _ ?_
            clear hK K
            refine wpAnyH_take (i := 1) (v := .slice (some ⟨g, 0, none⟩) k cl) rfl (by kernel_rfl) (by kernel_rfl) (by kernel_rfl) (fun _ _ _ h => h) (Or.inl ⟨by rfl, by intro w hs; go_simp⟩) hHeld ?_
            refine norm_any' (fun K hK => ?_)
            go_simp
            refine hK _ _ ?_
            clear hK K
            refine wpAnyH_take (i := 2) (v := .int .i64 (i : Int)) rfl (by kernel_rfl) (by kernel_rfl) (by kernel_rfl) (fun _ _ _ h => h) (Or.inl ⟨by rfl, by intro w hs; go_simp⟩) hHeld ?_
            refine norm_any' (fun K hK => ?_)
            go_simp
            refine hK _ _ ?_
            clear hK K
            refine wpAnyH_take (i := 3) (v := .pointer (some ⟨g, i * 16, none⟩)) rfl (by kernel_rfl) (by kernel_rfl) (by kernel_rfl) (fun _ _ _ h => h) (Or.inl ⟨by rfl, by intro w hs; go_simp⟩) hHeld ?_
            refine norm_any' (fun K hK => ?_)
            go_simp
            refine hK _ _ ?_
            clear hK K
            refine wpAnyH_take (i := 4) (v := .agg Zi.toArray) rfl (by kernel_rfl) (by kernel_rfl) (by kernel_rfl) (fun _ _ _ h => h) (yieldsIf_load_mid (by rfl) 28 _ rfl g (i * 16) rfl Zi _ (fun X h => h) hmu rfl hmi) hHeld ?_
            refine norm_any' (fun K hK => ?_)
            go_simp
            refine hK _ _ ?_
            clear hK K
            refine wpAnyH_take (i := 5) (v := .int .i64 (i : Int)) rfl (by kernel_rfl) (by kernel_rfl) (by kernel_rfl) (fun _ _ _ h => h) (Or.inl ⟨by rfl, by intro w hs; go_simp⟩) hHeld ?_
            refine norm_any' (fun K hK => ?_)
            go_simp
            refine hK _ _ ?_
            clear hK K
            refine wpAnyH_take (i := 7) (v := .slice ob NB cb) rfl (by kernel_rfl) (by kernel_rfl) (by kernel_rfl) (fun _ _ _ h => h) (Or.inl ⟨by rfl, by intro w hs; go_simp⟩) hHeld ?_
            refine norm_any' (fun K hK => ?_)
            go_simp
            refine hK _ _ ?_
            clear hK K
            refine wpAnyH_take (i := 9) (v := .slice (some ⟨g, 0, none⟩) k cl) rfl (by kernel_rfl) (by kernel_rfl) (by kernel_rfl) (fun _ _ _ h => h) (Or.inl ⟨by rfl, by intro w hs; go_simp⟩) hHeld ?_
            refine norm_any' (fun K hK => ?_)
            go_simp
            refine hK _ _ ?_
            clear hK K
            refine wpAnyH_take (i := 10) (v := .int .i64 (i : Int)) rfl (by kernel_rfl) (by kernel_rfl) (by kernel_rfl) (fun _ _ _ h => h) (Or.inl ⟨by rfl, by intro w hs; go_simp⟩) hHeld ?_
            refine norm_any' (fun K hK => ?_)
            go_simp
            refine hK _ _ ?_
            clear hK K
            refine wpAnyH_take (i := 11) (v := .int .i64 ((i : Int) + 1)) rfl (by kernel_rfl) (by kernel_rfl) (by kernel_rfl) (fun _ _ _ h => h) (Or.inl ⟨by rfl, by intro w hs; go_simp⟩) hHeld ?_
            refine norm_any' (fun K hK => ?_)
            go_simp
            refine hK _ _ ?_
            clear hK K
            refine wpAnyH_take (i := 12) (v := .pointer (some ⟨g, (i + 1) * 16, none⟩)) rfl (by kernel_rfl) (by kernel_rfl) (by kernel_rfl) (fun _ _ _ h => h) (Or.inl ⟨by rfl, by intro w hs; go_simp⟩) hHeld ?_
            refine norm_any' (fun K hK => ?_)
            go_simp
            refine hK _ _ ?_
            clear hK K
            refine wpAnyH_take (i := 13) (v := .slice (some ⟨g, (i + 1) * 16, none⟩) 16 16) rfl (by kernel_rfl) (by kernel_rfl) (by kernel_rfl) (fun _ _ _ h => h) (Or.inl ⟨by rfl, by intro w hs; go_simp⟩) hHeld ?_
            refine norm_any' (fun K hK => ?_)
            go_simp
            refine hK _ _ ?_
            clear hK K
            have HFa : Aside (F (wr.drew.alloc (.cells #[] 5))) := HAL.out _ _ HF.out
            have HKa : Aside _ := heap_alloc_new wr.drew (.cells #[] 5)
            refine wpAnyH_ready (rs := [6]) (by kernel_rfl) (by simp) (AllReadyH.cons rfl (fun K hK => ?_) AllReadyH.nil)
            go_simp
            skip
            refine hK.out _ _ (HFL.out _ HFa.out) (fun hHeld => ?_)
            clear hK K
            refine norm_any' (fun K hK => ?_)
            go_simp
            refine hK _ _ ?_
            clear hK K
            obtain ⟨v1, Y3, hr1, ho1, hf1⟩ := HA1.out _ _ HFa.out HKa.out (Nat.le_refl _)
            have HR1 : Aside _ := hr1
            have HO1 : Aside _ := ho1
            have HF3 : Aside (F Y3) := hf1
            clear hr1 ho1 hf1
            refine wpAnyH_ready (rs := [8]) (by kernel_rfl) (by simp) (AllReadyH.cons rfl (fun K hK => ?_) AllReadyH.nil)
            refine step_append_g (by rfl) _ _ 38 38 rfl _ _ (by rfl) (by rfl) HR1.out ?_
            refine hK.out _ _ (HFL.out _ HF3.out) (fun hHeld => ?_)
            clear hK K
            refine norm_any' (fun K hK => ?_)
            go_simp
            refine hK _ _ ?_
            clear hK K
            obtain ⟨gx, cx, Y4, hr2, hs4, hf4⟩ := HA2.out _ _ HF3.out HO1.out
            have HR2 : Aside _ := hr2
            have HS4 : Aside _ := hs4
            have HF4 : Aside (F Y4) := hf4
            clear hr2 hs4 hf4
            refine wpAnyH_ready (rs := [14]) (by kernel_rfl) (by simp) (AllReadyH.cons rfl (fun K hK => ?_) AllReadyH.nil)
            refine step_append_g (by rfl) _ _ 38 38 rfl _ _ (by rfl) (by rfl) HR2.out ?_
            refine hK.out _ _ (HFL.out _ HF4.out) (fun hHeld => ?_)
            clear hK K
            refine norm_any' (fun K hK => ?_)
            go_simp
            refine hK _ _ ?_
            clear hK K
            refine wpAnyH_ready (rs := [15]) (by kernel_rfl) (by simp) (AllReadyH.cons rfl (fun K hK => ?_) AllReadyH.nil)
            go_simp
            refine Calls.mono (HSE.out _ _ _ HF4.out) ?_
            rintro e Y5 ⟨rfl, hz⟩
            have HB5 : Aside (Below w.heap.size w Y5) := HFE.out _ _ HF4.out hz
            have HZ5 : Aside _ := HFL.out _ (HFS.out _ _ HF4.out hz)
            clear hz
            refine hK.out _ _ HZ5.out (fun hHeld => ?_)
            clear hK K
            refine norm_any' (fun K hK => ?_)
            go_simp
            refine hK _ _ ?_
            clear hK K
            refine wpAnyH_take (i := 16) (v := .tuple #[.slice none 0 0, .int .i64 3]) rfl (by kernel_rfl) (by kernel_rfl) (by kernel_rfl) (fun _ _ _ h => h) (Or.inl ⟨by rfl, by intro w hs; go_simp⟩) hHeld ?_
            refine norm_any' (fun K hK => ?_)
            go_simp
            refine hK _ _ ?_
            clear hK K
            refine wpAnyH_take (i := 17) (v := .slice none 0 0) rfl (by kernel_rfl) (by kernel_rfl) (by kernel_rfl) (fun _ _ _ h => h) (Or.inl ⟨by rfl, by intro w hs; go_simp⟩) hHeld ?_
            refine norm_any' (fun K hK => ?_)
            go_simp
            refine hK _ _ ?_
            clear hK K
            refine wpAnyH_take (i := 18) (v := .int .i64 3) rfl (by kernel_rfl) (by kernel_rfl) (by kernel_rfl) (fun _ _ _ h => h) (Or.inl ⟨by rfl, by intro w hs; go_simp⟩) hHeld ?_
            refine norm_any' (fun K hK => ?_)
            go_simp
            refine hK _ _ ?_
            clear hK K
            refine wpAnyH_take (i := 19) (v := .slice none 0 0) rfl (by kernel_rfl) (by kernel_rfl) (by kernel_rfl) (fun _ _ _ h => h) (Or.inl ⟨by rfl, by intro w hs; go_simp⟩) hHeld ?_
            refine norm_any' (fun K hK => ?_)
            go_simp
            refine hK _ _ ?_
            clear hK K
            refine wpAnyH_take (i := 20) (v := .int .i64 3) rfl (by kernel_rfl) (by kernel_rfl) (by kernel_rfl) (fun _ _ _ h => h) (Or.inl ⟨by rfl, by intro w hs; go_simp⟩) hHeld ?_
            refine norm_any' (fun K hK => ?_)
            go_simp
            refine hK _ _ ?_
            clear hK K
            refine wpAnyH_done (by kernel_rfl) ?_ _
            clear hHeld HA1 HA2 HSE HFL HAL HF HSZ HR1 HR2 HO1 HF3 HF4 HS4 HFa HKa HFS HFE HZ5
            go_wp2
            go_ret
            exact ⟨rfl, HB5.out⟩
        · obtain rfl : k = i + 1 := by omega
          have hbig : NB + 16 ≤ 65536 := by rcases HOR.out with h | h; omega; exact h
          have i2 : ¬ ((i : Int) + 1 < (i : Int) + 1) := by omega
          have i0 : (0 : Int) ≤ (i : Int) := by omega
          have i3 : (i : Int) < (i : Int) + 1 := by omega
          have i6 : (0 : Int) < (i : Int) + 1 := by omega
          have iw2 : IntKind.i64.wrap ((i : Int) + 1 - 1) = (i : Int) := by rw [IntKind.wrap_i64]; omega
          have iw3 : IntKind.i64.wrap (i : Int) = (i : Int) := by rw [IntKind.wrap_i64]; omega
          have HTL : Aside (T.length = i) := (zs_size HQ.out.2).1
          have h1i : 1 ≤ i := by omega
          have HTE : Aside (T.map (fun x => x.2.2) = zs (i + 1) NB i) := HQ.out.2
          have HQa : Aside (Nq w wr.drew V g cl (i + 1) NB lb i os ct T) := HQ.out.1.bel (bel_drew wr)
          have HH1 : Aside (∀ X, Nq w X V g cl (i + 1) NB lb i os ct T → Calls Try.prog 24 #[.pointer (some ⟨V, 0, none⟩), .slice (some ⟨g, i * 16, none⟩) 16 16, .slice os i ct] X fun e w' => e = .returned (.bool true) ∧ Below X.heap.size X w') := fun X hX => hX.hid1 HTE.out h1i h17 HNB.out hbig
          have HH2 : Aside (∀ X ot cz, Nq w X V g cl (i + 1) NB lb i ot cz (wi1 g T) → Calls Try.prog 24 #[.pointer (some ⟨V, 0, none⟩), .slice (some ⟨g, i * 16, none⟩) 16 16, .slice ot (i + 1) cz] X fun e w' => e = .returned (.bool false) ∧ Below X.heap.size X w') := fun X ot cz hX => hX.hid2 HTE.out h1i h17 HNB.out hbig
          have HP1 : Aside (∀ X, Nq w X V g cl (i + 1) NB lb i os ct T → Calls Try.prog 23 #[.pointer (some ⟨V, 0, none⟩), .slice os i ct] X fun e w' => (∃ o c, e = .returned (.slice o 0 c)) ∧ Below X.heap.size X w') := fun X hX => hX.spd1 HTE.out h1i h17 HNB.out hbig
          have HP2 : Aside (∀ X ot cz, Nq w X V g cl (i + 1) NB lb i ot cz (wi1 g T) → Calls Try.prog 23 #[.pointer (some ⟨V, 0, none⟩), .slice ot (i + 1) cz] X fun e w' => (∃ o c, e = .returned (.slice o i c)) ∧ Below X.heap.size X w') := fun X ot cz hX => hX.spd2 HTE.out h1i h17 HNB.out hbig
          have HPU : Aside (∀ X kk, Nq w X V g cl (i + 1) NB lb i os ct T → X.heap[kk]? = some (.cells #[.slice (some ⟨g, 0, none⟩) 16 16] 38 (0, 0)) → ∃ gs c' X', (Builtin.append_ #[34, 34] 34 #[.slice os i ct, .slice (some ⟨kk, 0, none⟩) 1 1]).run Try.prog X = .ok (.slice (some ⟨gs, 0, none⟩) (i + 1) c') X' ∧ Nq w X' V g cl (i + 1) NB lb i (some ⟨gs, 0, none⟩) c' (wi1 g T) ∧ Nq w X' V g cl (i + 1) NB lb i os ct T) := fun X kk hX hk => by
            have hby := by_row hX.row (show 0 < i + 1 by omega)
            rw [Nat.zero_mul] at hby
            obtain ⟨gs, c', X', h1, h2, h3⟩ := hX.push (k := kk) (gx := g) (cx := 16) (l := ⟨(nameL 1).toArray⟩) (by rw [HTL.out]; omega) hby (by rw [ba_size, nameL_len]; exact hk)
            rw [HTL.out] at h1
            exact ⟨gs, c', X', h1, h2, h3⟩
          have HFE : Aside (∀ X, Nq w X V g cl (i + 1) NB lb i os ct T → Below w.heap.size w X) := fun X h => h.ag.bel
          clear HQ HOR HTL HTE HBY HSB HNB HLB
          go_wp2_with fail
          refine wp_region_held_drew (S := fun _ => True) (by kernel_rfl) trivial (fun hHeld => ?_)
          refine wpAnyH_take (i := 0) (v := .pointer (some ⟨V, 0, none⟩)) rfl (by kernel_rfl) (by kernel_rfl) (by kernel_rfl) (fun _ _ _ h => h) (Or.inl ⟨by rfl, by intro w hs; go_simp⟩) hHeld ?_
          refine norm_any' (fun K hK => ?_)
          go_simp
          refine hK _ _ ?_
          clear hK K
          refine wpAnyH_take (i := 1) (v := .slice (some ⟨g, 0, none⟩) (i + 1) cl) rfl (by kernel_rfl) (by kernel_rfl) (by kernel_rfl) (fun _ _ _ h => h) (Or.inl ⟨by rfl, by intro w hs; go_simp⟩) hHeld ?_
          refine norm_any' (fun K hK => ?_)
          go_simp
          refine hK _ _ ?_
          clear hK K
          refine wpAnyH_take (i := 2) (v := .int .i64 ((i : Int) + 1)) rfl (by kernel_rfl) (by kernel_rfl) (by kernel_rfl) (fun _ _ _ h => h) (Or.inl ⟨by rfl, by intro w hs; go_simp⟩) hHeld ?_
          refine norm_any' (fun K hK => ?_)
          go_simp
          refine hK _ _ ?_
          clear hK K
          refine wpAnyH_take (i := 3) (v := .int .i64 (i : Int)) rfl (by kernel_rfl) (by kernel_rfl) (by kernel_rfl) (fun _ _ _ h => h) (Or.inl ⟨by rfl, by intro w hs; go_simp⟩) hHeld ?_
          refine norm_any' (fun K hK => ?_)
          go_simp
          refine hK _ _ ?_
          clear hK K
          refine wpAnyH_take (i := 4) (v := .pointer (some ⟨g, i * 16, none⟩)) rfl (by kernel_rfl) (by kernel_rfl) (by kernel_rfl) (fun _ _ _ h => h) (Or.inl ⟨by rfl, by intro w hs; go_simp⟩) hHeld ?_
          refine norm_any' (fun K hK => ?_)
          go_simp
          refine hK _ _ ?_
          clear hK K
          refine wpAnyH_take (i := 5) (v := .slice (some ⟨g, i * 16, none⟩) 16 16) rfl (by kernel_rfl) (by kernel_rfl) (by kernel_rfl) (fun _ _ _ h => h) (Or.inl ⟨by rfl, by intro w hs; go_simp⟩) hHeld ?_
          refine norm_any' (fun K hK => ?_)
          go_simp
          refine hK _ _ ?_
          clear hK K
          refine wpAnyH_take (i := 6) (v := .slice os i ct) rfl (by kernel_rfl) (by kernel_rfl) (by kernel_rfl) (fun _ _ _ h => h) (Or.inl ⟨by rfl, by intro w hs; go_simp⟩) hHeld ?_
          refine norm_any' (fun K hK => ?_)
          go_simp
          refine hK _ _ ?_
          clear hK K
          refine wpAnyH_ready (rs := [7]) (by kernel_rfl) (by simp) (AllReadyH.cons rfl (fun K hK => ?_) AllReadyH.nil)
          go_simp
          refine Calls.mono (HH1.out _ HQa.out) ?_
          rintro e Y1 ⟨rfl, hz⟩
          have HQ1 : Aside (Nq w Y1 V g cl (i + 1) NB lb i os ct T) := HQa.out.bel hz
          clear hz
          refine hK.out _ _ trivial (fun hHeld => ?_)
          clear hK K
          refine norm_any' (fun K hK => ?_)
          go_simp
          refine hK _ _ ?_
          clear hK K
          refine wpAnyH_take (i := 8) (v := .bool true) rfl (by kernel_rfl) (by kernel_rfl) (by kernel_rfl) (fun _ _ _ h => h) (Or.inl ⟨by rfl, by intro w hs; go_simp⟩) hHeld ?_
          refine norm_any' (fun K hK => ?_)
          go_simp
          refine hK _ _ ?_
          clear hK K
          refine wpAnyH_take (i := 9) (v := .pointer (some ⟨V, 0, none⟩)) rfl (by kernel_rfl) (by kernel_rfl) (by kernel_rfl) (fun _ _ _ h => h) (Or.inl ⟨by rfl, by intro w hs; go_simp⟩) hHeld ?_
          refine norm_any' (fun K hK => ?_)
          go_simp
          refine hK _ _ ?_
          clear hK K
          refine wpAnyH_take (i := 10) (v := .slice (some ⟨g, 0, none⟩) (i + 1) cl) rfl (by kernel_rfl) (by kernel_rfl) (by kernel_rfl) (fun _ _ _ h => h) (Or.inl ⟨by rfl, by intro w hs; go_simp⟩) hHeld ?_
          refine norm_any' (fun K hK => ?_)
          go_simp
          refine hK _ _ ?_
          clear hK K
          refine wpAnyH_take (i := 11) (v := .int .i64 ((i : Int) + 1)) rfl (by kernel_rfl) (by kernel_rfl) (by kernel_rfl) (fun _ _ _ h => h) (Or.inl ⟨by rfl, by intro w hs; go_simp⟩) hHeld ?_
          refine norm_any' (fun K hK => ?_)
          go_simp
          refine hK _ _ ?_
          clear hK K
          refine wpAnyH_take (i := 12) (v := .int .i64 (i : Int)) rfl (by kernel_rfl) (by kernel_rfl) (by kernel_rfl) (fun _ _ _ h => h) (Or.inl ⟨by rfl, by intro w hs; go_simp⟩) hHeld ?_
          refine norm_any' (fun K hK => ?_)
          go_simp
          refine hK _ _ ?_
          clear hK K
          refine wpAnyH_take (i := 13) (v := .pointer (some ⟨g, i * 16, none⟩)) rfl (by kernel_rfl) (by kernel_rfl) (by kernel_rfl) (fun _ _ _ h => h) (Or.inl ⟨by rfl, by intro w hs; go_simp⟩) hHeld ?_
          refine norm_any' (fun K hK => ?_)
          go_simp
          refine hK _ _ ?_
          clear hK K
          refine wpAnyH_take (i := 14) (v := .slice (some ⟨g, i * 16, none⟩) 16 16) rfl (by kernel_rfl) (by kernel_rfl) (by kernel_rfl) (fun _ _ _ h => h) (Or.inl ⟨by rfl, by intro w hs; go_simp⟩) hHeld ?_
          refine norm_any' (fun K hK => ?_)
          go_simp
          refine hK _ _ ?_
          clear hK K
          refine wpAnyH_take (i := 15) (v := .slice os i ct) rfl (by kernel_rfl) (by kernel_rfl) (by kernel_rfl) (fun _ _ _ h => h) (Or.inl ⟨by rfl, by intro w hs; go_simp⟩) hHeld ?_
          refine norm_any' (fun K hK => ?_)
          go_simp
          refine hK _ _ ?_
          clear hK K
          refine wpAnyH_take (i := 16) (v := .slice (some ⟨g, 0, none⟩) (i + 1) cl) rfl (by kernel_rfl) (by kernel_rfl) (by kernel_rfl) (fun _ _ _ h => h) (Or.inl ⟨by rfl, by intro w hs; go_simp⟩) hHeld ?_
          refine norm_any' (fun K hK => ?_)
          go_simp
          refine hK _ _ ?_
          clear hK K
          refine wpAnyH_take (i := 17) (v := .pointer (some ⟨g, 0, none⟩)) rfl (by kernel_rfl) (by kernel_rfl) (by kernel_rfl) (fun _ _ _ h => h) (Or.inl ⟨by rfl, by intro w hs; go_simp⟩) hHeld ?_
          refine norm_any' (fun K hK => ?_)
          go_simp
          refine hK _ _ ?_
          clear hK K
          refine wpAnyH_take (i := 18) (v := .slice (some ⟨g, 0, none⟩) 16 16) rfl (by kernel_rfl) (by kernel_rfl) (by kernel_rfl) (fun _ _ _ h => h) (Or.inl ⟨by rfl, by intro w hs; go_simp⟩) hHeld ?_
          refine norm_any' (fun K hK => ?_)
          go_simp
          refine hK _ _ ?_
          clear hK K
          have HQ1b : Aside (Nq w (Y1.alloc (.cells #[.slice (some ⟨g, 0, none⟩) 16 16] 38)) V g cl (i + 1) NB lb i os ct T) := HQ1.out.bel (bel1 _ _)
          have HK1 : Aside _ := heap_alloc_new Y1 (.cells #[.slice (some ⟨g, 0, none⟩) 16 16] 38)
          refine wpAnyH_ready (rs := [19]) (by kernel_rfl) (by simp) (AllReadyH.cons rfl (fun K hK => ?_) AllReadyH.nil)
          go_simp
          skip
          refine hK.out _ _ trivial (fun hHeld => ?_)
          clear hK K
          refine norm_any' (fun K hK => ?_)
          go_simp
          refine hK _ _ ?_
          clear hK K
          obtain ⟨gs2, cs2, Y2, hr, hq1, hq2⟩ := HPU.out _ _ HQ1b.out HK1.out
          have HR2 : Aside _ := hr
          have HW2 : Aside (Nq w Y2 V g cl (i + 1) NB lb i (some ⟨gs2, 0, none⟩) cs2 (wi1 g T)) := hq1
          have HO2 : Aside (Nq w Y2 V g cl (i + 1) NB lb i os ct T) := hq2
          clear hr hq1 hq2
          refine wpAnyH_ready (rs := [20]) (by kernel_rfl) (by simp) (AllReadyH.cons rfl (fun K hK => ?_) AllReadyH.nil)
          refine step_append_g (by rfl) _ _ 34 34 rfl _ _ (by rfl) (by rfl) HR2.out ?_
          refine hK.out _ _ trivial (fun hHeld => ?_)
          clear hK K
          refine norm_any' (fun K hK => ?_)
          go_simp
          refine hK _ _ ?_
          clear hK K
          refine wpAnyH_ready (rs := [21]) (by kernel_rfl) (by simp) (AllReadyH.cons rfl (fun K hK => ?_) AllReadyH.nil)
          go_simp
          refine Calls.mono (HH2.out _ _ _ HW2.out) ?_
          rintro e Y3 ⟨rfl, hz⟩
          have HQ3 : Aside (Nq w Y3 V g cl (i + 1) NB lb i os ct T) := HO2.out.bel hz
          clear hz
          refine hK.out _ _ trivial (fun hHeld => ?_)
          clear hK K
          refine norm_any' (fun K hK => ?_)
          go_simp
          refine hK _ _ ?_
          clear hK K
          refine wpAnyH_take (i := 22) (v := .bool true) rfl (by kernel_rfl) (by kernel_rfl) (by kernel_rfl) (fun _ _ _ h => h) (Or.inl ⟨by rfl, by intro w hs; go_simp⟩) hHeld ?_
          refine norm_any' (fun K hK => ?_)
          go_simp
          refine hK _ _ ?_
          clear hK K
          refine wpAnyH_take (i := 23) (v := .bool true) rfl (by kernel_rfl) (by kernel_rfl) (by kernel_rfl) (fun _ _ _ h => h) (Or.inl ⟨by rfl, by intro w hs; go_simp⟩) hHeld ?_
          refine norm_any' (fun K hK => ?_)
          go_simp
          refine hK _ _ ?_
          clear hK K
          refine wpAnyH_take (i := 24) (v := .bool true) rfl (by kernel_rfl) (by kernel_rfl) (by kernel_rfl) (fun _ _ _ h => h) (Or.inl ⟨by rfl, by intro w hs; go_simp⟩) hHeld ?_
          refine norm_any' (fun K hK => ?_)
          go_simp
          refine hK _ _ ?_
          clear hK K
          refine wpAnyH_take (i := 25) (v := .pointer (some ⟨V, 0, none⟩)) rfl (by kernel_rfl) (by kernel_rfl) (by kernel_rfl) (fun _ _ _ h => h) (Or.inl ⟨by rfl, by intro w hs; go_simp⟩) hHeld ?_
          refine norm_any' (fun K hK => ?_)
          go_simp
          refine hK _ _ ?_
          clear hK K
          refine wpAnyH_take (i := 26) (v := .slice os i ct) rfl (by kernel_rfl) (by kernel_rfl) (by kernel_rfl) (fun _ _ _ h => h) (Or.inl ⟨by rfl, by intro w hs; go_simp⟩) hHeld ?_
          refine norm_any' (fun K hK => ?_)
          go_simp
          refine hK _ _ ?_
          clear hK K
          refine wpAnyH_take (i := 27) (v := .slice (some ⟨g, 0, none⟩) (i + 1) cl) rfl (by kernel_rfl) (by kernel_rfl) (by kernel_rfl) (fun _ _ _ h => h) (Or.inl ⟨by rfl, by intro w hs; go_simp⟩) hHeld ?_
          refine norm_any' (fun K hK => ?_)
          go_simp
          refine hK _ _ ?_
          clear hK K
          refine wpAnyH_take (i := 28) (v := .pointer (some ⟨g, 0, none⟩)) rfl (by kernel_rfl) (by kernel_rfl) (by kernel_rfl) (fun _ _ _ h => h) (Or.inl ⟨by rfl, by intro w hs; go_simp⟩) hHeld ?_
          refine norm_any' (fun K hK => ?_)
          go_simp
          refine hK _ _ ?_
          clear hK K
          refine wpAnyH_take (i := 29) (v := .slice (some ⟨g, 0, none⟩) 16 16) rfl (by kernel_rfl) (by kernel_rfl) (by kernel_rfl) (fun _ _ _ h => h) (Or.inl ⟨by rfl, by intro w hs; go_simp⟩) hHeld ?_
          refine norm_any' (fun K hK => ?_)
          go_simp
          refine hK _ _ ?_
          clear hK K
          refine wpAnyH_take (i := 34) (v := .int .i64 ((i : Int) + 1)) rfl (by kernel_rfl) (by kernel_rfl) (by kernel_rfl) (fun _ _ _ h => h) (Or.inl ⟨by rfl, by intro w hs; go_simp⟩) hHeld ?_
          refine norm_any' (fun K hK => ?_)
          go_simp
          refine hK _ _ ?_
          clear hK K
          refine wpAnyH_take (i := 35) (v := .int .i64 (i : Int)) rfl (by kernel_rfl) (by kernel_rfl) (by kernel_rfl) (fun _ _ _ h => h) (Or.inl ⟨by rfl, by intro w hs; go_simp⟩) hHeld ?_
          refine norm_any' (fun K hK => ?_)
          go_simp
          refine hK _ _ ?_
          clear hK K
          have HQ3b : Aside (Nq w (Y3.alloc (.cells #[.slice (some ⟨g, 0, none⟩) 16 16] 38)) V g cl (i + 1) NB lb i os ct T) := HQ3.out.bel (bel1 _ _)
          have HK3 : Aside _ := heap_alloc_new Y3 (.cells #[.slice (some ⟨g, 0, none⟩) 16 16] 38)
          refine wpAnyH_ready (rs := [30]) (by kernel_rfl) (by simp) (AllReadyH.cons rfl (fun K hK => ?_) AllReadyH.nil)
          go_simp
          skip
          refine hK.out _ _ trivial (fun hHeld => ?_)
          clear hK K
          refine norm_any' (fun K hK => ?_)
          go_simp
          refine hK _ _ ?_
          clear hK K
          obtain ⟨gs4, cs4, Y4, hr, hq1, hq2⟩ := HPU.out _ _ HQ3b.out HK3.out
          have HR4 : Aside _ := hr
          have HW4 : Aside (Nq w Y4 V g cl (i + 1) NB lb i (some ⟨gs4, 0, none⟩) cs4 (wi1 g T)) := hq1
          have HO4 : Aside (Nq w Y4 V g cl (i + 1) NB lb i os ct T) := hq2
          clear hr hq1 hq2
          refine wpAnyH_ready (rs := [31]) (by kernel_rfl) (by simp) (AllReadyH.cons rfl (fun K hK => ?_) AllReadyH.nil)
          refine step_append_g (by rfl) _ _ 34 34 rfl _ _ (by rfl) (by rfl) HR4.out ?_
          refine hK.out _ _ trivial (fun hHeld => ?_)
          clear hK K
          refine norm_any' (fun K hK => ?_)
          go_simp
          refine hK _ _ ?_
          clear hK K
          refine wpAnyH_ready (rs := [32]) (by kernel_rfl) (by simp) (AllReadyH.cons rfl (fun K hK => ?_) AllReadyH.nil)
          go_simp
          refine Calls.mono (HP2.out _ _ _ HW4.out) ?_
          rintro e Y5 ⟨⟨o5, c5, rfl⟩, hz⟩
          have HQ5 : Aside (Nq w Y5 V g cl (i + 1) NB lb i os ct T) := HO4.out.bel hz
          clear hz
          refine hK.out _ _ trivial (fun hHeld => ?_)
          clear hK K
          refine norm_any' (fun K hK => ?_)
          go_simp
          refine hK _ _ ?_
          clear hK K
          refine wpAnyH_take (i := 33) (v := .int .i64 (i : Int)) rfl (by kernel_rfl) (by kernel_rfl) (by kernel_rfl) (fun _ _ _ h => h) (Or.inl ⟨by rfl, by intro w hs; go_simp⟩) hHeld ?_
          refine norm_any' (fun K hK => ?_)
          go_simp
          refine hK _ _ ?_
          clear hK K
          refine wpAnyH_take (i := 36) (v := .bool true) rfl (by kernel_rfl) (by kernel_rfl) (by kernel_rfl) (fun _ _ _ h => h) (Or.inl ⟨by rfl, by intro w hs; go_simp⟩) hHeld ?_
          refine norm_any' (fun K hK => ?_)
          go_simp
          refine hK _ _ ?_
          clear hK K
          refine wpAnyH_take (i := 37) (v := .bool true) rfl (by kernel_rfl) (by kernel_rfl) (by kernel_rfl) (fun _ _ _ h => h) (Or.inl ⟨by rfl, by intro w hs; go_simp⟩) hHeld ?_
          refine norm_any' (fun K hK => ?_)
          go_simp
          refine hK _ _ ?_
          clear hK K
          refine wpAnyH_take (i := 38) (v := .bool true) rfl (by kernel_rfl) (by kernel_rfl) (by kernel_rfl) (fun _ _ _ h => h) (Or.inl ⟨by rfl, by intro w hs; go_simp⟩) hHeld ?_
          refine norm_any' (fun K hK => ?_)
          go_simp
          refine hK _ _ ?_
          clear hK K
          refine wpAnyH_take (i := 39) (v := .pointer (some ⟨V, 0, none⟩)) rfl (by kernel_rfl) (by kernel_rfl) (by kernel_rfl) (fun _ _ _ h => h) (Or.inl ⟨by rfl, by intro w hs; go_simp⟩) hHeld ?_
          refine norm_any' (fun K hK => ?_)
          go_simp
          refine hK _ _ ?_
          clear hK K
          refine wpAnyH_take (i := 40) (v := .slice os i ct) rfl (by kernel_rfl) (by kernel_rfl) (by kernel_rfl) (fun _ _ _ h => h) (Or.inl ⟨by rfl, by intro w hs; go_simp⟩) hHeld ?_
          refine norm_any' (fun K hK => ?_)
          go_simp
          refine hK _ _ ?_
          clear hK K
          refine wpAnyH_ready (rs := [41]) (by kernel_rfl) (by simp) (AllReadyH.cons rfl (fun K hK => ?_) AllReadyH.nil)
          go_simp
          refine Calls.mono (HP1.out _ HQ5.out) ?_
          rintro e Y6 ⟨⟨o6, c6, rfl⟩, hz⟩
          have HQ6 : Aside (Nq w Y6 V g cl (i + 1) NB lb i os ct T) := HQ5.out.bel hz
          clear hz
          refine hK.out _ _ trivial (fun hHeld => ?_)
          clear hK K
          refine norm_any' (fun K hK => ?_)
          go_simp
          refine hK _ _ ?_
          clear hK K
          refine wpAnyH_take (i := 42) (v := .int .i64 0) rfl (by kernel_rfl) (by kernel_rfl) (by kernel_rfl) (fun _ _ _ h => h) (Or.inl ⟨by rfl, by intro w hs; go_simp⟩) hHeld ?_
          refine norm_any' (fun K hK => ?_)
          go_simp
          refine hK _ _ ?_
          clear hK K
          refine wpAnyH_take (i := 43) (v := .bool true) rfl (by kernel_rfl) (by kernel_rfl) (by kernel_rfl) (fun _ _ _ h => h) (Or.inl ⟨by rfl, by intro w hs; go_simp⟩) hHeld ?_
          refine norm_any' (fun K hK => ?_)
          go_simp
          refine hK _ _ ?_
          clear hK K
          refine wpAnyH_take (i := 44) (v := .bool true) rfl (by kernel_rfl) (by kernel_rfl) (by kernel_rfl) (fun _ _ _ h => h) (Or.inl ⟨by rfl, by intro w hs; go_simp⟩) hHeld ?_
          refine norm_any' (fun K hK => ?_)
          go_simp
          refine hK _ _ ?_
          clear hK K
          refine wpAnyH_take (i := 45) (v := .bool true) rfl (by kernel_rfl) (by kernel_rfl) (by kernel_rfl) (fun _ _ _ h => h) (Or.inl ⟨by rfl, by intro w hs; go_simp⟩) hHeld ?_
          refine norm_any' (fun K hK => ?_)
          go_simp
          refine hK _ _ ?_
          clear hK K
          refine wpAnyH_done (by kernel_rfl) ?_ _
          clear hHeld HH1 HH2 HP1 HP2 HPU
          go_wp2
          go_ret
          exact ⟨rfl, HFE.out _ HQ6.out⟩
end Go.Proofs.Ythhoknkdmmldbaa
