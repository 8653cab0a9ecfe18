/- params: the reference's Put, where the parameters may be. -/
import Derived.Test.YtcppnellgkbndaaDoorRt
import Derived.Deep.CutBlock
namespace Go.Proofs.YtcppnellgkbndaaDoor
open Go.ChangeShapes Go.WideShapes Go.ChangeAt Go.RowKit Go.Shelf
set_option linter.unusedVariables false
set_option maxRecDepth 100000

theorem Rr.lt {w : World} {g : Nat} {q : Rq} (h : Rr w g q) : g < w.heap.size := (Array.getElem?_eq_some_iff.1 h).1
/-- The loop of the reference's Put: what is put of the first k numbers. -/
structure Pi (B Q D : Nat) (q : Rq) (s : Bool) (W3 : World) (k : Nat) (o : Option Addr) (n c : Nat) (X : World) : Prop where
  b : Below W3.heap.size W3 X
  r : X.ownsRow B 5 1 (.slice o n c) n (bc (q.putN s k))
  n : (q.putN s k).length = n
theorem put1_len (q : Rq) (s : Bool) (k : Nat) (hT : ∀ k, (q.T k).size ≤ 1000) : (q.put1 s k).length ≤ 1100 := by
  unfold Rq.put1
  split
  · split
    · simp
    · have := layB_len k (enc (szN (q.N k)) (q.N k))
      have := enc_le (q.N k)
      omega
  · split
    · have h1 := layB_len k (q.T k).data.toList
      have h2 : (q.T k).data.toList.length = (q.T k).size := by show (q.T k).data.toList.length = (q.T k).data.size; exact Array.length_toList
      have := hT k
      omega
    · split
      · have := layB_len 12 []
        simp at this
        omega
      · simp
theorem putN_len (q : Rq) (s : Bool) (k : Nat) (hT : ∀ k, (q.T k).size ≤ 1000) : (q.putN s k).length ≤ 1100 * k := by
  induction k with
  | zero => simp [Rq.putN]
  | succ k ih =>
    rw [Rq.putN_succ, List.length_append]
    have := put1_len q s k hT
    omega
theorem dflQ_N (k : Nat) : dflQ.N k = dfl k := by
  unfold dflQ dfl Rq.setN rq0
  simp only
  by_cases h1 : k = 14
  · subst h1; rfl
  by_cases h2 : k = 11
  · subst h2; rfl
  by_cases h3 : k = 10
  · subst h3; rfl
  by_cases h4 : k = 3
  · subst h4; rfl
  rw [if_neg h1, if_neg h2, if_neg h3, if_neg h4]
  split <;> simp_all
theorem fit_num {q : Rq} (hb : numsL.any q.nbad = false) (k : Nat) (hk : (k : Int) ∈ numsL) : 0 ≤ q.N k ∧ q.N k ≤ 4611686018427387903 := by
  rw [List.any_eq_false] at hb
  have h := hb _ hk
  unfold Rq.nbad at h
  rw [Int.toNat_natCast] at h
  have h2 : mayR (k : Int) (q.N k) = true := by
    cases hm : mayR (k : Int) (q.N k) with
    | true => rfl
    | false => rw [hm] at h; exact absurd rfl h
  unfold mayR at h2
  rw [Bool.and_eq_true] at h2
  exact of_decide_eq_true h2.1
theorem Pi.bel {B Q D k n c : Nat} {q : Rq} {s : Bool} {W3 X Y : World} {o : Option Addr} (h : Pi B Q D q s W3 k o n c X) (hb : Below X.heap.size X Y) : Pi B Q D q s W3 k o n c Y :=
  ⟨h.b.trans (hb.mono h.b.size), own_bel h.r hb, h.n⟩
theorem Pi.same {B Q D k n c : Nat} {q : Rq} {s : Bool} {W3 X : World} {o : Option Addr} (h : Pi B Q D q s W3 k o n c X) (hp : q.put1 s k = []) : Pi B Q D q s W3 (k + 1) o n c X := by
  have e : q.putN s (k + 1) = q.putN s k := by rw [Rq.putN_succ, hp, List.append_nil]
  exact ⟨h.b, by rw [e]; exact h.r, by rw [e]; exact h.n⟩
theorem Pi.step {Q D k n c m : Nat} {q : Rq} {s : Bool} {W3 X w2 : World} {o : Option Addr} (h : Pi W3.heap.size Q D q s W3 k o n c X) (A : List UInt8) (hp : q.put1 s k = A) (hm : A.length = m) (h0 : 0 < m) {v' : Value}
    (hown : w2.ownsRow W3.heap.size 5 1 v' (n + m) (bc (q.putN s k) ++ bc A)) (hg : X.grownBy w2 (Value.slice o n c).ownBlock) : ∃ g' c', v' = .slice (some ⟨g', 0, none⟩) (n + m) c' ∧ Pi W3.heap.size Q D q s W3 (k + 1) (some ⟨g', 0, none⟩) (n + m) c' w2 := by
  have e : q.putN s (k + 1) = q.putN s k ++ A := by rw [Rq.putN_succ, hp]
  have hl : (q.putN s (k + 1)).length = n + m := by rw [e, List.length_append, h.n, hm]
  have hown2 : w2.ownsRow W3.heap.size 5 1 v' (n + m) (bc (q.putN s (k + 1))) := by rw [e, bc_app]; exact hown
  obtain ⟨g', c', rfl, -, -, -, -⟩ := own_sl hown2 hl (by omega)
  exact ⟨g', c', rfl, h.b.grown hg h.b.size (fun j hj => (h.r.lt j hj).1), hown2, hl⟩
set_option maxHeartbeats 4000000 in
theorem rput_c (q : Rq) (s : Bool) (w : World) (hb : numsL.any q.nbad = false) (ht : q.tbad s = false) (hT : ∀ k, (q.T k).size ≤ 1000) : Calls Tryd.prog 9 #[.agg q.cells.toArray, .bool s] w fun e w' => ∃ v, e = .returned (.tuple #[v, .int .i64 0]) ∧ w'.ownsRow w.heap.size 5 1 v (q.putN s 33).length (bc (q.putN s 33)) ∧ Below w.heap.size w w' := by
  obtain ⟨i0, hi, hz0, hz1, hz2⟩ := info_parts info5
  have hck : ∀ X, Calls Tryd.prog 12 #[.agg q.cells.toArray, .bool s] X fun e w' => e = .returned (.int .i64 0) ∧ Below X.heap.size X w' := fun X =>
    (rcheck_fit q s X hb).mono (by rintro e w' ⟨rfl, h2⟩; exact ⟨by rw [ht]; rfl, h2⟩)
  obtain ⟨W1, hW1, hr1, hb1⟩ : ∃ W1, w.alloc (.cells q.cells.toArray 34) = W1 ∧ Rr W1 w.heap.size q ∧ Below w.heap.size w W1 := ⟨_, rfl, heap_alloc_new w _, bel1 w _⟩
  have hc := hck W1
  have HROW : Aside (W1.heap[w.heap.size]? = some (.cells q.cells.toArray 34 (0, 0))) := hr1
  have HR1 : Aside (Rr W1 w.heap.size q) := hr1
  have HI : Aside ((Tryd.prog.info? 34).map (·.size) = some q.cells.toArray.size) := hi34q q
  have HB1 : Aside (Below w.heap.size w W1) := hb1
  have HNUM : Aside (∀ k : Nat, (k : Int) ∈ numsL → 0 ≤ q.N k ∧ q.N k ≤ 4611686018427387903) := fit_num hb
  have HTT : Aside (∀ k, (q.T k).size ≤ 1000) := hT
  clear hck hr1 hb1 hb ht hT
  generalize q.cells.toArray = cs at *
  have HDR := rdefault_c
  generalize hdc : dflQ.cells.toArray = dc at HDR
  have HDF : Aside (∀ X, Calls Tryd.prog 15 #[] X fun e w' => e = .returned (.agg dc) ∧ Below X.heap.size X w') := HDR
  have HDC : Aside (dflQ.cells.toArray = dc) := hdc
  clear HDR hdc
  go_enter Tryd.func9, Tryd.ntmps9
  go_wp2_with (first | (refine wpList_load_row rfl 34 (.tmp 2) rfl w.heap.size rfl 34 _ (0, 0) _ HROW.out hu34 rfl HI.out ?_))
  refine hc.mono ?_
  rintro e W2 ⟨rfl, hb2⟩
  have HR2 : Aside (Rr W2 w.heap.size q) := (hb2.block _ HR1.out.lt).trans HR1.out
  have HB2 : Aside (Below w.heap.size w W2) := bel_trans HB1.out hb2
  have hd := HDF.out W2
  clear hc hb2 hW1 HROW HR1 HB1 HDF
  go_wp2_with fail
  refine hd.mono ?_
  rintro e W2a ⟨rfl, hb3⟩
  have hq2 : Rr W2a w.heap.size q := (hb3.block _ HR2.out.lt).trans HR2.out
  obtain ⟨WZ, hWZ⟩ : ∃ WZ, W2a.alloc (.cells Tryd.zeroCells34 34) = WZ := ⟨_, rfl⟩
  obtain ⟨D, hD⟩ : ∃ D, W2a.heap.size = D := ⟨_, rfl⟩
  have hqD : w.heap.size < D := by have h1 := hq2.lt; omega
  have hbz : Below W2a.heap.size W2a WZ := by rw [← hWZ]; exact bel1 _ _
  have hz : WZ.heap[D]? = some (.cells Tryd.zeroCells34 34 (0, 0)) := by rw [← hWZ, ← hD]; exact heap_alloc_new W2a _
  obtain ⟨W3, hW3⟩ : ∃ W3, WZ.setRow D dc = W3 := ⟨_, rfl⟩
  have hr3 : Rr W3 D dflQ := by show W3.heap[D]? = _; rw [← hW3, HDC.out]; exact setRow_heap WZ _ _ _ 34 (0, 0) hz
  have hq3 : Rr W3 w.heap.size q := by
    show W3.heap[_]? = _
    rw [← hW3, setRow_other WZ D _ _ (by omega)]
    exact (hbz.block _ (by omega)).trans hq2
  have hb3' : Below w.heap.size w W3 := by
    rw [← hW3]
    exact (bel_trans (bel_trans HB2.out hb3) hbz).trans ⟨rfl, rfl, rfl, by simp, fun j hj => setRow_other WZ _ j _ (by omega)⟩
  have HQ3 : Aside (Rr W3 w.heap.size q) := hq3
  have HD3 : Aside (Rr W3 D dflQ) := hr3
  have HB3 : Aside (Below w.heap.size w W3) := hb3'
  have HZ : Aside (WZ.heap[D]? = some (.cells Tryd.zeroCells34 34 (0, 0))) := hz
  have HI2 : Aside ((Tryd.prog.info? 34).map (·.size) = some dc.size) := by show _ = _; rw [← HDC.out]; exact hi34q _
  have HSZ : Aside (Tryd.zeroCells34.size = dc.size) := by show _ = _; rw [← HDC.out, zQ_eq, Rq.size, Rq.size]
  have HON : Aside (dc.all (·.oneCell') = true) := by show _ = _; rw [← HDC.out]; exact Rq.one _
  have HW3 : Aside (WZ.setRow D dc = W3) := hW3
  clear hd hb3 hq2 hbz hz hr3 hq3 hb3' HR2 HB2 hW3 HDC
  go_upto_region 6 with (refine wpList_store_row rfl 34 (.tmp 8) (.tmp 18) rfl D dc rfl rfl 34 _ HZ.out HI2.out HSZ.out HON.out ?_)
  rw [HW3.out]
  rw [show ∀ (a : Act), a.put none undef = a from fun _ => rfl]
  clear HW3 HZ HI2 HSZ HON hWZ hD
  have HP0 : Aside (Pi W3.heap.size w.heap.size D q s W3 0 none 0 0 W3) := ⟨Below.refl _ _, ⟨rfl, .inl ⟨rfl, rfl⟩⟩, rfl⟩
  go_wp2
  go_loopg [7, 9] 33 (fun kx s7 s9 wr => ∃ (k n c : Nat) (o : Option Addr), s7 = .slice o n c ∧ s9 = .int .i64 (k : Int) ∧ k ≤ 33 ∧ 33 - k ≤ kx ∧ Aside (Pi W3.heap.size w.heap.size D q s W3 k o n c wr))
  case atStart => exact ⟨0, 0, 0, none, rfl, rfl, by omega, by omega, HP0.out⟩
  case round =>
    obtain ⟨k, n, c, o, rfl, rfl, hk, hg, HP⟩ := hrel
    clear HP0
    by_cases hlt : k ≤ 32
    rotate_left
    · obtain rfl : k = 33 := by omega
      have HF : Aside (∃ v, Ending.returned (.tuple #[.slice o n c, .int .i64 0]) = .returned (.tuple #[v, .int .i64 0]) ∧ wr.ownsRow w.heap.size 5 1 v (q.putN s 33).length (bc (q.putN s 33)) ∧ Below w.heap.size w wr) := by
        refine ⟨_, rfl, ?_, bel_trans HB3.out HP.out.b⟩
        rw [HP.out.n]
        exact own_mono HP.out.r HB3.out.size
      clear HP
      go_wp2
      go_ret2
      exact HF.out
    · have i1 : (k : Int) ≤ 32 := by omega
      have iw : IntKind.i64.wrap ((k : Int) + 1) = (k : Int) + 1 := wrn _ (by omega) (by omega)
      have j0 : (0 : Int) ≤ (k : Int) := by omega
      have j1 : (k : Int) < 33 := by omega
      have j2 : ¬ (k : Int) < 0 := by omega
      have hnum := isNumber_c (k : Int) wr
      have HL : Aside (n ≤ 40000) := by have h1 := HP.out.n; have := putN_len q s k HTT.out; show n ≤ _; omega
      cases hmem : decide ((k : Int) ∈ numsL) with
      | true =>
        rw [hmem] at hnum
        have hin := of_decide_eq_true hmem
        have hv := HNUM.out k hin
        have hput : q.put1 s k = if q.N k = dfl k then [] else layB k (enc (szN (q.N k)) (q.N k)) := by unfold Rq.put1; rw [if_pos hin]
        have hdn := dflQ_N k
        have HNk : Aside (∀ X, Below W3.heap.size W3 X → X.cell? ⟨w.heap.size, k, none⟩ = some (.int .i64 (q.N k)) ∧ X.cell? ⟨D, k, none⟩ = some (.int .i64 (dfl k))) := fun X hX => by
          refine ⟨(HQ3.out.rc.bel hX).n k (by omega), ?_⟩
          have := (HD3.out.rc.bel hX).n k (by omega)
          rwa [hdn] at this
        generalize q.N k = vN at *
        generalize dfl k = dN at *
        clear hdn hmem hin
        go_wp2_with fail
        refine hnum.mono ?_
        rintro e W4 ⟨rfl, hb4⟩
        have HP4 : Aside (Pi W3.heap.size w.heap.size D q s W3 k o n c W4.drew) := HP.out.bel hb4.drew
        obtain ⟨c0, c1⟩ := HNk.out _ HP4.out.b
        clear hnum hb4 HP
        by_cases he : vN = dN
        · have hne : (vN != dN) = false := by simp [he]
          have HPUT : Aside (q.put1 s k = []) := by show _ = _; rw [hput, if_pos he]
          clear hput he HNk
          go_wp2_with fail
          go_region_held3 (fun X => X.cell? ⟨w.heap.size, k, none⟩ = some (.int .i64 vN) ∧ X.cell? ⟨D, k, none⟩ = some (.int .i64 dN)) (exact ⟨c0, c1⟩) (fail)
          go_wp2
          go_roundg (33 - (k + 1))
          case measure => omega
          case rel => exact ⟨k + 1, n, c, o, rfl, by simp, by omega, Nat.le_refl _, HP4.out.same HPUT.out⟩
        · have hne : (vN != dN) = true := by simp [he]
          obtain ⟨AA, hAA⟩ : ∃ AA, layB k (enc (szN vN) vN) = AA := ⟨_, rfl⟩
          obtain ⟨M, hM⟩ : ∃ M, AA.length = M := ⟨_, rfl⟩
          have HPUT : Aside (q.put1 s k = AA) := by show _ = _; rw [hput, if_neg he, hAA]
          have HAL : Aside (AA.length = M) := hM
          have HML : Aside (M ≤ 2000) := by have h1 := layB_len k (enc (szN vN) vN); have h2 := enc_le vN; rw [hAA, hM] at h1; show _ ≤ _; omega
          have hx := rvar_any vN W4.drew
          rw [vaE_ok (v := vN) (by omega)] at hx
          have HEN : Aside ((enc (szN vN) vN).length ≤ 20) := enc_le vN
          have HLA : Aside (layB k (enc (szN vN) vN) = AA) := hAA
          generalize enc (szN vN) vN = EV at *
          obtain ⟨NE, hNE⟩ : ∃ NE, EV.length = NE := ⟨_, rfl⟩
          have HNE : Aside (EV.length = NE) := hNE
          clear hput he HNk hAA hM hNE hv
          go_wp2_with fail
          go_region_held3 (fun X => X.cell? ⟨w.heap.size, k, none⟩ = some (.int .i64 vN) ∧ X.cell? ⟨D, k, none⟩ = some (.int .i64 dN)) (exact ⟨c0, c1⟩) (fail)
          go_wp2_with fail
          refine hx.mono ?_
          rintro e W5 ⟨x, rfl, hres, hb5⟩
          obtain ⟨hA0, hown5⟩ := res_ok hres
          rw [HNE.out] at hA0 hown5
          obtain ⟨g5, c5, rfl, hsl5, -, -, -⟩ := own_sl hown5 HNE.out hA0
          have hcv := conv_bytes hsl5 c5
          rw [HNE.out] at hcv
          have hcv' : (convert 22 9 (.slice (some ⟨g5, 0, none⟩) NE c5)).run Tryd.prog W5 = .ok (.string (bt EV)) W5 := hcv
          have h1 := one_c k (bt EV) W5 j0 (by omega) (by rw [bt_size]; have := HEN.out; omega)
          rw [show (bt EV).data.toList = EV by simp [bt], HLA.out, HAL.out] at h1
          have HP5 : Aside (Pi W3.heap.size w.heap.size D q s W3 k o n c W5) := HP4.out.bel hb5
          clear hx hres hb5 hA0 hown5 hsl5 hcv HP4 c0 c1 HEN HLA
          generalize bt EV = SS at *
          go_wp2_with fail
          refine h1.mono ?_
          rintro e W6 ⟨x6, rfl, hown6, hpos6, hb6⟩
          clear hcv'
          have HP6 : Aside (Pi W3.heap.size w.heap.size D q s W3 k o n c W6) := HP5.out.bel hb6
          have HR6 : Aside (W6.ownsRow W3.heap.size 5 1 (.slice o n c) n (bc (q.putN s k))) := HP6.out.r
          have HSB : Aside (W3.heap.size ≤ W6.heap.size) := HP6.out.b.size
          obtain ⟨g6, c6, rfl, hsl6, -, -, -⟩ := own_sl hown6 HAL.out hpos6
          have HSL6 : Aside (Sl W6 (some ⟨g6, 0, none⟩) AA) := hsl6
          have HM0 : Aside (0 < M) := hpos6
          have HBD : Aside (n + M ≤ 140737488355328) := by have := HL.out; have := HML.out; show _ ≤ _; omega
          clear h1 hown6 hpos6 hb6 hsl6
          go_wp2_with ((at_builtin; (refine wpList_append_bytes rfl (.tmp 43) (.tmp 47) rfl W3.heap.size i0 Tryd.underlying22 hi hz0 hz1 hz2 (.slice o n c) n (bc (q.putN s k)) rfl HR6.out (some ⟨g6, 0, none⟩) M c6 AA rfl HAL.out (fun h => by cases h) HSL6.out HBD.out HSB.out ?_; intro v7 W7 hown7 hgrow7; obtain ⟨g7, c7, hv7, hP7⟩ := HP6.out.step AA HPUT.out HAL.out HM0.out hown7 hgrow7; subst hv7; have HP7 : Aside (Pi W3.heap.size w.heap.size D q s W3 (k + 1) (some ⟨g7, 0, none⟩) (n + M) c7 W7) := hP7; clear hown7 hgrow7 hP7)))
          go_roundg (33 - (k + 1))
          case measure => omega
          case rel => exact ⟨k + 1, n + M, c7, _, rfl, by simp, by omega, Nat.le_refl _, HP7.out⟩
      | false =>
        rw [hmem] at hnum
        have hin := of_decide_eq_false hmem
        have hput : q.put1 s k = if (k = 0 ∧ s = true) ∨ (k = 2 ∧ q.hr = true) ∨ k = 15 ∨ (k = 16 ∧ q.ha = true) then layB k (q.T k).data.toList else if k = 12 ∧ q.N 12 = 1 then layB 12 [] else [] := by unfold Rq.put1; rw [if_neg hin]
        have HCL : Aside (∀ X, Below W3.heap.size W3 X → X.cell? ⟨w.heap.size, 33 + k, none⟩ = some (.string (q.T k)) ∧ X.cell? ⟨w.heap.size, 66, none⟩ = some (.bool q.ha) ∧ X.cell? ⟨w.heap.size, 67, none⟩ = some (.bool q.hr) ∧ X.cell? ⟨w.heap.size, 12, none⟩ = some (.int .i64 (q.N 12))) := fun X hX => by
          have h := HQ3.out.rc.bel hX
          exact ⟨h.t k (by omega), h.a, h.r, h.n 12 (by omega)⟩
        have HTK : Aside ((q.T k).size ≤ 1000) := HTT.out k
        have HTL : Aside ((q.T k).data.toList.length = (q.T k).size) := by show (q.T k).data.toList.length = (q.T k).data.size; exact Array.length_toList
        generalize q.T k = SS at *
        generalize q.ha = ha at *
        generalize q.hr = hr at *
        generalize q.N 12 = N12 at *
        clear hmem hin
        go_wp2_with fail
        refine hnum.mono ?_
        rintro e W4 ⟨rfl, hb4⟩
        have HP5 : Aside (Pi W3.heap.size w.heap.size D q s W3 k o n c W4) := HP.out.bel hb4
        obtain ⟨c0, c1, c2, c3⟩ := HCL.out _ HP5.out.b
        clear hnum hb4 HP HCL
        have hk6 : k = 0 ∨ k = 2 ∨ k = 15 ∨ k = 16 ∨ k = 12 ∨ (¬ k = 0 ∧ ¬ k = 2 ∧ ¬ k = 15 ∧ ¬ k = 16 ∧ ¬ k = 12) := by omega
        rcases hk6 with kk | kk | kk | kk | kk | kk
        · skip
          have e0 : ((k : Int) == 0) = true := by simp; omega
          have e2 : ((k : Int) == 2) = false := by simp; omega
          have e15 : ((k : Int) == 15) = false := by simp; omega
          have e16 : ((k : Int) == 16) = false := by simp; omega
          have e12 : ((k : Int) == 12) = false := by simp; omega
          cases s
          · skip
            have HPUT : Aside (q.put1 false k = []) := by show _ = _; rw [hput, if_neg (by rintro (⟨-, h⟩ | ⟨h, -⟩ | h | ⟨h, -⟩); cases h; omega; omega; omega), if_neg (by omega)]
            clear hput kk
            go_wp2
            go_roundg (33 - (k + 1))
            case measure => omega
            case rel => exact ⟨k + 1, n, c, o, rfl, by simp, by omega, Nat.le_refl _, HP5.out.same HPUT.out⟩
          · skip
            have hp := hput.trans (if_pos (.inl ⟨kk, rfl⟩))
            obtain ⟨AA, hAA⟩ : ∃ AA, layB k SS.data.toList = AA := ⟨_, rfl⟩
            obtain ⟨M, hM⟩ : ∃ M, AA.length = M := ⟨_, rfl⟩
            have HPUT : Aside (q.put1 true k = AA) := by show _ = _; rw [hp, hAA]
            have HAL : Aside (AA.length = M) := hM
            have HML : Aside (M ≤ 2000) := by have h1 := layB_len k SS.data.toList; have h2 := HTK.out; have h3 := HTL.out; rw [hAA, hM] at h1; show _ ≤ _; omega
            have h1 := one_c k SS W4 j0 (by omega) HTK.out
            rw [hAA, hM] at h1
            clear hput hp hAA hM kk
            go_wp2_with fail
            refine h1.mono ?_
            rintro e W6 ⟨x6, rfl, hown6, hpos6, hb6⟩
            have HP6 : Aside (Pi W3.heap.size w.heap.size D q true W3 k o n c W6) := HP5.out.bel hb6
            have HR6 : Aside (W6.ownsRow W3.heap.size 5 1 (.slice o n c) n (bc (q.putN true k))) := HP6.out.r
            have HSB : Aside (W3.heap.size ≤ W6.heap.size) := HP6.out.b.size
            obtain ⟨g6, c6, rfl, hsl6, -, -, -⟩ := own_sl hown6 HAL.out hpos6
            have HSL6 : Aside (Sl W6 (some ⟨g6, 0, none⟩) AA) := hsl6
            have HM0 : Aside (0 < M) := hpos6
            have HBD : Aside (n + M ≤ 140737488355328) := by have := HL.out; have := HML.out; show _ ≤ _; omega
            clear h1 hown6 hpos6 hb6 hsl6
            go_wp2_with ((at_builtin; (refine wpList_append_bytes rfl (.tmp 75) (.tmp 81) rfl W3.heap.size i0 Tryd.underlying22 hi hz0 hz1 hz2 (.slice o n c) n (bc (q.putN true k)) rfl HR6.out (some ⟨g6, 0, none⟩) M c6 AA rfl HAL.out (fun h => by cases h) HSL6.out HBD.out HSB.out ?_; intro v7 W7 hown7 hgrow7; obtain ⟨g7, c7, hv7, hP7⟩ := HP6.out.step AA HPUT.out HAL.out HM0.out hown7 hgrow7; subst hv7; have HP7 : Aside (Pi W3.heap.size w.heap.size D q true W3 (k + 1) (some ⟨g7, 0, none⟩) (n + M) c7 W7) := hP7; clear hown7 hgrow7 hP7)))
            go_roundg (33 - (k + 1))
            case measure => omega
            case rel => exact ⟨k + 1, n + M, c7, _, rfl, by simp, by omega, Nat.le_refl _, HP7.out⟩
        · skip
          have e0 : ((k : Int) == 0) = false := by simp; omega
          have e2 : ((k : Int) == 2) = true := by simp; omega
          have e15 : ((k : Int) == 15) = false := by simp; omega
          have e16 : ((k : Int) == 16) = false := by simp; omega
          have e12 : ((k : Int) == 12) = false := by simp; omega
          cases hr
          · skip
            have HPUT : Aside (q.put1 s k = []) := by show _ = _; rw [hput, if_neg (by rintro (⟨h, -⟩ | ⟨-, h⟩ | h | ⟨h, -⟩); omega; cases h; omega; omega), if_neg (by omega)]
            clear hput kk
            go_wp2
            go_roundg (33 - (k + 1))
            case measure => omega
            case rel => exact ⟨k + 1, n, c, o, rfl, by simp, by omega, Nat.le_refl _, HP5.out.same HPUT.out⟩
          · skip
            have hp := hput.trans (if_pos (.inr (.inl ⟨kk, rfl⟩)))
            obtain ⟨AA, hAA⟩ : ∃ AA, layB k SS.data.toList = AA := ⟨_, rfl⟩
            obtain ⟨M, hM⟩ : ∃ M, AA.length = M := ⟨_, rfl⟩
            have HPUT : Aside (q.put1 s k = AA) := by show _ = _; rw [hp, hAA]
            have HAL : Aside (AA.length = M) := hM
            have HML : Aside (M ≤ 2000) := by have h1 := layB_len k SS.data.toList; have h2 := HTK.out; have h3 := HTL.out; rw [hAA, hM] at h1; show _ ≤ _; omega
            have h1 := one_c k SS W4 j0 (by omega) HTK.out
            rw [hAA, hM] at h1
            clear hput hp hAA hM kk
            go_wp2_with fail
            refine h1.mono ?_
            rintro e W6 ⟨x6, rfl, hown6, hpos6, hb6⟩
            have HP6 : Aside (Pi W3.heap.size w.heap.size D q s W3 k o n c W6) := HP5.out.bel hb6
            have HR6 : Aside (W6.ownsRow W3.heap.size 5 1 (.slice o n c) n (bc (q.putN s k))) := HP6.out.r
            have HSB : Aside (W3.heap.size ≤ W6.heap.size) := HP6.out.b.size
            obtain ⟨g6, c6, rfl, hsl6, -, -, -⟩ := own_sl hown6 HAL.out hpos6
            have HSL6 : Aside (Sl W6 (some ⟨g6, 0, none⟩) AA) := hsl6
            have HM0 : Aside (0 < M) := hpos6
            have HBD : Aside (n + M ≤ 140737488355328) := by have := HL.out; have := HML.out; show _ ≤ _; omega
            clear h1 hown6 hpos6 hb6 hsl6
            go_wp2_with ((at_builtin; (refine wpList_append_bytes rfl (.tmp 75) (.tmp 81) rfl W3.heap.size i0 Tryd.underlying22 hi hz0 hz1 hz2 (.slice o n c) n (bc (q.putN s k)) rfl HR6.out (some ⟨g6, 0, none⟩) M c6 AA rfl HAL.out (fun h => by cases h) HSL6.out HBD.out HSB.out ?_; intro v7 W7 hown7 hgrow7; obtain ⟨g7, c7, hv7, hP7⟩ := HP6.out.step AA HPUT.out HAL.out HM0.out hown7 hgrow7; subst hv7; have HP7 : Aside (Pi W3.heap.size w.heap.size D q s W3 (k + 1) (some ⟨g7, 0, none⟩) (n + M) c7 W7) := hP7; clear hown7 hgrow7 hP7)))
            go_roundg (33 - (k + 1))
            case measure => omega
            case rel => exact ⟨k + 1, n + M, c7, _, rfl, by simp, by omega, Nat.le_refl _, HP7.out⟩
        · skip
          have e0 : ((k : Int) == 0) = false := by simp; omega
          have e2 : ((k : Int) == 2) = false := by simp; omega
          have e15 : ((k : Int) == 15) = true := by simp; omega
          have e16 : ((k : Int) == 16) = false := by simp; omega
          have e12 : ((k : Int) == 12) = false := by simp; omega
          have hp := hput.trans (if_pos (.inr (.inr (.inl kk))))
          obtain ⟨AA, hAA⟩ : ∃ AA, layB k SS.data.toList = AA := ⟨_, rfl⟩
          obtain ⟨M, hM⟩ : ∃ M, AA.length = M := ⟨_, rfl⟩
          have HPUT : Aside (q.put1 s k = AA) := by show _ = _; rw [hp, hAA]
          have HAL : Aside (AA.length = M) := hM
          have HML : Aside (M ≤ 2000) := by have h1 := layB_len k SS.data.toList; have h2 := HTK.out; have h3 := HTL.out; rw [hAA, hM] at h1; show _ ≤ _; omega
          have h1 := one_c k SS W4 j0 (by omega) HTK.out
          rw [hAA, hM] at h1
          clear hput hp hAA hM kk
          go_wp2_with fail
          refine h1.mono ?_
          rintro e W6 ⟨x6, rfl, hown6, hpos6, hb6⟩
          have HP6 : Aside (Pi W3.heap.size w.heap.size D q s W3 k o n c W6) := HP5.out.bel hb6
          have HR6 : Aside (W6.ownsRow W3.heap.size 5 1 (.slice o n c) n (bc (q.putN s k))) := HP6.out.r
          have HSB : Aside (W3.heap.size ≤ W6.heap.size) := HP6.out.b.size
          obtain ⟨g6, c6, rfl, hsl6, -, -, -⟩ := own_sl hown6 HAL.out hpos6
          have HSL6 : Aside (Sl W6 (some ⟨g6, 0, none⟩) AA) := hsl6
          have HM0 : Aside (0 < M) := hpos6
          have HBD : Aside (n + M ≤ 140737488355328) := by have := HL.out; have := HML.out; show _ ≤ _; omega
          clear h1 hown6 hpos6 hb6 hsl6
          go_wp2_with ((at_builtin; (refine wpList_append_bytes rfl (.tmp 75) (.tmp 81) rfl W3.heap.size i0 Tryd.underlying22 hi hz0 hz1 hz2 (.slice o n c) n (bc (q.putN s k)) rfl HR6.out (some ⟨g6, 0, none⟩) M c6 AA rfl HAL.out (fun h => by cases h) HSL6.out HBD.out HSB.out ?_; intro v7 W7 hown7 hgrow7; obtain ⟨g7, c7, hv7, hP7⟩ := HP6.out.step AA HPUT.out HAL.out HM0.out hown7 hgrow7; subst hv7; have HP7 : Aside (Pi W3.heap.size w.heap.size D q s W3 (k + 1) (some ⟨g7, 0, none⟩) (n + M) c7 W7) := hP7; clear hown7 hgrow7 hP7)))
          go_roundg (33 - (k + 1))
          case measure => omega
          case rel => exact ⟨k + 1, n + M, c7, _, rfl, by simp, by omega, Nat.le_refl _, HP7.out⟩
        · skip
          have e0 : ((k : Int) == 0) = false := by simp; omega
          have e2 : ((k : Int) == 2) = false := by simp; omega
          have e15 : ((k : Int) == 15) = false := by simp; omega
          have e16 : ((k : Int) == 16) = true := by simp; omega
          have e12 : ((k : Int) == 12) = false := by simp; omega
          cases ha
          · skip
            have HPUT : Aside (q.put1 s k = []) := by show _ = _; rw [hput, if_neg (by rintro (⟨h, -⟩ | ⟨h, -⟩ | h | ⟨-, h⟩); omega; omega; omega; cases h), if_neg (by omega)]
            clear hput kk
            go_wp2
            go_roundg (33 - (k + 1))
            case measure => omega
            case rel => exact ⟨k + 1, n, c, o, rfl, by simp, by omega, Nat.le_refl _, HP5.out.same HPUT.out⟩
          · skip
            have hp := hput.trans (if_pos (.inr (.inr (.inr ⟨kk, rfl⟩))))
            obtain ⟨AA, hAA⟩ : ∃ AA, layB k SS.data.toList = AA := ⟨_, rfl⟩
            obtain ⟨M, hM⟩ : ∃ M, AA.length = M := ⟨_, rfl⟩
            have HPUT : Aside (q.put1 s k = AA) := by show _ = _; rw [hp, hAA]
            have HAL : Aside (AA.length = M) := hM
            have HML : Aside (M ≤ 2000) := by have h1 := layB_len k SS.data.toList; have h2 := HTK.out; have h3 := HTL.out; rw [hAA, hM] at h1; show _ ≤ _; omega
            have h1 := one_c k SS W4 j0 (by omega) HTK.out
            rw [hAA, hM] at h1
            clear hput hp hAA hM kk
            go_wp2_with fail
            refine h1.mono ?_
            rintro e W6 ⟨x6, rfl, hown6, hpos6, hb6⟩
            have HP6 : Aside (Pi W3.heap.size w.heap.size D q s W3 k o n c W6) := HP5.out.bel hb6
            have HR6 : Aside (W6.ownsRow W3.heap.size 5 1 (.slice o n c) n (bc (q.putN s k))) := HP6.out.r
            have HSB : Aside (W3.heap.size ≤ W6.heap.size) := HP6.out.b.size
            obtain ⟨g6, c6, rfl, hsl6, -, -, -⟩ := own_sl hown6 HAL.out hpos6
            have HSL6 : Aside (Sl W6 (some ⟨g6, 0, none⟩) AA) := hsl6
            have HM0 : Aside (0 < M) := hpos6
            have HBD : Aside (n + M ≤ 140737488355328) := by have := HL.out; have := HML.out; show _ ≤ _; omega
            clear h1 hown6 hpos6 hb6 hsl6
            go_wp2_with ((at_builtin; (refine wpList_append_bytes rfl (.tmp 75) (.tmp 81) rfl W3.heap.size i0 Tryd.underlying22 hi hz0 hz1 hz2 (.slice o n c) n (bc (q.putN s k)) rfl HR6.out (some ⟨g6, 0, none⟩) M c6 AA rfl HAL.out (fun h => by cases h) HSL6.out HBD.out HSB.out ?_; intro v7 W7 hown7 hgrow7; obtain ⟨g7, c7, hv7, hP7⟩ := HP6.out.step AA HPUT.out HAL.out HM0.out hown7 hgrow7; subst hv7; have HP7 : Aside (Pi W3.heap.size w.heap.size D q s W3 (k + 1) (some ⟨g7, 0, none⟩) (n + M) c7 W7) := hP7; clear hown7 hgrow7 hP7)))
            go_roundg (33 - (k + 1))
            case measure => omega
            case rel => exact ⟨k + 1, n + M, c7, _, rfl, by simp, by omega, Nat.le_refl _, HP7.out⟩
        · skip
          have e0 : ((k : Int) == 0) = false := by simp; omega
          have e2 : ((k : Int) == 2) = false := by simp; omega
          have e15 : ((k : Int) == 15) = false := by simp; omega
          have e16 : ((k : Int) == 16) = false := by simp; omega
          have e12 : ((k : Int) == 12) = true := by simp; omega
          by_cases h12 : N12 = 1
          · have ee : (N12 == 1) = true := by simp [h12]
            have hp : q.put1 s k = layB k [] := by rw [hput, if_neg (by omega), if_pos ⟨kk, h12⟩, kk]; rfl
            obtain ⟨AA, hAA⟩ : ∃ AA, layB k [] = AA := ⟨_, rfl⟩
            obtain ⟨M, hM⟩ : ∃ M, AA.length = M := ⟨_, rfl⟩
            have HPUT : Aside (q.put1 s k = AA) := by show _ = _; rw [hp, hAA]
            have HAL : Aside (AA.length = M) := hM
            have HML : Aside (M ≤ 2000) := by have h1 := layB_len k []; rw [hAA, hM] at h1; simp at h1; show _ ≤ _; omega
            have h1 : Calls Tryd.prog 24 #[.int .i64 k, .string ⟨#[]⟩] W4 _ := one_c k ⟨#[]⟩ W4 j0 (by omega) (by show 0 ≤ 1000; omega)
            rw [show (ByteArray.mk #[]).data.toList = [] from rfl, hAA, hM] at h1
            clear hput hp hAA hM kk h12
            go_wp2_with fail
            refine h1.mono ?_
            rintro e W6 ⟨x6, rfl, hown6, hpos6, hb6⟩
            have HP6 : Aside (Pi W3.heap.size w.heap.size D q s W3 k o n c W6) := HP5.out.bel hb6
            have HR6 : Aside (W6.ownsRow W3.heap.size 5 1 (.slice o n c) n (bc (q.putN s k))) := HP6.out.r
            have HSB : Aside (W3.heap.size ≤ W6.heap.size) := HP6.out.b.size
            obtain ⟨g6, c6, rfl, hsl6, -, -, -⟩ := own_sl hown6 HAL.out hpos6
            have HSL6 : Aside (Sl W6 (some ⟨g6, 0, none⟩) AA) := hsl6
            have HM0 : Aside (0 < M) := hpos6
            have HBD : Aside (n + M ≤ 140737488355328) := by have := HL.out; have := HML.out; show _ ≤ _; omega
            clear h1 hown6 hpos6 hb6 hsl6
            go_wp2_with ((at_builtin; (refine wpList_append_bytes rfl (.tmp 92) (.tmp 94) rfl W3.heap.size i0 Tryd.underlying22 hi hz0 hz1 hz2 (.slice o n c) n (bc (q.putN s k)) rfl HR6.out (some ⟨g6, 0, none⟩) M c6 AA rfl HAL.out (fun h => by cases h) HSL6.out HBD.out HSB.out ?_; intro v7 W7 hown7 hgrow7; obtain ⟨g7, c7, hv7, hP7⟩ := HP6.out.step AA HPUT.out HAL.out HM0.out hown7 hgrow7; subst hv7; have HP7 : Aside (Pi W3.heap.size w.heap.size D q s W3 (k + 1) (some ⟨g7, 0, none⟩) (n + M) c7 W7) := hP7; clear hown7 hgrow7 hP7)))
            go_roundg (33 - (k + 1))
            case measure => omega
            case rel => exact ⟨k + 1, n + M, c7, _, rfl, by simp, by omega, Nat.le_refl _, HP7.out⟩
          · have ee : (N12 == 1) = false := by simp [h12]
            have HPUT : Aside (q.put1 s k = []) := by show _ = _; rw [hput, if_neg (by omega), if_neg (fun h => h12 h.2)]
            clear hput kk h12
            go_wp2
            go_roundg (33 - (k + 1))
            case measure => omega
            case rel => exact ⟨k + 1, n, c, o, rfl, by simp, by omega, Nat.le_refl _, HP5.out.same HPUT.out⟩
        · obtain ⟨k0, k2, k15, k16, k12⟩ := kk
          have e0 : ((k : Int) == 0) = false := by simp; omega
          have e2 : ((k : Int) == 2) = false := by simp; omega
          have e15 : ((k : Int) == 15) = false := by simp; omega
          have e16 : ((k : Int) == 16) = false := by simp; omega
          have e12 : ((k : Int) == 12) = false := by simp; omega
          have HPUT : Aside (q.put1 s k = []) := by show _ = _; rw [hput, if_neg (by omega), if_neg (by omega)]
          clear hput k0 k2 k15 k16 k12
          go_wp2
          go_roundg (33 - (k + 1))
          case measure => omega
          case rel => exact ⟨k + 1, n, c, o, rfl, by simp, by omega, Nat.le_refl _, HP5.out.same HPUT.out⟩
end Go.Proofs.YtcppnellgkbndaaDoor
