/- params: Read, whole: what it answers is Read on lists, with bytes of its own. params: the reference's Read, whole. Written by tools/gen-params-rread.py. params: == of the reference's parameters with themselves. ParamsRead: all that lies while the law turns what was read. -/
import Derived.Test.YtcppnellgkbndaaDoorOe
import Derived.Lib.SlFresh
import Derived.Laws.StructEq
namespace Go.Proofs.YtcppnellgkbndaaDoor
open Go.ChangeShapes Go.WideShapes Go.ChangeAt Go.RowKit
set_option linter.unusedVariables false
set_option maxRecDepth 100000

theorem mk_map (W : World) : (Instr.makeMap 71 none).run Tryd.prog W = .ok (.map (some W.heap.size)) (W.alloc (.map #[] 0)) := by
  simp [Instr.makeMap, go_sem]
/-- Parameters that say nothing at all. -/
def zps : Ps := ⟨0, 0, 0, 0, 0, 0, 0, 0, 0, 0, false, 0, 0, ⟨none, [], 0⟩, ⟨none, [], 0⟩, ⟨none, [], 0⟩, false, List.replicate 16 0, false⟩
theorem zps_cells : zps.cells.toArray = zA := by rfl
theorem zps_ref : refq zps = rqE := rq_ext (fun k => by unfold refq; simp only; split <;> rfl) (fun k => by
  show (refq zps).T k = if k = 2 then ZS else ⟨#[]⟩
  by_cases hk : k = 2
  · subst hk; rfl
  · rw [if_neg hk]
    unfold refq
    simp only
    split <;> first | rfl | omega) rfl rfl
theorem dps_ref' : refq dps = dflQ.setT 2 ZS := rq_ext (fun k => by
  unfold refq
  simp only
  show _ = (if k = 14 then 2 else if k = 11 then 25 else if k = 10 then 3 else if k = 3 then 65527 else 0 : Int)
  split <;> first | rfl | (rw [if_neg (by omega), if_neg (by omega), if_neg (by omega), if_neg (by omega)])) (fun k => by
  show (refq dps).T k = if k = 2 then ZS else ⟨#[]⟩
  by_cases hk : k = 2
  · subst hk; rfl
  · rw [if_neg hk]
    unfold refq
    simp only
    split <;> first | rfl | omega) rfl rfl
/-- Parameters whose bytes are of the call's own. -/
structure Pn (B : Nat) (w : World) (p : Ps) : Prop where
  orig : By B w p.orig.v p.orig.l
  first : By B w p.first.v p.first.l
  again : By B w p.again.v p.again.l
  r16 : p.reset.length = 16
theorem Ps.size34 {p : Ps} (h : p.reset.length = 16) : p.cells.toArray.size = 34 := by simp [Ps.cells, hl, h]
theorem Ps.one34 (p : Ps) : p.cells.toArray.all (·.oneCell') = true := by
  have h := hl_one p.reset
  simp only [List.all_toArray] at h ⊢
  simp only [Ps.cells, List.all_append, List.all_cons, List.all_nil, h, Bool.and_true, Bool.true_and]
  rfl
theorem by_nil (B : Nat) (w : World) : By B w (.slice none 0 0) [] := ⟨rfl, .inl ⟨rfl, rfl⟩⟩
theorem pn_zps (B : Nat) (w : World) : Pn B w zps := ⟨by_nil B w, by_nil B w, by_nil B w, rfl⟩
theorem lack_both (P : Nat) (p0 : Ps) (s : Bool) (S : Int → Bool) : (rwL P p0).any (Row.lack s S) = !(S 15 && (!s || S 0)) := by
  simp only [rwL, tab, List.map_cons, List.map_nil, List.any_cons, List.any_nil, Row.lack]
  cases s <;> cases S 15 <;> cases S 0 <;> rfl
theorem rwL_wf (P : Nat) (p0 : Ps) : ∀ r ∈ rwL P p0, (Lit.int .i64 r.n).wf = true := by
  intro r hr
  simp only [rwL, tab, List.map_cons, List.map_nil, List.mem_cons, List.not_mem_nil, or_false] at hr
  rcases hr with rfl | rfl | rfl | rfl | rfl | rfl | rfl | rfl | rfl | rfl | rfl | rfl | rfl | rfl | rfl | rfl | rfl <;> rfl
theorem rdL_end {l : List UInt8} {s : Bool} {f : Nat} {a : Int} {S : Int → Bool} {q : Rq} (ha : ¬ a < l.length) : rdL l s (f + 1) a S q = if S 15 && (!s || S 0) then (0, q) else (11, rqE) := by
  unfold rdL
  rw [if_pos (by omega)]
theorem res17 {X : World} {g : Nat} {cs : Array Value} (tmps : Array Value) (hp : tmps.getD 4 undef = .pointer (some ⟨g, 0, none⟩)) (hg : X.heap[g]? = some (.cells cs 25 (0, 0))) (hc : cs.size = 34) : (results Tryd.f17 tmps).run Tryd.prog X = .ok (.tuple #[.agg cs, tmps.getD 5 undef]) X := by
  have hp' : tmps[4]?.getD undef = .pointer (some ⟨g, 0, none⟩) := by simpa using hp
  have hl := run_loadVar_row (P := Tryd.prog) X g 25 25 cs (0, 0) _ hg hu25 rfl (by rw [hc]; exact hi25)
  simp [results, hp', asAddr, hl, Result.andThen]
theorem hi73 : (Tryd.prog.info? 73).map (·.size) = some 5 := by kernel_rfl
theorem hu73 : Tryd.prog.underlying 73 = some (.struct (Tryd.prog.fieldsOf 73)) := by kernel_rfl
theorem rD_one (o : Option Addr) (n c : Nat) (s : Bool) (mb g : Nat) : (#[.slice o n c, .int .i64 0, .bool s, .map (some mb), .slice (some ⟨g, 0, none⟩) 17 17] : Array Value).all (·.oneCell') = true := by simp [Value.oneCell']
theorem Sl.rows {w : World} {o : Option Addr} {l : List UInt8} (h : Sl w o l) (h0 : 0 < l.length) : ∃ b off, o = some ⟨b, off, none⟩ ∧ ∀ j (hj : j < l.length), w.cell? ⟨b, off + j, none⟩ = some (.int .u8 (l[j].toNat)) := by
  obtain ⟨b, off, rfl, _⟩ := h 0 h0
  refine ⟨b, off, rfl, fun j hj => ?_⟩
  obtain ⟨b', off', e, hc⟩ := h j hj
  injection e with e
  injection e with e1 e2
  subst e1 e2
  exact hc
set_option maxHeartbeats 2000000 in
theorem read_c (o : Option Addr) (c : Nat) (l : List UInt8) (s : Bool) (w : World) (ht : Tb w) (hs : Sl w o l) (hl : l.length ≤ 140737488351232) (hlc : l.length ≤ c) (hc : c ≤ 9223372036854775807)
    (x : Option Addr) (hu : w.cell? ⟨1, 0, none⟩ = some (.iface 138 (.pointer x))) (RC : Int) (RQ : Rq) (hR : rdL l s (l.length + 1) 0 (fun _ => false) (refq dps) = (RC, RQ)) :
    Calls Tryd.prog 17 #[.slice o l.length c, .bool s] w fun e w' => ∃ p, e = .returned (.tuple #[.agg p.cells.toArray, .int .i64 RC]) ∧ refq p = RQ ∧ Pn w.heap.size w' p ∧ Below w.heap.size w w' := by
  have h1 : 1 < w.heap.size := World.block_lt_of_cell? _ _ hu
  have h0 : 0 < w.heap.size := by omega
  obtain ⟨W0, hW0⟩ : ∃ W0, w.alloc (.cells zA 25) = W0 := ⟨_, rfl⟩
  have hb0 : Below w.heap.size w W0 := by rw [← hW0]; exact bel1 w _
  have hz0 : W0.heap[w.heap.size]? = some (.cells zA 25 (0, 0)) := by rw [← hW0]; exact heap_alloc_new w _
  have hs0 : w.heap.size < W0.heap.size := lt_block hz0
  have hd := default_c W0
  have HB0 : Aside (Below w.heap.size w W0) := hb0
  have HZ0 : Aside (W0.heap[w.heap.size]? = some (.cells zA 25 (0, 0))) := hz0
  have hW0' := hW0
  unfold zA at hW0'
  have HL : Aside (Sl w o l) := hs
  have HT : Aside (Tb w) := ht
  have HU : Aside _ := hu
  have HR : Aside _ := hR
  clear hs ht hu hR hb0 hz0 hW0
  have HFL : Aside (∀ (P : Nat) (X : World), Calls Tryd.prog 19 #[.pointer (some ⟨P, 0, none⟩)] X fun e w' => ∃ g, e = .returned (.slice (some ⟨g, 0, none⟩) 17 17) ∧ w'.heap[g]? = some (.cells ((rowsV P).flatMap fun v => v.cells.toList).toArray 58 (0, 0)) ∧ Below X.heap.size X w') := fun P X => fields_c P X
  have hmm := mk_map
  go_enter Tryd.func17, Tryd.ntmps17
  go_wp2_with fail
  refine hd.mono ?_
  rintro e W1 ⟨rfl, hb1⟩
  clear hd
  have HB1 : Aside (Below w.heap.size w W1) := bel_trans HB0.out hb1
  have HZ1 : Aside (W1.heap[w.heap.size]? = some (.cells zA 25 (0, 0))) := (hb1.block _ hs0).trans HZ0.out
  have hs1 : w.heap.size < W1.heap.size := Nat.lt_of_lt_of_le hs0 hb1.size
  clear hb1 HB0 HZ0 hW0' hs0
  obtain ⟨W2, hW2⟩ : ∃ W2, W1.alloc (.cells zA 25) = W2 := ⟨_, rfl⟩
  have HG2 : Aside (W2.heap[W1.heap.size]? = some (.cells zA 25 (0, 0))) := by show _ = _; rw [← hW2]; exact heap_alloc_new W1 _
  have hb2 : Below W1.heap.size W1 W2 := by rw [← hW2]; exact bel1 _ _
  unfold zA at hW2
  obtain ⟨W3, hW3⟩ : ∃ W3, W2.setRow W1.heap.size defA = W3 := ⟨_, rfl⟩
  have HP3 : Aside (W3.heap[W1.heap.size]? = some (.cells defA 25 (0, 0))) := by show _ = _; rw [← hW3]; exact setRow_heap W2 _ _ _ 25 (0, 0) HG2.out
  have HZ3 : Aside (W3.heap[w.heap.size]? = some (.cells zA 25 (0, 0))) := by
    show _ = _
    rw [← hW3, setRow_other W2 _ _ _ (by omega)]
    exact (hb2.block _ hs1).trans HZ1.out
  have HB3 : Aside (Below w.heap.size w W3) := by
    show Below _ _ _
    rw [← hW3]
    exact (bel_trans HB1.out hb2).trans ⟨rfl, rfl, rfl, by simp, fun j hj => setRow_other W2 _ j _ (by omega)⟩
  generalize hP : W1.heap.size = P at *
  go_upto_region 2 with (refine wpList_store_row rfl 25 (.tmp 6) (.tmp 9) rfl P defA rfl rfl 25 _ HG2.out hi25 rfl defA_std ?_)
  rw [hW3]
  clear hW3 HG2 hb2 HB1 HZ1 hW2
  obtain ⟨W4, hW4⟩ : ∃ W4, W3.alloc (.map #[] 0) = W4 := ⟨_, rfl⟩
  have hb4 : Below W3.heap.size W3 W4 := by rw [← hW4]; exact bel1 _ _
  have hC4 : Came W4 W3.heap.size 0 (fun _ => false) := by rw [← hW4]; exact Came.made W3
  have hfl := HFL.out P W4
  clear HFL
  go_wp2_with fail
  refine hfl.mono ?_
  rintro e W5 ⟨g, rfl, hg5, hb5⟩
  clear hfl
  have hP3 : P < W3.heap.size := lt_block HP3.out
  have hb35 : Below W3.heap.size W3 W5 := bel_trans hb4 hb5
  have hC5 : Came W5 W3.heap.size 0 (fun _ => false) := hC4.bel hb5
  have hP5 : W5.heap[P]? = some (.cells defA 25 (0, 0)) := (hb35.block _ hP3).trans HP3.out
  have hZ5 : W5.heap[w.heap.size]? = some (.cells zA 25 (0, 0)) := (hb35.block _ (by omega)).trans HZ3.out
  have hF5 := tab_fs (P := P) dps hg5
  have hB5 : Below w.heap.size w W5 := bel_trans HB3.out hb35
  have hm5 : W3.heap.size < W5.heap.size := hC5.lt
  have hg5' : g < W5.heap.size := lt_block hg5
  have hgP : P ≠ g := by rintro rfl; rw [hP5] at hg5; injection hg5 with hg5; injection hg5 with _ e; cases e
  have hgm : g ≠ W3.heap.size := by
    rintro rfl
    obtain ⟨es, ck, hx⟩ := hC5.isMap
    rw [hx] at hg5
    cases hg5
  obtain ⟨W6, hW6⟩ : ∃ W6, W5.alloc (.cells #[.slice none 0 0, .int .i64 0, .bool false, .map none, .slice none 0 0] 73) = W6 := ⟨_, rfl⟩
  have HG6 : Aside (W6.heap[W5.heap.size]? = some (.cells #[.slice none 0 0, .int .i64 0, .bool false, .map none, .slice none 0 0] 73 (0, 0))) := by show _ = _; rw [← hW6]; exact heap_alloc_new W5 _
  have hb6 : Below W5.heap.size W5 W6 := by rw [← hW6]; exact bel1 _ _
  obtain ⟨W7, hW7⟩ : ∃ W7, W6.setRow W5.heap.size #[.slice o l.length c, .int .i64 0, .bool s, .map (some W3.heap.size), .slice (some ⟨g, 0, none⟩) 17 17] = W7 := ⟨_, rfl⟩
  have hR7 : Rdr W7 W5.heap.size o l.length c 0 s W3.heap.size g := by show _ = _; rw [← hW7]; exact setRow_heap W6 _ _ _ 73 (0, 0) HG6.out
  have hb7 : Below W5.heap.size W5 W7 := by rw [← hW7]; exact hb6.trans ⟨rfl, rfl, rfl, by simp, fun j hj => setRow_other W6 _ j _ (by omega)⟩
  have hRds : Rds W7 ⟨P, W5.heap.size, g, W3.heap.size⟩ dps dps o l.length c 0 s 0 (fun _ => false) :=
    ⟨⟨by show W7.heap[P]? = _; rw [hb7.block _ (by omega), dps_cells]; exact hP5, by_nil _ _, by_nil _ _, by_nil _ _, rfl⟩, hR7, hC5.bel hb7, hF5.bel hb7, Tb_below HT.out (bel_trans hB5 hb7) (Tb_pos HT.out), by show P ≠ W5.heap.size; omega, by show P ≠ W3.heap.size; omega, hgP, by show W5.heap.size ≠ W3.heap.size; omega, by show W5.heap.size ≠ g; omega, hgm, by show 0 < P ∧ 0 < W5.heap.size ∧ 0 < W3.heap.size; omega⟩
  have HST : Aside (Rds W7 ⟨P, W5.heap.size, g, W3.heap.size⟩ dps dps o l.length c 0 s 0 (fun _ => false) ∧ W7.heap[w.heap.size]? = some (.cells zA 25 (0, 0)) ∧ Below w.heap.size w W7 ∧ rdL l s (l.length + 1) 0 (fun _ => false) (refq dps) = (RC, RQ)) :=
    ⟨hRds, (hb7.block _ (by omega)).trans hZ5, bel_trans hB5 hb7, HR.out⟩
  have HPW : Aside (w.heap.size < P ∧ w.heap.size < W5.heap.size ∧ w.heap.size < W3.heap.size) := ⟨hs1, by omega, by omega⟩
  have HI73 := hi73
  clear hP3 hb35 hC5 hP5 hZ5 hF5 hB5 hm5 hg5' hgP hgm hb6 hR7 hb7 hRds HZ3 HB3 HP3 hb4 hC4 hb5 hg5 hW4 HR hs1
  generalize hRR : W5.heap.size = R at *
  generalize W3.heap.size = mb at *
  have HON : Aside ((#[.slice o l.length c, .int .i64 0, .bool s, .map (some mb), .slice (some ⟨g, 0, none⟩) 17 17] : Array Value).all (·.oneCell') = true) := rD_one _ _ _ _ _ _
  go_wp2_with (refine wpList_store_row rfl 73 (.tmp 7) (.tmp 14) rfl R #[.slice o l.length c, .int .i64 0, .bool s, .map (some mb), .slice (some ⟨g, 0, none⟩) 17 17] rfl rfl 73 _ HG6.out HI73 rfl HON.out ?_)
  rw [hW7]
  clear hW7 HG6 HON hW6
  have HN : Aside (∃ N, l.length = N) := ⟨_, rfl⟩
  dsimp only [Act.put]
  go_loopg [8] (l.length + 2) (fun kx s8 wr => ∃ (f : Nat) (a : Int) (S : Int → Bool) (p : Ps) (m : Nat), 0 ≤ a ∧ a ≤ l.length ∧ (l.length : Int) - a < f ∧ f ≤ kx ∧ (m : Int) ≤ a ∧ Aside (Rds wr ⟨P, R, g, mb⟩ dps p o l.length c a s m S ∧ wr.heap[w.heap.size]? = some (.cells zA 25 (0, 0)) ∧ Below w.heap.size w wr ∧ rdL l s f a S (refq p) = (RC, RQ)))
  case atStart => exact ⟨l.length + 1, 0, fun _ => false, dps, 0, by omega, by omega, by omega, by omega, by omega, HST.out⟩
  case round =>
    obtain ⟨f, a, S, p, m, ha0, ha1, hf, hfk, hma, HQ⟩ := hrel
    clear HST
    obtain ⟨f, rfl⟩ : ∃ f', f = f' + 1 := ⟨f - 1, by omega⟩
    have c1 := HQ.out.1.rd.c1
    by_cases hlt : a < l.length
    · obtain ⟨b, off, ho, hcs⟩ := HL.out.rows (by omega)
      subst ho
      have hbw : b < w.heap.size := World.block_lt_of_cell? _ _ (hcs 0 (by omega))
      have hpar := par_c HQ.out.1 (fun j hj => cell_bel (hcs j hj) HQ.out.2.2.1) hl hlc hc (by have := HPW.out.1; show b ≠ P; omega) (by have := HPW.out.2.1; show b ≠ R; omega) (by have := HPW.out.2.2; show b ≠ mb; omega) x (cell_bel HU.out HQ.out.2.2.1) (by have := HPW.out; show 1 < mb ∧ 1 < R; omega) (by omega) ha0 hlt
      have HC : Aside (0 ≤ a ∧ a ≤ l.length ∧ (l.length : Int) - a < (f : Int) + 1 ∧ (m : Int) ≤ a ∧ f + 1 ≤ gk) := ⟨ha0, ha1, by omega, hma, hfk⟩
      clear hcs ha0 ha1 hf hfk hma
      go_wp2_with fail
      refine hpar.mono ?_
      rintro e w1 ⟨ev, rfl, code, hfa, hg, hcase⟩
      clear hpar c1
      go_wp2_with fail
      refine hfa.mono ?_
      rintro e w2 ⟨rfl, hb2⟩
      clear hfa
      have HG : Aside (Below w.heap.size w w2 ∧ w2.heap[w.heap.size]? = some (.cells zA 25 (0, 0))) := by
        have hw1 : Below w.heap.size w w1 := HQ.out.2.2.1.trans (hg.toBelow HQ.out.2.2.1.size (by
          intro k hk
          have := HPW.out
          rcases hk with rfl | rfl | rfl <;> (try simp only) <;> omega))
        have hz1 : w1.heap[w.heap.size]? = some (.cells zA 25 (0, 0)) := (hg.block _ (lt_block HQ.out.2.1) (by
          have := HPW.out
          rintro (h | h | h) <;> (try simp only at h) <;> omega)).trans HQ.out.2.1
        exact ⟨bel_trans hw1 hb2, (hb2.block _ (lt_block hz1)).trans hz1⟩
      rcases hcase with ⟨k1, k2⟩ | ⟨rfl, S', p', m', a', r1, r2, r3, r4, r5⟩
      · have hrc := k2 f
        rw [HQ.out.2.2.2] at hrc
        injection hrc with e1 e2
        subst e1 e2
        have k3 : (RC == 0) = false := by simpa using k1
        have k4 : (RC != 0) = true := by simpa using k1
        clear k2 hg hb2 HQ
        have HZZ : Aside ((w2.setRow w.heap.size zA).heap[w.heap.size]? = some (.cells zA 25 (0, 0))) := setRow_heap w2 _ _ _ 25 (0, 0) HG.out.2
        go_wp2_with (refine wpList_store_row rfl 25 (.tmp 4) (.tmp 24) rfl w.heap.size zA rfl rfl 25 _ HG.out.2 hi25 rfl zA_std ?_)
        refine bodyPost_ret (res17 _ rfl HZZ.out rfl) rfl ?_
        exact ⟨zps, by rw [zps_cells]; rfl, zps_ref, pn_zps _ _, HG.out.1.trans ⟨rfl, rfl, rfl, by simp, fun j hj => setRow_other w2 _ j _ (by omega)⟩⟩
      · have HR2 : Aside (Rds w2 ⟨P, R, g, mb⟩ dps p' (some ⟨b, off, none⟩) l.length c a' s m' S' ∧ w2.heap[w.heap.size]? = some (.cells zA 25 (0, 0)) ∧ Below w.heap.size w w2 ∧ rdL l s f a' S' (refq p') = (RC, RQ)) := ⟨r1.bel hb2, HG.out.2, HG.out.1, by rw [← r5 f]; exact HQ.out.2.2.2⟩
        have HC2 : Aside (m' ≤ m + 1 ∧ a < a' ∧ a' ≤ l.length) := ⟨r2, r3, r4⟩
        clear hg hb2 HQ HG r1 r2 r3 r4 r5
        go_wp2
        go_roundg f
        case measure => have := HC.out; omega
        case rel =>
          have h1 := HC.out
          have h2 := HC2.out
          exact ⟨f, a', S', p', m', by omega, by omega, by omega, Nat.le_refl _, by omega, HR2.out⟩
    · have hla := lacks_c HQ.out.1.fs HQ.out.1.rd HQ.out.1.came (rwL_wf _ _) (rwL_len _ _)
      rw [lack_both] at hla
      have hrl := HQ.out.2.2.2
      rw [rdL_end hlt] at hrl
      have HPr : Aside (wr.heap[P]? = some (.cells p.cells.toArray 25 (0, 0))) := HQ.out.1.pq.row
      have HPn : Aside (Pq wr P p) := HQ.out.1.pq
      have HZr : Aside (wr.heap[w.heap.size]? = some (.cells zA 25 (0, 0))) := HQ.out.2.1
      have HBr : Aside (Below w.heap.size w wr) := HQ.out.2.2.1
      clear HQ
      have hge : ¬ a < (l.length : Int) := hlt
      generalize (S 15 && (!s || S 0)) = Y at *
      cases Y
      · simp only [Bool.false_eq_true, if_false] at hrl
        injection hrl with e1 e2
        subst e1 e2
        go_wp2_with fail
        refine hla.mono ?_
        rintro e w2 ⟨rfl, hb2⟩
        have HG : Aside (Below w.heap.size w w2 ∧ w2.heap[w.heap.size]? = some (.cells zA 25 (0, 0))) := ⟨bel_trans HBr.out hb2, (hb2.block _ (lt_block HZr.out)).trans HZr.out⟩
        have HZZ : Aside ((w2.setRow w.heap.size zA).heap[w.heap.size]? = some (.cells zA 25 (0, 0))) := setRow_heap w2 _ _ _ 25 (0, 0) HG.out.2
        clear hla hb2
        go_wp2_with (refine wpList_store_row rfl 25 (.tmp 4) (.tmp 27) rfl w.heap.size zA rfl rfl 25 _ HG.out.2 hi25 rfl zA_std ?_)
        refine bodyPost_ret (res17 _ rfl HZZ.out rfl) rfl ?_
        exact ⟨zps, by rw [zps_cells]; rfl, zps_ref, pn_zps _ _, HG.out.1.trans ⟨rfl, rfl, rfl, by simp, fun j hj => setRow_other w2 _ j _ (by omega)⟩⟩
      · simp only [if_true] at hrl
        injection hrl with e1 e2
        subst e1
        have HE2 : Aside (refq p = RQ) := e2
        clear e2
        have HSZ : Aside (p.cells.toArray.size = 34) := Ps.size34 HPn.out.r16
        have HON : Aside (p.cells.toArray.all (·.oneCell') = true) := p.one34
        have HPC : Aside (Pq wr P p) := HPn.out
        obtain ⟨D, hD⟩ : ∃ D, p.cells.toArray = D := ⟨_, rfl⟩
        rw [hD] at HPr HSZ HON
        have HDD : Aside (p.cells.toArray = D) := hD
        clear hD
        go_wp2_with fail
        refine hla.mono ?_
        rintro e w2 ⟨rfl, hb2⟩
        have HG : Aside (Below w.heap.size w w2 ∧ w2.heap[w.heap.size]? = some (.cells zA 25 (0, 0))) := ⟨bel_trans HBr.out hb2, (hb2.block _ (lt_block HZr.out)).trans HZr.out⟩
        have HP2 : Aside (w2.heap[P]? = some (.cells D 25 (0, 0))) := (hb2.block _ (lt_block HPr.out)).trans HPr.out
        have HZZ : Aside ((w2.setRow w.heap.size D).heap[w.heap.size]? = some (.cells D 25 (0, 0))) := setRow_heap w2 _ _ _ 25 (0, 0) HG.out.2
        have HI : Aside ((Tryd.prog.info? 25).map (·.size) = some D.size) := by show _ = _; rw [HSZ.out]; exact hi25
        have HZS : Aside (zA.size = D.size) := by show _ = _; rw [HSZ.out]; rfl
        have HBY : Aside (By (P + 1) w2 p.orig.v p.orig.l ∧ By (P + 1) w2 p.first.v p.first.l ∧ By (P + 1) w2 p.again.v p.again.l) := ⟨HPC.out.orig.below hb2, HPC.out.first.below hb2, HPC.out.again.below hb2⟩
        clear hla hb2
        go_wp2_with (first
          | (refine wpList_load_row rfl 25 (.tmp 6) rfl P rfl 25 _ (0, 0) _ HP2.out hu25 rfl HI.out ?_)
          | (refine wpList_store_row rfl 25 (.tmp 4) (.tmp 28) rfl w.heap.size D rfl rfl 25 _ HG.out.2 HI.out HZS.out HON.out ?_))
        refine bodyPost_ret (res17 _ rfl HZZ.out HSZ.out) rfl ?_
        have hbz : Below w.heap.size w (w2.setRow w.heap.size D) := HG.out.1.trans ⟨rfl, rfl, rfl, by simp, fun j hj => setRow_other w2 _ j _ (by omega)⟩
        have hgz : Gs (fun k => k = w.heap.size) w2 (w2.setRow w.heap.size D) := ⟨rfl, rfl, rfl, by simp, fun k _ hn => setRow_other w2 _ k _ hn⟩
        have hby : ∀ {v : Value} {X : List UInt8}, By (P + 1) w2 v X → By w.heap.size (w2.setRow w.heap.size D) v X := fun {v X} h => by
          obtain ⟨y1, y2 | ⟨g', cap, cur, y3, y4, y5, y6⟩⟩ := h
          · exact ⟨y1, .inl y2⟩
          · have := HPW.out.1
            exact ⟨y1, .inr ⟨g', cap, cur, y3, by omega, (hgz.block g' (lt_block y5) (by omega)).trans y5, y6⟩⟩
        exact ⟨p, by rw [HDD.out]; rfl, HE2.out, ⟨hby HBY.out.1, hby HBY.out.2.1, hby HBY.out.2.2, HPC.out.r16⟩, hbz⟩
end Go.Proofs.YtcppnellgkbndaaDoor
namespace Go.Proofs.YtcppnellgkbndaaDoor
open Go.ChangeShapes Go.WideShapes Go.ChangeAt Go.RowKit
set_option linter.unusedVariables false
set_option maxRecDepth 100000

theorem res18 {X : World} {g : Nat} {cs : Array Value} (tmps : Array Value) (hp : tmps.getD 4 undef = .pointer (some ⟨g, 0, none⟩)) (hg : X.heap[g]? = some (.cells cs 34 (0, 0))) (hi : (Tryd.prog.info? 34).map (·.size) = some cs.size) : (results Tryd.f18 tmps).run Tryd.prog X = .ok (.tuple #[.agg cs, tmps.getD 5 undef]) X := by
  have hp' : tmps[4]?.getD undef = .pointer (some ⟨g, 0, none⟩) := by simpa using hp
  have hl := run_loadVar_row (P := Tryd.prog) X g 34 34 cs (0, 0) _ hg hu34 rfl hi
  simp [results, hp', asAddr, hl, Result.andThen]
theorem step_load_row {P : Program} {ops : Array Oper} {o : Oper} {a : Act} {w : World} {K : Act → World → Prop} {Q : Exit → Act → World → Prop} {E : Prop} (hgd : o.guard = none) (ty : TypeId) (x : Operand) (ho : o.op = .load ty x)
    (g : Nat) (hx : a.eval x = .pointer (some ⟨g, 0, none⟩)) (t : TypeId) (cs : Array Value) (d : TypeDesc) (hg : w.heap[g]? = some (.cells cs t (0, 0)))
    (hu : P.underlying ty = some d) (hd : (match d with | .struct _ | .array _ _ => true | _ => false) = true) (hi : (P.info? ty).map (·.size) = some cs.size)
    (h : K (a.put o.dst (.agg cs)) w) : if Region.wanted o (yielded ops a.tmps) = true then Oper.wp P o a w K Q else E := by
  have hw : Region.wanted o (yielded ops a.tmps) = true := by simp [Region.wanted, hgd]
  rw [if_pos hw]
  exact wp_load_row ty x ho g hx t cs (0, 0) d hg hu hd hi h
theorem step_store_row {P : Program} {ops : Array Oper} {o : Oper} {a : Act} {w : World} {K : Act → World → Prop} {Q : Exit → Act → World → Prop} {E : Prop} (hgd : o.guard = none) (ty : TypeId) (x y : Operand) (ho : o.op = .store ty x y)
    (g : Nat) (cells : Array Value) (hx : a.eval x = .pointer (some ⟨g, 0, none⟩)) (hy : a.eval y = .agg cells)
    (t : TypeId) (old : Array Value) (hg : w.heap[g]? = some (.cells old t (0, 0))) (hi : (P.info? ty).map (·.size) = some cells.size)
    (hold : old.size = cells.size) (h1 : cells.all (·.oneCell') = true) (h : K (a.put o.dst undef) (w.setRow g cells)) :
    if Region.wanted o (yielded ops a.tmps) = true then Oper.wp P o a w K Q else E := by
  have hw : Region.wanted o (yielded ops a.tmps) = true := by simp [Region.wanted, hgd]
  rw [if_pos hw]
  exact wp_store_row ty x y ho g cells hx hy t old hg hi hold h1 h
theorem take_two (q : Rq) (s : Bool) (k : Int) (X : List UInt8) (h0 : 0 ≤ k) (h33 : k < 33) (hX : X.length ≤ 140737488351232) : ∃ (q2 : Rq) (code : Int), ((rtk s q k X = none ∧ code = 11) ∨ (rtk s q k X = some q2 ∧ code = 0)) ∧
    ∀ Z, Calls Tryd.prog 35 #[.agg q.cells.toArray, .int .i64 k, .string (bt X), .bool s] Z fun e w' => e = .returned (.tuple #[.agg q2.cells.toArray, .int .i64 code]) ∧ Below Z.heap.size Z w' := by
  cases hr : rtk s q k X with
  | none => exact ⟨q, 11, .inl ⟨rfl, rfl⟩, fun Z => (rtake_c q s k X Z h0 h33 hX).mono fun e w' h => ⟨by have := h.2; rw [hr] at this; exact this, h.1⟩⟩
  | some q2 => exact ⟨q2, 0, .inr ⟨rfl, rfl⟩, fun Z => (rtake_c q s k X Z h0 h33 hX).mono fun e w' h => ⟨by have := h.2; rw [hr] at this; exact this, h.1⟩⟩
/-- What an end wants: the answer's block A, to be D. -/
structure Ty (w : World) (A : Nat) (D : Array Value) (X : World) : Prop where
  r : X.heap[A]? = some (.cells Tryd.zeroCells34 34 (0, 0))
  s : (X.setRow A D).heap[A]? = some (.cells D 34 (0, 0))
  b : Below w.heap.size w (X.setRow A D)
  i : (Tryd.prog.info? 34).map (·.size) = some D.size
  z : Tryd.zeroCells34.size = D.size
  o : D.all (·.oneCell') = true
/-- The reference's Read on its way: the answer's block A, the parameters in block P, the numbers that came. -/
structure RL (w : World) (A P : Nat) (q : Rq) (C : List Int) (o : Option Addr) (c : Nat) (X : World) : Prop where
  z : X.heap[A]? = some (.cells Tryd.zeroCells34 34 (0, 0))
  r : Rr X P q
  c : Iy w.heap.size X (.slice o C.length c) C
  b : Below w.heap.size w X
  a : A = w.heap.size
  p : A < P
theorem RL.bel {w X Y : World} {A P : Nat} {q : Rq} {C : List Int} {o : Option Addr} {c : Nat} (h : RL w A P q C o c X) (hb : Below X.heap.size X Y) : RL w A P q C o c Y :=
  ⟨(hb.block A (lt_block h.z)).trans h.z, (hb.block P (lt_block (show X.heap[P]? = _ from h.r))).trans h.r, h.c.bel hb, bel_trans h.b hb, h.a, h.p⟩
theorem RL.gi {w X Y : World} {A P : Nat} {q : Rq} {C C' : List Int} {o o' : Option Addr} {c c' : Nat} (h : RL w A P q C o c X) (hg : Gi w.heap.size X Y) (hc : Iy w.heap.size Y (.slice o' C'.length c') C') : RL w A P q C' o' c' Y :=
  ⟨(hg.block A (lt_block h.z) (.inr fun cs fr => by rw [h.z]; intro e; injection e with e; injection e with _ e; cases e)).trans h.z, (hg.block P (lt_block (show X.heap[P]? = _ from h.r)) (.inr fun cs fr => by rw [show X.heap[P]? = _ from h.r]; intro e; injection e with e; injection e with _ e; cases e)).trans h.r, hc, h.b.trans (hg.below h.b.size), h.a, h.p⟩
theorem RL.row {w X : World} {A P : Nat} {q : Rq} {C : List Int} {o : Option Addr} {c : Nat} (h : RL w A P q C o c X) (q' : Rq) : RL w A P q' C o c (X.setRow P q'.cells.toArray) :=
  ⟨(setRow_other X P _ _ (by have := h.p; omega)).trans h.z, setRow_heap X _ _ _ 34 (0, 0) h.r, h.c.keep (fun k _ _ ⟨cs, hk⟩ => setRow_other X P k _ (by rintro rfl; rw [show X.heap[k]? = _ from h.r] at hk; injection hk with hk; injection hk with _ e; cases e)), h.b.trans ⟨rfl, rfl, rfl, by simp, fun j hj => setRow_other X P j _ (by have := h.p; have := h.a; omega)⟩, h.a, h.p⟩
theorem RL.ty {w X : World} {A P : Nat} {q : Rq} {C : List Int} {o : Option Addr} {c : Nat} (h : RL w A P q C o c X) (q' : Rq) : Ty w A q'.cells.toArray X :=
  ⟨h.z, setRow_heap X _ _ _ 34 (0, 0) h.z, h.b.trans ⟨rfl, rfl, rfl, by simp, fun j hj => setRow_other X _ j _ (by have := h.a; omega)⟩, hi34q _, by rw [zQ_eq, Rq.size, Rq.size], q'.one⟩
theorem RL.ty0 {w X : World} {A P : Nat} {q : Rq} {C : List Int} {o : Option Addr} {c : Nat} (h : RL w A P q C o c X) : Ty w A Tryd.zeroCells34 X := by
  have := h.ty rq0
  rwa [← zQ_eq] at this
/-- What Read answers. -/
def RRes (w : World) (RC : Int) (RQ : Rq) (e : Ending) (w' : World) : Prop := e = .returned (.tuple #[.agg (if RC = 0 then RQ else rq0).cells.toArray, .int .i64 RC]) ∧ Below w.heap.size w w'
theorem came_add (C : List Int) (k : Int) : (fun x => x == k || decide (x ∈ C)) = fun x => decide (x ∈ C ++ [k]) := by
  funext x
  rw [Bool.eq_iff_iff]
  simp only [Bool.or_eq_true, beq_iff_eq, decide_eq_true_eq, List.mem_append, List.mem_singleton]
  exact Or.comm
theorem mem_step (C : List Int) (x n : Int) (b : Bool) (h : b = decide (n ∈ C)) : (b || decide (x = n)) = decide (n ∈ C ++ [x]) := by
  rw [h, Bool.eq_iff_iff]
  simp only [Bool.or_eq_true, decide_eq_true_eq, List.mem_append, List.mem_singleton]
  exact ⟨fun h => h.elim .inl fun h => .inr h.symm, fun h => h.elim .inl fun h => .inr h.symm⟩
/-- The place of a piece of bytes in the model: a piece at the whole capacity's end begins where the row does. -/
theorem piece {X : World} {b off c : Nat} {l : List UInt8} (Y n : Nat) (hc : ∀ j (hj : j < l.length), X.cell? ⟨b, off + j, none⟩ = some (.int .u8 (l[j].toNat))) (h : Y + n ≤ l.length) (hlc : l.length ≤ c) : (convert 22 9 (.slice (some ⟨b, if c = Y then off else off + Y, none⟩) n (c - Y))).run Tryd.prog X = .ok (.string (bt (sub l Y n))) X := by
  have hsn := sub_length l Y n h
  have hs : Sl X (some ⟨b, if c = Y then off else off + Y, none⟩) (sub l Y n) := by
    by_cases hcy : c = Y
    · intro j hj
      omega
    · rw [if_neg hcy]
      exact Sl_sub Y n hc h
  have := conv_bytes hs (c - Y)
  rwa [hsn] at this
set_option maxHeartbeats 8000000 in
theorem rread_c (o : Option Addr) (c : Nat) (l : List UInt8) (s : Bool) (w : World) (hs : Sl w o l) (hl : l.length ≤ 140737488351232) (hlc : l.length ≤ c) (hc : c ≤ 9223372036854775807)
    (RC : Int) (RQ : Rq) (hR : rdL l s (l.length + 1) 0 (fun _ => false) (dflQ.setT 2 ZS) = (RC, RQ)) :
    Calls Tryd.prog 18 #[.slice o l.length c, .bool s] w (RRes w RC RQ) := by
  obtain ⟨W0, hW0⟩ : ∃ W0, w.alloc (.cells Tryd.zeroCells34 34) = W0 := ⟨_, rfl⟩
  have hb0 : Below w.heap.size w W0 := by rw [← hW0]; exact bel1 w _
  have hz0 : W0.heap[w.heap.size]? = some (.cells Tryd.zeroCells34 34 (0, 0)) := by rw [← hW0]; exact heap_alloc_new w _
  have hd := rdefault_c W0
  have HB0 : Aside (Below w.heap.size w W0) := hb0
  have HZ0 : Aside (W0.heap[w.heap.size]? = some (.cells Tryd.zeroCells34 34 (0, 0))) := hz0
  have HL : Aside (Sl w o l) := hs
  have HR : Aside _ := hR
  have HRR : Aside (∀ e w', RRes w RC RQ e w' → RRes w RC RQ e w') := fun _ _ h => h
  have HFIN : Aside (∀ (A : Nat) (X : World) (D : Array Value) (e : Ending), Ty w A D X → D = (if RC = 0 then RQ else rq0).cells.toArray → e = .returned (.tuple #[.agg D, .int .i64 RC]) → RRes w RC RQ e (X.setRow A D)) := fun A X D e h1 h2 h3 => ⟨by rw [h3, h2], h1.b⟩
  have hs0 : w.heap.size < W0.heap.size := lt_block hz0
  clear hs hR hb0 hz0 HRR
  generalize RRes w RC RQ = RR at *
  obtain ⟨dc, hdc⟩ : ∃ dc, dflQ.cells.toArray = dc := ⟨_, rfl⟩
  rw [hdc] at hd
  have HDC : Aside (dflQ.cells.toArray = dc) := hdc
  have HDI : Aside ((Tryd.prog.info? 34).map (·.size) = some dc.size ∧ Tryd.zeroCells34.size = dc.size ∧ dc.all (·.oneCell') = true) := by
    rw [← hdc]
    exact ⟨hi34q _, by rw [zQ_eq, Rq.size, Rq.size], Rq.one _⟩
  clear hdc
  go_enter Tryd.func18, Tryd.ntmps18
  go_wp2_with fail
  refine hd.mono ?_
  rintro e W1 ⟨rfl, hb1⟩
  clear hd
  have hs1 : w.heap.size < W1.heap.size := Nat.lt_of_lt_of_le hs0 hb1.size
  have HB1 : Aside (Below w.heap.size w W1) := bel_trans HB0.out hb1
  have HZ1 : Aside (W1.heap[w.heap.size]? = some (.cells Tryd.zeroCells34 34 (0, 0))) := (hb1.block _ hs0).trans HZ0.out
  clear hb1 HB0 HZ0 hs0 hW0
  obtain ⟨W2, hW2⟩ : ∃ W2, W1.alloc (.cells Tryd.zeroCells34 34) = W2 := ⟨_, rfl⟩
  have hb2 : Below W1.heap.size W1 W2 := by rw [← hW2]; exact bel1 _ _
  have HG2 : Aside (W2.heap[W1.heap.size]? = some (.cells Tryd.zeroCells34 34 (0, 0))) := by show _ = _; rw [← hW2]; exact heap_alloc_new W1 _
  obtain ⟨W3, hW3⟩ : ∃ W3, W2.setRow W1.heap.size dc = W3 := ⟨_, rfl⟩
  have HP3 : Aside (Rr W3 W1.heap.size dflQ) := by show W3.heap[_]? = _; rw [← hW3, HDC.out]; exact setRow_heap W2 _ _ _ 34 (0, 0) HG2.out
  have HZ3 : Aside (W3.heap[w.heap.size]? = some (.cells Tryd.zeroCells34 34 (0, 0))) := by
    show _ = _
    rw [← hW3, setRow_other W2 _ _ _ (by omega)]
    exact (hb2.block _ hs1).trans HZ1.out
  have HB3 : Aside (Below w.heap.size w W3) := by
    show Below _ _ _
    rw [← hW3]
    exact (bel_trans HB1.out hb2).trans ⟨rfl, rfl, rfl, by simp, fun j hj => setRow_other W2 _ j _ (by omega)⟩
  generalize hP : W1.heap.size = P at *
  go_upto_region 2 with (refine wpList_store_row rfl 34 (.tmp 6) (.tmp 17) rfl P dc rfl rfl 34 _ HG2.out HDI.out.1 HDI.out.2.1 HDI.out.2.2 ?_)
  rw [hW3]
  clear hW3 HG2 hb2 HB1 HZ1 hW2 HDI HDC
  obtain ⟨W4, hW4⟩ : ∃ W4, W3.alloc (.cells ZC 5) = W4 := ⟨_, rfl⟩
  have hb4 : Below W3.heap.size W3 W4 := by rw [← hW4]; exact bel1 _ _
  have hmk := mkz W3
  have hcv := cvz W3
  rw [hW4] at hmk hcv
  have hp4 : Rr W4 P dflQ := (hb4.block _ (lt_block (show W3.heap[P]? = _ from HP3.out))).trans HP3.out
  have hz4 : W4.heap[w.heap.size]? = some (.cells Tryd.zeroCells34 34 (0, 0)) := (hb4.block _ (lt_block HZ3.out)).trans HZ3.out
  have f35 := hp4.frozen 35
  have k35 : W4.cell? ⟨P, 35, none⟩ = _ := hp4.rc.t 2 (by decide)
  obtain ⟨W5, hW5⟩ : ∃ W5, W4.setCell ⟨P, 35, none⟩ (.string ZS) = W5 := ⟨_, rfl⟩
  have hST : RL w w.heap.size P (dflQ.setT 2 ZS) [] none 0 W5 := by
    refine ⟨?_, ?_, Iy.nil _ _, ?_, rfl, hs1⟩
    · rw [← hW5, hp4.other _ _ (by omega)]; exact hz4
    · rw [← hW5]; exact hp4.setT 2 _ (by decide)
    · rw [← hW5]; exact hp4.bel (bel_trans HB3.out hb4) (by omega) _ _
  have HST : Aside (RL w w.heap.size P (dflQ.setT 2 ZS) [] none 0 W5 ∧ Cm [] 0 ∧ rdL l s (l.length + 1) 0 (fun x => decide (x ∈ ([] : List Int))) (dflQ.setT 2 ZS) = (RC, RQ)) := ⟨hST, Cm.nil 0 (by omega), by simpa using HR.out⟩
  clear hb4 hp4 hz4 hST HB3 HZ3 HP3 hW4 HR hs1
  go_upto_region 3 with fail
  clear hW5 hmk hcv f35 k35
  generalize dflQ.setT 2 ZS = q0 at *
  go_wp2
  go_loopg [7, 8] (l.length + 2) (fun kx s7 s8 wr => ∃ (f : Nat) (a : Int) (C : List Int) (o1 : Option Addr) (c1 : Nat) (q : Rq), s7 = .slice o1 C.length c1 ∧ s8 = .int .i64 a ∧ 0 ≤ a ∧ a ≤ l.length ∧ (l.length : Int) - a < f ∧ f ≤ kx ∧ Aside (RL w w.heap.size P q C o1 c1 wr ∧ Cm C a ∧ rdL l s f a (fun x => decide (x ∈ C)) q = (RC, RQ)))
  case atStart => exact ⟨l.length + 1, 0, [], none, 0, q0, rfl, rfl, by omega, by omega, by omega, by omega, HST.out⟩
  case round =>
    obtain ⟨f, a, C, o1, c1, q, rfl, rfl, ha0, ha1, hf, hfk, HQ⟩ := hrel
    clear HST
    obtain ⟨f, rfl⟩ : ∃ f', f = f' + 1 := ⟨f - 1, by omega⟩
    by_cases hlt : a < l.length
    · have HC : Aside (0 ≤ a ∧ a < l.length ∧ (l.length : Int) - a < (f : Int) + 1 ∧ f + 1 ≤ gk) := ⟨ha0, hlt, by omega, hfk⟩
      have h34 := rread_any o l c a wr (Sl_below HL.out HQ.out.1.b) (by omega) hlc hc
      clear ha0 ha1 hf hfk
      go_wp2_with fail
      refine h34.mono ?_
      rintro e w1 ⟨rfl, hb1⟩
      clear h34
      have HQ1 : Aside (RL w w.heap.size P q C o1 c1 w1) := HQ.out.1.bel hb1
      have HRD : Aside (Cm C a ∧ rdL l s (f + 1) a (fun x => decide (x ∈ C)) q = (RC, RQ)) := HQ.out.2
      clear hb1 HQ
      by_cases he : vE l a = 0
      rotate_left
      · have hrc := rdL_10 (s := s) (f := f) (S := fun x => decide (x ∈ C)) (q := q) hlt (.inl he)
        rw [HRD.out.2] at hrc
        injection hrc with e1 e2
        subst e1 e2
        have k1 : (vE l a == 0) = false := by simpa using he
        have k2 : (vE l a != 0) = true := by simpa using he
        have HTY : Aside (Ty w w.heap.size Tryd.zeroCells34 w1) := HQ1.out.ty0
        clear HQ1 HRD he
        generalize vE l a = er at *
        generalize vN l a = nx at *
        generalize vV l a = vv at *
        go_wp2_with (refine wpList_store_row rfl 34 (.tmp 4) (.tmp 35) rfl w.heap.size Tryd.zeroCells34 rfl rfl 34 _ HTY.out.r HTY.out.i HTY.out.z HTY.out.o ?_)
        refine bodyPost_ret (res18 _ rfl HTY.out.s HTY.out.i) rfl ?_
        exact HFIN.out _ _ _ _ HTY.out (by rw [zQ_eq, if_neg (by decide)]) rfl
      obtain ⟨r1, r2, r3, r4, r5⟩ := v_rng he
      have h34 := rread_any o l c (vN l a) w1 (Sl_below HL.out HQ1.out.b) (by omega) hlc hc
      have HE : Aside (vE l a = 0) := he
      rw [he]
      clear he
      obtain ⟨k, hk⟩ : ∃ k, vV l a = k := ⟨_, rfl⟩
      obtain ⟨nx, hnx⟩ : ∃ nx, vN l a = nx := ⟨_, rfl⟩
      have HKX : Aside (vV l a = k ∧ vN l a = nx) := ⟨hk, hnx⟩
      rw [hk, hnx]
      rw [hnx] at h34 r2 r3
      rw [hk] at r4 r5
      clear hk hnx
      go_wp2_with fail
      refine h34.mono ?_
      rintro e w2 ⟨rfl, hb2⟩
      clear h34
      have HQ2 : Aside (RL w w.heap.size P q C o1 c1 w2) := HQ1.out.bel hb2
      clear hb2 HQ1
      by_cases he2 : vE l nx = 0
      rotate_left
      · have hrc := rdL_10 (s := s) (f := f) (S := fun x => decide (x ∈ C)) (q := q) hlt (.inr (.inl (by rw [HKX.out.2]; exact he2)))
        rw [HRD.out.2] at hrc
        injection hrc with e1 e2
        subst e1 e2
        have k1 : (vE l nx == 0) = false := by simpa using he2
        have k2 : (vE l nx != 0) = true := by simpa using he2
        have HTY : Aside (Ty w w.heap.size Tryd.zeroCells34 w2) := HQ2.out.ty0
        clear HQ2 HRD he2
        generalize vE l nx = er at *
        generalize vN l nx = ny at *
        generalize vV l nx = vv at *
        go_wp2_with (refine wpList_store_row rfl 34 (.tmp 4) (.tmp 53) rfl w.heap.size Tryd.zeroCells34 rfl rfl 34 _ HTY.out.r HTY.out.i HTY.out.z HTY.out.o ?_)
        refine bodyPost_ret (res18 _ rfl HTY.out.s HTY.out.i) rfl ?_
        exact HFIN.out _ _ _ _ HTY.out (by rw [zQ_eq, if_neg (by decide)]) rfl
      obtain ⟨t1, t2, t3, t4, t5⟩ := v_rng he2
      have HE2 : Aside (vE l nx = 0) := he2
      rw [he2]
      clear he2
      obtain ⟨x2, hx2⟩ : ∃ x2, vV l nx = x2 := ⟨_, rfl⟩
      obtain ⟨y2, hy2⟩ : ∃ y2, vN l nx = y2 := ⟨_, rfl⟩
      have HXY : Aside (vV l nx = x2 ∧ vN l nx = y2) := ⟨hx2, hy2⟩
      rw [hx2, hy2]
      rw [hy2] at t2 t3
      rw [hx2] at t4 t5
      clear hx2 hy2
      have iw : IntKind.i64.wrap ((l.length : Int) - y2) = (l.length : Int) - y2 := by rw [IntKind.wrap_i64]; omega
      by_cases hgt : (l.length : Int) - y2 < x2
      · have hrc := rdL_10 (s := s) (f := f) (S := fun x => decide (x ∈ C)) (q := q) hlt (.inr (.inr (by rw [HKX.out.2, HXY.out.1, HXY.out.2]; exact hgt)))
        rw [HRD.out.2] at hrc
        injection hrc with e1 e2
        subst e1 e2
        have HTY : Aside (Ty w w.heap.size Tryd.zeroCells34 w2) := HQ2.out.ty0
        clear HQ2 HRD
        go_wp2_with (refine wpList_store_row rfl 34 (.tmp 4) (.tmp 53) rfl w.heap.size Tryd.zeroCells34 rfl rfl 34 _ HTY.out.r HTY.out.i HTY.out.z HTY.out.o ?_)
        refine bodyPost_ret (res18 _ rfl HTY.out.s HTY.out.i) rfl ?_
        exact HFIN.out _ _ _ _ HTY.out (by rw [zQ_eq, if_neg (by decide)]) rfl
      have HNO : Aside (¬ (vE l a ≠ 0 ∨ vE l (vN l a) ≠ 0 ∨ (l.length : Int) - vN l (vN l a) < vV l (vN l a))) := by
        show ¬ _
        rw [HKX.out.2, HXY.out.1, HXY.out.2]
        exact fun h => h.elim (fun h => h HE.out) (fun h => h.elim (fun h => h HE2.out) hgt)
      have iw2 : IntKind.i64.wrap (y2 + x2) = y2 + x2 := by rw [IntKind.wrap_i64]; omega
      go_wp2
      go_loopg [13] (C.length + 1) (fun kx s13 wr => ∃ i : Nat, s13 = .int .i64 (i : Int) ∧ i ≤ C.length ∧ C.length + 1 - i ≤ kx ∧ Aside (wr = w2 ∧ ∀ j (hj : j < C.length), j < i → C[j] ≠ k))
      case atStart => exact ⟨0, rfl, by omega, by omega, rfl, fun j _ h => absurd h (by omega)⟩
      case round =>
        obtain ⟨i, rfl, hi, hkx, HI⟩ := hrel
        obtain ⟨rfl, hnk⟩ := HI.out
        have HNK : Aside (∀ j (hj : j < C.length), j < i → C[j] ≠ k) := hnk
        clear HI hnk
        have hcl : C.length ≤ 15638572500000 := HRD.out.1.len (by omega)
        have n7 : IntKind.i64.wrap ((i : Int) + 1) = (i : Int) + 1 := by rw [IntKind.wrap_i64]; omega
        by_cases hil : i < C.length
        · obtain ⟨g, ho, hcell⟩ := HQ2.out.c.at i hil
          subst ho
          have i1 : (i : Int) < (C.length : Int) := by omega
          have i0 : (0 : Int) ≤ (i : Int) := by omega
          by_cases hck : C[i] = k
          · have hS : (fun x => decide (x ∈ C)) (vV l a) = true := by rw [HKX.out.1]; exact decide_eq_true (by rw [← hck]; exact List.getElem_mem hil)
            have hrc := rdL_13 (s := s) (f := f) (S := fun x => decide (x ∈ C)) (q := q) hlt HNO.out hS
            rw [HRD.out.2] at hrc
            injection hrc with e1 e2
            subst e1 e2
            rw [hck] at hcell
            have HTY : Aside (Ty w w.heap.size Tryd.zeroCells34 wr) := HQ2.out.ty0
            clear HQ2 HRD hS hck
            go_wp2_with (refine wpList_store_row rfl 34 (.tmp 4) (.tmp 66) rfl w.heap.size Tryd.zeroCells34 rfl rfl 34 _ HTY.out.r HTY.out.i HTY.out.z HTY.out.o ?_)
            refine bodyPost_ret (res18 _ rfl HTY.out.s HTY.out.i) rfl ?_
            exact HFIN.out _ _ _ _ HTY.out (by rw [zQ_eq, if_neg (by decide)]) rfl
          · have hck' : (C[i] == k) = false := by simpa using hck
            have HNK2 : Aside (∀ j (hj : j < C.length), j < i + 1 → C[j] ≠ k) := by
              intro j hj hji
              by_cases e : j = i
              · subst e; exact hck
              · exact HNK.out j hj (by omega)
            clear HNK
            obtain ⟨x, hx⟩ : ∃ x, C[i] = x := ⟨_, rfl⟩
            rw [hx] at hcell hck hck'
            clear hx
            go_wp2
            go_roundg (C.length + 1 - (i + 1))
            case measure => omega
            case rel => exact ⟨i + 1, rfl, by omega, Nat.le_refl _, rfl, HNK2.out⟩
        · obtain rfl : i = C.length := by omega
          have i1 : ¬ (C.length : Int) < (C.length : Int) := by omega
          have HNI : Aside (k ∉ C) := fun h => by
            obtain ⟨j, hj, e⟩ := List.getElem_of_mem h
            exact HNK.out j hj hj e
          obtain ⟨o2, c2, X2, happ, hiy, hgi⟩ := app_i HQ2.out.c (by have := HQ2.out.b.size; exact this) k hcl
          have HQ3 : Aside (RL w w.heap.size P q (C ++ [k]) o2 c2 X2) := HQ2.out.gi hgi hiy
          have HCM : Aside (Cm (C ++ [k]) (y2 + x2)) := HRD.out.1.add HNI.out r4 (by omega) (fun h9 => by
            have := wide_big HE.out (by rw [HKX.out.1]; exact h9)
            rw [HKX.out.2] at this
            omega)
          have HNS : Aside ((fun x => decide (x ∈ C)) (vV l a) = false) := by show decide _ = false; rw [HKX.out.1]; exact decide_eq_false HNI.out
          have HY : Aside ((vN l (vN l a)) = y2 ∧ vV l (vN l a) = x2) := by rw [HKX.out.2]; exact ⟨HXY.out.2, HXY.out.1⟩
          clear hiy hgi HNK hkx
          have HLEN : Aside ((C ++ [k]).length = C.length + 1) := by show _ = _; simp
          obtain ⟨cn1, hcn⟩ : ∃ cn1, (C ++ [k]).length = cn1 := ⟨_, rfl⟩
          rw [hcn] at happ
          have HCN : Aside ((C ++ [k]).length = cn1) := hcn
          have HAPP : Aside _ := happ
          clear hcn happ
          have w32 : k ≤ 32 ∨ ¬ k ≤ 32 := by omega
          rcases w32 with h32 | h32
          · obtain ⟨b, off, ho, hcs⟩ := HL.out.rows (by omega)
            subst ho
            have hbw : b < w.heap.size := World.block_lt_of_cell? _ _ (hcs 0 (by omega))
            obtain ⟨Y, rfl⟩ := Int.eq_ofNat_of_zero_le (show 0 ≤ y2 by omega)
            obtain ⟨X, rfl⟩ := Int.eq_ofNat_of_zero_le (show 0 ≤ x2 by omega)
            obtain ⟨z, hz⟩ : ∃ z, (if c = Y then off else off + Y) = z := ⟨_, rfl⟩
            obtain ⟨q2, code, hq2, htk⟩ := take_two q s k (sub l Y X) r4 (by omega) (by rw [sub_length l Y X (by omega)]; omega)
            have HSG : Aside (∀ Z, Below X2.heap.size X2 Z → (convert 22 9 (.slice (some ⟨b, z, none⟩) X (c - Y))).run Tryd.prog Z = .ok (.string (bt (sub l Y X))) Z) := fun Z hZ => by
              rw [← hz]
              exact piece Y X (fun j hj => cell_bel (hcs j hj) (HQ3.out.bel hZ).b) (by omega) hlc
            have HSR : Aside (∀ Z, Below X2.heap.size X2 Z → (convert 22 9 (.slice (some ⟨b, z, none⟩) X (c - Y))).run Tryd.prog (Z.setRow P q2.cells.toArray) = .ok (.string (bt (sub l Y X))) (Z.setRow P q2.cells.toArray)) := fun Z hZ => by
              rw [← hz]
              exact piece Y X (fun j hj => cell_bel (hcs j hj) ((HQ3.out.bel hZ).row q2).b) (by omega) hlc
            have HZZ : Aside ((if c = Y then off else off + Y) = z) := hz
            have HTK : Aside _ := htk
            have HQ2' : Aside _ := hq2
            have HI : Aside ((Tryd.prog.info? 34).map (·.size) = some q.cells.toArray.size) := hi34q _
            have HP4 : Aside (X2.drew.heap[P]? = some (.cells q.cells.toArray 34 (0, 0))) := HQ3.out.r
            have HP4' : Aside (X2.heap[P]? = some (.cells q.cells.toArray 34 (0, 0))) := HQ3.out.r
            have HI2 : Aside ((Tryd.prog.info? 34).map (·.size) = some q2.cells.toArray.size) := hi34q _
            have HS2 : Aside (q.cells.toArray.size = q2.cells.toArray.size) := by show _ = _; rw [Rq.size, Rq.size]
            have HO2 : Aside (q2.cells.toArray.all (·.oneCell') = true) := q2.one
            have HAFT : Aside (∀ Z, Below X2.heap.size X2 Z → RL w w.heap.size P q2 (C ++ [k]) o2 c2 (Z.setRow P q2.cells.toArray)) := fun Z hZ => (HQ3.out.bel hZ).row q2
            have HON : Aside (rtk s q k (sub l Y X) = some q2 → rdL l s (f + 1) a (fun x => decide (x ∈ C)) q = rdL l s f ((Y : Int) + X) (fun x => decide (x ∈ C ++ [k])) q2) := fun h => by
              have hh := rdL_on (s := s) (f := f) (S := fun x => decide (x ∈ C)) (q := q) (q' := q2) hlt HNO.out HNS.out (by
                rw [HY.out.1, HY.out.2, HKX.out.1, if_pos h32]
                exact h)
              rw [hh, HY.out.1, HY.out.2, HKX.out.1, came_add]
            have HOFF : Aside (rtk s q k (sub l Y X) = none → rdL l s (f + 1) a (fun x => decide (x ∈ C)) q = (11, rqE)) := fun h => rdL_11 (s := s) (f := f) (S := fun x => decide (x ∈ C)) (q := q) hlt HNO.out HNS.out (by rw [HKX.out.1]; exact h32) (by rw [HY.out.1, HY.out.2, HKX.out.1]; exact h)
            clear hz htk hq2 hcs HQ2 HNI HNS HNO
            generalize hD : q.cells.toArray = D at *
            generalize hD2 : q2.cells.toArray = D2 at *
            generalize hV : bt (sub l Y X) = V at *
            clear hD hD2 hV
            go_upto_region 19 with (at_builtin; refine Go.Lib.wpList_append_run_sl _ rfl (.tmp 67) (.tmp 69) 68 rfl _ _ rfl rfl HAPP.out ?_)
            clear HAPP
            have s1 : (Y : Int) + (X : Int) ≤ (c : Int) := by omega
            have s2 : (Y : Int) ≤ (Y : Int) + (X : Int) := by omega
            have s3 : ((Y : Int) + (X : Int) - (Y : Int)).toNat = X := by omega
            have s4 : ((c : Int) - (Y : Int)).toNat = c - Y := by omega
            have s5 : Y ≤ ((Y : Int) + (X : Int)).toNat := by omega
            refine wp_region_held_drew (S := fun Z : World => (convert 22 9 (.slice (some ⟨b, z, none⟩) X (c - Y))).run Tryd.prog Z = .ok (.string V) Z) (by kernel_rfl) (HSG.out _ (Below.refl _ _).drew) (fun hHeld => ?_)
            refine wpAnyH_take (i := 1) (v := .int .i64 k) rfl (by kernel_rfl) (by kernel_rfl) (by kernel_rfl) (fun _ _ _ h => h) (Or.inl ⟨by rfl, by intro w hs; go_simp⟩) hHeld ?_
            refine norm_any' (fun K hK => ?_)
            go_simp
            refine hK _ _ ?_
            clear hK K
            refine wpAnyH_take (i := 2) (v := .slice (some ⟨b, off, none⟩) l.length c) rfl (by kernel_rfl) (by kernel_rfl) (by kernel_rfl) (fun _ _ _ h => h) (Or.inl ⟨by rfl, by intro w hs; go_simp⟩) hHeld ?_
            refine norm_any' (fun K hK => ?_)
            go_simp
            refine hK _ _ ?_
            clear hK K
            refine wpAnyH_take (i := 3) (v := .int .i64 (Y : Int)) rfl (by kernel_rfl) (by kernel_rfl) (by kernel_rfl) (fun _ _ _ h => h) (Or.inl ⟨by rfl, by intro w hs; go_simp⟩) hHeld ?_
            refine norm_any' (fun K hK => ?_)
            go_simp
            refine hK _ _ ?_
            clear hK K
            refine wpAnyH_take (i := 4) (v := .int .i64 (Y : Int)) rfl (by kernel_rfl) (by kernel_rfl) (by kernel_rfl) (fun _ _ _ h => h) (Or.inl ⟨by rfl, by intro w hs; go_simp⟩) hHeld ?_
            refine norm_any' (fun K hK => ?_)
            go_simp
            refine hK _ _ ?_
            clear hK K
            refine wpAnyH_take (i := 5) (v := .int .i64 (X : Int)) rfl (by kernel_rfl) (by kernel_rfl) (by kernel_rfl) (fun _ _ _ h => h) (Or.inl ⟨by rfl, by intro w hs; go_simp⟩) hHeld ?_
            refine norm_any' (fun K hK => ?_)
            go_simp
            refine hK _ _ ?_
            clear hK K
            refine wpAnyH_take (i := 6) (v := .int .i64 ((Y : Int) + X)) rfl (by kernel_rfl) (by kernel_rfl) (by kernel_rfl) (fun _ _ _ h => h) (Or.inl ⟨by rfl, by intro w hs; go_simp⟩) hHeld ?_
            refine norm_any' (fun K hK => ?_)
            go_simp
            refine hK _ _ ?_
            clear hK K
            refine wpAnyH_take (i := 7) (v := .slice (some ⟨b, z, none⟩) X (c - Y)) rfl (by kernel_rfl) (by kernel_rfl) (by kernel_rfl) (fun _ _ _ h => h) (Or.inl ⟨by rfl, by intro w hs; go_simp; first | exact ⟨by rw [← HZZ.out]; split <;> rfl, by omega⟩ | (rw [← HZZ.out]; split <;> rfl)⟩) hHeld ?_
            refine norm_any' (fun K hK => ?_)
            go_simp
            refine hK _ _ ?_
            clear hK K
            refine wpAnyH_take (i := 8) (v := .string V) rfl (by kernel_rfl) (by kernel_rfl) (by kernel_rfl) (fun _ _ _ h => h) (Or.inl ⟨by rfl, by intro w s0; go_simp⟩) hHeld ?_
            refine norm_any' (fun K hK => ?_)
            go_simp
            refine hK _ _ ?_
            clear hK K
            refine wpAnyH_take (i := 9) (v := .bool s) rfl (by kernel_rfl) (by kernel_rfl) (by kernel_rfl) (fun _ _ _ h => h) (Or.inl ⟨by rfl, by intro w hs; go_simp⟩) hHeld ?_
            refine norm_any' (fun K hK => ?_)
            go_simp
            refine hK _ _ ?_
            clear hK K
            refine wpAnyH_ready (rs := [0]) (by kernel_rfl) (by simp) (AllReadyH.cons rfl (fun K hK => ?_) AllReadyH.nil)
            refine step_load_row rfl 34 (.tmp 6) rfl P rfl 34 _ _ HP4.out hu34 rfl HI.out ?_
            refine hK.out _ _ (HSG.out _ (Below.refl _ _).drew) (fun hHeld => ?_)
            clear hK K
            refine norm_any' (fun K hK => ?_)
            go_simp
            refine hK _ _ ?_
            clear hK K
            refine wpAnyH_ready (rs := [10]) (by kernel_rfl) (by simp) (AllReadyH.cons rfl (fun K hK => ?_) AllReadyH.nil)
            go_simp
            refine Calls.mono (HTK.out _) ?_
            rintro e w6 ⟨rfl, hb6⟩
            have hb6' : Below X2.heap.size X2 w6 := bel_trans (Below.refl _ _).drew hb6
            have HB6 : Aside (Below X2.heap.size X2 w6) := hb6'
            clear hb6 hb6'
            refine hK.out _ _ (HSG.out _ HB6.out) (fun hHeld => ?_)
            clear hK K
            refine norm_any' (fun K hK => ?_)
            go_simp
            refine hK _ _ ?_
            clear hK K
            refine wpAnyH_take (i := 11) (v := .tuple #[.agg D2, .int .i64 code]) rfl (by kernel_rfl) (by kernel_rfl) (by kernel_rfl) (fun _ _ _ h => h) (Or.inl ⟨by rfl, by intro w hs; go_simp⟩) hHeld ?_
            refine norm_any' (fun K hK => ?_)
            go_simp
            refine hK _ _ ?_
            clear hK K
            refine wpAnyH_take (i := 12) (v := .agg D2) rfl (by kernel_rfl) (by kernel_rfl) (by kernel_rfl) (fun _ _ _ h => h) (Or.inl ⟨by rfl, by intro w hs; go_simp⟩) hHeld ?_
            refine norm_any' (fun K hK => ?_)
            go_simp
            refine hK _ _ ?_
            clear hK K
            refine wpAnyH_take (i := 13) (v := .int .i64 code) rfl (by kernel_rfl) (by kernel_rfl) (by kernel_rfl) (fun _ _ _ h => h) (Or.inl ⟨by rfl, by intro w hs; go_simp⟩) hHeld ?_
            refine norm_any' (fun K hK => ?_)
            go_simp
            refine hK _ _ ?_
            clear hK K
            have HP6 : Aside (w6.heap[P]? = some (.cells D 34 (0, 0))) := (HB6.out.block P (lt_block HP4'.out)).trans HP4'.out
            refine wpAnyH_ready (rs := [14]) (by kernel_rfl) (by simp) (AllReadyH.cons rfl (fun K hK => ?_) AllReadyH.nil)
            refine step_store_row rfl 34 (.tmp 6) (.tmp 85) rfl P D2 rfl rfl 34 _ HP6.out HI2.out HS2.out HO2.out ?_
            refine hK.out _ _ (HSR.out _ HB6.out) (fun hHeld => ?_)
            clear hK K
            refine norm_any' (fun K hK => ?_)
            go_simp
            refine hK _ _ ?_
            clear hK K
            refine wpAnyH_take (i := 15) (v := .int .i64 code) rfl (by kernel_rfl) (by kernel_rfl) (by kernel_rfl) (fun _ _ _ h => h) (Or.inl ⟨by rfl, by intro w hs; go_simp⟩) hHeld ?_
            refine norm_any' (fun K hK => ?_)
            go_simp
            refine hK _ _ ?_
            clear hK K
            refine wpAnyH_done (by kernel_rfl) ?_ _
            clear hHeld
            have HQ6 : Aside (RL w w.heap.size P q2 (C ++ [k]) o2 c2 (w6.setRow P D2)) := HAFT.out _ HB6.out
            clear HSG HSR HTK HAFT HP6 HB6 HP4 HP4' HI HI2 HS2 HO2
            generalize w6.setRow P D2 = w7 at *
            rcases HQ2'.out with ⟨e1, rfl⟩ | ⟨e1, rfl⟩
            · have hrc := HOFF.out e1
              rw [HRD.out.2] at hrc
              injection hrc with e2 e3
              subst e2 e3
              have HTY : Aside (Ty w w.heap.size Tryd.zeroCells34 w7) := HQ6.out.ty0
              clear HQ6 HRD HON HOFF HQ2' e1
              go_wp2_with (refine wpList_store_row rfl 34 (.tmp 4) (.tmp 89) rfl w.heap.size Tryd.zeroCells34 rfl rfl 34 _ HTY.out.r HTY.out.i HTY.out.z HTY.out.o ?_)
              refine bodyPost_ret (res18 _ rfl HTY.out.s HTY.out.i) rfl ?_
              exact HFIN.out _ _ _ _ HTY.out (by rw [zQ_eq, if_neg (by decide)]) rfl
            · have HRD2 : Aside (rdL l s f ((Y : Int) + X) (fun x => decide (x ∈ C ++ [k])) q2 = (RC, RQ)) := by show _ = _; rw [← HON.out e1]; exact HRD.out.2
              clear HRD HON HOFF HQ2' e1
              go_wp2
              go_roundg f
              case measure => have := HC.out; omega
              case rel => exact ⟨f, (Y : Int) + X, C ++ [k], o2, c2, q2, by rw [← HCN.out], rfl, by omega, by omega, by have := HC.out; omega, Nat.le_refl _, HQ6.out, HCM.out, HRD2.out⟩
          · have HRD2 : Aside (rdL l s f (y2 + x2) (fun x => decide (x ∈ C ++ [k])) q = (RC, RQ)) := by
              have hh := rdL_on (s := s) (f := f) (S := fun x => decide (x ∈ C)) (q := q) (q' := q) hlt HNO.out HNS.out (by rw [HKX.out.1, if_neg h32])
              rw [HRD.out.2, HY.out.1, HY.out.2, HKX.out.1, came_add] at hh
              exact hh.symm
            clear HRD HNO HNS HQ2 HNI
            go_wp2_with (at_builtin; refine Go.Lib.wpList_append_run_sl _ rfl (.tmp 67) (.tmp 69) 68 rfl _ _ rfl rfl HAPP.out ?_)
            go_roundg f
            case measure => have := HC.out; omega
            case rel => exact ⟨f, y2 + x2, C ++ [k], o2, c2, q, by rw [← HCN.out], rfl, by omega, by omega, by have := HC.out; omega, Nat.le_refl _, HQ3.out, HCM.out, HRD2.out⟩
    · have hrl := HQ.out.2.2
      rw [rdL_end hlt] at hrl
      have hge : ¬ a < (l.length : Int) := hlt
      have hcl : C.length ≤ 15638572500000 := HQ.out.2.1.len (by omega)
      have HRL : Aside ((if decide ((15 : Int) ∈ C) && (!s || decide ((0 : Int) ∈ C)) then ((0 : Int), q) else (11, rqE)) = (RC, RQ)) := hrl
      have HQ1 : Aside (RL w w.heap.size P q C o1 c1 wr) := HQ.out.1
      clear hrl HQ hlt ha0 hf hfk
      go_wp2
      go_loopg [14, 15, 16] (C.length + 1) (fun kx s14 s15 s16 wq => ∃ (i : Nat) (b0 b15 : Bool), s14 = .bool b0 ∧ s15 = .bool b15 ∧ s16 = .int .i64 (i : Int) ∧ i ≤ C.length ∧ C.length + 1 - i ≤ kx ∧ Aside (wq = wr ∧ b0 = decide ((0 : Int) ∈ C.take i) ∧ b15 = decide ((15 : Int) ∈ C.take i)))
      case atStart => exact ⟨0, false, false, rfl, rfl, rfl, by omega, by omega, rfl, by simp, by simp⟩
      case round =>
        obtain ⟨i, b0, b15, rfl, rfl, rfl, hi, hkx, HI⟩ := hrel
        obtain ⟨rfl, hx0, hx15⟩ := HI.out
        have HX : Aside (b0 = decide ((0 : Int) ∈ C.take i) ∧ b15 = decide ((15 : Int) ∈ C.take i)) := ⟨hx0, hx15⟩
        clear HI hx0 hx15
        have n7 : IntKind.i64.wrap ((i : Int) + 1) = (i : Int) + 1 := by rw [IntKind.wrap_i64]; omega
        by_cases hil : i < C.length
        · obtain ⟨g, ho, hcell⟩ := HQ1.out.c.at i hil
          subst ho
          have i1 : (i : Int) < (C.length : Int) := by omega
          have i0 : (0 : Int) ≤ (i : Int) := by omega
          have HT : Aside (C.take (i + 1) = C.take i ++ [C[i]]) := List.take_succ_eq_append_getElem hil
          obtain ⟨x, hx⟩ : ∃ x, C[i] = x := ⟨_, rfl⟩
          rw [hx] at hcell HT
          clear hx
          have HT0 : Aside ((b0 || decide (x = 0)) = decide ((0 : Int) ∈ C.take (i + 1)) ∧ (b15 || decide (x = 15)) = decide ((15 : Int) ∈ C.take (i + 1))) := by
            rw [HT.out]
            exact ⟨mem_step _ x 0 _ HX.out.1, mem_step _ x 15 _ HX.out.2⟩
          clear HT HX
          have w3 : x = 0 ∨ x = 15 ∨ (¬ x = 0 ∧ ¬ x = 15) := by omega
          rcases w3 with rfl | rfl | ⟨m0, m15⟩
          · cases b0 <;> cases b15
            all_goals
              go_wp2
              go_roundg (C.length + 1 - (i + 1))
              case measure => omega
              case rel => exact ⟨i + 1, _, _, rfl, rfl, rfl, by omega, Nat.le_refl _, rfl, by rw [← HT0.out.1]; rfl, by rw [← HT0.out.2]; rfl⟩
          · cases b0 <;> cases b15
            all_goals
              go_wp2
              go_roundg (C.length + 1 - (i + 1))
              case measure => omega
              case rel => exact ⟨i + 1, _, _, rfl, rfl, rfl, by omega, Nat.le_refl _, rfl, by rw [← HT0.out.1]; rfl, by rw [← HT0.out.2]; rfl⟩
          · have e0 : (x == 0) = false := by simpa using m0
            have e15 : (x == 15) = false := by simpa using m15
            have HM : Aside (¬ x = 0 ∧ ¬ x = 15) := ⟨m0, m15⟩
            cases b0 <;> cases b15
            all_goals
              go_wp2
              go_roundg (C.length + 1 - (i + 1))
              case measure => omega
              case rel => exact ⟨i + 1, _, _, rfl, rfl, rfl, by omega, Nat.le_refl _, rfl, by rw [← HT0.out.1]; simp [HM.out.1], by rw [← HT0.out.2]; simp [HM.out.2]⟩
        · obtain rfl : i = C.length := by omega
          have i1 : ¬ (C.length : Int) < (C.length : Int) := by omega
          have HB : Aside (b0 = decide ((0 : Int) ∈ C) ∧ b15 = decide ((15 : Int) ∈ C)) := by have := HX.out; rw [List.take_length] at this; exact this
          have hrl := HRL.out
          rw [← HB.out.1, ← HB.out.2] at hrl
          have HTQ : Aside (Ty w w.heap.size q.cells.toArray wr) := HQ1.out.ty q
          have HTZ : Aside (Ty w w.heap.size Tryd.zeroCells34 wr) := HQ1.out.ty0
          have HPQ : Aside (wr.heap[P]? = some (.cells q.cells.toArray 34 (0, 0))) := HQ1.out.r
          have HQQ : Aside (∃ D, q.cells.toArray = D) := ⟨_, rfl⟩
          obtain ⟨D, hD⟩ := HQQ.out
          rw [hD] at HTQ HPQ
          have HD : Aside (q.cells.toArray = D) := hD
          clear HQ1 HRL HX HB HQQ hD
          cases s <;> cases b0 <;> cases b15
          all_goals
            simp at hrl
            obtain ⟨e1, e2⟩ := hrl
            subst e1 e2
            go_wp2_with (first
              | (refine wpList_load_row rfl 34 (.tmp 6) rfl P rfl 34 _ (0, 0) _ HPQ.out hu34 rfl HTQ.out.i ?_)
              | (refine wpList_store_row rfl 34 (.tmp 4) (.tmp 126) rfl w.heap.size D rfl rfl 34 _ HTQ.out.r HTQ.out.i HTQ.out.z HTQ.out.o ?_)
              | (refine wpList_store_row rfl 34 (.tmp 4) (.tmp 125) rfl w.heap.size Tryd.zeroCells34 rfl rfl 34 _ HTZ.out.r HTZ.out.i HTZ.out.z HTZ.out.o ?_))
            first
              | (refine bodyPost_ret (res18 _ rfl HTQ.out.s HTQ.out.i) rfl ?_
                 exact HFIN.out _ _ _ _ HTQ.out (by rw [← HD.out]; rfl) rfl)
              | (refine bodyPost_ret (res18 _ rfl HTZ.out.s HTZ.out.i) rfl ?_
                 exact HFIN.out _ _ _ _ HTZ.out (by rw [zQ_eq, if_neg (by decide)]) rfl)
end Go.Proofs.YtcppnellgkbndaaDoor
namespace Go.Proofs.YtcppnellgkbndaaDoor
open Go.ChangeShapes Go.WideShapes Go.ChangeAt Go.RowKit
set_option linter.unusedVariables false
set_option maxRecDepth 100000

theorem hu31 : Tryd.prog.underlying 31 = some (.array 33 3) := by kernel_rfl
theorem hu32 : Tryd.prog.underlying 32 = some (.array 33 9) := by kernel_rfl
theorem all33 : (List.range' 0 33).all (fun _ => true) = true := by decide
theorem eqA31 (d : Nat) (g : Nat → Int) (w : World) : (Op.equalIn (d + 2) 31 (.agg ((List.range 33).map fun k => Value.int .i64 (g k)).toArray) (.agg ((List.range 33).map fun k => Value.int .i64 (g k)).toArray)).run Tryd.prog w = .ok true w := by
  have hg : ∀ i, i < 33 → ((List.range 33).map fun k => Value.int .i64 (g k))[i]? = some (.int .i64 (g i)) := fun i hi => by simp [hi]
  generalize ((List.range 33).map fun k => Value.int .i64 (g k)) = L at *
  unfold Op.equalIn
  simp only [Sem.run_bind, run_underlying hu31, Result.andThen_ok]
  go_simp
  rw [eq_loop (fun _ => true) _ 33 ?hb (List.range' 0 33) (by simp [List.mem_range'])]
  · rw [all33]
    simp [go_sem]
  · intro i s hi
    have a3 := Tryd.isAgg3
    have u3 := Tryd.underlying3
    rw [hg i hi]
    simp only [Sem.run_bind, a3, Result.andThen_ok, Bool.false_eq_true, if_false, go_sem]
    simp [go_sem]
theorem eqA32 (d : Nat) (g : Nat → ByteArray) (w : World) : (Op.equalIn (d + 2) 32 (.agg ((List.range 33).map fun k => Value.string (g k)).toArray) (.agg ((List.range 33).map fun k => Value.string (g k)).toArray)).run Tryd.prog w = .ok true w := by
  have hg : ∀ i, i < 33 → ((List.range 33).map fun k => Value.string (g k))[i]? = some (.string (g i)) := fun i hi => by simp [hi]
  generalize ((List.range 33).map fun k => Value.string (g k)) = L at *
  unfold Op.equalIn
  simp only [Sem.run_bind, run_underlying hu32, Result.andThen_ok]
  go_simp
  rw [eq_loop (fun _ => true) _ 33 ?hb (List.range' 0 33) (by simp [List.mem_range'])]
  · rw [all33]
    simp [go_sem]
  · intro i s hi
    have a3 := Tryd.isAgg9
    have u3 := Tryd.underlying9
    rw [hg i hi]
    simp only [Sem.run_bind, a3, Result.andThen_ok, Bool.false_eq_true, if_false, go_sem]
    simp [go_sem]
theorem Rq.ext0 (q : Rq) : q.cells.toArray.extract 0 33 = ((List.range 33).map fun k => Value.int .i64 (q.N k)).toArray := by
  rw [List.extract_toArray]
  congr 1
theorem Rq.ext1 (q : Rq) : q.cells.toArray.extract 33 66 = ((List.range 33).map fun k => Value.string (q.T k)).toArray := by
  rw [List.extract_toArray]
  congr 1
theorem equalIn34 (q : Rq) (w : World) : (Op.equalIn 10000 34 (.agg q.cells.toArray) (.agg q.cells.toArray)).run Tryd.prog w = .ok true w := by
  have hS : Tryd.prog.underlying 34 = some (.struct (Tryd.prog.fieldsOf 34)) := by kernel_rfl
  have hp : Tryd.prog.stoodInHeld 34 = false := by kernel_rfl
  have u4 := Tryd.underlying4
  have h66 : q.cells.toArray[66]? = some (.bool q.ha) := by rw [List.getElem?_toArray, Rq.get]; rfl
  have h67 : q.cells.toArray[67]? = some (.bool q.hr) := by rw [List.getElem?_toArray, Rq.get]; rfl
  have e0 := q.ext0
  have e1 := q.ext1
  have q0 := eqA31 9997 q.N
  have q1 := eqA32 9997 q.T
  rw [show (10000 : Nat) = 9999 + 1 from rfl, run_equalIn_agg w 9999 34 _ _ hS hp]
  simp only [Program.fieldsOf, Tryd.underlying34]
  generalize q.cells.toArray = D at *
  generalize ((List.range 33).map fun k => Value.int .i64 (q.N k)).toArray = A at *
  generalize ((List.range 33).map fun k => Value.string (q.T k)).toArray = B at *
  have q0' : ∀ X, (Op.equalIn 9999 31 (.agg A) (.agg A)).run Tryd.prog X = .ok true X := q0
  have q1' : ∀ X, (Op.equalIn 9999 32 (.agg B) (.agg B)).run Tryd.prog X = .ok true X := q1
  go_simp
theorem eq34s (q : Rq) (w : World) : (binOp .eql 34 (.agg q.cells.toArray) (.agg q.cells.toArray)).run Tryd.prog w = .ok (.bool true) w := by
  rw [run_eql_struct, equalIn34]
  rfl
theorem neq34s (q : Rq) (w : World) : (binOp .neq 34 (.agg q.cells.toArray) (.agg q.cells.toArray)).run Tryd.prog w = .ok (.bool false) w := by
  have h : (Op.equalIn Op.maxDepth 34 (.agg q.cells.toArray) (.agg q.cells.toArray)).run Tryd.prog w = .ok true w := equalIn34 q w
  generalize q.cells.toArray = D at *
  simp [binOp, Op.equal, h, go_sem]
end Go.Proofs.YtcppnellgkbndaaDoor
namespace Go.Proofs.YtcppnellgkbndaaDoor
open Go.ChangeShapes Go.WideShapes Go.ChangeAt Go.RowKit
set_option linter.unusedVariables false
set_option maxRecDepth 100000

/-- An error answers nothing. -/
theorem rdL_err {l : List UInt8} {s : Bool} : ∀ (f : Nat) {a : Int} {S : Int → Bool} {q : Rq} {RC : Int} {RQ : Rq}, rdL l s f a S q = (RC, RQ) → RC ≠ 0 → RQ = rqE
  | 0, a, S, q, RC, RQ, h, hc => by
    unfold rdL at h
    injection h with h1 h2
    exact absurd h1.symm hc
  | f + 1, a, S, q, RC, RQ, h, hc => by
    unfold rdL at h
    split at h
    · split at h
      · injection h with h1 h2
        exact absurd h1.symm hc
      · injection h with h1 h2
        exact h2.symm
    · split at h
      · injection h with h1 h2
        exact h2.symm
      · split at h
        · injection h with h1 h2
          exact h2.symm
        · split at h
          · injection h with h1 h2
            exact h2.symm
          · exact rdL_err f h hc
theorem By.at {B : Nat} {w : World} {b : Bl} (h : By B w b.v b.l) : b.at w := by
  refine ⟨own_sl0 h, fun hn => ?_⟩
  obtain ⟨_, ⟨h1, h2⟩ | ⟨g, cap, cur, e, _⟩⟩ := h
  · have h1' : Value.slice b.o b.l.length b.c = .slice none 0 0 := h1
    simp only [Value.slice.injEq] at h1'
    exact ⟨h1'.2.1, h1'.2.2⟩
  · have e' : Value.slice b.o b.l.length b.c = _ := e
    simp only [Value.slice.injEq] at e'
    rw [hn] at e'
    cases e'.1
theorem Pn.pl {B : Nat} {w : World} {p : Ps} (h : Pn B w p) : Pl w p := ⟨h.orig.at, h.first.at, h.again.at, h.r16⟩
theorem Pn.keep {B : Nat} {w w' : World} {p : Ps} (h : Pn B w p) (hk : ∀ k, k < w.heap.size → B ≤ k → (∃ cur, w.heap[k]? = some (.cells cur 5 (0, 0))) → w'.heap[k]? = w.heap[k]?) : Pn B w' p := by
  have hb : ∀ {v : Value} {X : List UInt8}, By B w v X → By B w' v X := fun {v X} h => by
    obtain ⟨y1, y2 | ⟨g', cap, cur, y3, y4, y5, y6⟩⟩ := h
    · exact ⟨y1, .inl y2⟩
    · exact ⟨y1, .inr ⟨g', cap, cur, y3, y4, (hk g' (lt_block y5) y4 ⟨_, y5⟩).trans y5, y6⟩⟩
  exact ⟨hb h.orig, hb h.first, hb h.again, h.r16⟩
theorem Pn.bel {B : Nat} {w w' : World} {p : Ps} (h : Pn B w p) (hb : Below w.heap.size w w') : Pn B w' p := h.keep fun k hk _ _ => hb.block k hk
/-- Bytes that may be turned: a row between n1 and n3. -/
def Bf (n1 n3 : Nat) (X : World) (b : Bl) : Prop := 0 < b.l.length → ∃ g, b.o = some ⟨g, 0, none⟩ ∧ n1 ≤ g ∧ g < n3 ∧ Bx X g b.l.length
theorem Bf.of {n1 n3 : Nat} {X : World} {b : Bl} (h : By n1 X b.v b.l) (hn : X.heap.size ≤ n3) : Bf n1 n3 X b := fun h0 => by
  obtain ⟨g, h1, h2, h3, h4⟩ := own_bx (o := b.o) (c := b.c) h rfl h0
  exact ⟨g, h1, h2, by omega, h4⟩
theorem Bx.bel {w w' : World} {g n : Nat} (h : Bx w g n) (hb : Below w.heap.size w w') : Bx w' g n := by
  obtain ⟨cur, h1, h2⟩ := h
  exact ⟨cur, (hb.block g (lt_block h1)).trans h1, h2⟩
theorem Bf.bel {n1 n3 : Nat} {X X' : World} {b : Bl} (h : Bf n1 n3 X b) (hb : Below X.heap.size X X') : Bf n1 n3 X' b := fun h0 => by
  obtain ⟨g, h1, h2, h3, h4⟩ := h h0
  exact ⟨g, h1, h2, h3, h4.bel hb⟩
/-- All that lies: the parameters read first in A1, those read again in A2, the document's in A3, the law's copy in gi. -/
structure Lw (w : World) (n1 n3 A1 A2 A3 gi : Nat) (p1 p2 : Ps) (RQ : Rq) (L : List UInt8) (X : World) : Prop where
  r1 : X.heap[A1]? = some (.cells p1.cells.toArray 25 (0, 0))
  r2 : X.heap[A2]? = some (.cells p2.cells.toArray 25 (0, 0))
  r3 : X.heap[A3]? = some (.cells RQ.cells.toArray 34 (0, 0))
  q2 : Pn n3 X p2
  i : Sl X (some ⟨gi, 0, none⟩) L
  gi1 : gi < n1
  n : w.heap.size ≤ n1
  b : Below w.heap.size w X
  f : Bf n1 n3 X p1.first
  o : Bf n1 n3 X p1.orig
theorem Lw.bel {w X Y : World} {n1 n3 A1 A2 A3 gi : Nat} {p1 p2 : Ps} {RQ : Rq} {L : List UInt8} (h : Lw w n1 n3 A1 A2 A3 gi p1 p2 RQ L X) (hb : Below X.heap.size X Y) : Lw w n1 n3 A1 A2 A3 gi p1 p2 RQ L Y :=
  ⟨(hb.block _ (lt_block h.r1)).trans h.r1, (hb.block _ (lt_block h.r2)).trans h.r2, (hb.block _ (lt_block h.r3)).trans h.r3, h.q2.bel hb, Sl_below h.i hb, h.gi1, h.n, bel_trans h.b hb, h.f.bel hb, h.o.bel hb⟩
theorem Lw.turn {w X : World} {n1 n3 A1 A2 A3 gi : Nat} {p1 p2 : Ps} {RQ : Rq} {L : List UInt8} (h : Lw w n1 n3 A1 A2 A3 gi p1 p2 RQ L X) {g n : Nat} (hg1 : n1 ≤ g) (hg3 : g < n3) (hb : Bx X g n) (i : Nat) (x : Int) :
    Lw w n1 n3 A1 A2 A3 gi p1 p2 RQ L (X.setCell ⟨g, i, none⟩ (.int .u8 x)) := by
  have hbx := fun m (hm : Bx X g m) => (hm.turn (Y := X) ⟨rfl, rfl, rfl, Nat.le_refl _, fun _ _ _ => rfl⟩ i x)
  obtain ⟨_, ht⟩ := hbx n hb
  have hbk : ∀ k, k < X.heap.size → k ≠ g → (X.setCell ⟨g, i, none⟩ (.int .u8 x)).heap[k]? = X.heap[k]? := ht.2.2.2.2
  obtain ⟨cur, hcur, _⟩ := hb
  have hne : ∀ {A : Nat} {cs : Array Value} {t : TypeId}, X.heap[A]? = some (.cells cs t (0, 0)) → t ≠ 5 → A ≠ g := fun {A cs t} hA ht5 => by
    rintro rfl
    rw [hcur] at hA
    injection hA with hA
    injection hA with _ hA _
    exact ht5 hA.symm
  have hbf : ∀ {b : Bl}, Bf n1 n3 X b → Bf n1 n3 (X.setCell ⟨g, i, none⟩ (.int .u8 x)) b := fun {b} hf h0 => by
    obtain ⟨g', e1, e2, e3, e4⟩ := hf h0
    refine ⟨g', e1, e2, e3, ?_⟩
    by_cases e : g' = g
    · subst e; exact (hbx _ e4).1
    · obtain ⟨cur', k1, k2⟩ := e4
      exact ⟨cur', (hbk g' (lt_block k1) e).trans k1, k2⟩
  refine ⟨(hbk _ (lt_block h.r1) (hne h.r1 (by decide))).trans h.r1, (hbk _ (lt_block h.r2) (hne h.r2 (by decide))).trans h.r2, (hbk _ (lt_block h.r3) (hne h.r3 (by decide))).trans h.r3,
    h.q2.keep (fun k hk hB _ => hbk k hk (by omega)), fun j hj => ?_, h.gi1, h.n, ⟨ht.1.trans h.b.os, ht.2.1.trans h.b.tape, ht.2.2.1.trans h.b.output, Nat.le_trans h.b.size ht.2.2.2.1, fun k hk => (hbk k (Nat.lt_of_lt_of_le hk h.b.size) (by have := h.n; omega)).trans (h.b.block k hk)⟩, hbf h.f, hbf h.o⟩
  obtain ⟨b', off', e, hc⟩ := h.i j hj
  injection e with e
  injection e with e1 e2
  subst e1 e2
  refine ⟨gi, 0, rfl, ?_⟩
  have hlt := World.block_lt_of_cell? _ _ hc
  unfold World.cell? at hc ⊢
  rw [hbk gi hlt (by have := h.gi1; omega)]
  exact hc
end Go.Proofs.YtcppnellgkbndaaDoor
