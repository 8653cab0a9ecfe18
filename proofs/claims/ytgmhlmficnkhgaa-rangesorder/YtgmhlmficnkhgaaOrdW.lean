/- RangesOrder: the walk. -/
import Derived.Test.YtgmhlmficnkhgaaBox
import Derived.Deep.RegionHeld3
namespace Go.Proofs.Ytgmhlmficnkhgaa
open Go.RowKit Go.Shelf Go.Lib
set_option linter.unusedVariables false

theorem eql_seq' (g : Nat) (xs : Array Value) (w : World) : (binOp .eql 46 (.func (.func g) #[] xs) .nilFunc).run Try.prog w = .ok (.bool false) w := by
  kernel_rfl
attribute [local go_sem] eql_seq' Oper.semAt_some

set_option maxRecDepth 100000 in
set_option maxHeartbeats 4000000 in
theorem order_walk (la : Option Addr) (cap : Nat) (l : List (Int × Int)) (by' : Int) (w : World) (hl : Ar w la l) (hsz : l.length ≤ 1000000000000000) (hby : -9223372036854775808 ≤ by' ∧ by' ≤ 9223372036854775807) :
    Calls Try.prog 5 #[.slice la l.length cap, .int .i64 by'] w fun e w' => e = .returned (.bool true) ∧ Below w.heap.size w w' := by
  have HL : Aside (Ar w la l) := hl
  clear hl
  obtain ⟨N, hN⟩ : ∃ N, l.length = N := ⟨_, rfl⟩
  rw [hN] at hsz ⊢
  refine calls_calm Try.func5 rfl ?_
  simp only [Try.ntmps5, List.size_toArray, List.length_cons, List.length_nil, Nat.reduceAdd, Nat.reduceSub, Array.replicate_succ, Array.replicate_zero, List.push_toArray, List.append_toArray, List.nil_append, List.cons_append]
  have hn1 := new_c (w.alloc (.cells #[.bool false] 4))
  go_wp2_with fail
  refine hn1.mono ?_
  clear hn1
  rintro e w1 ⟨rfl, hw1⟩
  rw [World.size_alloc]
  have hz1 : w1.heap.size = w.heap.size + 2 := by rw [hw1]; simp
  have hn2 := new_c w1
  have HW1 : Aside (w1 = _) := hw1
  have HZ1 : Aside (w1.heap.size = w.heap.size + 2) := hz1
  clear hw1 hz1
  go_wp2_with fail
  refine hn2.mono ?_
  clear hn2
  rintro e w2 ⟨rfl, hw2⟩
  have hz1 := HZ1.out
  have hw1 := HW1.out
  rw [hz1]
  have HO2 : Aside (Ob w.heap.size w (w.heap.size + 1) (w.heap.size + 2) none none [] [] w2) := by
    have a1 : My (w.heap.size + 1) w1 (w.heap.size + 1) none [] := by
      have := new_my (w.heap.size + 1) (w.alloc (.cells #[.bool false] 4)) (by simp)
      rw [← hw1, World.size_alloc] at this
      exact this
    have b1 : My (w.heap.size + 1) w2 (w.heap.size + 2) none [] := by
      have := new_my (w.heap.size + 1) w1 (by omega)
      rw [← hw2, hz1] at this
      exact this
    have hb1 : Below w1.heap.size w1 w2 := by rw [hw2]; exact (Below.refl _ w1).alloc (Nat.le_refl _) _
    have hbx : w1.heap[w.heap.size]? = some (.cells #[.bool false] 4 (0, 0)) := by rw [hw1, Below.heap_alloc _ _ _ (by simp)]; exact World.alloc_heap_new w _
    refine ⟨a1.below hb1, b1, ⟨by omega, (fun e => nomatch e), (fun e => nomatch e), (fun g e => nomatch e)⟩, ?_, (hb1.block _ (by omega)).trans hbx⟩
    have : Below w.heap.size w w1 := by rw [hw1]; exact ((Below.refl _ w).alloc (Nat.le_refl _) _).alloc (by simp) _
    exact this.trans (hb1.mono (by omega))
  clear hw1 hw2 hz1 HW1 HZ1
  have hzz : w.heap.size + 1 ≤ w2.heap.size := HO2.out.lt
  have ha := add12_my (w.heap.size + 1) (w.heap.size + 1) none w2 HO2.out.a hzz
  go_wp2_with fail
  refine ha.mono ?_
  clear ha
  rintro e w3 ⟨rfl, o3, ht3⟩
  have HO3 : Aside _ := HO2.out.turn ht3
  have hh := has_my ht3.1 2
  clear ht3 HO2
  go_wp2_with fail
  refine hh.mono ?_
  clear hh
  rintro e w4 ⟨b, rfl, hb, hbel⟩
  obtain rfl : b = true := hb.2 ⟨(1, 2), by simp, by decide, by decide⟩
  have HO4 : Aside _ := HO3.out.below hbel
  clear hb hbel HO3
  have ha := rem12_my (w.heap.size + 1) (w.heap.size + 1) o3 w4 HO4.out.a HO4.out.lt
  go_wp2_with fail
  refine ha.mono ?_
  clear ha
  rintro e w5 ⟨rfl, o5, ht5⟩
  have HO5 : Aside _ := HO4.out.turn ht5
  have hh := has_my ht5.1 2
  clear ht5 HO4
  go_wp2_with fail
  refine hh.mono ?_
  clear hh
  rintro e w6 ⟨b, rfl, hb, hbel⟩
  obtain rfl : b = false := by
    cases b
    · rfl
    · exact absurd (hb.1 rfl) (In_nil _)
  have HO6 : Aside (Ob w.heap.size w (w.heap.size + 1) (w.heap.size + 2) o5 none [] [] w6) := HO5.out.below hbel
  clear hb hbel HO5
  -- where the turned order begins
  obtain ⟨c, hc⟩ : ∃ c : Nat, 0 < N → c < N ∧ ((by'.tmod N + N).tmod N : Int) = c := by
    by_cases hp : 0 < N
    · obtain ⟨c, h⟩ := turn_begin by' hp
      exact ⟨c, fun _ => h⟩
    · exact ⟨0, fun h => absurd h hp⟩
  have HC : Aside _ := hc
  clear hc hby
  go_wp2
  go_loopg [8] N (fun kk s8 wr => ∃ (k : Nat) (oa ob : Option Addr) (La Lb : List (Int × Int)), s8 = .int .i64 k ∧ k ≤ N ∧ N - k ≤ kk ∧ Aside (Ob w.heap.size w (w.heap.size + 1) (w.heap.size + 2) oa ob La Lb wr) ∧ Aside (∀ n, In n La ↔ Got l id k n) ∧ Aside (∀ n, In n Lb ↔ Got l (kx N c) k n))
  case atStart => exact ⟨0, o5, none, [], [], rfl, Nat.zero_le _, by omega, HO6.out, fun n => ⟨fun h => absurd h (In_nil _), fun h => absurd h (Got_zero _ _ _)⟩, fun n => ⟨fun h => absurd h (In_nil _), fun h => absurd h (Got_zero _ _ _)⟩⟩
  case round =>
    obtain ⟨k, oa, ob, La, Lb, rfl, hk, hg, HO, HA, HB⟩ := hrel
    by_cases hlt : k < N
    · clear HO6
      have hq9 : wrap64 ((N : Int) - 1 - (wrap64 ((wrap64 (by'.tmod N + N)).tmod N + k)).tmod N) = ((kx N c k : Nat) : Int) := by
        have hc := HC.out (by omega)
        exact kx_int hsz hlt hc.1 hc.2
      have HQ9 : Aside _ := hq9
      have hql : kx N c k < N := kx_lt (by omega)
      clear hq9
      obtain ⟨b, off, rfl, q0, q1⟩ := HL.out k (by omega)
      obtain ⟨b2, off2, e2, q2, q3⟩ := HL.out (kx N c k) (by omega)
      obtain ⟨rfl, rfl⟩ : b = b2 ∧ off = off2 := by simpa using e2
      have g0 : l.getD (id k) (0, -1) = l[k]'(by omega) := by simp [List.getD, List.getElem?_eq_getElem (show k < l.length by omega)]
      have g1 : l.getD (kx N c k) (0, -1) = l[kx N c k]'(by omega) := by simp [List.getD, List.getElem?_eq_getElem (show kx N c k < l.length by omega)]
      generalize (l[k]'(by omega)) = p at q0 q1 g0
      generalize (l[kx N c k]'(by omega)) = p2 at q2 q3 g1
      obtain ⟨x, y⟩ := p
      obtain ⟨x2, y2⟩ := p2
      dsimp only at q0 q1 q2 q3
      have lb : b < w.heap.size := World.block_lt_of_cell? _ _ q0
      have HOd : Aside (Ob w.heap.size w (w.heap.size + 1) (w.heap.size + 2) oa ob La Lb wr.drew) := HO.out.below (Below.refl _ _).drew
      have HS : Aside (∀ oa ob La Lb W, Ob w.heap.size w (w.heap.size + 1) (w.heap.size + 2) oa ob La Lb W → W.cell? ⟨b, off + k * 2, none⟩ = some (.int .i64 x) ∧ W.cell? ⟨b, off + k * 2 + 1, none⟩ = some (.int .i64 y) ∧ W.cell? ⟨b, off + kx N c k * 2, none⟩ = some (.int .i64 x2) ∧ W.cell? ⟨b, off + kx N c k * 2 + 1, none⟩ = some (.int .i64 y2)) := fun oa ob La Lb W h =>
        ⟨(h.bel.cell (p := ⟨b, off + k * 2, none⟩) lb).trans q0, (h.bel.cell (p := ⟨b, off + k * 2 + 1, none⟩) lb).trans q1, (h.bel.cell (p := ⟨b, off + kx N c k * 2, none⟩) lb).trans q2, (h.bel.cell (p := ⟨b, off + kx N c k * 2 + 1, none⟩) lb).trans q3⟩
      have HAC : Aside _ := add_got HOd.out.a HOd.out.lt HA.out x y g0
      have HBC : Aside (∀ oa' La' W, Ob w.heap.size w (w.heap.size + 1) (w.heap.size + 2) oa' ob La' Lb W → Calls Try.prog 10 #[.pointer (some ⟨w.heap.size + 2, 0, none⟩), .int .i64 x2, .int .i64 y2] W fun e w' => ∃ r o' L', e = .returned (.int .i64 r) ∧ Turn (w.heap.size + 1) W w' (w.heap.size + 2) ob o' L' ∧ (r = 3 ∨ r ≠ 3 ∧ ∀ n, In n L' ↔ Got l (kx N c) (k + 1) n)) := fun oa' La' W h => add_got h.b h.lt HB.out x2 y2 g1
      have i1 : (k : Int) < (N : Int) := by omega
      have i2 : ((kx N c k : Nat) : Int) < (N : Int) := by omega
      clear q0 q1 q2 q3 g0 g1 e2
      go_wp2
      rw [HQ9.out]
      generalize hqn : kx N c k = q at *
      go_region_held (fun w' => w'.cell? ⟨b, off + k * 2, none⟩ = some (.int .i64 x) ∧ w'.cell? ⟨b, off + k * 2 + 1, none⟩ = some (.int .i64 y) ∧ w'.cell? ⟨b, off + q * 2, none⟩ = some (.int .i64 x2) ∧ w'.cell? ⟨b, off + q * 2 + 1, none⟩ = some (.int .i64 y2)) (first | exact HS.out _ _ _ _ _ HO8.out | exact HS.out _ _ _ _ _ HO7.out | exact HS.out _ _ _ _ _ HOd.out) (first
        | (go_at_call 10; have HQ := HO7; refine Calls.mono (HBC.out _ _ _ HQ.out) ?_; rintro e w8 ⟨r2, o8, L8, rfl, ht8, hr8⟩; have HO8 : Aside _ := (HQ.out.symm.turn ht8).symm; have HR8 : Aside _ := hr8; clear ht8 hr8 HQ)
        | (go_at_call 10; refine Calls.mono HAC.out ?_; rintro e w7 ⟨r1, o7, L7, rfl, ht7, hr7⟩; have HO7 : Aside _ := HOd.out.turn ht7; have HR7 : Aside _ := hr7; clear ht7 hr7))
      by_cases hr1 : r1 = 3
      · subst hr1
        have bx := HO8.out.box
        have bc : w8.cell? ⟨w.heap.size, 0, none⟩ = some (.bool false) := by simp [World.cell?, bx]
        have bf : w8.frozen? ⟨w.heap.size, 0, none⟩ = false := by simp [World.frozen?, bx]
        have HE : Aside _ := HO8.out.set (.bool true)
        go_wp2
        exact ⟨_, results_cellB _ _ w.heap.size true rfl HE.out.2, rfl, HE.out.1⟩
      · by_cases hr2 : r2 = 3
        · subst hr2
          have bx := HO8.out.box
          have bc : w8.cell? ⟨w.heap.size, 0, none⟩ = some (.bool false) := by simp [World.cell?, bx]
          have bf : w8.frozen? ⟨w.heap.size, 0, none⟩ = false := by simp [World.frozen?, bx]
          have HE : Aside _ := HO8.out.set (.bool true)
          go_wp2
          exact ⟨_, results_cellB _ _ w.heap.size true rfl HE.out.2, rfl, HE.out.1⟩
        · have HA8 : Aside (∀ n, In n L7 ↔ Got l id (k + 1) n) := (HR7.out.resolve_left hr1).2
          have HB8 : Aside (∀ n, In n L8 ↔ Got l (kx N c) (k + 1) n) := (HR8.out.resolve_left hr2).2
          clear HR7 HR8 HAC HBC HS HA HB HO HOd HO7
          have d1 : decide (r1 = 3) = false := by simp [hr1]
          have d2 : decide (r2 = 3) = false := by simp [hr2]
          have d3 : (r1 == 3) = false := by simp [hr1]
          have d4 : (r2 == 3) = false := by simp [hr2]
          go_wp2
          go_roundg (N - (k + 1))
          case measure => omega
          case rel => exact ⟨k + 1, o7, o8, L7, L8, by simp, by omega, Nat.le_refl _, HO8.out, HA8.out, HB8.out⟩
    · obtain rfl : k = N := by omega
      clear HO6
      obtain rfl : La = Lb := by
        refine Ok_ext HO.out.a.2.1 HO.out.b.2.1 (fun n => ?_)
        rw [HA.out n, HB.out n]
        by_cases hp : 0 < k
        · exact Got_turned (HC.out hp).1 n
        · obtain rfl : k = 0 := by omega
          exact ⟨fun h => absurd h (Got_zero _ _ _), fun h => absurd h (Got_zero _ _ _)⟩
      clear HB HC
      have hsp := spans_my HO.out.a
      have hsp2 : ∀ W, Ob w.heap.size w (w.heap.size + 1) (w.heap.size + 2) oa ob La La W → Calls Try.prog 18 #[.pointer (some ⟨w.heap.size + 2, 0, none⟩)] W fun e w' => e = .returned (.int .i64 La.length) ∧ w' = W := fun W h => spans_my h.b
      have hlen := HO.out.a.2.2.1
      generalize hLn : La.length = M at *
      go_wp2_with fail
      refine hsp.mono ?_
      clear hsp
      rintro e w' ⟨rfl, hh⟩
      subst w'
      go_wp2_with fail
      refine (all_any _ _).mono ?_
      rintro e w' ⟨rfl, hw'⟩
      have HO1 : Aside (Ob w.heap.size w (w.heap.size + 1) (w.heap.size + 2) oa ob La La w') := by rw [hw']; exact HO.out.below ((Below.refl _ _).alloc (Nat.le_refl _) _)
      clear hw' HO
      go_wp2_with fail
      refine (all_any _ _).mono ?_
      rintro e w2 ⟨rfl, hw2⟩
      have HO2 : Aside (Ob w.heap.size w (w.heap.size + 1) (w.heap.size + 2) oa ob La La w2) := by rw [hw2]; exact HO1.out.below ((Below.refl _ _).alloc (Nat.le_refl _) _)
      clear hw2 HO1
      have hs2 := hsp2 w2 HO2.out
      clear hsp2
      go_wp2_with fail
      refine hs2.mono ?_
      clear hs2
      rintro e w' ⟨rfl, hh⟩
      subst w'
      go_wp2_with fail
      refine (all_any _ _).mono ?_
      rintro e w3 ⟨rfl, hw3⟩
      rw [World.size_alloc]
      have hz3 : w3.heap.size = w2.heap.size + 2 := by rw [hw3]; simp
      have HB3 : Aside (Below w2.heap.size w2 w3) := by rw [hw3]; exact ((Below.refl _ _).alloc (Nat.le_refl _) _).alloc (by simp) _
      have HO3 : Aside (Ob w.heap.size w (w.heap.size + 1) (w.heap.size + 2) oa ob La La w3) := HO2.out.below HB3.out
      have hLs : w3.heap[w2.heap.size]? = some (.cells #[.slice none 0 0] 26 (0, 0)) := by rw [hw3, Below.heap_alloc _ _ _ (by simp)]; exact World.alloc_heap_new w2 _
      have hBs : w3.heap[w2.heap.size + 1]? = some (.cells #[.pointer (some ⟨w.heap.size + 1, 0, none⟩)] 23 (0, 0)) := by
        have := World.alloc_heap_new (w2.alloc (.cells #[.slice none 0 0] 26)) (.cells #[.pointer (some ⟨w.heap.size + 1, 0, none⟩)] 23)
        rw [hw3]; simpa using this
      clear hw3
      have HLS : Aside _ := hLs
      have HBS : Aside _ := hBs
      have HZ3 : Aside _ := hz3
      clear hLs hBs hz3
      go_wp2_with fail
      refine wp_named ?_
      intro tm htm
      have hs0 : tm.size = 208 := by rw [htm]; rfl
      have t13 : ∀ h : 13 < tm.size, tm[13] = .pointer (some ⟨w2.heap.size, 0, none⟩) := by subst htm; intro h; rfl
      have t114 : tm[114]? = some (.func (.func 32) #[] #[.pointer (some ⟨w2.heap.size + 1, 0, none⟩)]) := by rw [htm]; rfl
      have HT : Aside _ := htm
      clear htm
      obtain ⟨⟨ca, hSa⟩, hOk, _⟩ := id HO3.out.a
      have hLs := HLS.out
      have hz3 := HZ3.out
      have cBs : w3.cell? ⟨w2.heap.size + 1, 0, none⟩ = some (.pointer (some ⟨w.heap.size + 1, 0, none⟩)) := by simp [World.cell?, HBS.out]
      have hrow : ∀ k n c, w3.cell? ⟨w2.heap.size, 0, none⟩ = some (.slice (some ⟨k, 0, none⟩) n c) → k < w3.heap.size := by
        intro k n c e; simp [World.cell?, hLs] at e
      refine (wpIn_wide (n := 5)).1 ?_
      refine wpIn_rangeFunc_ownH rfl (by decide) (gf := 32) (lb := #[.pointer (some ⟨w2.heap.size + 1, 0, none⟩)]) (by simp [Act.eval, t114]) trivial (enters_of Try.func32 (by kernel_rfl) rfl)
        (all_stops (fun k => k = w2.heap.size) ⟨w2.heap.size, 0, none⟩ (w2.heap.size + 1) (w.heap.size + 1) ca oa La w3 (by omega) (fun k e => by omega) (by show w2.heap.size < _; omega) hrow cBs hSa)
        Kq.trans (Kq.put (by show w2.heap.size < _; omega)) (Below.refl _ _) (fun _ => rfl)
        (BoxI w3 w2.heap.size) (fun _ _ _ => False) (BoxI_own w3 _ _ (Nat.le_refl _)) (fun _ _ _ _ _ hs _ _ => hs)
        ⟨⟨none, 0, ⟨hLs, .inl ⟨rfl, rfl, rfl⟩, by unfold maxLen; omega⟩, fun g e => nomatch e⟩, Chg.refl _ _⟩
        (fun x a' W => ∃ Bp, W.heap[Bp]? = some (.cells #[.int .i64 x.1, .int .i64 x.2] 50 (0, 0)) ∧
          a' = { tmps := (tm.setIfInBounds 115 (.agg #[.int .i64 x.1, .int .i64 x.2])).setIfInBounds 14 (.pointer (some ⟨Bp, 0, none⟩)), defers := [] })
        (fun x a' s A B row hs hg hr => by
          obtain ⟨Bp, q1, q4⟩ := hs
          exact ⟨Bp, kept_cells q1 hg hr, q4⟩) ?assign ?body ?done ?stop
      case assign =>
        rintro l' pre x W K hi hK
        obtain ⟨⟨oc, cc, hSe, hown⟩, hb⟩ := id hi
        have hK' := hK { tmps := (tm.setIfInBounds 115 (.agg #[.int .i64 x.1, .int .i64 x.2])).setIfInBounds 14 (.pointer (some ⟨W.heap.size, 0, none⟩)), defers := [] }
          (W.alloc (.cells #[.int .i64 x.1, .int .i64 x.2] 50)) ((KeepsOthers.alloc _ _).from _)
          ⟨by simp, fun k A t hk _ _ => Below.heap_alloc W _ k (Array.getElem?_eq_some_iff.1 hk).1, fun k n c hk e => ⟨n, c, by rwa [World.cell?_alloc_lt _ _ _ hSe.lt] at e⟩⟩
          (OwnFrom.alloc (BoxI_own w3 _ w3.heap.size (Nat.le_refl _)) _ hi)
          ⟨W.heap.size, World.alloc_heap_new W _, rfl⟩
        simp only [encS]
        gi_wp2
        exact hK'
      case body =>
        rintro l' pre x a' W hl' ⟨r, hr⟩ ⟨⟨oc, cc, hSe, hown⟩, hb⟩ ⟨Bp, hBp, rfl⟩ hlt
        refine wpIn_block ?_
        have hlen' : pre.length ≤ 65536 := by omega
        obtain ⟨g, c', w4, hrun, hch, hc3, hf3, hb1, hb2, hb3⟩ := push_box W w2.heap.size cc oc pre x.1 x.2 hSe hlen'
        have HK : Aside _ := box_body hSe hown hb hb1 hb2 hb3 w3.heap.size
        have cP0 : W.cell? ⟨Bp, 0, none⟩ = some (.int .i64 x.1) := by simp [World.cell?, hBp]
        have cP1 : W.cell? ⟨Bp, 1, none⟩ = some (.int .i64 x.2) := by simp [World.cell?, hBp]
        have cL := hSe.cell
        have lP : Bp < W.heap.size := (Array.getElem?_eq_some_iff.1 hBp).1
        clear hb1 hb2 hb3 hSe hown hb hBp hch HLS HBS HZ3 hLs cBs hrow hSa
        obtain ⟨xa, xb⟩ := x
        dsimp only at *
        generalize hNp : pre.length = Np at *
        gi_wp2_with (gi_at_builtin; refine wpListIn_append_run rfl (.tmp 116) (.tmp 118) 26 26 rfl (.slice oc Np cc) (.slice (some ⟨W.heap.size, 0, none⟩) 1 1) (by simp [Act.eval, hs0]) (by simp [Act.eval, hs0]) (hrun _) ?_)
        exact HK.out
      case done =>
        rintro D1 ys W4 hD1 rfl ⟨⟨ol, cl, hBl, hol⟩, hc4⟩ hK4
        have htm := HT.out
        subst htm
        have HO4 : Aside (Ob w.heap.size w (w.heap.size + 1) (w.heap.size + 2) oa ob ys ys W4) := by
          have h2 := HO2.out
          have ha := h2.a.lt
          have hb := h2.b.lt
          refine HO3.out.chg hc4 (by have := ha.1; omega) (by have := hb.1; omega) (fun g hg => by have := ha.2 g hg; omega) (fun g hg => by have := hb.2 g hg; omega) (fun k e => by have := h2.lt; omega)
        have HO3L : Aside (w.heap.size < w3.heap.size) := HO3.out.lt
        clear HO2 HO3 HLS HBS HZ3 hLs cBs hrow hSa
        have hn := hBl.lt
        have hRW4 : w.heap.size < W4.heap.size := HO4.out.lt
        have hRD1 : w.heap.size < D1 := by have := HO3L.out; omega
        go_wp2_with fail
        refine (all_any _ _).mono ?_
        rintro e W6 ⟨rfl, hW6⟩
        have hz6 : W6.heap.size = W4.heap.size + 3 := by rw [hW6]; simp
        have hb6 : Below W4.heap.size W4 W6 := by rw [hW6]; exact (((Below.refl _ _).alloc (Nat.le_refl _) _).alloc (by simp) _).alloc (by simp; omega) _
        have hI6 : W6.heap[W4.heap.size]? = some (.cells #[.int .i64 0] 3 (0, 0)) := by rw [hW6, Below.heap_alloc _ _ _ (by simp; omega), Below.heap_alloc _ _ _ (by simp)]; exact World.alloc_heap_new W4 _
        have hL6 : W6.heap[W4.heap.size + 1]? = some (.cells #[.int .i64 (-2)] 3 (0, 0)) := by
          rw [hW6, Below.heap_alloc _ _ _ (by simp)]
          have := World.alloc_heap_new (W4.alloc (.cells #[.int .i64 0] 3)) (.cells #[.int .i64 (-2)] 3)
          rwa [World.size_alloc] at this
        have hB6 : W6.heap[W4.heap.size + 2]? = some (.cells #[.pointer (some ⟨w.heap.size + 2, 0, none⟩)] 23 (0, 0)) := by
          have := World.alloc_heap_new ((W4.alloc (.cells #[.int .i64 0] 3)).alloc (.cells #[.int .i64 (-2)] 3)) (.cells #[.pointer (some ⟨w.heap.size + 2, 0, none⟩)] 23)
          rw [hW6]; simpa using this
        have HO6 : Aside (Ob w.heap.size w (w.heap.size + 1) (w.heap.size + 2) oa ob ys ys W6) := HO4.out.below hb6
        have hBl6 : Bx W6 w2.heap.size ol cl ys := ⟨(hb6.block _ hn).trans hBl.1, hBl.2.1.below hb6 (Nat.le_refl _), hBl.2.2⟩
        have hK6 : W6.heap[D1]? = some (.deferred (some [])) := (hb6.block _ (Array.getElem?_eq_some_iff.1 hK4).1).trans hK4
        have eS : ((W4.alloc (.cells #[.int .i64 0] 3)).alloc (.cells #[.int .i64 (-2)] 3)).heap.size = W4.heap.size + 2 := by simp
        rw [eS]
        have HBL6 : Aside (Bx W6 w2.heap.size ol cl ys) := hBl6
        have HI6 : Aside _ := hI6
        have HL6 : Aside _ := hL6
        have HB6 : Aside _ := hB6
        have HK6 : Aside _ := hK6
        have HZ6 : Aside _ := hz6
        clear hBl hBl6 hI6 hL6 hB6 hK6 hW6 hz6 hb6 hc4 eS
        have HD1 : Aside (D1 < W4.heap.size) := (Array.getElem?_eq_some_iff.1 hK4).1
        clear hK4
        go_wp2_with fail
        refine wp_named ?_
        intro tm htm
        have t121 : tm[121]? = some (.func (.func 32) #[] #[.pointer (some ⟨W4.heap.size + 2, 0, none⟩)]) := by rw [htm]; rfl
        have hs0 : tm.size = 208 := by rw [htm]; rfl
        have HT2 : Aside _ := htm
        clear htm HT
        obtain ⟨⟨cb, hSb⟩, hOkb, _⟩ := id HO6.out.b
        have hI6 := HI6.out
        have hz6 := HZ6.out
        have cB6 : W6.cell? ⟨W4.heap.size + 2, 0, none⟩ = some (.pointer (some ⟨w.heap.size + 2, 0, none⟩)) := by simp [World.cell?, HB6.out]
        have hrow : ∀ k n c, W6.cell? ⟨W4.heap.size, 0, none⟩ = some (.slice (some ⟨k, 0, none⟩) n c) → k < W6.heap.size := by
          intro k n c e; simp [World.cell?, hI6] at e
        refine (wpIn_wide (n := 5)).1 ?_
        refine wpIn_rangeFunc_ownH rfl (by decide) (gf := 32) (lb := #[.pointer (some ⟨W4.heap.size + 2, 0, none⟩)]) (by simp [Act.eval, t121]) trivial (enters_of Try.func32 (by kernel_rfl) rfl)
          (all_stops (fun k => k = W4.heap.size ∨ k = W4.heap.size + 1) ⟨W4.heap.size, 0, none⟩ (W4.heap.size + 2) (w.heap.size + 2) cb ob ys W6 (by omega) (fun k e => by omega) (by show W4.heap.size < _; omega) hrow cB6 hSb)
          Kq.trans (Kq.put (by show W4.heap.size < _; omega)) (Below.refl _ _) (fun _ => rfl)
          (CmpI W6 W4.heap.size (W4.heap.size + 1) ys) (fun _ pre _ => ¬ pre <+: ys) (CmpI_own W6 _ _ ys _ (Nat.le_refl _)) (fun _ _ _ _ _ hs _ _ => hs)
          ⟨List.nil_prefix, hI6, HL6.out, Chg.refl _ _⟩
          (fun x a' W => ∃ Bp, W.heap[Bp]? = some (.cells #[.int .i64 x.1, .int .i64 x.2] 50 (0, 0)) ∧
            a' = { tmps := (tm.setIfInBounds 122 (.agg #[.int .i64 x.1, .int .i64 x.2])).setIfInBounds 17 (.pointer (some ⟨Bp, 0, none⟩)), defers := [] })
          (fun x a' s A B row hs hg hr => by
            obtain ⟨Bp, q1, q4⟩ := hs
            exact ⟨Bp, kept_cells q1 hg hr, q4⟩) ?assign2 ?body2 ?done2 ?stop2
        case assign2 =>
          rintro l' pre x W K hi hK
          have hlI : W4.heap.size < W.heap.size := (Array.getElem?_eq_some_iff.1 hi.2.1).1
          have hK' := hK { tmps := (tm.setIfInBounds 122 (.agg #[.int .i64 x.1, .int .i64 x.2])).setIfInBounds 17 (.pointer (some ⟨W.heap.size, 0, none⟩)), defers := [] }
            (W.alloc (.cells #[.int .i64 x.1, .int .i64 x.2] 50)) ((KeepsOthers.alloc _ _).from _)
            ⟨by simp, fun k A t hk _ _ => Below.heap_alloc W _ k (Array.getElem?_eq_some_iff.1 hk).1, fun k n c hk e => ⟨n, c, by rwa [World.cell?_alloc_lt _ _ _ hlI] at e⟩⟩
            (OwnFrom.alloc (CmpI_own W6 _ _ ys W6.heap.size (Nat.le_refl _)) _ hi)
            ⟨W.heap.size, World.alloc_heap_new W _, rfl⟩
          simp only [encS]
          gi_wp2
          exact hK'
        case body2 =>
          rintro l' pre x a' W hl' ⟨r, hr⟩ ⟨hpre, hI, hLt, hcW⟩ ⟨Bp, hBp, rfl⟩ hlt
          obtain ⟨tm0, htm0⟩ : ∃ t, t = tm := ⟨_, rfl⟩
          have htm := HT2.out
          subst htm
          refine wpIn_block ?_
          have lC : w2.heap.size < W4.heap.size := hn
          obtain ⟨xa, xb⟩ := x
          have cI : W.cell? ⟨W4.heap.size, 0, none⟩ = some (.int .i64 pre.length) := by simp [World.cell?, hI]
          have cT : W.cell? ⟨W4.heap.size + 1, 0, none⟩ = some (.int .i64 (lastOf pre)) := by simp [World.cell?, hLt]
          have cP0 : W.cell? ⟨Bp, 0, none⟩ = some (.int .i64 xa) := by simp [World.cell?, hBp]
          have cP1 : W.cell? ⟨Bp, 1, none⟩ = some (.int .i64 xb) := by simp [World.cell?, hBp]
          obtain ⟨g, Rr, rfl, hAt6, hRr⟩ : ∃ g Rr, ol = some ⟨g, 0, none⟩ ∧ At W6 g (fl ys ++ Rr) ∧ True := by
            rcases HBL6.out.2.1 with ⟨_, h2, _⟩ | ⟨g, Rr, h1, h2, _⟩
            · rw [h2] at hlt; simp at hlt
            · exact ⟨g, Rr, h1, h2, trivial⟩
          have hgne : g ≠ W4.heap.size ∧ g ≠ W4.heap.size + 1 := by
            refine ⟨?_, ?_⟩
            · rintro rfl
              have := hI6.symm.trans hAt6
              simp at this
            · rintro rfl
              have := HL6.out.symm.trans hAt6
              simp at this
          have hAtW : At W g (fl ys ++ Rr) := (hcW.2.2.2.2 g hAt6.lt (by rintro (e | e) <;> omega)).trans hAt6
          have cLs : W.cell? ⟨w2.heap.size, 0, none⟩ = some (.slice (some ⟨g, 0, none⟩) ys.length cl) := by
            have e := hcW.2.2.2.2 w2.heap.size (by omega) (by rintro (e | e) <;> omega)
            exact (World.cell?_of_block (a := ⟨w2.heap.size, 0, none⟩) e).trans (Bx.cell HBL6.out)
          obtain ⟨cy0, cy1⟩ := cells_at hAtW pre.length hlt
          have hmM : (pre.length : Int) < (M : Int) := by omega
          have hmN : pre.length < M := by omega
          rw [hLn] at cLs
          have hMw : (M : Int) ≤ 65536 := by omega
          have hlast : pre ++ [(xa, xb)] <+: ys → lastOf pre + 2 ≤ xa ∧ xa ≤ xb ∧ -2 ≤ lastOf pre ∧ lastOf pre ≤ 4611686018427387903 := fun h => lastOf_le hOkb h
          have hpx : pre ++ [(xa, xb)] <+: ys ↔ ys[pre.length]'hlt = (xa, xb) := by
            obtain ⟨t, rfl⟩ := hpre
            rw [List.prefix_append_right_inj]
            rw [List.getElem_append_right (Nat.le_refl _)]
            cases t with
            | nil => simp at hlt
            | cons q t => simp [eq_comm]
          generalize hyy : ys[pre.length]'hlt = yy at cy0 cy1 hpx
          obtain ⟨ya, yb⟩ := yy
          dsimp only at cy0 cy1
          have HN1 : Aside (pre ++ [(xa, xb)] <+: ys ↔ (ya, yb) = (xa, xb)) := hpx
          have HLAST : Aside _ := hlast
          have HKK : Aside (pre ++ [(xa, xb)] <+: ys → _) := fun hp => cmp_body (by omega) hI hLt hcW hp W6.heap.size
          have HW : Aside _ := hcW
          have HIb : Aside _ := hI
          have HLb : Aside _ := hLt
          have hIf : W.frozen? ⟨W4.heap.size, 0, none⟩ = false := by simp [World.frozen?, hI]
          have hTf : W.frozen? ⟨W4.heap.size + 1, 0, none⟩ = false := by simp [World.frozen?, hLt]
          have hPne : Bp ≠ W4.heap.size ∧ Bp ≠ W4.heap.size + 1 := by
            refine ⟨?_, ?_⟩
            · rintro rfl; rw [hI] at hBp; simp at hBp
            · rintro rfl; rw [hLt] at hBp; simp at hBp
          have hRl : W.heap[w.heap.size]? = some (.cells #[.bool false] 4 (0, 0)) := by
            have h6 := HO6.out
            have := hcW.2.2.2.2 w.heap.size h6.lt (by have h := HO6.out.lt; have := HO6.out.a.lt.1; rintro (e | e) <;> omega)
            exact this.trans h6.box
          clear hcW hI hLt hAtW hAt6 hBp hpx hlast hyy HB6 HI6 HL6 HK6 HZ6 hI6 cB6 hrow hSb t121 hs0
          generalize lastOf pre = lst at *
          generalize hm : pre.length = m at *
          by_cases hne : (ya, yb) = (xa, xb)
          · obtain ⟨rfl, rfl⟩ : ya = xa ∧ yb = xb := by simpa using hne
            obtain ⟨v1, v2, v3, v4⟩ := HLAST.out (HN1.out.2 rfl)
            have HKF : Aside _ := HKK.out (HN1.out.2 rfl)
            have hwr : IntKind.i64.wrap (lst + 2) = lst + 2 := by rw [IntKind.wrap_i64]; omega
            gi_wp2
            refine region_round (fun W' => W'.cell? ⟨W4.heap.size, 0, none⟩ = some (.int .i64 (m : Int)) ∧ W'.cell? ⟨w2.heap.size, 0, none⟩ = some (.slice (some ⟨g, 0, none⟩) M cl) ∧ W'.cell? ⟨Bp, 0, none⟩ = some (.int .i64 ya) ∧ W'.cell? ⟨Bp, 1, none⟩ = some (.int .i64 yb) ∧ W'.cell? ⟨g, m * 2, none⟩ = some (.int .i64 ya) ∧ W'.cell? ⟨g, m * 2 + 1, none⟩ = some (.int .i64 yb) ∧ W'.cell? ⟨W4.heap.size + 1, 0, none⟩ = some (.int .i64 lst)) (by kernel_rfl) ?hd ?hQ ?hS (fun hHeld => ?_)
            case hd => exact noDefer (by kernel_rfl)
            case hQ => rintro ⟨a, w, hF⟩; exact hF
            case hS => exact ⟨cI, cLs, cP0, cP1, cy0, cy1, cT⟩
            refine wpAnyH_take (i := 0) (v := .int .i64 (m : Int)) rfl (by kernel_rfl) (by kernel_rfl) (by kernel_rfl) (fun _ _ _ h => h) (Or.inl ⟨by rfl, by rintro w ⟨s0, s1, s2, s3, s4, s5, s6⟩; go_simp⟩) hHeld ?_
            refine norm_any' (fun K hK => ?_)
            go_simp
            refine hK _ _ ?_
            clear hK K
            refine wpAnyH_take (i := 1) (v := .slice (some ⟨g, 0, none⟩) M cl) rfl (by kernel_rfl) (by kernel_rfl) (by kernel_rfl) (fun _ _ _ h => h) (Or.inl ⟨by rfl, by rintro w ⟨s0, s1, s2, s3, s4, s5, s6⟩; go_simp⟩) hHeld ?_
            refine norm_any' (fun K hK => ?_)
            go_simp
            refine hK _ _ ?_
            clear hK K
            refine wpAnyH_take (i := 2) (v := .int .i64 (M : Int)) rfl (by kernel_rfl) (by kernel_rfl) (by kernel_rfl) (fun _ _ _ h => h) (Or.inl ⟨by rfl, by rintro w ⟨s0, s1, s2, s3, s4, s5, s6⟩; go_simp⟩) hHeld ?_
            refine norm_any' (fun K hK => ?_)
            go_simp
            refine hK _ _ ?_
            clear hK K
            refine wpAnyH_take (i := 3) (v := .bool false) rfl (by kernel_rfl) (by kernel_rfl) (by kernel_rfl) (fun _ _ _ h => h) (Or.inl ⟨by rfl, by rintro w ⟨s0, s1, s2, s3, s4, s5, s6⟩; go_simp⟩) hHeld ?_
            refine norm_any' (fun K hK => ?_)
            go_simp
            refine hK _ _ ?_
            clear hK K
            refine wpAnyH_take (i := 4) (v := .bool false) rfl (by kernel_rfl) (by kernel_rfl) (by kernel_rfl) (fun _ _ _ h => h) (Or.inl ⟨by rfl, by rintro w ⟨s0, s1, s2, s3, s4, s5, s6⟩; go_simp⟩) hHeld ?_
            refine norm_any' (fun K hK => ?_)
            go_simp
            refine hK _ _ ?_
            clear hK K
            refine wpAnyH_take (i := 5) (v := .agg #[.int .i64 ya, .int .i64 yb]) rfl (by kernel_rfl) (by kernel_rfl) (by kernel_rfl) (fun _ _ _ h => h) (Or.inl ⟨by rfl, by rintro w ⟨s0, s1, s2, s3, s4, s5, s6⟩; go_simp⟩) hHeld ?_
            refine norm_any' (fun K hK => ?_)
            go_simp
            refine hK _ _ ?_
            clear hK K
            refine wpAnyH_take (i := 6) (v := .slice (some ⟨g, 0, none⟩) M cl) rfl (by kernel_rfl) (by kernel_rfl) (by kernel_rfl) (fun _ _ _ h => h) (Or.inl ⟨by rfl, by rintro w ⟨s0, s1, s2, s3, s4, s5, s6⟩; go_simp⟩) hHeld ?_
            refine norm_any' (fun K hK => ?_)
            go_simp
            refine hK _ _ ?_
            clear hK K
            refine wpAnyH_take (i := 7) (v := .int .i64 (m : Int)) rfl (by kernel_rfl) (by kernel_rfl) (by kernel_rfl) (fun _ _ _ h => h) (Or.inl ⟨by rfl, by rintro w ⟨s0, s1, s2, s3, s4, s5, s6⟩; go_simp⟩) hHeld ?_
            refine norm_any' (fun K hK => ?_)
            go_simp
            refine hK _ _ ?_
            clear hK K
            refine wpAnyH_take (i := 8) (v := .pointer (some ⟨g, m * 2, none⟩)) rfl (by kernel_rfl) (by kernel_rfl) (by kernel_rfl) (fun _ _ _ h => h) (Or.inl ⟨by rfl, by rintro w ⟨s0, s1, s2, s3, s4, s5, s6⟩; go_simp⟩) hHeld ?_
            refine norm_any' (fun K hK => ?_)
            go_simp
            refine hK _ _ ?_
            clear hK K
            refine wpAnyH_take (i := 9) (v := .agg #[.int .i64 ya, .int .i64 yb]) rfl (by kernel_rfl) (by kernel_rfl) (by kernel_rfl) (fun _ _ _ h => h) (Or.inl ⟨by rfl, by rintro w ⟨s0, s1, s2, s3, s4, s5, s6⟩; go_simp⟩) hHeld ?_
            refine norm_any' (fun K hK => ?_)
            go_simp
            refine hK _ _ ?_
            clear hK K
            refine wpAnyH_take (i := 10) (v := .bool false) rfl (by kernel_rfl) (by kernel_rfl) (by kernel_rfl) (fun _ _ _ h => h) (Or.inl ⟨by rfl, by intro w _; have hq := neq50 ya yb ya yb w; simp at hq; go_simp⟩) hHeld ?_
            refine norm_any' (fun K hK => ?_)
            go_simp
            refine hK _ _ ?_
            clear hK K
            refine wpAnyH_take (i := 11) (v := .bool false) rfl (by kernel_rfl) (by kernel_rfl) (by kernel_rfl) (fun _ _ _ h => h) (Or.inl ⟨by rfl, by rintro w ⟨s0, s1, s2, s3, s4, s5, s6⟩; go_simp⟩) hHeld ?_
            refine norm_any' (fun K hK => ?_)
            go_simp
            refine hK _ _ ?_
            clear hK K
            refine wpAnyH_take (i := 12) (v := .bool false) rfl (by kernel_rfl) (by kernel_rfl) (by kernel_rfl) (fun _ _ _ h => h) (Or.inl ⟨by rfl, by rintro w ⟨s0, s1, s2, s3, s4, s5, s6⟩; go_simp⟩) hHeld ?_
            refine norm_any' (fun K hK => ?_)
            go_simp
            refine hK _ _ ?_
            clear hK K
            refine wpAnyH_take (i := 13) (v := .pointer (some ⟨Bp, 0, none⟩)) rfl (by kernel_rfl) (by kernel_rfl) (by kernel_rfl) (fun _ _ _ h => h) (Or.inl ⟨by rfl, by rintro w ⟨s0, s1, s2, s3, s4, s5, s6⟩; go_simp⟩) hHeld ?_
            refine norm_any' (fun K hK => ?_)
            go_simp
            refine hK _ _ ?_
            clear hK K
            refine wpAnyH_take (i := 14) (v := .int .i64 ya) rfl (by kernel_rfl) (by kernel_rfl) (by kernel_rfl) (fun _ _ _ h => h) (Or.inl ⟨by rfl, by rintro w ⟨s0, s1, s2, s3, s4, s5, s6⟩; go_simp⟩) hHeld ?_
            refine norm_any' (fun K hK => ?_)
            go_simp
            refine hK _ _ ?_
            clear hK K
            refine wpAnyH_take (i := 15) (v := .int .i64 lst) rfl (by kernel_rfl) (by kernel_rfl) (by kernel_rfl) (fun _ _ _ h => h) (Or.inl ⟨by rfl, by rintro w ⟨s0, s1, s2, s3, s4, s5, s6⟩; go_simp⟩) hHeld ?_
            refine norm_any' (fun K hK => ?_)
            go_simp
            refine hK _ _ ?_
            clear hK K
            refine wpAnyH_take (i := 16) (v := .int .i64 (lst + 2)) rfl (by kernel_rfl) (by kernel_rfl) (by kernel_rfl) (fun _ _ _ h => h) (Or.inl ⟨by rfl, by rintro w ⟨s0, s1, s2, s3, s4, s5, s6⟩; go_simp⟩) hHeld ?_
            refine norm_any' (fun K hK => ?_)
            go_simp
            refine hK _ _ ?_
            clear hK K
            refine wpAnyH_take (i := 17) (v := .bool false) rfl (by kernel_rfl) (by kernel_rfl) (by kernel_rfl) (fun _ _ _ h => h) (Or.inl ⟨by rfl, by rintro w ⟨s0, s1, s2, s3, s4, s5, s6⟩; go_simp⟩) hHeld ?_
            refine norm_any' (fun K hK => ?_)
            go_simp
            refine hK _ _ ?_
            clear hK K
            refine wpAnyH_take (i := 18) (v := .bool false) rfl (by kernel_rfl) (by kernel_rfl) (by kernel_rfl) (fun _ _ _ h => h) (Or.inl ⟨by rfl, by rintro w ⟨s0, s1, s2, s3, s4, s5, s6⟩; go_simp⟩) hHeld ?_
            refine norm_any' (fun K hK => ?_)
            go_simp
            refine hK _ _ ?_
            clear hK K
            refine wpAnyH_take (i := 19) (v := .bool false) rfl (by kernel_rfl) (by kernel_rfl) (by kernel_rfl) (fun _ _ _ h => h) (Or.inl ⟨by rfl, by rintro w ⟨s0, s1, s2, s3, s4, s5, s6⟩; go_simp⟩) hHeld ?_
            refine norm_any' (fun K hK => ?_)
            go_simp
            refine hK _ _ ?_
            clear hK K
            refine wpAnyH_take (i := 20) (v := .pointer (some ⟨Bp, 1, none⟩)) rfl (by kernel_rfl) (by kernel_rfl) (by kernel_rfl) (fun _ _ _ h => h) (Or.inl ⟨by rfl, by rintro w ⟨s0, s1, s2, s3, s4, s5, s6⟩; go_simp⟩) hHeld ?_
            refine norm_any' (fun K hK => ?_)
            go_simp
            refine hK _ _ ?_
            clear hK K
            refine wpAnyH_take (i := 21) (v := .int .i64 yb) rfl (by kernel_rfl) (by kernel_rfl) (by kernel_rfl) (fun _ _ _ h => h) (Or.inl ⟨by rfl, by rintro w ⟨s0, s1, s2, s3, s4, s5, s6⟩; go_simp⟩) hHeld ?_
            refine norm_any' (fun K hK => ?_)
            go_simp
            refine hK _ _ ?_
            clear hK K
            refine wpAnyH_take (i := 22) (v := .pointer (some ⟨Bp, 0, none⟩)) rfl (by kernel_rfl) (by kernel_rfl) (by kernel_rfl) (fun _ _ _ h => h) (Or.inl ⟨by rfl, by rintro w ⟨s0, s1, s2, s3, s4, s5, s6⟩; go_simp⟩) hHeld ?_
            refine norm_any' (fun K hK => ?_)
            go_simp
            refine hK _ _ ?_
            clear hK K
            refine wpAnyH_take (i := 23) (v := .int .i64 ya) rfl (by kernel_rfl) (by kernel_rfl) (by kernel_rfl) (fun _ _ _ h => h) (Or.inl ⟨by rfl, by rintro w ⟨s0, s1, s2, s3, s4, s5, s6⟩; go_simp⟩) hHeld ?_
            refine norm_any' (fun K hK => ?_)
            go_simp
            refine hK _ _ ?_
            clear hK K
            refine wpAnyH_take (i := 24) (v := .bool false) rfl (by kernel_rfl) (by kernel_rfl) (by kernel_rfl) (fun _ _ _ h => h) (Or.inl ⟨by rfl, by rintro w ⟨s0, s1, s2, s3, s4, s5, s6⟩; go_simp⟩) hHeld ?_
            refine norm_any' (fun K hK => ?_)
            go_simp
            refine hK _ _ ?_
            clear hK K
            refine wpAnyH_take (i := 25) (v := .bool false) rfl (by kernel_rfl) (by kernel_rfl) (by kernel_rfl) (fun _ _ _ h => h) (Or.inl ⟨by rfl, by rintro w ⟨s0, s1, s2, s3, s4, s5, s6⟩; go_simp⟩) hHeld ?_
            refine norm_any' (fun K hK => ?_)
            go_simp
            refine hK _ _ ?_
            clear hK K
            refine wpAnyH_done (by kernel_rfl) ?_ _
            gi_wp2
            exact HKF.out
          · have hnn : xa = ya → ¬ xb = yb := fun h1 h2 => hne (by rw [h1, h2])
            have HKR : Aside (KeepsFrom W6.heap.size W (W.drew.setCell ⟨w.heap.size, 0, none⟩ (.bool false))) := by
              have hRd : W.drew.heap[w.heap.size]? = some (.cells #[.bool false] 4 (0, 0)) := hRl
              show KeepsFrom _ _ _
              rw [setCell_eq_setRow W.drew w.heap.size 0 _ 4 (0, 0) _ hRd]
              exact keeps_set_drew hRl _ _
            have bc : W.cell? ⟨w.heap.size, 0, none⟩ = some (.bool false) := by simp [World.cell?, hRl]
            have bf : W.frozen? ⟨w.heap.size, 0, none⟩ = false := by simp [World.frozen?, hRl]
            gi_wp2
            refine region_round (fun W' => W'.cell? ⟨W4.heap.size, 0, none⟩ = some (.int .i64 (m : Int)) ∧ W'.cell? ⟨w2.heap.size, 0, none⟩ = some (.slice (some ⟨g, 0, none⟩) M cl) ∧ W'.cell? ⟨Bp, 0, none⟩ = some (.int .i64 xa) ∧ W'.cell? ⟨Bp, 1, none⟩ = some (.int .i64 xb) ∧ W'.cell? ⟨g, m * 2, none⟩ = some (.int .i64 ya) ∧ W'.cell? ⟨g, m * 2 + 1, none⟩ = some (.int .i64 yb) ∧ W'.cell? ⟨W4.heap.size + 1, 0, none⟩ = some (.int .i64 lst)) (by kernel_rfl) ?hd2 ?hQ2 ?hS2 (fun hHeld => ?_)
            case hd2 => exact noDefer (by kernel_rfl)
            case hQ2 => rintro ⟨a, w, hF⟩; exact hF
            case hS2 => exact ⟨cI, cLs, cP0, cP1, cy0, cy1, cT⟩
            refine wpAnyH_take (i := 0) (v := .int .i64 (m : Int)) rfl (by kernel_rfl) (by kernel_rfl) (by kernel_rfl) (fun _ _ _ h => h) (Or.inl ⟨by rfl, by rintro w ⟨s0, s1, s2, s3, s4, s5, s6⟩; go_simp⟩) hHeld ?_
            refine norm_any' (fun K hK => ?_)
            go_simp
            refine hK _ _ ?_
            clear hK K
            refine wpAnyH_take (i := 1) (v := .slice (some ⟨g, 0, none⟩) M cl) rfl (by kernel_rfl) (by kernel_rfl) (by kernel_rfl) (fun _ _ _ h => h) (Or.inl ⟨by rfl, by rintro w ⟨s0, s1, s2, s3, s4, s5, s6⟩; go_simp⟩) hHeld ?_
            refine norm_any' (fun K hK => ?_)
            go_simp
            refine hK _ _ ?_
            clear hK K
            refine wpAnyH_take (i := 2) (v := .int .i64 (M : Int)) rfl (by kernel_rfl) (by kernel_rfl) (by kernel_rfl) (fun _ _ _ h => h) (Or.inl ⟨by rfl, by rintro w ⟨s0, s1, s2, s3, s4, s5, s6⟩; go_simp⟩) hHeld ?_
            refine norm_any' (fun K hK => ?_)
            go_simp
            refine hK _ _ ?_
            clear hK K
            refine wpAnyH_take (i := 3) (v := .bool false) rfl (by kernel_rfl) (by kernel_rfl) (by kernel_rfl) (fun _ _ _ h => h) (Or.inl ⟨by rfl, by rintro w ⟨s0, s1, s2, s3, s4, s5, s6⟩; go_simp⟩) hHeld ?_
            refine norm_any' (fun K hK => ?_)
            go_simp
            refine hK _ _ ?_
            clear hK K
            refine wpAnyH_take (i := 4) (v := .bool false) rfl (by kernel_rfl) (by kernel_rfl) (by kernel_rfl) (fun _ _ _ h => h) (Or.inl ⟨by rfl, by rintro w ⟨s0, s1, s2, s3, s4, s5, s6⟩; go_simp⟩) hHeld ?_
            refine norm_any' (fun K hK => ?_)
            go_simp
            refine hK _ _ ?_
            clear hK K
            refine wpAnyH_take (i := 5) (v := .agg #[.int .i64 xa, .int .i64 xb]) rfl (by kernel_rfl) (by kernel_rfl) (by kernel_rfl) (fun _ _ _ h => h) (Or.inl ⟨by rfl, by rintro w ⟨s0, s1, s2, s3, s4, s5, s6⟩; go_simp⟩) hHeld ?_
            refine norm_any' (fun K hK => ?_)
            go_simp
            refine hK _ _ ?_
            clear hK K
            refine wpAnyH_take (i := 6) (v := .slice (some ⟨g, 0, none⟩) M cl) rfl (by kernel_rfl) (by kernel_rfl) (by kernel_rfl) (fun _ _ _ h => h) (Or.inl ⟨by rfl, by rintro w ⟨s0, s1, s2, s3, s4, s5, s6⟩; go_simp⟩) hHeld ?_
            refine norm_any' (fun K hK => ?_)
            go_simp
            refine hK _ _ ?_
            clear hK K
            refine wpAnyH_take (i := 7) (v := .int .i64 (m : Int)) rfl (by kernel_rfl) (by kernel_rfl) (by kernel_rfl) (fun _ _ _ h => h) (Or.inl ⟨by rfl, by rintro w ⟨s0, s1, s2, s3, s4, s5, s6⟩; go_simp⟩) hHeld ?_
            refine norm_any' (fun K hK => ?_)
            go_simp
            refine hK _ _ ?_
            clear hK K
            refine wpAnyH_take (i := 8) (v := .pointer (some ⟨g, m * 2, none⟩)) rfl (by kernel_rfl) (by kernel_rfl) (by kernel_rfl) (fun _ _ _ h => h) (Or.inl ⟨by rfl, by rintro w ⟨s0, s1, s2, s3, s4, s5, s6⟩; go_simp⟩) hHeld ?_
            refine norm_any' (fun K hK => ?_)
            go_simp
            refine hK _ _ ?_
            clear hK K
            refine wpAnyH_take (i := 9) (v := .agg #[.int .i64 ya, .int .i64 yb]) rfl (by kernel_rfl) (by kernel_rfl) (by kernel_rfl) (fun _ _ _ h => h) (Or.inl ⟨by rfl, by rintro w ⟨s0, s1, s2, s3, s4, s5, s6⟩; go_simp⟩) hHeld ?_
            refine norm_any' (fun K hK => ?_)
            go_simp
            refine hK _ _ ?_
            clear hK K
            refine wpAnyH_take (i := 10) (v := .bool true) rfl (by kernel_rfl) (by kernel_rfl) (by kernel_rfl) (fun _ _ _ h => h) (Or.inl ⟨by rfl, by intro w _; first | (go_simp; done) | (go_simp; exact hnn)⟩) hHeld ?_
            refine norm_any' (fun K hK => ?_)
            go_simp
            refine hK _ _ ?_
            clear hK K
            refine wpAnyH_take (i := 11) (v := .bool true) rfl (by kernel_rfl) (by kernel_rfl) (by kernel_rfl) (fun _ _ _ h => h) (Or.inl ⟨by rfl, by rintro w ⟨s0, s1, s2, s3, s4, s5, s6⟩; go_simp⟩) hHeld ?_
            refine norm_any' (fun K hK => ?_)
            go_simp
            refine hK _ _ ?_
            clear hK K
            refine wpAnyH_take (i := 12) (v := .bool true) rfl (by kernel_rfl) (by kernel_rfl) (by kernel_rfl) (fun _ _ _ h => h) (Or.inl ⟨by rfl, by rintro w ⟨s0, s1, s2, s3, s4, s5, s6⟩; go_simp⟩) hHeld ?_
            refine norm_any' (fun K hK => ?_)
            go_simp
            refine hK _ _ ?_
            clear hK K
            refine wpAnyH_take (i := 13) (v := undef) rfl (by kernel_rfl) (by kernel_rfl) (by kernel_rfl) (fun _ _ _ h => h) (Or.inr ⟨by rfl, rfl⟩) hHeld ?_
            refine norm_any' (fun K hK => ?_)
            go_simp
            refine hK _ _ ?_
            clear hK K
            refine wpAnyH_take (i := 14) (v := undef) rfl (by kernel_rfl) (by kernel_rfl) (by kernel_rfl) (fun _ _ _ h => h) (Or.inr ⟨by rfl, rfl⟩) hHeld ?_
            refine norm_any' (fun K hK => ?_)
            go_simp
            refine hK _ _ ?_
            clear hK K
            refine wpAnyH_take (i := 15) (v := undef) rfl (by kernel_rfl) (by kernel_rfl) (by kernel_rfl) (fun _ _ _ h => h) (Or.inr ⟨by rfl, rfl⟩) hHeld ?_
            refine norm_any' (fun K hK => ?_)
            go_simp
            refine hK _ _ ?_
            clear hK K
            refine wpAnyH_take (i := 16) (v := undef) rfl (by kernel_rfl) (by kernel_rfl) (by kernel_rfl) (fun _ _ _ h => h) (Or.inr ⟨by rfl, rfl⟩) hHeld ?_
            refine norm_any' (fun K hK => ?_)
            go_simp
            refine hK _ _ ?_
            clear hK K
            refine wpAnyH_take (i := 17) (v := undef) rfl (by kernel_rfl) (by kernel_rfl) (by kernel_rfl) (fun _ _ _ h => h) (Or.inr ⟨by rfl, rfl⟩) hHeld ?_
            refine norm_any' (fun K hK => ?_)
            go_simp
            refine hK _ _ ?_
            clear hK K
            refine wpAnyH_take (i := 18) (v := .bool true) rfl (by kernel_rfl) (by kernel_rfl) (by kernel_rfl) (fun _ _ _ h => h) (Or.inl ⟨by rfl, by rintro w ⟨s0, s1, s2, s3, s4, s5, s6⟩; go_simp⟩) hHeld ?_
            refine norm_any' (fun K hK => ?_)
            go_simp
            refine hK _ _ ?_
            clear hK K
            refine wpAnyH_take (i := 19) (v := .bool true) rfl (by kernel_rfl) (by kernel_rfl) (by kernel_rfl) (fun _ _ _ h => h) (Or.inl ⟨by rfl, by rintro w ⟨s0, s1, s2, s3, s4, s5, s6⟩; go_simp⟩) hHeld ?_
            refine norm_any' (fun K hK => ?_)
            go_simp
            refine hK _ _ ?_
            clear hK K
            refine wpAnyH_take (i := 20) (v := undef) rfl (by kernel_rfl) (by kernel_rfl) (by kernel_rfl) (fun _ _ _ h => h) (Or.inr ⟨by rfl, rfl⟩) hHeld ?_
            refine norm_any' (fun K hK => ?_)
            go_simp
            refine hK _ _ ?_
            clear hK K
            refine wpAnyH_take (i := 21) (v := undef) rfl (by kernel_rfl) (by kernel_rfl) (by kernel_rfl) (fun _ _ _ h => h) (Or.inr ⟨by rfl, rfl⟩) hHeld ?_
            refine norm_any' (fun K hK => ?_)
            go_simp
            refine hK _ _ ?_
            clear hK K
            refine wpAnyH_take (i := 22) (v := undef) rfl (by kernel_rfl) (by kernel_rfl) (by kernel_rfl) (fun _ _ _ h => h) (Or.inr ⟨by rfl, rfl⟩) hHeld ?_
            refine norm_any' (fun K hK => ?_)
            go_simp
            refine hK _ _ ?_
            clear hK K
            refine wpAnyH_take (i := 23) (v := undef) rfl (by kernel_rfl) (by kernel_rfl) (by kernel_rfl) (fun _ _ _ h => h) (Or.inr ⟨by rfl, rfl⟩) hHeld ?_
            refine norm_any' (fun K hK => ?_)
            go_simp
            refine hK _ _ ?_
            clear hK K
            refine wpAnyH_take (i := 24) (v := undef) rfl (by kernel_rfl) (by kernel_rfl) (by kernel_rfl) (fun _ _ _ h => h) (Or.inr ⟨by rfl, rfl⟩) hHeld ?_
            refine norm_any' (fun K hK => ?_)
            go_simp
            refine hK _ _ ?_
            clear hK K
            refine wpAnyH_take (i := 25) (v := .bool true) rfl (by kernel_rfl) (by kernel_rfl) (by kernel_rfl) (fun _ _ _ h => h) (Or.inl ⟨by rfl, by rintro w ⟨s0, s1, s2, s3, s4, s5, s6⟩; go_simp⟩) hHeld ?_
            refine norm_any' (fun K hK => ?_)
            go_simp
            refine hK _ _ ?_
            clear hK K
            refine wpAnyH_done (by kernel_rfl) ?_ _
            gi_wp2
            exact ⟨HKR.out, fun h => hne (HN1.out.1 h)⟩
        case done2 =>
          rintro D2 zs W7 hD2 rfl ⟨-, hI7, -, hc7⟩ hK7
          have htm := HT2.out
          subst htm
          have HO7 : Aside (Ob w.heap.size w (w.heap.size + 1) (w.heap.size + 2) oa ob zs zs W7) := by
            have h4 := HO4.out
            have ha := h4.a.lt
            have hb := h4.b.lt
            refine HO6.out.chg hc7 (by have := ha.1; omega) (by have := hb.1; omega) (fun g hg => by have := ha.2 g hg; omega) (fun g hg => by have := hb.2 g hg; omega) (fun k e => by omega)
          have hD14 : D1 < W4.heap.size := HD1.out
          have hRD2 : w.heap.size < D2 := by have := HO6.out.lt; omega
          have hK17 : W7.heap[D1]? = some (.deferred (some [])) := (hc7.2.2.2.2 D1 (by omega) (by rintro (e | e) <;> omega)).trans HK6.out
          have hlen7 : (zs.length : Int) = (M : Int) := by omega
          rw [hlen7] at hI7
          have HF0 : Aside (Fin w.heap.size w (w.heap.size + 1) (w.heap.size + 2) oa ob zs W4.heap.size M D1 D2 W7) := ⟨HO7.out, hI7, hK17, hK7⟩
          have hD12 : D1 ≠ D2 := by omega
          clear HO4 HO6 HO7 HBL6 HI6 HL6 HB6 HK6 HZ6 hI6 hz6 cB6 hrow hSb hI7 hc7 hK7 hK17 HD1 hs0 t121
          go_wp2
          go_loopg [18] k (fun kk s18 wr => ∃ i : Nat, s18 = .int .i64 i ∧ i ≤ k ∧ k - i ≤ kk ∧ Aside (Fin w.heap.size w (w.heap.size + 1) (w.heap.size + 2) oa ob zs W4.heap.size M D1 D2 wr))
          case atStart => exact ⟨0, rfl, Nat.zero_le _, by omega, HF0.out⟩
          case round =>
            obtain ⟨i, rfl, hi, hg, HF⟩ := hrel
            clear HF0
            by_cases hlt : i < k
            · obtain ⟨b, off, rfl, q0, q1⟩ := HL.out i (by omega)
              have g0 : l.getD (id i) (0, -1) = l[i]'(by omega) := by simp [List.getD, List.getElem?_eq_getElem (show i < l.length by omega)]
              generalize (l[i]'(by omega)) = p at q0 q1 g0
              obtain ⟨x, y⟩ := p
              dsimp only at q0 q1
              have lb : b < w.heap.size := World.block_lt_of_cell? _ _ q0
              have HFd : Aside (Fin w.heap.size w (w.heap.size + 1) (w.heap.size + 2) oa ob zs W4.heap.size M D1 D2 wr.drew) := HF.out.below (Below.refl _ _).drew
              have HS : Aside (∀ W, Fin w.heap.size w (w.heap.size + 1) (w.heap.size + 2) oa ob zs W4.heap.size M D1 D2 W → W.cell? ⟨b, off + i * 2, none⟩ = some (.int .i64 x) ∧ W.cell? ⟨b, off + i * 2 + 1, none⟩ = some (.int .i64 y)) := fun W h =>
                ⟨(h.o.bel.cell (p := ⟨b, off + i * 2, none⟩) lb).trans q0, (h.o.bel.cell (p := ⟨b, off + i * 2 + 1, none⟩) lb).trans q1⟩
              have HH : Aside (Fit x y → ∀ W q, x ≤ q → q ≤ y → Fin w.heap.size w (w.heap.size + 1) (w.heap.size + 2) oa ob zs W4.heap.size M D1 D2 W → Calls Try.prog 17 #[.pointer (some ⟨w.heap.size + 1, 0, none⟩), .int .i64 q] W fun e w' => e = .returned (.bool true) ∧ Fin w.heap.size w (w.heap.size + 1) (w.heap.size + 2) oa ob zs W4.heap.size M D1 D2 w') := by
                intro hf W q h1 h2 h
                refine (has_my h.o.a q).mono ?_
                rintro e w' ⟨b, rfl, hb, hbel⟩
                obtain rfl : b = true := hb.2 ((HA.out q).2 ⟨i, hlt, by rw [g0]; exact ⟨hf, h1, h2⟩⟩)
                exact ⟨rfl, h.below hbel⟩
              have i1 : (i : Int) < (k : Int) := by omega
              clear q0 q1 g0
              by_cases h1 : x < 0
              · have e1 : decide (0 ≤ x) = false := by simp; omega
                go_wp2
                refine wp_region_held_drew (S := fun w' => w'.cell? ⟨b, off + i * 2, none⟩ = some (.int .i64 x) ∧ w'.cell? ⟨b, off + i * 2 + 1, none⟩ = some (.int .i64 y)) (by kernel_rfl) (HS.out _ HFd.out) (fun hHeld => ?_)
                refine wpAnyH_take (i := 0) (v := .slice (some ⟨b, off, none⟩) k cap) rfl (by kernel_rfl) (by kernel_rfl) (by kernel_rfl) (fun _ _ _ h => h) (Or.inl ⟨by rfl, by rintro w ⟨s0, s1⟩; go_simp⟩) hHeld ?_
                refine norm_any' (fun K hK => ?_)
                go_simp
                refine hK _ _ ?_
                clear hK K
                refine wpAnyH_take (i := 1) (v := .int .i64 (i : Int)) rfl (by kernel_rfl) (by kernel_rfl) (by kernel_rfl) (fun _ _ _ h => h) (Or.inl ⟨by rfl, by rintro w ⟨s0, s1⟩; go_simp⟩) hHeld ?_
                refine norm_any' (fun K hK => ?_)
                go_simp
                refine hK _ _ ?_
                clear hK K
                refine wpAnyH_take (i := 2) (v := .pointer (some ⟨b, off + i * 2, none⟩)) rfl (by kernel_rfl) (by kernel_rfl) (by kernel_rfl) (fun _ _ _ h => h) (Or.inl ⟨by rfl, by rintro w ⟨s0, s1⟩; go_simp⟩) hHeld ?_
                refine norm_any' (fun K hK => ?_)
                go_simp
                refine hK _ _ ?_
                clear hK K
                refine wpAnyH_take (i := 3) (v := .pointer (some ⟨b, off + i * 2, none⟩)) rfl (by kernel_rfl) (by kernel_rfl) (by kernel_rfl) (fun _ _ _ h => h) (Or.inl ⟨by rfl, by rintro w ⟨s0, s1⟩; go_simp⟩) hHeld ?_
                refine norm_any' (fun K hK => ?_)
                go_simp
                refine hK _ _ ?_
                clear hK K
                refine wpAnyH_take (i := 4) (v := .int .i64 x) rfl (by kernel_rfl) (by kernel_rfl) (by kernel_rfl) (fun _ _ _ h => h) (Or.inl ⟨by rfl, by rintro w ⟨s0, s1⟩; go_simp⟩) hHeld ?_
                refine norm_any' (fun K hK => ?_)
                go_simp
                refine hK _ _ ?_
                clear hK K
                refine wpAnyH_take (i := 5) (v := .bool false) rfl (by kernel_rfl) (by kernel_rfl) (by kernel_rfl) (fun _ _ _ h => h) (Or.inl ⟨by rfl, by rintro w ⟨s0, s1⟩; go_simp⟩) hHeld ?_
                refine norm_any' (fun K hK => ?_)
                go_simp
                refine hK _ _ ?_
                clear hK K
                refine wpAnyH_take (i := 6) (v := .bool false) rfl (by kernel_rfl) (by kernel_rfl) (by kernel_rfl) (fun _ _ _ h => h) (Or.inl ⟨by rfl, by rintro w ⟨s0, s1⟩; go_simp⟩) hHeld ?_
                refine norm_any' (fun K hK => ?_)
                go_simp
                refine hK _ _ ?_
                clear hK K
                refine wpAnyH_take (i := 7) (v := undef) rfl (by kernel_rfl) (by kernel_rfl) (by kernel_rfl) (fun _ _ _ h => h) (Or.inr ⟨by rfl, rfl⟩) hHeld ?_
                refine norm_any' (fun K hK => ?_)
                go_simp
                refine hK _ _ ?_
                clear hK K
                refine wpAnyH_take (i := 8) (v := undef) rfl (by kernel_rfl) (by kernel_rfl) (by kernel_rfl) (fun _ _ _ h => h) (Or.inr ⟨by rfl, rfl⟩) hHeld ?_
                refine norm_any' (fun K hK => ?_)
                go_simp
                refine hK _ _ ?_
                clear hK K
                refine wpAnyH_take (i := 9) (v := undef) rfl (by kernel_rfl) (by kernel_rfl) (by kernel_rfl) (fun _ _ _ h => h) (Or.inr ⟨by rfl, rfl⟩) hHeld ?_
                refine norm_any' (fun K hK => ?_)
                go_simp
                refine hK _ _ ?_
                clear hK K
                refine wpAnyH_take (i := 10) (v := undef) rfl (by kernel_rfl) (by kernel_rfl) (by kernel_rfl) (fun _ _ _ h => h) (Or.inr ⟨by rfl, rfl⟩) hHeld ?_
                refine norm_any' (fun K hK => ?_)
                go_simp
                refine hK _ _ ?_
                clear hK K
                refine wpAnyH_take (i := 11) (v := undef) rfl (by kernel_rfl) (by kernel_rfl) (by kernel_rfl) (fun _ _ _ h => h) (Or.inr ⟨by rfl, rfl⟩) hHeld ?_
                refine norm_any' (fun K hK => ?_)
                go_simp
                refine hK _ _ ?_
                clear hK K
                refine wpAnyH_take (i := 12) (v := undef) rfl (by kernel_rfl) (by kernel_rfl) (by kernel_rfl) (fun _ _ _ h => h) (Or.inr ⟨by rfl, rfl⟩) hHeld ?_
                refine norm_any' (fun K hK => ?_)
                go_simp
                refine hK _ _ ?_
                clear hK K
                refine wpAnyH_take (i := 13) (v := .bool false) rfl (by kernel_rfl) (by kernel_rfl) (by kernel_rfl) (fun _ _ _ h => h) (Or.inl ⟨by rfl, by rintro w ⟨s0, s1⟩; go_simp⟩) hHeld ?_
                refine norm_any' (fun K hK => ?_)
                go_simp
                refine hK _ _ ?_
                clear hK K
                refine wpAnyH_take (i := 14) (v := .bool false) rfl (by kernel_rfl) (by kernel_rfl) (by kernel_rfl) (fun _ _ _ h => h) (Or.inl ⟨by rfl, by rintro w ⟨s0, s1⟩; go_simp⟩) hHeld ?_
                refine norm_any' (fun K hK => ?_)
                go_simp
                refine hK _ _ ?_
                clear hK K
                refine wpAnyH_take (i := 15) (v := undef) rfl (by kernel_rfl) (by kernel_rfl) (by kernel_rfl) (fun _ _ _ h => h) (Or.inr ⟨by rfl, rfl⟩) hHeld ?_
                refine norm_any' (fun K hK => ?_)
                go_simp
                refine hK _ _ ?_
                clear hK K
                refine wpAnyH_take (i := 16) (v := undef) rfl (by kernel_rfl) (by kernel_rfl) (by kernel_rfl) (fun _ _ _ h => h) (Or.inr ⟨by rfl, rfl⟩) hHeld ?_
                refine norm_any' (fun K hK => ?_)
                go_simp
                refine hK _ _ ?_
                clear hK K
                refine wpAnyH_take (i := 17) (v := undef) rfl (by kernel_rfl) (by kernel_rfl) (by kernel_rfl) (fun _ _ _ h => h) (Or.inr ⟨by rfl, rfl⟩) hHeld ?_
                refine norm_any' (fun K hK => ?_)
                go_simp
                refine hK _ _ ?_
                clear hK K
                refine wpAnyH_take (i := 18) (v := undef) rfl (by kernel_rfl) (by kernel_rfl) (by kernel_rfl) (fun _ _ _ h => h) (Or.inr ⟨by rfl, rfl⟩) hHeld ?_
                refine norm_any' (fun K hK => ?_)
                go_simp
                refine hK _ _ ?_
                clear hK K
                refine wpAnyH_take (i := 19) (v := undef) rfl (by kernel_rfl) (by kernel_rfl) (by kernel_rfl) (fun _ _ _ h => h) (Or.inr ⟨by rfl, rfl⟩) hHeld ?_
                refine norm_any' (fun K hK => ?_)
                go_simp
                refine hK _ _ ?_
                clear hK K
                refine wpAnyH_take (i := 20) (v := undef) rfl (by kernel_rfl) (by kernel_rfl) (by kernel_rfl) (fun _ _ _ h => h) (Or.inr ⟨by rfl, rfl⟩) hHeld ?_
                refine norm_any' (fun K hK => ?_)
                go_simp
                refine hK _ _ ?_
                clear hK K
                refine wpAnyH_take (i := 21) (v := undef) rfl (by kernel_rfl) (by kernel_rfl) (by kernel_rfl) (fun _ _ _ h => h) (Or.inr ⟨by rfl, rfl⟩) hHeld ?_
                refine norm_any' (fun K hK => ?_)
                go_simp
                refine hK _ _ ?_
                clear hK K
                refine wpAnyH_take (i := 22) (v := undef) rfl (by kernel_rfl) (by kernel_rfl) (by kernel_rfl) (fun _ _ _ h => h) (Or.inr ⟨by rfl, rfl⟩) hHeld ?_
                refine norm_any' (fun K hK => ?_)
                go_simp
                refine hK _ _ ?_
                clear hK K
                refine wpAnyH_take (i := 23) (v := undef) rfl (by kernel_rfl) (by kernel_rfl) (by kernel_rfl) (fun _ _ _ h => h) (Or.inr ⟨by rfl, rfl⟩) hHeld ?_
                refine norm_any' (fun K hK => ?_)
                go_simp
                refine hK _ _ ?_
                clear hK K
                refine wpAnyH_take (i := 24) (v := undef) rfl (by kernel_rfl) (by kernel_rfl) (by kernel_rfl) (fun _ _ _ h => h) (Or.inr ⟨by rfl, rfl⟩) hHeld ?_
                refine norm_any' (fun K hK => ?_)
                go_simp
                refine hK _ _ ?_
                clear hK K
                refine wpAnyH_take (i := 25) (v := undef) rfl (by kernel_rfl) (by kernel_rfl) (by kernel_rfl) (fun _ _ _ h => h) (Or.inr ⟨by rfl, rfl⟩) hHeld ?_
                refine norm_any' (fun K hK => ?_)
                go_simp
                refine hK _ _ ?_
                clear hK K
                refine wpAnyH_take (i := 26) (v := .bool false) rfl (by kernel_rfl) (by kernel_rfl) (by kernel_rfl) (fun _ _ _ h => h) (Or.inl ⟨by rfl, by rintro w ⟨s0, s1⟩; go_simp⟩) hHeld ?_
                refine norm_any' (fun K hK => ?_)
                go_simp
                refine hK _ _ ?_
                clear hK K
                refine wpAnyH_take (i := 27) (v := .bool false) rfl (by kernel_rfl) (by kernel_rfl) (by kernel_rfl) (fun _ _ _ h => h) (Or.inl ⟨by rfl, by rintro w ⟨s0, s1⟩; go_simp⟩) hHeld ?_
                refine norm_any' (fun K hK => ?_)
                go_simp
                refine hK _ _ ?_
                clear hK K
                refine wpAnyH_take (i := 28) (v := undef) rfl (by kernel_rfl) (by kernel_rfl) (by kernel_rfl) (fun _ _ _ h => h) (Or.inr ⟨by rfl, rfl⟩) hHeld ?_
                refine norm_any' (fun K hK => ?_)
                go_simp
                refine hK _ _ ?_
                clear hK K
                refine wpAnyH_take (i := 29) (v := undef) rfl (by kernel_rfl) (by kernel_rfl) (by kernel_rfl) (fun _ _ _ h => h) (Or.inr ⟨by rfl, rfl⟩) hHeld ?_
                refine norm_any' (fun K hK => ?_)
                go_simp
                refine hK _ _ ?_
                clear hK K
                refine wpAnyH_take (i := 30) (v := undef) rfl (by kernel_rfl) (by kernel_rfl) (by kernel_rfl) (fun _ _ _ h => h) (Or.inr ⟨by rfl, rfl⟩) hHeld ?_
                refine norm_any' (fun K hK => ?_)
                go_simp
                refine hK _ _ ?_
                clear hK K
                refine wpAnyH_take (i := 31) (v := undef) rfl (by kernel_rfl) (by kernel_rfl) (by kernel_rfl) (fun _ _ _ h => h) (Or.inr ⟨by rfl, rfl⟩) hHeld ?_
                refine norm_any' (fun K hK => ?_)
                go_simp
                refine hK _ _ ?_
                clear hK K
                refine wpAnyH_take (i := 32) (v := undef) rfl (by kernel_rfl) (by kernel_rfl) (by kernel_rfl) (fun _ _ _ h => h) (Or.inr ⟨by rfl, rfl⟩) hHeld ?_
                refine norm_any' (fun K hK => ?_)
                go_simp
                refine hK _ _ ?_
                clear hK K
                refine wpAnyH_take (i := 33) (v := undef) rfl (by kernel_rfl) (by kernel_rfl) (by kernel_rfl) (fun _ _ _ h => h) (Or.inr ⟨by rfl, rfl⟩) hHeld ?_
                refine norm_any' (fun K hK => ?_)
                go_simp
                refine hK _ _ ?_
                clear hK K
                refine wpAnyH_take (i := 34) (v := undef) rfl (by kernel_rfl) (by kernel_rfl) (by kernel_rfl) (fun _ _ _ h => h) (Or.inr ⟨by rfl, rfl⟩) hHeld ?_
                refine norm_any' (fun K hK => ?_)
                go_simp
                refine hK _ _ ?_
                clear hK K
                refine wpAnyH_take (i := 35) (v := undef) rfl (by kernel_rfl) (by kernel_rfl) (by kernel_rfl) (fun _ _ _ h => h) (Or.inr ⟨by rfl, rfl⟩) hHeld ?_
                refine norm_any' (fun K hK => ?_)
                go_simp
                refine hK _ _ ?_
                clear hK K
                refine wpAnyH_take (i := 36) (v := undef) rfl (by kernel_rfl) (by kernel_rfl) (by kernel_rfl) (fun _ _ _ h => h) (Or.inr ⟨by rfl, rfl⟩) hHeld ?_
                refine norm_any' (fun K hK => ?_)
                go_simp
                refine hK _ _ ?_
                clear hK K
                refine wpAnyH_take (i := 37) (v := undef) rfl (by kernel_rfl) (by kernel_rfl) (by kernel_rfl) (fun _ _ _ h => h) (Or.inr ⟨by rfl, rfl⟩) hHeld ?_
                refine norm_any' (fun K hK => ?_)
                go_simp
                refine hK _ _ ?_
                clear hK K
                refine wpAnyH_take (i := 38) (v := undef) rfl (by kernel_rfl) (by kernel_rfl) (by kernel_rfl) (fun _ _ _ h => h) (Or.inr ⟨by rfl, rfl⟩) hHeld ?_
                refine norm_any' (fun K hK => ?_)
                go_simp
                refine hK _ _ ?_
                clear hK K
                refine wpAnyH_take (i := 39) (v := undef) rfl (by kernel_rfl) (by kernel_rfl) (by kernel_rfl) (fun _ _ _ h => h) (Or.inr ⟨by rfl, rfl⟩) hHeld ?_
                refine norm_any' (fun K hK => ?_)
                go_simp
                refine hK _ _ ?_
                clear hK K
                refine wpAnyH_take (i := 40) (v := undef) rfl (by kernel_rfl) (by kernel_rfl) (by kernel_rfl) (fun _ _ _ h => h) (Or.inr ⟨by rfl, rfl⟩) hHeld ?_
                refine norm_any' (fun K hK => ?_)
                go_simp
                refine hK _ _ ?_
                clear hK K
                refine wpAnyH_take (i := 41) (v := undef) rfl (by kernel_rfl) (by kernel_rfl) (by kernel_rfl) (fun _ _ _ h => h) (Or.inr ⟨by rfl, rfl⟩) hHeld ?_
                refine norm_any' (fun K hK => ?_)
                go_simp
                refine hK _ _ ?_
                clear hK K
                refine wpAnyH_take (i := 42) (v := undef) rfl (by kernel_rfl) (by kernel_rfl) (by kernel_rfl) (fun _ _ _ h => h) (Or.inr ⟨by rfl, rfl⟩) hHeld ?_
                refine norm_any' (fun K hK => ?_)
                go_simp
                refine hK _ _ ?_
                clear hK K
                refine wpAnyH_take (i := 43) (v := undef) rfl (by kernel_rfl) (by kernel_rfl) (by kernel_rfl) (fun _ _ _ h => h) (Or.inr ⟨by rfl, rfl⟩) hHeld ?_
                refine norm_any' (fun K hK => ?_)
                go_simp
                refine hK _ _ ?_
                clear hK K
                refine wpAnyH_take (i := 44) (v := undef) rfl (by kernel_rfl) (by kernel_rfl) (by kernel_rfl) (fun _ _ _ h => h) (Or.inr ⟨by rfl, rfl⟩) hHeld ?_
                refine norm_any' (fun K hK => ?_)
                go_simp
                refine hK _ _ ?_
                clear hK K
                refine wpAnyH_take (i := 45) (v := undef) rfl (by kernel_rfl) (by kernel_rfl) (by kernel_rfl) (fun _ _ _ h => h) (Or.inr ⟨by rfl, rfl⟩) hHeld ?_
                refine norm_any' (fun K hK => ?_)
                go_simp
                refine hK _ _ ?_
                clear hK K
                refine wpAnyH_take (i := 46) (v := .bool false) rfl (by kernel_rfl) (by kernel_rfl) (by kernel_rfl) (fun _ _ _ h => h) (Or.inl ⟨by rfl, by rintro w ⟨s0, s1⟩; go_simp⟩) hHeld ?_
                refine norm_any' (fun K hK => ?_)
                go_simp
                refine hK _ _ ?_
                clear hK K
                refine wpAnyH_done (by kernel_rfl) ?_ _
                go_wp2
                go_roundg (k - (i + 1))
                case measure => omega
                case rel => exact ⟨i + 1, by simp, by omega, Nat.le_refl _, HFd.out⟩
              · have e1 : decide (0 ≤ x) = true := by simp; omega
                by_cases h2 : 4611686018427387903 < y
                · have e2 : decide (y ≤ 4611686018427387903) = false := by simp; omega
                  go_wp2
                  refine wp_region_held_drew (S := fun w' => w'.cell? ⟨b, off + i * 2, none⟩ = some (.int .i64 x) ∧ w'.cell? ⟨b, off + i * 2 + 1, none⟩ = some (.int .i64 y)) (by kernel_rfl) (HS.out _ HFd.out) (fun hHeld => ?_)
                  refine wpAnyH_take (i := 0) (v := .slice (some ⟨b, off, none⟩) k cap) rfl (by kernel_rfl) (by kernel_rfl) (by kernel_rfl) (fun _ _ _ h => h) (Or.inl ⟨by rfl, by rintro w ⟨s0, s1⟩; go_simp⟩) hHeld ?_
                  refine norm_any' (fun K hK => ?_)
                  go_simp
                  refine hK _ _ ?_
                  clear hK K
                  refine wpAnyH_take (i := 1) (v := .int .i64 (i : Int)) rfl (by kernel_rfl) (by kernel_rfl) (by kernel_rfl) (fun _ _ _ h => h) (Or.inl ⟨by rfl, by rintro w ⟨s0, s1⟩; go_simp⟩) hHeld ?_
                  refine norm_any' (fun K hK => ?_)
                  go_simp
                  refine hK _ _ ?_
                  clear hK K
                  refine wpAnyH_take (i := 2) (v := .pointer (some ⟨b, off + i * 2, none⟩)) rfl (by kernel_rfl) (by kernel_rfl) (by kernel_rfl) (fun _ _ _ h => h) (Or.inl ⟨by rfl, by rintro w ⟨s0, s1⟩; go_simp⟩) hHeld ?_
                  refine norm_any' (fun K hK => ?_)
                  go_simp
                  refine hK _ _ ?_
                  clear hK K
                  refine wpAnyH_take (i := 3) (v := .pointer (some ⟨b, off + i * 2, none⟩)) rfl (by kernel_rfl) (by kernel_rfl) (by kernel_rfl) (fun _ _ _ h => h) (Or.inl ⟨by rfl, by rintro w ⟨s0, s1⟩; go_simp⟩) hHeld ?_
                  refine norm_any' (fun K hK => ?_)
                  go_simp
                  refine hK _ _ ?_
                  clear hK K
                  refine wpAnyH_take (i := 4) (v := .int .i64 x) rfl (by kernel_rfl) (by kernel_rfl) (by kernel_rfl) (fun _ _ _ h => h) (Or.inl ⟨by rfl, by rintro w ⟨s0, s1⟩; go_simp⟩) hHeld ?_
                  refine norm_any' (fun K hK => ?_)
                  go_simp
                  refine hK _ _ ?_
                  clear hK K
                  refine wpAnyH_take (i := 5) (v := .bool true) rfl (by kernel_rfl) (by kernel_rfl) (by kernel_rfl) (fun _ _ _ h => h) (Or.inl ⟨by rfl, by rintro w ⟨s0, s1⟩; go_simp⟩) hHeld ?_
                  refine norm_any' (fun K hK => ?_)
                  go_simp
                  refine hK _ _ ?_
                  clear hK K
                  refine wpAnyH_take (i := 6) (v := .bool true) rfl (by kernel_rfl) (by kernel_rfl) (by kernel_rfl) (fun _ _ _ h => h) (Or.inl ⟨by rfl, by rintro w ⟨s0, s1⟩; go_simp⟩) hHeld ?_
                  refine norm_any' (fun K hK => ?_)
                  go_simp
                  refine hK _ _ ?_
                  clear hK K
                  refine wpAnyH_take (i := 7) (v := .slice (some ⟨b, off, none⟩) k cap) rfl (by kernel_rfl) (by kernel_rfl) (by kernel_rfl) (fun _ _ _ h => h) (Or.inl ⟨by rfl, by rintro w ⟨s0, s1⟩; go_simp⟩) hHeld ?_
                  refine norm_any' (fun K hK => ?_)
                  go_simp
                  refine hK _ _ ?_
                  clear hK K
                  refine wpAnyH_take (i := 8) (v := .int .i64 (i : Int)) rfl (by kernel_rfl) (by kernel_rfl) (by kernel_rfl) (fun _ _ _ h => h) (Or.inl ⟨by rfl, by rintro w ⟨s0, s1⟩; go_simp⟩) hHeld ?_
                  refine norm_any' (fun K hK => ?_)
                  go_simp
                  refine hK _ _ ?_
                  clear hK K
                  refine wpAnyH_take (i := 9) (v := .pointer (some ⟨b, off + i * 2, none⟩)) rfl (by kernel_rfl) (by kernel_rfl) (by kernel_rfl) (fun _ _ _ h => h) (Or.inl ⟨by rfl, by rintro w ⟨s0, s1⟩; go_simp⟩) hHeld ?_
                  refine norm_any' (fun K hK => ?_)
                  go_simp
                  refine hK _ _ ?_
                  clear hK K
                  refine wpAnyH_take (i := 10) (v := .pointer (some ⟨b, off + i * 2 + 1, none⟩)) rfl (by kernel_rfl) (by kernel_rfl) (by kernel_rfl) (fun _ _ _ h => h) (Or.inl ⟨by rfl, by rintro w ⟨s0, s1⟩; go_simp⟩) hHeld ?_
                  refine norm_any' (fun K hK => ?_)
                  go_simp
                  refine hK _ _ ?_
                  clear hK K
                  refine wpAnyH_take (i := 11) (v := .int .i64 y) rfl (by kernel_rfl) (by kernel_rfl) (by kernel_rfl) (fun _ _ _ h => h) (Or.inl ⟨by rfl, by rintro w ⟨s0, s1⟩; go_simp⟩) hHeld ?_
                  refine norm_any' (fun K hK => ?_)
                  go_simp
                  refine hK _ _ ?_
                  clear hK K
                  refine wpAnyH_take (i := 12) (v := .bool false) rfl (by kernel_rfl) (by kernel_rfl) (by kernel_rfl) (fun _ _ _ h => h) (Or.inl ⟨by rfl, by rintro w ⟨s0, s1⟩; go_simp⟩) hHeld ?_
                  refine norm_any' (fun K hK => ?_)
                  go_simp
                  refine hK _ _ ?_
                  clear hK K
                  refine wpAnyH_take (i := 13) (v := .bool false) rfl (by kernel_rfl) (by kernel_rfl) (by kernel_rfl) (fun _ _ _ h => h) (Or.inl ⟨by rfl, by rintro w ⟨s0, s1⟩; go_simp⟩) hHeld ?_
                  refine norm_any' (fun K hK => ?_)
                  go_simp
                  refine hK _ _ ?_
                  clear hK K
                  refine wpAnyH_take (i := 14) (v := .bool false) rfl (by kernel_rfl) (by kernel_rfl) (by kernel_rfl) (fun _ _ _ h => h) (Or.inl ⟨by rfl, by rintro w ⟨s0, s1⟩; go_simp⟩) hHeld ?_
                  refine norm_any' (fun K hK => ?_)
                  go_simp
                  refine hK _ _ ?_
                  clear hK K
                  refine wpAnyH_take (i := 15) (v := undef) rfl (by kernel_rfl) (by kernel_rfl) (by kernel_rfl) (fun _ _ _ h => h) (Or.inr ⟨by rfl, rfl⟩) hHeld ?_
                  refine norm_any' (fun K hK => ?_)
                  go_simp
                  refine hK _ _ ?_
                  clear hK K
                  refine wpAnyH_take (i := 16) (v := undef) rfl (by kernel_rfl) (by kernel_rfl) (by kernel_rfl) (fun _ _ _ h => h) (Or.inr ⟨by rfl, rfl⟩) hHeld ?_
                  refine norm_any' (fun K hK => ?_)
                  go_simp
                  refine hK _ _ ?_
                  clear hK K
                  refine wpAnyH_take (i := 17) (v := undef) rfl (by kernel_rfl) (by kernel_rfl) (by kernel_rfl) (fun _ _ _ h => h) (Or.inr ⟨by rfl, rfl⟩) hHeld ?_
                  refine norm_any' (fun K hK => ?_)
                  go_simp
                  refine hK _ _ ?_
                  clear hK K
                  refine wpAnyH_take (i := 18) (v := undef) rfl (by kernel_rfl) (by kernel_rfl) (by kernel_rfl) (fun _ _ _ h => h) (Or.inr ⟨by rfl, rfl⟩) hHeld ?_
                  refine norm_any' (fun K hK => ?_)
                  go_simp
                  refine hK _ _ ?_
                  clear hK K
                  refine wpAnyH_take (i := 19) (v := undef) rfl (by kernel_rfl) (by kernel_rfl) (by kernel_rfl) (fun _ _ _ h => h) (Or.inr ⟨by rfl, rfl⟩) hHeld ?_
                  refine norm_any' (fun K hK => ?_)
                  go_simp
                  refine hK _ _ ?_
                  clear hK K
                  refine wpAnyH_take (i := 20) (v := undef) rfl (by kernel_rfl) (by kernel_rfl) (by kernel_rfl) (fun _ _ _ h => h) (Or.inr ⟨by rfl, rfl⟩) hHeld ?_
                  refine norm_any' (fun K hK => ?_)
                  go_simp
                  refine hK _ _ ?_
                  clear hK K
                  refine wpAnyH_take (i := 21) (v := undef) rfl (by kernel_rfl) (by kernel_rfl) (by kernel_rfl) (fun _ _ _ h => h) (Or.inr ⟨by rfl, rfl⟩) hHeld ?_
                  refine norm_any' (fun K hK => ?_)
                  go_simp
                  refine hK _ _ ?_
                  clear hK K
                  refine wpAnyH_take (i := 22) (v := undef) rfl (by kernel_rfl) (by kernel_rfl) (by kernel_rfl) (fun _ _ _ h => h) (Or.inr ⟨by rfl, rfl⟩) hHeld ?_
                  refine norm_any' (fun K hK => ?_)
                  go_simp
                  refine hK _ _ ?_
                  clear hK K
                  refine wpAnyH_take (i := 23) (v := undef) rfl (by kernel_rfl) (by kernel_rfl) (by kernel_rfl) (fun _ _ _ h => h) (Or.inr ⟨by rfl, rfl⟩) hHeld ?_
                  refine norm_any' (fun K hK => ?_)
                  go_simp
                  refine hK _ _ ?_
                  clear hK K
                  refine wpAnyH_take (i := 24) (v := undef) rfl (by kernel_rfl) (by kernel_rfl) (by kernel_rfl) (fun _ _ _ h => h) (Or.inr ⟨by rfl, rfl⟩) hHeld ?_
                  refine norm_any' (fun K hK => ?_)
                  go_simp
                  refine hK _ _ ?_
                  clear hK K
                  refine wpAnyH_take (i := 25) (v := undef) rfl (by kernel_rfl) (by kernel_rfl) (by kernel_rfl) (fun _ _ _ h => h) (Or.inr ⟨by rfl, rfl⟩) hHeld ?_
                  refine norm_any' (fun K hK => ?_)
                  go_simp
                  refine hK _ _ ?_
                  clear hK K
                  refine wpAnyH_take (i := 26) (v := .bool false) rfl (by kernel_rfl) (by kernel_rfl) (by kernel_rfl) (fun _ _ _ h => h) (Or.inl ⟨by rfl, by rintro w ⟨s0, s1⟩; go_simp⟩) hHeld ?_
                  refine norm_any' (fun K hK => ?_)
                  go_simp
                  refine hK _ _ ?_
                  clear hK K
                  refine wpAnyH_take (i := 27) (v := .bool false) rfl (by kernel_rfl) (by kernel_rfl) (by kernel_rfl) (fun _ _ _ h => h) (Or.inl ⟨by rfl, by rintro w ⟨s0, s1⟩; go_simp⟩) hHeld ?_
                  refine norm_any' (fun K hK => ?_)
                  go_simp
                  refine hK _ _ ?_
                  clear hK K
                  refine wpAnyH_take (i := 28) (v := undef) rfl (by kernel_rfl) (by kernel_rfl) (by kernel_rfl) (fun _ _ _ h => h) (Or.inr ⟨by rfl, rfl⟩) hHeld ?_
                  refine norm_any' (fun K hK => ?_)
                  go_simp
                  refine hK _ _ ?_
                  clear hK K
                  refine wpAnyH_take (i := 29) (v := undef) rfl (by kernel_rfl) (by kernel_rfl) (by kernel_rfl) (fun _ _ _ h => h) (Or.inr ⟨by rfl, rfl⟩) hHeld ?_
                  refine norm_any' (fun K hK => ?_)
                  go_simp
                  refine hK _ _ ?_
                  clear hK K
                  refine wpAnyH_take (i := 30) (v := undef) rfl (by kernel_rfl) (by kernel_rfl) (by kernel_rfl) (fun _ _ _ h => h) (Or.inr ⟨by rfl, rfl⟩) hHeld ?_
                  refine norm_any' (fun K hK => ?_)
                  go_simp
                  refine hK _ _ ?_
                  clear hK K
                  refine wpAnyH_take (i := 31) (v := undef) rfl (by kernel_rfl) (by kernel_rfl) (by kernel_rfl) (fun _ _ _ h => h) (Or.inr ⟨by rfl, rfl⟩) hHeld ?_
                  refine norm_any' (fun K hK => ?_)
                  go_simp
                  refine hK _ _ ?_
                  clear hK K
                  refine wpAnyH_take (i := 32) (v := undef) rfl (by kernel_rfl) (by kernel_rfl) (by kernel_rfl) (fun _ _ _ h => h) (Or.inr ⟨by rfl, rfl⟩) hHeld ?_
                  refine norm_any' (fun K hK => ?_)
                  go_simp
                  refine hK _ _ ?_
                  clear hK K
                  refine wpAnyH_take (i := 33) (v := undef) rfl (by kernel_rfl) (by kernel_rfl) (by kernel_rfl) (fun _ _ _ h => h) (Or.inr ⟨by rfl, rfl⟩) hHeld ?_
                  refine norm_any' (fun K hK => ?_)
                  go_simp
                  refine hK _ _ ?_
                  clear hK K
                  refine wpAnyH_take (i := 34) (v := undef) rfl (by kernel_rfl) (by kernel_rfl) (by kernel_rfl) (fun _ _ _ h => h) (Or.inr ⟨by rfl, rfl⟩) hHeld ?_
                  refine norm_any' (fun K hK => ?_)
                  go_simp
                  refine hK _ _ ?_
                  clear hK K
                  refine wpAnyH_take (i := 35) (v := undef) rfl (by kernel_rfl) (by kernel_rfl) (by kernel_rfl) (fun _ _ _ h => h) (Or.inr ⟨by rfl, rfl⟩) hHeld ?_
                  refine norm_any' (fun K hK => ?_)
                  go_simp
                  refine hK _ _ ?_
                  clear hK K
                  refine wpAnyH_take (i := 36) (v := undef) rfl (by kernel_rfl) (by kernel_rfl) (by kernel_rfl) (fun _ _ _ h => h) (Or.inr ⟨by rfl, rfl⟩) hHeld ?_
                  refine norm_any' (fun K hK => ?_)
                  go_simp
                  refine hK _ _ ?_
                  clear hK K
                  refine wpAnyH_take (i := 37) (v := undef) rfl (by kernel_rfl) (by kernel_rfl) (by kernel_rfl) (fun _ _ _ h => h) (Or.inr ⟨by rfl, rfl⟩) hHeld ?_
                  refine norm_any' (fun K hK => ?_)
                  go_simp
                  refine hK _ _ ?_
                  clear hK K
                  refine wpAnyH_take (i := 38) (v := undef) rfl (by kernel_rfl) (by kernel_rfl) (by kernel_rfl) (fun _ _ _ h => h) (Or.inr ⟨by rfl, rfl⟩) hHeld ?_
                  refine norm_any' (fun K hK => ?_)
                  go_simp
                  refine hK _ _ ?_
                  clear hK K
                  refine wpAnyH_take (i := 39) (v := undef) rfl (by kernel_rfl) (by kernel_rfl) (by kernel_rfl) (fun _ _ _ h => h) (Or.inr ⟨by rfl, rfl⟩) hHeld ?_
                  refine norm_any' (fun K hK => ?_)
                  go_simp
                  refine hK _ _ ?_
                  clear hK K
                  refine wpAnyH_take (i := 40) (v := undef) rfl (by kernel_rfl) (by kernel_rfl) (by kernel_rfl) (fun _ _ _ h => h) (Or.inr ⟨by rfl, rfl⟩) hHeld ?_
                  refine norm_any' (fun K hK => ?_)
                  go_simp
                  refine hK _ _ ?_
                  clear hK K
                  refine wpAnyH_take (i := 41) (v := undef) rfl (by kernel_rfl) (by kernel_rfl) (by kernel_rfl) (fun _ _ _ h => h) (Or.inr ⟨by rfl, rfl⟩) hHeld ?_
                  refine norm_any' (fun K hK => ?_)
                  go_simp
                  refine hK _ _ ?_
                  clear hK K
                  refine wpAnyH_take (i := 42) (v := undef) rfl (by kernel_rfl) (by kernel_rfl) (by kernel_rfl) (fun _ _ _ h => h) (Or.inr ⟨by rfl, rfl⟩) hHeld ?_
                  refine norm_any' (fun K hK => ?_)
                  go_simp
                  refine hK _ _ ?_
                  clear hK K
                  refine wpAnyH_take (i := 43) (v := undef) rfl (by kernel_rfl) (by kernel_rfl) (by kernel_rfl) (fun _ _ _ h => h) (Or.inr ⟨by rfl, rfl⟩) hHeld ?_
                  refine norm_any' (fun K hK => ?_)
                  go_simp
                  refine hK _ _ ?_
                  clear hK K
                  refine wpAnyH_take (i := 44) (v := undef) rfl (by kernel_rfl) (by kernel_rfl) (by kernel_rfl) (fun _ _ _ h => h) (Or.inr ⟨by rfl, rfl⟩) hHeld ?_
                  refine norm_any' (fun K hK => ?_)
                  go_simp
                  refine hK _ _ ?_
                  clear hK K
                  refine wpAnyH_take (i := 45) (v := undef) rfl (by kernel_rfl) (by kernel_rfl) (by kernel_rfl) (fun _ _ _ h => h) (Or.inr ⟨by rfl, rfl⟩) hHeld ?_
                  refine norm_any' (fun K hK => ?_)
                  go_simp
                  refine hK _ _ ?_
                  clear hK K
                  refine wpAnyH_take (i := 46) (v := .bool false) rfl (by kernel_rfl) (by kernel_rfl) (by kernel_rfl) (fun _ _ _ h => h) (Or.inl ⟨by rfl, by rintro w ⟨s0, s1⟩; go_simp⟩) hHeld ?_
                  refine norm_any' (fun K hK => ?_)
                  go_simp
                  refine hK _ _ ?_
                  clear hK K
                  refine wpAnyH_done (by kernel_rfl) ?_ _
                  go_wp2
                  go_roundg (k - (i + 1))
                  case measure => omega
                  case rel => exact ⟨i + 1, by simp, by omega, Nat.le_refl _, HFd.out⟩
                · have e2 : decide (y ≤ 4611686018427387903) = true := by simp; omega
                  by_cases h3 : y < x
                  · have e3 : decide (x ≤ y) = false := by simp; omega
                    go_wp2
                    refine wp_region_held_drew (S := fun w' => w'.cell? ⟨b, off + i * 2, none⟩ = some (.int .i64 x) ∧ w'.cell? ⟨b, off + i * 2 + 1, none⟩ = some (.int .i64 y)) (by kernel_rfl) (HS.out _ HFd.out) (fun hHeld => ?_)
                    refine wpAnyH_take (i := 0) (v := .slice (some ⟨b, off, none⟩) k cap) rfl (by kernel_rfl) (by kernel_rfl) (by kernel_rfl) (fun _ _ _ h => h) (Or.inl ⟨by rfl, by rintro w ⟨s0, s1⟩; go_simp⟩) hHeld ?_
                    refine norm_any' (fun K hK => ?_)
                    go_simp
                    refine hK _ _ ?_
                    clear hK K
                    refine wpAnyH_take (i := 1) (v := .int .i64 (i : Int)) rfl (by kernel_rfl) (by kernel_rfl) (by kernel_rfl) (fun _ _ _ h => h) (Or.inl ⟨by rfl, by rintro w ⟨s0, s1⟩; go_simp⟩) hHeld ?_
                    refine norm_any' (fun K hK => ?_)
                    go_simp
                    refine hK _ _ ?_
                    clear hK K
                    refine wpAnyH_take (i := 2) (v := .pointer (some ⟨b, off + i * 2, none⟩)) rfl (by kernel_rfl) (by kernel_rfl) (by kernel_rfl) (fun _ _ _ h => h) (Or.inl ⟨by rfl, by rintro w ⟨s0, s1⟩; go_simp⟩) hHeld ?_
                    refine norm_any' (fun K hK => ?_)
                    go_simp
                    refine hK _ _ ?_
                    clear hK K
                    refine wpAnyH_take (i := 3) (v := .pointer (some ⟨b, off + i * 2, none⟩)) rfl (by kernel_rfl) (by kernel_rfl) (by kernel_rfl) (fun _ _ _ h => h) (Or.inl ⟨by rfl, by rintro w ⟨s0, s1⟩; go_simp⟩) hHeld ?_
                    refine norm_any' (fun K hK => ?_)
                    go_simp
                    refine hK _ _ ?_
                    clear hK K
                    refine wpAnyH_take (i := 4) (v := .int .i64 x) rfl (by kernel_rfl) (by kernel_rfl) (by kernel_rfl) (fun _ _ _ h => h) (Or.inl ⟨by rfl, by rintro w ⟨s0, s1⟩; go_simp⟩) hHeld ?_
                    refine norm_any' (fun K hK => ?_)
                    go_simp
                    refine hK _ _ ?_
                    clear hK K
                    refine wpAnyH_take (i := 5) (v := .bool true) rfl (by kernel_rfl) (by kernel_rfl) (by kernel_rfl) (fun _ _ _ h => h) (Or.inl ⟨by rfl, by rintro w ⟨s0, s1⟩; go_simp⟩) hHeld ?_
                    refine norm_any' (fun K hK => ?_)
                    go_simp
                    refine hK _ _ ?_
                    clear hK K
                    refine wpAnyH_take (i := 6) (v := .bool true) rfl (by kernel_rfl) (by kernel_rfl) (by kernel_rfl) (fun _ _ _ h => h) (Or.inl ⟨by rfl, by rintro w ⟨s0, s1⟩; go_simp⟩) hHeld ?_
                    refine norm_any' (fun K hK => ?_)
                    go_simp
                    refine hK _ _ ?_
                    clear hK K
                    refine wpAnyH_take (i := 7) (v := .slice (some ⟨b, off, none⟩) k cap) rfl (by kernel_rfl) (by kernel_rfl) (by kernel_rfl) (fun _ _ _ h => h) (Or.inl ⟨by rfl, by rintro w ⟨s0, s1⟩; go_simp⟩) hHeld ?_
                    refine norm_any' (fun K hK => ?_)
                    go_simp
                    refine hK _ _ ?_
                    clear hK K
                    refine wpAnyH_take (i := 8) (v := .int .i64 (i : Int)) rfl (by kernel_rfl) (by kernel_rfl) (by kernel_rfl) (fun _ _ _ h => h) (Or.inl ⟨by rfl, by rintro w ⟨s0, s1⟩; go_simp⟩) hHeld ?_
                    refine norm_any' (fun K hK => ?_)
                    go_simp
                    refine hK _ _ ?_
                    clear hK K
                    refine wpAnyH_take (i := 9) (v := .pointer (some ⟨b, off + i * 2, none⟩)) rfl (by kernel_rfl) (by kernel_rfl) (by kernel_rfl) (fun _ _ _ h => h) (Or.inl ⟨by rfl, by rintro w ⟨s0, s1⟩; go_simp⟩) hHeld ?_
                    refine norm_any' (fun K hK => ?_)
                    go_simp
                    refine hK _ _ ?_
                    clear hK K
                    refine wpAnyH_take (i := 10) (v := .pointer (some ⟨b, off + i * 2 + 1, none⟩)) rfl (by kernel_rfl) (by kernel_rfl) (by kernel_rfl) (fun _ _ _ h => h) (Or.inl ⟨by rfl, by rintro w ⟨s0, s1⟩; go_simp⟩) hHeld ?_
                    refine norm_any' (fun K hK => ?_)
                    go_simp
                    refine hK _ _ ?_
                    clear hK K
                    refine wpAnyH_take (i := 11) (v := .int .i64 y) rfl (by kernel_rfl) (by kernel_rfl) (by kernel_rfl) (fun _ _ _ h => h) (Or.inl ⟨by rfl, by rintro w ⟨s0, s1⟩; go_simp⟩) hHeld ?_
                    refine norm_any' (fun K hK => ?_)
                    go_simp
                    refine hK _ _ ?_
                    clear hK K
                    refine wpAnyH_take (i := 12) (v := .bool true) rfl (by kernel_rfl) (by kernel_rfl) (by kernel_rfl) (fun _ _ _ h => h) (Or.inl ⟨by rfl, by rintro w ⟨s0, s1⟩; go_simp⟩) hHeld ?_
                    refine norm_any' (fun K hK => ?_)
                    go_simp
                    refine hK _ _ ?_
                    clear hK K
                    refine wpAnyH_take (i := 13) (v := .bool true) rfl (by kernel_rfl) (by kernel_rfl) (by kernel_rfl) (fun _ _ _ h => h) (Or.inl ⟨by rfl, by rintro w ⟨s0, s1⟩; go_simp⟩) hHeld ?_
                    refine norm_any' (fun K hK => ?_)
                    go_simp
                    refine hK _ _ ?_
                    clear hK K
                    refine wpAnyH_take (i := 14) (v := .bool true) rfl (by kernel_rfl) (by kernel_rfl) (by kernel_rfl) (fun _ _ _ h => h) (Or.inl ⟨by rfl, by rintro w ⟨s0, s1⟩; go_simp⟩) hHeld ?_
                    refine norm_any' (fun K hK => ?_)
                    go_simp
                    refine hK _ _ ?_
                    clear hK K
                    refine wpAnyH_take (i := 15) (v := .slice (some ⟨b, off, none⟩) k cap) rfl (by kernel_rfl) (by kernel_rfl) (by kernel_rfl) (fun _ _ _ h => h) (Or.inl ⟨by rfl, by rintro w ⟨s0, s1⟩; go_simp⟩) hHeld ?_
                    refine norm_any' (fun K hK => ?_)
                    go_simp
                    refine hK _ _ ?_
                    clear hK K
                    refine wpAnyH_take (i := 16) (v := .int .i64 (i : Int)) rfl (by kernel_rfl) (by kernel_rfl) (by kernel_rfl) (fun _ _ _ h => h) (Or.inl ⟨by rfl, by rintro w ⟨s0, s1⟩; go_simp⟩) hHeld ?_
                    refine norm_any' (fun K hK => ?_)
                    go_simp
                    refine hK _ _ ?_
                    clear hK K
                    refine wpAnyH_take (i := 17) (v := .pointer (some ⟨b, off + i * 2, none⟩)) rfl (by kernel_rfl) (by kernel_rfl) (by kernel_rfl) (fun _ _ _ h => h) (Or.inl ⟨by rfl, by rintro w ⟨s0, s1⟩; go_simp⟩) hHeld ?_
                    refine norm_any' (fun K hK => ?_)
                    go_simp
                    refine hK _ _ ?_
                    clear hK K
                    refine wpAnyH_take (i := 18) (v := .pointer (some ⟨b, off + i * 2, none⟩)) rfl (by kernel_rfl) (by kernel_rfl) (by kernel_rfl) (fun _ _ _ h => h) (Or.inl ⟨by rfl, by rintro w ⟨s0, s1⟩; go_simp⟩) hHeld ?_
                    refine norm_any' (fun K hK => ?_)
                    go_simp
                    refine hK _ _ ?_
                    clear hK K
                    refine wpAnyH_take (i := 19) (v := .int .i64 x) rfl (by kernel_rfl) (by kernel_rfl) (by kernel_rfl) (fun _ _ _ h => h) (Or.inl ⟨by rfl, by rintro w ⟨s0, s1⟩; go_simp⟩) hHeld ?_
                    refine norm_any' (fun K hK => ?_)
                    go_simp
                    refine hK _ _ ?_
                    clear hK K
                    refine wpAnyH_take (i := 20) (v := .slice (some ⟨b, off, none⟩) k cap) rfl (by kernel_rfl) (by kernel_rfl) (by kernel_rfl) (fun _ _ _ h => h) (Or.inl ⟨by rfl, by rintro w ⟨s0, s1⟩; go_simp⟩) hHeld ?_
                    refine norm_any' (fun K hK => ?_)
                    go_simp
                    refine hK _ _ ?_
                    clear hK K
                    refine wpAnyH_take (i := 21) (v := .int .i64 (i : Int)) rfl (by kernel_rfl) (by kernel_rfl) (by kernel_rfl) (fun _ _ _ h => h) (Or.inl ⟨by rfl, by rintro w ⟨s0, s1⟩; go_simp⟩) hHeld ?_
                    refine norm_any' (fun K hK => ?_)
                    go_simp
                    refine hK _ _ ?_
                    clear hK K
                    refine wpAnyH_take (i := 22) (v := .pointer (some ⟨b, off + i * 2, none⟩)) rfl (by kernel_rfl) (by kernel_rfl) (by kernel_rfl) (fun _ _ _ h => h) (Or.inl ⟨by rfl, by rintro w ⟨s0, s1⟩; go_simp⟩) hHeld ?_
                    refine norm_any' (fun K hK => ?_)
                    go_simp
                    refine hK _ _ ?_
                    clear hK K
                    refine wpAnyH_take (i := 23) (v := .pointer (some ⟨b, off + i * 2 + 1, none⟩)) rfl (by kernel_rfl) (by kernel_rfl) (by kernel_rfl) (fun _ _ _ h => h) (Or.inl ⟨by rfl, by rintro w ⟨s0, s1⟩; go_simp⟩) hHeld ?_
                    refine norm_any' (fun K hK => ?_)
                    go_simp
                    refine hK _ _ ?_
                    clear hK K
                    refine wpAnyH_take (i := 24) (v := .int .i64 y) rfl (by kernel_rfl) (by kernel_rfl) (by kernel_rfl) (fun _ _ _ h => h) (Or.inl ⟨by rfl, by rintro w ⟨s0, s1⟩; go_simp⟩) hHeld ?_
                    refine norm_any' (fun K hK => ?_)
                    go_simp
                    refine hK _ _ ?_
                    clear hK K
                    refine wpAnyH_take (i := 25) (v := .bool false) rfl (by kernel_rfl) (by kernel_rfl) (by kernel_rfl) (fun _ _ _ h => h) (Or.inl ⟨by rfl, by rintro w ⟨s0, s1⟩; go_simp⟩) hHeld ?_
                    refine norm_any' (fun K hK => ?_)
                    go_simp
                    refine hK _ _ ?_
                    clear hK K
                    refine wpAnyH_take (i := 26) (v := .bool false) rfl (by kernel_rfl) (by kernel_rfl) (by kernel_rfl) (fun _ _ _ h => h) (Or.inl ⟨by rfl, by rintro w ⟨s0, s1⟩; go_simp⟩) hHeld ?_
                    refine norm_any' (fun K hK => ?_)
                    go_simp
                    refine hK _ _ ?_
                    clear hK K
                    refine wpAnyH_take (i := 27) (v := .bool false) rfl (by kernel_rfl) (by kernel_rfl) (by kernel_rfl) (fun _ _ _ h => h) (Or.inl ⟨by rfl, by rintro w ⟨s0, s1⟩; go_simp⟩) hHeld ?_
                    refine norm_any' (fun K hK => ?_)
                    go_simp
                    refine hK _ _ ?_
                    clear hK K
                    refine wpAnyH_take (i := 28) (v := undef) rfl (by kernel_rfl) (by kernel_rfl) (by kernel_rfl) (fun _ _ _ h => h) (Or.inr ⟨by rfl, rfl⟩) hHeld ?_
                    refine norm_any' (fun K hK => ?_)
                    go_simp
                    refine hK _ _ ?_
                    clear hK K
                    refine wpAnyH_take (i := 29) (v := undef) rfl (by kernel_rfl) (by kernel_rfl) (by kernel_rfl) (fun _ _ _ h => h) (Or.inr ⟨by rfl, rfl⟩) hHeld ?_
                    refine norm_any' (fun K hK => ?_)
                    go_simp
                    refine hK _ _ ?_
                    clear hK K
                    refine wpAnyH_take (i := 30) (v := undef) rfl (by kernel_rfl) (by kernel_rfl) (by kernel_rfl) (fun _ _ _ h => h) (Or.inr ⟨by rfl, rfl⟩) hHeld ?_
                    refine norm_any' (fun K hK => ?_)
                    go_simp
                    refine hK _ _ ?_
                    clear hK K
                    refine wpAnyH_take (i := 31) (v := undef) rfl (by kernel_rfl) (by kernel_rfl) (by kernel_rfl) (fun _ _ _ h => h) (Or.inr ⟨by rfl, rfl⟩) hHeld ?_
                    refine norm_any' (fun K hK => ?_)
                    go_simp
                    refine hK _ _ ?_
                    clear hK K
                    refine wpAnyH_take (i := 32) (v := undef) rfl (by kernel_rfl) (by kernel_rfl) (by kernel_rfl) (fun _ _ _ h => h) (Or.inr ⟨by rfl, rfl⟩) hHeld ?_
                    refine norm_any' (fun K hK => ?_)
                    go_simp
                    refine hK _ _ ?_
                    clear hK K
                    refine wpAnyH_take (i := 33) (v := undef) rfl (by kernel_rfl) (by kernel_rfl) (by kernel_rfl) (fun _ _ _ h => h) (Or.inr ⟨by rfl, rfl⟩) hHeld ?_
                    refine norm_any' (fun K hK => ?_)
                    go_simp
                    refine hK _ _ ?_
                    clear hK K
                    refine wpAnyH_take (i := 34) (v := undef) rfl (by kernel_rfl) (by kernel_rfl) (by kernel_rfl) (fun _ _ _ h => h) (Or.inr ⟨by rfl, rfl⟩) hHeld ?_
                    refine norm_any' (fun K hK => ?_)
                    go_simp
                    refine hK _ _ ?_
                    clear hK K
                    refine wpAnyH_take (i := 35) (v := undef) rfl (by kernel_rfl) (by kernel_rfl) (by kernel_rfl) (fun _ _ _ h => h) (Or.inr ⟨by rfl, rfl⟩) hHeld ?_
                    refine norm_any' (fun K hK => ?_)
                    go_simp
                    refine hK _ _ ?_
                    clear hK K
                    refine wpAnyH_take (i := 36) (v := undef) rfl (by kernel_rfl) (by kernel_rfl) (by kernel_rfl) (fun _ _ _ h => h) (Or.inr ⟨by rfl, rfl⟩) hHeld ?_
                    refine norm_any' (fun K hK => ?_)
                    go_simp
                    refine hK _ _ ?_
                    clear hK K
                    refine wpAnyH_take (i := 37) (v := undef) rfl (by kernel_rfl) (by kernel_rfl) (by kernel_rfl) (fun _ _ _ h => h) (Or.inr ⟨by rfl, rfl⟩) hHeld ?_
                    refine norm_any' (fun K hK => ?_)
                    go_simp
                    refine hK _ _ ?_
                    clear hK K
                    refine wpAnyH_take (i := 38) (v := undef) rfl (by kernel_rfl) (by kernel_rfl) (by kernel_rfl) (fun _ _ _ h => h) (Or.inr ⟨by rfl, rfl⟩) hHeld ?_
                    refine norm_any' (fun K hK => ?_)
                    go_simp
                    refine hK _ _ ?_
                    clear hK K
                    refine wpAnyH_take (i := 39) (v := undef) rfl (by kernel_rfl) (by kernel_rfl) (by kernel_rfl) (fun _ _ _ h => h) (Or.inr ⟨by rfl, rfl⟩) hHeld ?_
                    refine norm_any' (fun K hK => ?_)
                    go_simp
                    refine hK _ _ ?_
                    clear hK K
                    refine wpAnyH_take (i := 40) (v := undef) rfl (by kernel_rfl) (by kernel_rfl) (by kernel_rfl) (fun _ _ _ h => h) (Or.inr ⟨by rfl, rfl⟩) hHeld ?_
                    refine norm_any' (fun K hK => ?_)
                    go_simp
                    refine hK _ _ ?_
                    clear hK K
                    refine wpAnyH_take (i := 41) (v := undef) rfl (by kernel_rfl) (by kernel_rfl) (by kernel_rfl) (fun _ _ _ h => h) (Or.inr ⟨by rfl, rfl⟩) hHeld ?_
                    refine norm_any' (fun K hK => ?_)
                    go_simp
                    refine hK _ _ ?_
                    clear hK K
                    refine wpAnyH_take (i := 42) (v := undef) rfl (by kernel_rfl) (by kernel_rfl) (by kernel_rfl) (fun _ _ _ h => h) (Or.inr ⟨by rfl, rfl⟩) hHeld ?_
                    refine norm_any' (fun K hK => ?_)
                    go_simp
                    refine hK _ _ ?_
                    clear hK K
                    refine wpAnyH_take (i := 43) (v := undef) rfl (by kernel_rfl) (by kernel_rfl) (by kernel_rfl) (fun _ _ _ h => h) (Or.inr ⟨by rfl, rfl⟩) hHeld ?_
                    refine norm_any' (fun K hK => ?_)
                    go_simp
                    refine hK _ _ ?_
                    clear hK K
                    refine wpAnyH_take (i := 44) (v := undef) rfl (by kernel_rfl) (by kernel_rfl) (by kernel_rfl) (fun _ _ _ h => h) (Or.inr ⟨by rfl, rfl⟩) hHeld ?_
                    refine norm_any' (fun K hK => ?_)
                    go_simp
                    refine hK _ _ ?_
                    clear hK K
                    refine wpAnyH_take (i := 45) (v := undef) rfl (by kernel_rfl) (by kernel_rfl) (by kernel_rfl) (fun _ _ _ h => h) (Or.inr ⟨by rfl, rfl⟩) hHeld ?_
                    refine norm_any' (fun K hK => ?_)
                    go_simp
                    refine hK _ _ ?_
                    clear hK K
                    refine wpAnyH_take (i := 46) (v := .bool false) rfl (by kernel_rfl) (by kernel_rfl) (by kernel_rfl) (fun _ _ _ h => h) (Or.inl ⟨by rfl, by rintro w ⟨s0, s1⟩; go_simp⟩) hHeld ?_
                    refine norm_any' (fun K hK => ?_)
                    go_simp
                    refine hK _ _ ?_
                    clear hK K
                    refine wpAnyH_done (by kernel_rfl) ?_ _
                    go_wp2
                    go_roundg (k - (i + 1))
                    case measure => omega
                    case rel => exact ⟨i + 1, by simp, by omega, Nat.le_refl _, HFd.out⟩
                  · have e3 : decide (x ≤ y) = true := by simp; omega
                    have hf : Fit x y := ⟨by omega, by omega, by omega⟩
                    have HF1 : Aside _ := HH.out hf
                    have hxy : x ≤ y := by omega
                    clear HH hf
                    go_wp2
                    go_region_held3 (fun w' => w'.cell? ⟨b, off + i * 2, none⟩ = some (.int .i64 x) ∧ w'.cell? ⟨b, off + i * 2 + 1, none⟩ = some (.int .i64 y)) (first | exact HS.out _ HF3.out | exact HS.out _ HF2.out | exact HS.out _ HFd.out) (first
                      | (go_at_call 17; have HQ := HF2; refine Calls.mono (HF1.out _ y hxy (Int.le_refl _) HQ.out) ?_; rintro e w3 ⟨rfl, hp⟩; have HF3 : Aside _ := hp; clear hp)
                      | (go_at_call 17; have HQ := HFd; refine Calls.mono (HF1.out _ x (Int.le_refl _) hxy HQ.out) ?_; rintro e w2 ⟨rfl, hp⟩; have HF2 : Aside _ := hp; clear hp))
                    go_wp2
                    go_roundg (k - (i + 1))
                    case measure => omega
                    case rel => exact ⟨i + 1, by simp, by omega, Nat.le_refl _, HF3.out⟩
            · have hF := HF.out
              have cI : wr.cell? ⟨W4.heap.size, 0, none⟩ = some (.int .i64 M) := by simp [World.cell?, hF.i]
              have bc : wr.cell? ⟨w.heap.size, 0, none⟩ = some (.bool false) := by simp [World.cell?, hF.o.box]
              have bf : wr.frozen? ⟨w.heap.size, 0, none⟩ = false := by simp [World.frozen?, hF.o.box]
              have HE : Aside _ := hF.ends hD12 (by omega) (by omega)
              clear hF HF
              go_wp2
              refine ⟨by simp, .inl ⟨_, _, rfl, run_takeDeferred HE.out.1, ?_⟩⟩
              refine ⟨by simp, .inl ⟨_, _, rfl, run_takeDeferred HE.out.2.1, ?_⟩⟩
              exact ⟨_, results_cellB _ _ w.heap.size true rfl HE.out.2.2.1, rfl, HE.out.2.2.2⟩
        case stop2 =>
          rintro D cd pre W _ hSp hF _
          exact absurd hSp hF
      case stop =>
        rintro D cd pre W _ _ hF _
        exact hF.elim
end Go.Proofs.Ytgmhlmficnkhgaa
