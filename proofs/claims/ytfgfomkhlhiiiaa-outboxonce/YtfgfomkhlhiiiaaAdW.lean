/- outbox: marks.add: its walk. -/
import Derived.Test.YtfgfomkhlhiiiaaAd
namespace Go.Proofs.YtfgfomkhlhiiiaaR
open Go.RowKit Go.Shelf Go.Lib Go.Maps
set_option linter.unusedVariables false

attribute [local go_sem] Oper.semAt_some

def notDefer (o : Oper) : Bool := match o.op with
  | .defer _ => false
  | _ => true
theorem noDefer {ops : Array Oper} (h : ops.all notDefer = true) : ∀ (i : Nat) o, ops[i]? = some o → ∀ c, o.op ≠ .defer c := by
  intro i o ho c e
  obtain ⟨hi, rfl⟩ := Array.getElem?_eq_some_iff.1 ho
  have := Array.all_eq_true.1 h i hi
  simp [notDefer, e] at this

set_option maxRecDepth 100000 in
set_option maxHeartbeats 2000000 in
theorem add_c2 {φ : Nat → Nat × Nat} {t : Nat} {M mb fs c : Nat} {S : Nat → Option Nat} {V : Int → Prop} (f to_ lo : Int) (w : World) (h : Mk φ t w M mb fs c S V) (h0 : 0 ≤ f) (hft : f ≤ to_) (hto : to_ ≤ 4611686018427387903)
    (hwin : ∀ j, (V j ∨ f ≤ j ∧ j < to_) → lo ≤ j ∧ j < lo + 61440000) (hcb : c < 3000000000000000000) :
    Calls Try.prog 32 #[.pointer (some ⟨M, 0, none⟩), .int .i64 f, .int .i64 to_] w fun e w' => (∃ v, e = .returned v) ∧ ∃ φ' S' c', Mk φ' t w' M mb fs c' S' (fun j => V j ∨ (f ≤ j ∧ j < to_)) ∧ c' ≤ c + (to_ - f).toNat ∧ (∀ k, k < w.heap.size → φ' k = φ k) ∧ Chg (fun k => (φ k).1 = t) w w' := by
  refine callsIn_wide.1 (callsIn_of_wp_marks (F := Fence.wide) (n := 5) Try.func32 rfl trivial ?_ rfl)
  refine wpIn_wide.2 ?_
  simp only [Try.ntmps32, List.size_toArray, List.length_cons, List.length_nil, Nat.reduceAdd, Nat.reduceSub, Array.replicate_succ, Array.replicate_zero, List.push_toArray, List.append_toArray, List.nil_append, List.cons_append]
  go_wp2_with fail
  refine (cut_c _ _ _).mono ?_
  rintro e w' ⟨rfl, hh⟩
  subst w'
  go_wp2
  have hmbw := h.1.mb_lt
  have hB : (((w.alloc (.cells #[.pointer (some ⟨M, 0, none⟩)] 53)).alloc (.cells #[.int .i64 f] 3)).alloc (.cells #[.int .i64 to_] 3)).heap[w.heap.size]? = some (.cells #[.pointer (some ⟨M, 0, none⟩)] 53 (0, 0)) := by
    rw [Below.heap_alloc _ _ _ (by simp; omega), Below.heap_alloc _ _ _ (by simp)]; exact World.alloc_heap_new w _
  have hBf : (((w.alloc (.cells #[.pointer (some ⟨M, 0, none⟩)] 53)).alloc (.cells #[.int .i64 f] 3)).alloc (.cells #[.int .i64 to_] 3)).heap[w.heap.size + 1]? = some (.cells #[.int .i64 f] 3 (0, 0)) := by
    rw [Below.heap_alloc _ _ _ (by simp)]
    have := World.alloc_heap_new (w.alloc (.cells #[.pointer (some ⟨M, 0, none⟩)] 53)) (.cells #[.int .i64 f] 3)
    rwa [World.size_alloc] at this
  have hBt : (((w.alloc (.cells #[.pointer (some ⟨M, 0, none⟩)] 53)).alloc (.cells #[.int .i64 f] 3)).alloc (.cells #[.int .i64 to_] 3)).heap[w.heap.size + 1 + 1]? = some (.cells #[.int .i64 to_] 3 (0, 0)) := by
    have := World.alloc_heap_new ((w.alloc (.cells #[.pointer (some ⟨M, 0, none⟩)] 53)).alloc (.cells #[.int .i64 f] 3)) (.cells #[.int .i64 to_] 3)
    simpa using this
  have hz : (((w.alloc (.cells #[.pointer (some ⟨M, 0, none⟩)] 53)).alloc (.cells #[.int .i64 f] 3)).alloc (.cells #[.int .i64 to_] 3)).heap.size = w.heap.size + 3 := by simp
  have hb0 : Below w.heap.size w (((w.alloc (.cells #[.pointer (some ⟨M, 0, none⟩)] 53)).alloc (.cells #[.int .i64 f] 3)).alloc (.cells #[.int .i64 to_] 3)) :=
    (((Below.refl _ w).alloc (Nat.le_refl _) _).alloc (by simp) _).alloc (by simp; omega) _
  generalize (((w.alloc (.cells #[.pointer (some ⟨M, 0, none⟩)] 53)).alloc (.cells #[.int .i64 f] 3)).alloc (.cells #[.int .i64 to_] 3)) = W0 at *
  have hI0 : AddI φ t w M mb fs c V w.heap.size (w.heap.size + 1 + 1) f to_ [] W0 :=
    ⟨⟨φ, S, c, ⟨(h.1.keep (fun k hk _ _ => hb0.block k hk)).vext (fun j => ⟨fun hj => hj.elim id (fun hj => absurd hj (Cov_nil j)), .inl⟩), fun n s hs => by
      obtain ⟨j, hj, hb⟩ := h.2 n s hs
      exact ⟨j, .inl hj, hb⟩⟩, by simp, fun _ _ => rfl⟩, Chg.below hb0, hB, hBt⟩
  refine (wpIn_wide (n := 5)).1 ?_
  refine wpIn_rangeFunc_ownH rfl (by decide) (gf := 58) (lb := #[.pointer (some ⟨w.heap.size + 1, 0, none⟩), .pointer (some ⟨w.heap.size + 1 + 1, 0, none⟩)]) rfl trivial (enters_of Try.func58 (by kernel_rfl) rfl)
    (cut_stops (w.heap.size + 1) (w.heap.size + 1 + 1) f to_ W0 h0 hto hft (by simp [World.cell?, hBf]) (by simp [World.cell?, hBt]))
    Kt.trans (Kt.put (by omega)) (Below.refl _ _) (fun _ => rfl)
    (AddI φ t w M mb fs c V w.heap.size (w.heap.size + 1 + 1) f to_) (fun _ _ _ => False) (AddI_own _ (by omega) hmbw) (fun _ _ _ _ _ hs _ _ => hs)
    hI0
    (fun x a' W => ∃ Bp Y, W.heap[Bp]? = some (.cells #[.int .i64 x.a, .int .i64 (x.e - 1)] 77 (0, 0)) ∧ W.heap[fs]? = some (.cells Y 95 (0, 0)) ∧ (∀ n c, Y[1]? ≠ some (.slice (some ⟨Bp, 0, none⟩) n c)) ∧
      a' = { tmps := #[.pointer (some ⟨M, 0, none⟩), .int .i64 f, .int .i64 to_, .pointer (some ⟨w.heap.size, 0, none⟩), undef, undef, .int .i64 (x.a / 1024), .pointer (some ⟨Bp, 0, none⟩), .int .i64 f, .int .i64 to_, .func (.func 58) #[] #[.pointer (some ⟨w.heap.size + 1, 0, none⟩), .pointer (some ⟨w.heap.size + 1 + 1, 0, none⟩)], .int .i64 (x.a / 1024), .agg #[.int .i64 x.a, .int .i64 (x.e - 1)], undef, undef, undef, undef, undef, undef, undef, undef, undef, undef, undef, undef, undef, undef, undef, undef, undef, undef, undef, undef, undef, undef, undef, undef, undef, undef, undef, undef, undef, undef, undef], defers := [] })
    (fun x a' s A B row hs hg hr => by
      obtain ⟨Bp, Y, q1, q2, q3, q4⟩ := hs
      exact ⟨Bp, Y, kept_cells q1 hg hr, kept_cells q2 hg hr, q3, q4⟩) ?assign ?body ?done ?stop
  case assign =>
    rintro l pre x W K hi hK
    have hi' := hi
    obtain ⟨⟨φ', S', c', h1, h2, h3⟩, h4, h5, h6⟩ := hi'
    obtain ⟨of, Lf, myf, _⟩ := h1.1.hf
    obtain ⟨⟨cf, sef⟩, _⟩ := id myf
    have hK' := hK { tmps := #[.pointer (some ⟨M, 0, none⟩), .int .i64 f, .int .i64 to_, .pointer (some ⟨w.heap.size, 0, none⟩), undef, undef, .int .i64 (x.a / 1024), .pointer (some ⟨W.heap.size, 0, none⟩), .int .i64 f, .int .i64 to_, .func (.func 58) #[] #[.pointer (some ⟨w.heap.size + 1, 0, none⟩), .pointer (some ⟨w.heap.size + 1 + 1, 0, none⟩)], .int .i64 (x.a / 1024), .agg #[.int .i64 x.a, .int .i64 (x.e - 1)], undef, undef, undef, undef, undef, undef, undef, undef, undef, undef, undef, undef, undef, undef, undef, undef, undef, undef, undef, undef, undef, undef, undef, undef, undef, undef, undef, undef, undef, undef, undef], defers := [] }
      (W.alloc (.cells #[.int .i64 x.a, .int .i64 (x.e - 1)] 77)) ((KeepsOthers.alloc _ _).from _)
      (show World.cell? _ _ = _ from World.cell?_alloc_lt _ _ _ (show w.heap.size + 1 + 1 < _ from (Array.getElem?_eq_some_iff.1 h6).1))
      (OwnFrom.alloc (AddI_own W0.heap.size (by omega) hmbw) _ hi)
      ⟨W.heap.size, _, World.alloc_heap_new W _, (Below.heap_alloc W _ _ sef.lt).trans sef.1, fun n c e => by
        simp at e
        have := myf.lt.2 W.heap.size e.1
        omega, rfl⟩
    simp only [encP]
    gi_wp2
    exact hK'
  case body =>
    rintro l pre x a' W hl ⟨r, hr⟩ hi ⟨Bp, Y, hBp, hfsY, hYn, rfl⟩ hlt
    obtain ⟨⟨φ', S', c', h1, h2, h3⟩, h4, h5, hBtW⟩ := hi
    have x0 := x.h0
    have x1 := x.h1
    have x3 := x.h3
    have x4 := x.h4
    have x5 := x.h5
    obtain ⟨n, hn⟩ : ∃ n : Nat, x.a / 1024 = (n : Int) := ⟨(x.a / 1024).toNat, by omega⟩
    have hn2 : n ≤ 4503599627370495 := by omega
    rw [hn]
    refine wpIn_block ?_
    have cB : W.cell? ⟨w.heap.size, 0, none⟩ = some (.pointer (some ⟨M, 0, none⟩)) := by simp [World.cell?, h5]
    have cM0 : W.cell? ⟨M, 0, none⟩ = some (.map (some mb)) := by simp [World.cell?, h1.1.hM]
    have cP0 : W.cell? ⟨Bp, 0, none⟩ = some (.int .i64 x.a) := by simp [World.cell?, hBp]
    have cP1 : W.cell? ⟨Bp, 1, none⟩ = some (.int .i64 (x.e - 1)) := by simp [World.cell?, hBp]
    have hlk := h1.1.look hn2
    have H1 : Aside _ := h1
    have H3 : Aside _ := h3
    have H4 : Aside _ := h4
    have HW : Aside _ := hwin
    clear h1 h3 h4 hwin hI0 hB hBf hBt h
    cases hSn : S' n with
    | some sB =>
      rw [hSn] at hlk
      simp only [ptrO] at hlk
      have AQ : Aside (AddQ φ t w M mb fs c V w.heap.size (w.heap.size + 1 + 1) f to_ pre n sB W0.heap.size W W) := AddQ_of n sB W0.heap.size _ _ f to_ pre W φ' S' c' H1.out hSn h2 H3.out H4.out h5 hBtW
      gi_wp2
      obtain ⟨oB, LB, myB, lenB, finB⟩ := AQ.out.drew.fin (x := x) hn hn2
      have LEN : Aside _ := lenB
      have FIN : Aside _ := finB
      clear lenB finB
      refine region_round (SQ M mb w.heap.size n sB) (by kernel_rfl) ?hd ?hQ ?hS (fun hHeld => ?_)
      case hd => exact noDefer (by kernel_rfl)
      case hQ => rintro ⟨a, w, hF⟩; exact hF
      case hS => exact AQ.out.drew.sq hn2
      refine wpAnyH_take (i := 0) (v := .pointer (some ⟨M, 0, none⟩)) rfl (by kernel_rfl) (by kernel_rfl) (by kernel_rfl) (fun _ _ _ h => h) (Or.inl ⟨by rfl, by rintro w ⟨s1, s2, s3⟩; go_simp⟩) hHeld ?_
      refine norm_any' (fun K hK => ?_)
      go_simp
      refine hK _ _ ?_
      clear hK K
      refine wpAnyH_take (i := 1) (v := .pointer (some ⟨M, 0, none⟩)) rfl (by kernel_rfl) (by kernel_rfl) (by kernel_rfl) (fun _ _ _ h => h) (Or.inl ⟨by rfl, by rintro w ⟨s1, s2, s3⟩; go_simp⟩) hHeld ?_
      refine norm_any' (fun K hK => ?_)
      go_simp
      refine hK _ _ ?_
      clear hK K
      refine wpAnyH_take (i := 2) (v := .pointer (some ⟨M, 0, none⟩)) rfl (by kernel_rfl) (by kernel_rfl) (by kernel_rfl) (fun _ _ _ h => h) (Or.inl ⟨by rfl, by rintro w ⟨s1, s2, s3⟩; go_simp⟩) hHeld ?_
      refine norm_any' (fun K hK => ?_)
      go_simp
      refine hK _ _ ?_
      clear hK K
      refine wpAnyH_take (i := 3) (v := .map (some mb)) rfl (by kernel_rfl) (by kernel_rfl) (by kernel_rfl) (fun _ _ _ h => h) (Or.inl ⟨by rfl, by rintro w ⟨s1, s2, s3⟩; go_simp⟩) hHeld ?_
      refine norm_any' (fun K hK => ?_)
      go_simp
      refine hK _ _ ?_
      clear hK K
      refine wpAnyH_take (i := 4) (v := .int .i64 (n : Int)) rfl (by kernel_rfl) (by kernel_rfl) (by kernel_rfl) (fun _ _ _ h => h) (Or.inl ⟨by rfl, by rintro w ⟨s1, s2, s3⟩; go_simp⟩) hHeld ?_
      refine norm_any' (fun K hK => ?_)
      go_simp
      refine hK _ _ ?_
      clear hK K
      refine wpAnyH_take (i := 5) (v := .pointer (some ⟨sB, 0, none⟩)) rfl (by kernel_rfl) (by kernel_rfl) (by kernel_rfl) (fun _ _ _ h => h) (Or.inl ⟨by rfl, by rintro w ⟨s1, s2, s3⟩; go_simp⟩) hHeld ?_
      refine norm_any' (fun K hK => ?_)
      go_simp
      refine hK _ _ ?_
      clear hK K
      refine wpAnyH_take (i := 6) (v := .pointer (some ⟨Bp, 0, none⟩)) rfl (by kernel_rfl) (by kernel_rfl) (by kernel_rfl) (fun _ _ _ h => h) (Or.inl ⟨by rfl, by rintro w ⟨s1, s2, s3⟩; go_simp⟩) hHeld ?_
      refine norm_any' (fun K hK => ?_)
      go_simp
      refine hK _ _ ?_
      clear hK K
      refine wpAnyH_take (i := 8) (v := .pointer (some ⟨Bp, 1, none⟩)) rfl (by kernel_rfl) (by kernel_rfl) (by kernel_rfl) (fun _ _ _ h => h) (Or.inl ⟨by rfl, by rintro w ⟨s1, s2, s3⟩; go_simp⟩) hHeld ?_
      refine norm_any' (fun K hK => ?_)
      go_simp
      refine hK _ _ ?_
      clear hK K
      refine wpAnyH_ready (rs := [7, 9]) (by kernel_rfl) (by simp) (AllReadyH.cons rfl (fun K hK => ?_) (AllReadyH.cons rfl (fun K hK => ?_) AllReadyH.nil))
      · go_simp
        refine hK.out _ _ hHeld (fun hHeld => ?_)
        clear hK K
        refine norm_any' (fun K hK => ?_)
        go_simp
        refine hK _ _ ?_
        clear hK K
        refine wpAnyH_ready (rs := [9]) (by kernel_rfl) (by simp) (AllReadyH.cons rfl (fun K hK => ?_) AllReadyH.nil)
        go_simp
        refine hK.out _ _ hHeld (fun hHeld => ?_)
        clear hK K
        refine norm_any' (fun K hK => ?_)
        go_simp
        refine hK _ _ ?_
        clear hK K
        refine wpAnyH_ready (rs := [10]) (by kernel_rfl) (by simp) (AllReadyH.cons rfl (fun K hK => ?_) AllReadyH.nil)
        go_simp
        refine (add_my 0 sB oB x.a (x.e - 1) LB W.drew myB (Nat.zero_le _)).mono ?_
        rintro e W4 ⟨r, o', L', rfl, ht, ⟨rfl, _, hL'⟩ | ⟨_, hx, _⟩ | ⟨_, _, _, M', k1, k2, k3⟩⟩
        · obtain ⟨res, sq4⟩ := FIN.out W4 o' L' ht hL'
          have RES : Aside _ := res
          clear res hL' ht
          go_simp
          refine hK.out _ _ ?_ (fun hHeld => ?_)
          · exact sq4
          clear hK K
          refine wpAnyH_done (by kernel_rfl) ?_ _
          exact ⟨RES.out.1, RES.out.2.1 hBtW, RES.out.2.2⟩
        · exact absurd ⟨x.h0, by have := x.h1; omega, by have := x.h3; omega⟩ hx
        · have := LEN.out M' k1 k3
          omega
      · go_simp
        refine hK.out _ _ hHeld (fun hHeld => ?_)
        clear hK K
        refine norm_any' (fun K hK => ?_)
        go_simp
        refine hK _ _ ?_
        clear hK K
        refine wpAnyH_ready (rs := [7]) (by kernel_rfl) (by simp) (AllReadyH.cons rfl (fun K hK => ?_) AllReadyH.nil)
        go_simp
        refine hK.out _ _ hHeld (fun hHeld => ?_)
        clear hK K
        refine norm_any' (fun K hK => ?_)
        go_simp
        refine hK _ _ ?_
        clear hK K
        refine wpAnyH_ready (rs := [10]) (by kernel_rfl) (by simp) (AllReadyH.cons rfl (fun K hK => ?_) AllReadyH.nil)
        go_simp
        refine (add_my 0 sB oB x.a (x.e - 1) LB W.drew myB (Nat.zero_le _)).mono ?_
        rintro e W4 ⟨r, o', L', rfl, ht, ⟨rfl, _, hL'⟩ | ⟨_, hx, _⟩ | ⟨_, _, _, M', k1, k2, k3⟩⟩
        · obtain ⟨res, sq4⟩ := FIN.out W4 o' L' ht hL'
          have RES : Aside _ := res
          clear res hL' ht
          go_simp
          refine hK.out _ _ ?_ (fun hHeld => ?_)
          · exact sq4
          clear hK K
          refine wpAnyH_done (by kernel_rfl) ?_ _
          exact ⟨RES.out.1, RES.out.2.1 hBtW, RES.out.2.2⟩
        · exact absurd ⟨x.h0, by have := x.h1; omega, by have := x.h3; omega⟩ hx
        · have := LEN.out M' k1 k3
          omega
    | none =>
      rw [hSn] at hlk
      simp only [ptrO] at hlk
      obtain ⟨W2, hrun, cB2, cM21, cM20, of, Lf, myf, lenf, finf⟩ := AddQ.new (n0 := W0.heap.size) (lo := lo) φ' S' c' H1.out hSn hn2 h2 (by omega) H3.out H4.out h5 hBtW hmbw (by omega) HW.out (by omega) hBp (fun n c e => hYn n c (by simpa [World.cell?, hfsY] using e))
      have hrun2 : (Instr.mapUpdate 80 (.map (some mb)) (.int .i64 (n : Int)) (.pointer (some ⟨W.heap.size, 0, none⟩))).run Try.prog ((W.alloc (.cells #[.bool true, .slice none 0 0] 95)).drew) = .ok () W2 := hrun
      clear hrun
      have LENF : Aside (∀ M', Ok M' → (∀ j, In j M' ↔ In j Lf ∨ ((n : Int) ≤ j ∧ j ≤ (n : Int))) → M'.length ≤ 65536) := lenf
      have FINF : Aside _ := finf
      clear lenf finf
      gi_wp2
      refine region_round (fun W' => W'.cell? ⟨w.heap.size, 0, none⟩ = some (.pointer (some ⟨M, 0, none⟩)) ∧ W'.cell? ⟨M, 0, none⟩ = some (.map (some mb))) (by kernel_rfl) ?hd ?hQ ?hS (fun hHeld => ?_)
      case hd => exact noDefer (by kernel_rfl)
      case hQ => rintro ⟨a, w, hF⟩; exact hF
      case hS => exact ⟨cB, cM0⟩
      refine wpAnyH_take (i := 0) (v := .pointer (some ⟨M, 0, none⟩)) rfl (by kernel_rfl) (by kernel_rfl) (by kernel_rfl) (fun _ _ _ h => h) (Or.inl ⟨by rfl, by rintro w ⟨s1, s2⟩; go_simp⟩) hHeld ?_
      refine norm_any' (fun K hK => ?_)
      go_simp
      refine hK _ _ ?_
      clear hK K
      refine wpAnyH_take (i := 1) (v := .pointer (some ⟨M, 0, none⟩)) rfl (by kernel_rfl) (by kernel_rfl) (by kernel_rfl) (fun _ _ _ h => h) (Or.inl ⟨by rfl, by rintro w ⟨s1, s2⟩; go_simp⟩) hHeld ?_
      refine norm_any' (fun K hK => ?_)
      go_simp
      refine hK _ _ ?_
      clear hK K
      refine wpAnyH_take (i := 2) (v := .pointer (some ⟨M, 0, none⟩)) rfl (by kernel_rfl) (by kernel_rfl) (by kernel_rfl) (fun _ _ _ h => h) (Or.inl ⟨by rfl, by rintro w ⟨s1, s2⟩; go_simp⟩) hHeld ?_
      refine norm_any' (fun K hK => ?_)
      go_simp
      refine hK _ _ ?_
      clear hK K
      refine wpAnyH_take (i := 3) (v := .map (some mb)) rfl (by kernel_rfl) (by kernel_rfl) (by kernel_rfl) (fun _ _ _ h => h) (Or.inl ⟨by rfl, by rintro w ⟨s1, s2⟩; go_simp⟩) hHeld ?_
      refine norm_any' (fun K hK => ?_)
      go_simp
      refine hK _ _ ?_
      clear hK K
      refine wpAnyH_take (i := 4) (v := .int .i64 (n : Int)) rfl (by kernel_rfl) (by kernel_rfl) (by kernel_rfl) (fun _ _ _ h => h) (Or.inl ⟨by rfl, by rintro w ⟨s1, s2⟩; go_simp⟩) hHeld ?_
      refine norm_any' (fun K hK => ?_)
      go_simp
      refine hK _ _ ?_
      clear hK K
      refine wpAnyH_ready (rs := [5]) (by kernel_rfl) (by simp) (AllReadyH.cons rfl (fun K hK => ?_) AllReadyH.nil)
      go_simp
      refine (new_c _).mono ?_
      rintro e w' ⟨rfl, hh⟩
      subst w'
      go_simp
      refine hK.out _ _ ?_ (fun hHeld => ?_)
      · exact ⟨(World.cell?_alloc_lt _ _ _ (World.block_lt_of_cell? _ _ cB)).trans cB, (World.cell?_alloc_lt _ _ _ (World.block_lt_of_cell? _ _ cM0)).trans cM0⟩
      clear hK K
      refine norm_any' (fun K hK => ?_)
      go_simp
      refine hK _ _ ?_
      clear hK K
      refine wpAnyH_ready (rs := [6]) (by kernel_rfl) (by simp) (AllReadyH.cons rfl (fun K hK => ?_) AllReadyH.nil)
      go_simp
      refine hK.out _ _ ?_ (fun hHeld => ?_)
      · exact ⟨cB2, cM20⟩
      clear hK K
      refine wpAnyH_done (by kernel_rfl) ?_ _
      gi_wp2
      refine ⟨trivial, CallsIn.inRound l (callsIn_wide.2 ((add_my 0 fs of (n : Int) (n : Int) Lf W2 myf (Nat.zero_le _)).mono ?_))⟩
      rintro e W3 ⟨r, o', L', rfl, ht, ⟨rfl, _, hL'⟩ | ⟨_, hx, _⟩ | ⟨_, _, _, M', k1, k2, k3⟩⟩
      · obtain ⟨aq3, hBp3⟩ := FINF.out W3 o' L' ht hL'
        have AQ : Aside (AddQ φ t w M mb fs c V w.heap.size (w.heap.size + 1 + 1) f to_ pre n W.heap.size W0.heap.size W W3) := aq3
        have cP0' : W3.cell? ⟨Bp, 0, none⟩ = some (.int .i64 x.a) := by simp [World.cell?, hBp3]
        have cP1' : W3.cell? ⟨Bp, 1, none⟩ = some (.int .i64 (x.e - 1)) := by simp [World.cell?, hBp3]
        clear aq3 hL' ht hHeld hrun2 cB2 cM21 cM20 cP0 cP1 hlk
        gi_wp2
        obtain ⟨oB, LB, myB, lenB, finB⟩ := AQ.out.drew.fin (x := x) hn hn2
        have LEN : Aside _ := lenB
        have FIN : Aside _ := finB
        clear lenB finB
        refine region_round (SQ M mb w.heap.size n W.heap.size) (by kernel_rfl) ?hd ?hQ ?hS (fun hHeld => ?_)
        case hd => exact noDefer (by kernel_rfl)
        case hQ => rintro ⟨a, w, hF⟩; exact hF
        case hS => exact AQ.out.drew.sq hn2
        refine wpAnyH_take (i := 0) (v := .pointer (some ⟨M, 0, none⟩)) rfl (by kernel_rfl) (by kernel_rfl) (by kernel_rfl) (fun _ _ _ h => h) (Or.inl ⟨by rfl, by rintro w ⟨s1, s2, s3⟩; go_simp⟩) hHeld ?_
        refine norm_any' (fun K hK => ?_)
        go_simp
        refine hK _ _ ?_
        clear hK K
        refine wpAnyH_take (i := 1) (v := .pointer (some ⟨M, 0, none⟩)) rfl (by kernel_rfl) (by kernel_rfl) (by kernel_rfl) (fun _ _ _ h => h) (Or.inl ⟨by rfl, by rintro w ⟨s1, s2, s3⟩; go_simp⟩) hHeld ?_
        refine norm_any' (fun K hK => ?_)
        go_simp
        refine hK _ _ ?_
        clear hK K
        refine wpAnyH_take (i := 2) (v := .pointer (some ⟨M, 0, none⟩)) rfl (by kernel_rfl) (by kernel_rfl) (by kernel_rfl) (fun _ _ _ h => h) (Or.inl ⟨by rfl, by rintro w ⟨s1, s2, s3⟩; go_simp⟩) hHeld ?_
        refine norm_any' (fun K hK => ?_)
        go_simp
        refine hK _ _ ?_
        clear hK K
        refine wpAnyH_take (i := 3) (v := .map (some mb)) rfl (by kernel_rfl) (by kernel_rfl) (by kernel_rfl) (fun _ _ _ h => h) (Or.inl ⟨by rfl, by rintro w ⟨s1, s2, s3⟩; go_simp⟩) hHeld ?_
        refine norm_any' (fun K hK => ?_)
        go_simp
        refine hK _ _ ?_
        clear hK K
        refine wpAnyH_take (i := 4) (v := .int .i64 (n : Int)) rfl (by kernel_rfl) (by kernel_rfl) (by kernel_rfl) (fun _ _ _ h => h) (Or.inl ⟨by rfl, by rintro w ⟨s1, s2, s3⟩; go_simp⟩) hHeld ?_
        refine norm_any' (fun K hK => ?_)
        go_simp
        refine hK _ _ ?_
        clear hK K
        refine wpAnyH_take (i := 5) (v := .pointer (some ⟨W.heap.size, 0, none⟩)) rfl (by kernel_rfl) (by kernel_rfl) (by kernel_rfl) (fun _ _ _ h => h) (Or.inl ⟨by rfl, by rintro w ⟨s1, s2, s3⟩; go_simp⟩) hHeld ?_
        refine norm_any' (fun K hK => ?_)
        go_simp
        refine hK _ _ ?_
        clear hK K
        refine wpAnyH_take (i := 6) (v := .pointer (some ⟨Bp, 0, none⟩)) rfl (by kernel_rfl) (by kernel_rfl) (by kernel_rfl) (fun _ _ _ h => h) (Or.inl ⟨by rfl, by rintro w ⟨s1, s2, s3⟩; go_simp⟩) hHeld ?_
        refine norm_any' (fun K hK => ?_)
        go_simp
        refine hK _ _ ?_
        clear hK K
        refine wpAnyH_take (i := 8) (v := .pointer (some ⟨Bp, 1, none⟩)) rfl (by kernel_rfl) (by kernel_rfl) (by kernel_rfl) (fun _ _ _ h => h) (Or.inl ⟨by rfl, by rintro w ⟨s1, s2, s3⟩; go_simp⟩) hHeld ?_
        refine norm_any' (fun K hK => ?_)
        go_simp
        refine hK _ _ ?_
        clear hK K
        refine wpAnyH_ready (rs := [7, 9]) (by kernel_rfl) (by simp) (AllReadyH.cons rfl (fun K hK => ?_) (AllReadyH.cons rfl (fun K hK => ?_) AllReadyH.nil))
        · go_simp
          refine hK.out _ _ hHeld (fun hHeld => ?_)
          clear hK K
          refine norm_any' (fun K hK => ?_)
          go_simp
          refine hK _ _ ?_
          clear hK K
          refine wpAnyH_ready (rs := [9]) (by kernel_rfl) (by simp) (AllReadyH.cons rfl (fun K hK => ?_) AllReadyH.nil)
          go_simp
          refine hK.out _ _ hHeld (fun hHeld => ?_)
          clear hK K
          refine norm_any' (fun K hK => ?_)
          go_simp
          refine hK _ _ ?_
          clear hK K
          refine wpAnyH_ready (rs := [10]) (by kernel_rfl) (by simp) (AllReadyH.cons rfl (fun K hK => ?_) AllReadyH.nil)
          go_simp
          refine (add_my 0 W.heap.size oB x.a (x.e - 1) LB W3.drew myB (Nat.zero_le _)).mono ?_
          rintro e W4 ⟨r, o', L', rfl, ht, ⟨rfl, _, hL'⟩ | ⟨_, hx, _⟩ | ⟨_, _, _, M', k1, k2, k3⟩⟩
          · obtain ⟨res, sq4⟩ := FIN.out W4 o' L' ht hL'
            have RES : Aside _ := res
            clear res hL' ht
            go_simp
            refine hK.out _ _ ?_ (fun hHeld => ?_)
            · exact sq4
            clear hK K
            refine wpAnyH_done (by kernel_rfl) ?_ _
            exact ⟨RES.out.1, RES.out.2.1 hBtW, RES.out.2.2⟩
          · exact absurd ⟨x.h0, by have := x.h1; omega, by have := x.h3; omega⟩ hx
          · have := LEN.out M' k1 k3
            omega
        · go_simp
          refine hK.out _ _ hHeld (fun hHeld => ?_)
          clear hK K
          refine norm_any' (fun K hK => ?_)
          go_simp
          refine hK _ _ ?_
          clear hK K
          refine wpAnyH_ready (rs := [7]) (by kernel_rfl) (by simp) (AllReadyH.cons rfl (fun K hK => ?_) AllReadyH.nil)
          go_simp
          refine hK.out _ _ hHeld (fun hHeld => ?_)
          clear hK K
          refine norm_any' (fun K hK => ?_)
          go_simp
          refine hK _ _ ?_
          clear hK K
          refine wpAnyH_ready (rs := [10]) (by kernel_rfl) (by simp) (AllReadyH.cons rfl (fun K hK => ?_) AllReadyH.nil)
          go_simp
          refine (add_my 0 W.heap.size oB x.a (x.e - 1) LB W3.drew myB (Nat.zero_le _)).mono ?_
          rintro e W4 ⟨r, o', L', rfl, ht, ⟨rfl, _, hL'⟩ | ⟨_, hx, _⟩ | ⟨_, _, _, M', k1, k2, k3⟩⟩
          · obtain ⟨res, sq4⟩ := FIN.out W4 o' L' ht hL'
            have RES : Aside _ := res
            clear res hL' ht
            go_simp
            refine hK.out _ _ ?_ (fun hHeld => ?_)
            · exact sq4
            clear hK K
            refine wpAnyH_done (by kernel_rfl) ?_ _
            exact ⟨RES.out.1, RES.out.2.1 hBtW, RES.out.2.2⟩
          · exact absurd ⟨x.h0, by have := x.h1; omega, by have := x.h3; omega⟩ hx
          · have := LEN.out M' k1 k3
            omega
      · exact absurd ⟨by omega, by omega, by omega⟩ hx
      · have := LENF.out M' k1 k3
        omega
  case done =>
    rintro D ys W hD hys hi hK
    have hP := OwnFrom.putObj (AddI_own W0.heap.size (by omega) hmbw) (.deferred none) hi hD hK rfl
    obtain ⟨⟨φ', S', c', h1, h2, h3⟩, h4, _, _⟩ := hP
    have hy2 := hys.2
    have RES : Aside (∃ φ' S' c', Mk φ' t (W.putObj D (.deferred none)) M mb fs c' S' (fun j => V j ∨ (f ≤ j ∧ j < to_)) ∧ c' ≤ c + (to_ - f).toNat ∧ (∀ k, k < w.heap.size → φ' k = φ k) ∧ Chg (fun k => (φ k).1 = t) w (W.putObj D (.deferred none))) := by
      have e : (fun j => V j ∨ (f ≤ j ∧ j < to_)) = (fun j => V j ∨ Cov ys j) := funext fun j => propext (by rw [hys.1 j])
      rw [e]
      exact ⟨φ', S', c', h1, by omega, h3, h4⟩
    clear h1 h2 h3 h4 hi hys
    go_wp2
    refine ⟨by simp, .inl ⟨_, _, rfl, run_takeDeferred hK, ?_⟩⟩
    exact ⟨_, results_none rfl _ _ _, ⟨_, rfl⟩, RES.out⟩
  case stop =>
    rintro D cd pre W _ _ hF _
    exact hF.elim

end Go.Proofs.YtfgfomkhlhiiiaaR
