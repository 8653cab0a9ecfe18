/- ranges: Clone of a set that was made: its walk. -/
import Derived.Test.YtgmhlmficnkhgaaClo
namespace Go.Proofs.Ytgmhlmficnkhgaa
open Go.RowKit Go.Shelf Go.Lib
set_option linter.unusedVariables false

attribute [local go_sem] Oper.semAt_some

theorem Upd.clo {w W W' : World} {C Bc : Nat} {oc : Option Addr} {cc : Nat} {pre L' : List (Int × Int)} (hS : Se W C oc cc pre) (hown : ∀ g, oc = some ⟨g, 0, none⟩ → w.heap.size ≤ g) (hB : W.heap[Bc]? = some (.cells #[.pointer (some ⟨C, 0, none⟩)] 23 (0, 0))) (hb : Below w.heap.size w W) (hC : w.heap.size ≤ C) (hBC : Bc ≠ C)
    (h : Upd W W' C oc L') (n₀ : Nat) : KeepsFrom n₀ W W' ∧ Kq (fun k => k = C) ⟨C, 1, none⟩ W W' ∧ CloI w C Bc L' W' := by
  obtain ⟨o', c', h1, h2, h3⟩ := h
  have hrow : ∀ k, oc = some ⟨k, 0, none⟩ → ∃ X, W.heap[k]? = some (.cells X 50 (0, 0)) := by
    intro k hk
    rcases hS.2.1 with ⟨h', _⟩ | ⟨g, R, h', hA, _⟩
    · rw [h'] at hk; cases hk
    · rw [h'] at hk
      obtain rfl : g = k := by simpa using hk
      exact ⟨_, hA⟩
  refine ⟨⟨h2.2.2.2.1, fun k o _ hk ho => ?_⟩, ⟨h2.2.2.2.1, fun k A t hk hx hn => ?_, fun k n c hk e => ?_⟩, ⟨o', c', h1, ?_⟩, ?_, ?_⟩
  · refine (h2.2.2.2.2 k (Array.getElem?_eq_some_iff.1 hk).1 ?_).trans hk
    rintro (rfl | e)
    · rw [hS.1] at hk; cases hk; simp [Obj.isCells] at ho
    · obtain ⟨X, hX⟩ := hrow k e
      rw [hX] at hk; cases hk; simp [Obj.isCells] at ho
  · refine h2.2.2.2.2 k (Array.getElem?_eq_some_iff.1 hk).1 ?_
    rintro (rfl | e)
    · exact hx rfl
    · exact hn _ _ (e ▸ hS.head.2)
  · rw [h1.head.2] at e
    obtain ⟨rfl, rfl, rfl⟩ : o' = some ⟨k, 0, none⟩ ∧ L'.length = n ∧ c' = c := by simpa using e
    rcases h3 with h3 | ⟨g, hg, hl⟩
    · exact ⟨_, _, h3 ▸ hS.head.2⟩
    · obtain ⟨rfl⟩ : k = g := by injection hg with hg; injection hg
      omega
  · intro g hg
    rcases h3 with h3 | ⟨g', hg', hl⟩
    · exact hown g (h3 ▸ hg)
    · rw [hg'] at hg
      obtain rfl : g' = g := by simpa using hg
      exact Nat.le_trans hb.size hl
  · refine (h2.2.2.2.2 Bc (Array.getElem?_eq_some_iff.1 hB).1 ?_).trans hB
    rintro (e | e)
    · exact hBC e
    · obtain ⟨X, hX⟩ := hrow Bc e
      rw [hX] at hB; simp at hB
  · exact hb.trans ⟨h2.1, h2.2.1, h2.2.2.1, h2.2.2.2.1, fun k hk => h2.2.2.2.2 k (Nat.lt_of_lt_of_le hk hb.size) (fun e => by
      rcases e with e | e
      · omega
      · have := hown k e; omega)⟩

theorem step_append_run {P : Program} {ops : Array Oper} {o : Oper} {a : Act} {w : World} {K : Act → World → Prop} {Q : Exit → Act → World → Prop} {E : Prop}
    (hg : o.guard = none) (d x : Operand) (dT sT : TypeId) (hop : o.op = Op.call { callee := Callee.builtin Builtin.append, args := #[d, x], argTypes := #[dT, sT] })
    (v u : Value) (hd : a.eval d = v) (hx : a.eval x = u) {v' : Value} {w' : World} (hr : (Builtin.append_ #[dT, sT] o.type #[v, u]).run P w = .ok v' w') (hK : K (a.put o.dst v') w') :
    if Region.wanted o (yielded ops a.tmps) = true then Oper.wp P o a w K Q else E := by
  have hw : Region.wanted o (yielded ops a.tmps) = true := by simp [Region.wanted, hg]
  rw [if_pos hw]
  unfold Oper.wp
  simp [execOp, hop, resolve, invoke, builtin, hd, hx, hr, Result.andThen]
  exact hK

def notDefer (o : Oper) : Bool := match o.op with
  | .defer _ => false
  | _ => true
theorem noDefer {ops : Array Oper} (h : ops.all notDefer = true) : ∀ (i : Nat) o, ops[i]? = some o → ∀ c, o.op ≠ .defer c := by
  intro i o ho c e
  obtain ⟨hi, rfl⟩ := Array.getElem?_eq_some_iff.1 ho
  have := Array.all_eq_true.1 h i hi
  simp [notDefer, e] at this

set_option maxRecDepth 100000 in
set_option maxHeartbeats 2000000 in
theorem clone_c (S c : Nat) (o : Option Addr) (L : List (Int × Int)) (w : World) (h : Se w S o c L) (hsz : L.length ≤ 65536) :
    Calls Try.prog 14 #[.pointer (some ⟨S, 0, none⟩)] w fun e w' => ∃ C oc cc, e = .returned (.pointer (some ⟨C, 0, none⟩)) ∧ Se w' C oc cc L ∧ Below w.heap.size w w' ∧ w.heap.size ≤ C ∧ (∀ g, oc = some ⟨g, 0, none⟩ → w.heap.size ≤ g) := by
  have h0 := h.head.1
  refine callsIn_wide.1 (callsIn_of_wp_marks (F := Fence.wide) (n := 5) Try.func14 rfl trivial ?_ rfl)
  refine wpIn_wide.2 ?_
  simp only [Try.ntmps14, List.size_toArray, List.length_cons, List.length_nil, Nat.reduceAdd, Nat.reduceSub, Array.replicate_succ, Array.replicate_zero, List.push_toArray, List.append_toArray, List.nil_append, List.cons_append]
  go_wp2_with fail
  refine (yes_none S w h0).mono ?_
  rintro e w' ⟨rfl, hh⟩
  subst w'
  go_wp2_with fail
  refine (new_c w).mono ?_
  rintro e w' ⟨rfl, hh⟩
  subst w'
  go_wp2_with fail
  refine (all_any _ _).mono ?_
  rintro e w' ⟨rfl, hh⟩
  subst w'
  go_wp2
  have hb0 : Below w.heap.size w (((w.alloc (.cells #[.bool true, .slice none 0 0] 38)).alloc (.cells #[.pointer (some ⟨w.heap.size, 0, none⟩)] 23)).alloc (.cells #[.pointer (some ⟨S, 0, none⟩)] 23)) :=
    (((Below.refl _ w).alloc (Nat.le_refl _) _).alloc (by simp) _).alloc (by simp; omega) _
  have hC : (((w.alloc (.cells #[.bool true, .slice none 0 0] 38)).alloc (.cells #[.pointer (some ⟨w.heap.size, 0, none⟩)] 23)).alloc (.cells #[.pointer (some ⟨S, 0, none⟩)] 23)).heap[w.heap.size]? = some (.cells #[.bool true, .slice none 0 0] 38 (0, 0)) := by
    rw [Below.heap_alloc _ _ _ (by simp; omega), Below.heap_alloc _ _ _ (by simp)]; exact World.alloc_heap_new w _
  have hBc : (((w.alloc (.cells #[.bool true, .slice none 0 0] 38)).alloc (.cells #[.pointer (some ⟨w.heap.size, 0, none⟩)] 23)).alloc (.cells #[.pointer (some ⟨S, 0, none⟩)] 23)).heap[w.heap.size + 1]? = some (.cells #[.pointer (some ⟨w.heap.size, 0, none⟩)] 23 (0, 0)) := by
    rw [Below.heap_alloc _ _ _ (by simp)]
    have := World.alloc_heap_new (w.alloc (.cells #[.bool true, .slice none 0 0] 38)) (.cells #[.pointer (some ⟨w.heap.size, 0, none⟩)] 23)
    rwa [World.size_alloc] at this
  have hBs : (((w.alloc (.cells #[.bool true, .slice none 0 0] 38)).alloc (.cells #[.pointer (some ⟨w.heap.size, 0, none⟩)] 23)).alloc (.cells #[.pointer (some ⟨S, 0, none⟩)] 23)).heap[w.heap.size + 1 + 1]? = some (.cells #[.pointer (some ⟨S, 0, none⟩)] 23 (0, 0)) := by
    have := World.alloc_heap_new ((w.alloc (.cells #[.bool true, .slice none 0 0] 38)).alloc (.cells #[.pointer (some ⟨w.heap.size, 0, none⟩)] 23)) (.cells #[.pointer (some ⟨S, 0, none⟩)] 23)
    simpa using this
  have hz : (((w.alloc (.cells #[.bool true, .slice none 0 0] 38)).alloc (.cells #[.pointer (some ⟨w.heap.size, 0, none⟩)] 23)).alloc (.cells #[.pointer (some ⟨S, 0, none⟩)] 23)).heap.size = w.heap.size + 3 := by simp
  generalize (((w.alloc (.cells #[.bool true, .slice none 0 0] 38)).alloc (.cells #[.pointer (some ⟨w.heap.size, 0, none⟩)] 23)).alloc (.cells #[.pointer (some ⟨S, 0, none⟩)] 23)) = W0 at *
  have hS0 : Se W0 S o c L := h.below hb0 (Nat.le_refl _)
  have hrow : ∀ k n c, W0.cell? ⟨w.heap.size, 1, none⟩ = some (.slice (some ⟨k, 0, none⟩) n c) → k < W0.heap.size := by
    intro k n c e; simp [World.cell?, hC] at e
  refine (wpIn_wide (n := 5)).1 ?_
  refine wpIn_rangeFunc_ownH rfl (by decide) (gf := 32) (lb := #[.pointer (some ⟨w.heap.size + 1 + 1, 0, none⟩)]) rfl trivial (enters_of Try.func32 (by kernel_rfl) rfl)
    (all_stops (fun k => k = w.heap.size) ⟨w.heap.size, 1, none⟩ (w.heap.size + 1 + 1) S c o L W0 hsz (fun k e => by omega) (by show w.heap.size < _; omega) hrow (by simp [World.cell?, hBs]) hS0)
    Kq.trans (Kq.put (by show w.heap.size < _; omega)) (Below.refl _ _) (fun _ => rfl)
    (CloI w w.heap.size (w.heap.size + 1)) (fun _ _ _ => False) (CloI_own w _ _ _ (by omega)) (fun _ _ _ _ _ hs _ _ => hs)
    ⟨⟨none, 0, ⟨hC, .inl ⟨rfl, rfl, rfl⟩, by unfold maxLen; omega⟩, fun g e => nomatch e⟩, hBc, hb0⟩
    (fun x a' W => ∃ Bp Y, W.heap[Bp]? = some (.cells #[.int .i64 x.1, .int .i64 x.2] 50 (0, 0)) ∧ W.heap[w.heap.size]? = some (.cells Y 38 (0, 0)) ∧ (∀ n c, Y[1]? ≠ some (.slice (some ⟨Bp, 0, none⟩) n c)) ∧
      a' = { tmps := #[.pointer (some ⟨S, 0, none⟩), undef, .pointer none, .pointer (some ⟨w.heap.size + 1, 0, none⟩), .pointer (some ⟨Bp, 0, none⟩), .pointer (some ⟨S, 0, none⟩), .bool false, .pointer (some ⟨w.heap.size, 0, none⟩), .pointer (some ⟨S, 0, none⟩), .func (.func 32) #[] #[.pointer (some ⟨w.heap.size + 1 + 1, 0, none⟩)], .agg #[.int .i64 x.1, .int .i64 x.2], undef, undef, undef, undef, undef, undef, undef, undef, undef, undef, undef], defers := [] })
    (fun x a' s A B row hs hg hr => by
      obtain ⟨Bp, Y, q1, q2, q3, q4⟩ := hs
      exact ⟨Bp, Y, kept_cells q1 hg hr, kept_cells q2 hg hr, q3, q4⟩) ?assign ?body ?done ?stop
  case assign =>
    rintro l pre x W K hi hK
    obtain ⟨⟨oc, cc, hSe, hown⟩, hB, hb⟩ := id hi
    have hK' := hK { tmps := #[.pointer (some ⟨S, 0, none⟩), undef, .pointer none, .pointer (some ⟨w.heap.size + 1, 0, none⟩), .pointer (some ⟨W.heap.size, 0, none⟩), .pointer (some ⟨S, 0, none⟩), .bool false, .pointer (some ⟨w.heap.size, 0, none⟩), .pointer (some ⟨S, 0, none⟩), .func (.func 32) #[] #[.pointer (some ⟨w.heap.size + 1 + 1, 0, none⟩)], .agg #[.int .i64 x.1, .int .i64 x.2], undef, undef, undef, undef, undef, undef, undef, undef, undef, undef, undef], defers := [] }
      (W.alloc (.cells #[.int .i64 x.1, .int .i64 x.2] 50)) ((KeepsOthers.alloc _ _).from _)
      ⟨by simp, fun k A t hk _ _ => Below.heap_alloc W _ k (Array.getElem?_eq_some_iff.1 hk).1, fun k n c hk e => ⟨n, c, by rwa [World.cell?_alloc_lt _ _ _ hSe.lt] at e⟩⟩
      (OwnFrom.alloc (CloI_own w _ _ W0.heap.size (by omega)) _ hi)
      ⟨W.heap.size, _, World.alloc_heap_new W _, (Below.heap_alloc W _ _ hSe.lt).trans hSe.1, fun n c e => by
        simp at e
        rcases hSe.2.1 with ⟨h', _⟩ | ⟨g, R, h', hA, _⟩
        · rw [h'] at e; simp at e
        · rw [h'] at e
          have := hA.lt
          simp at e <;> omega, rfl⟩
    simp only [encS]
    gi_wp2
    exact hK'
  case body =>
    rintro l pre x a' W hl ⟨r, hr⟩ ⟨⟨oc, cc, hSe, hown⟩, hB, hb⟩ ⟨Bp, Y, hBp, hCY, hYn, rfl⟩ hlt
    refine wpIn_block ?_
    have hlen : pre.length ≤ 65536 := by omega
    obtain ⟨g, c', w3, hrun, hch, hc3, hf3, hU⟩ := push_upd W w.heap.size cc oc pre x.1 x.2 hSe hlen
    obtain ⟨k1, k2, k3⟩ := Upd.clo hSe hown hB hb (Nat.le_refl _) (by omega) hU W0.heap.size
    have HK : Aside (KeepsFrom W0.heap.size W (w3.setCell ⟨w.heap.size, 1, none⟩ (.slice (some ⟨g, 0, none⟩) (pre.length + 1) c')) ∧ Kq (fun k => k = w.heap.size) ⟨w.heap.size, 1, none⟩ W (w3.setCell ⟨w.heap.size, 1, none⟩ (.slice (some ⟨g, 0, none⟩) (pre.length + 1) c')) ∧ CloI w w.heap.size (w.heap.size + 1) (pre ++ [x]) (w3.setCell ⟨w.heap.size, 1, none⟩ (.slice (some ⟨g, 0, none⟩) (pre.length + 1) c'))) := ⟨k1, k2, k3⟩
    have cB : W.cell? ⟨w.heap.size + 1, 0, none⟩ = some (.pointer (some ⟨w.heap.size, 0, none⟩)) := by simp [World.cell?, hB]
    have cP0 : W.cell? ⟨Bp, 0, none⟩ = some (.int .i64 x.1) := by simp [World.cell?, hBp]
    have cP1 : W.cell? ⟨Bp, 1, none⟩ = some (.int .i64 x.2) := by simp [World.cell?, hBp]
    have cC1 := hSe.head.2
    have lB : w.heap.size + 1 < W.heap.size := (Array.getElem?_eq_some_iff.1 hB).1
    have lP : Bp < W.heap.size := (Array.getElem?_eq_some_iff.1 hBp).1
    have lC := hSe.lt
    have nB : ¬ oc = some ⟨w.heap.size + 1, 0, none⟩ := by
      rintro rfl
      rcases hSe.2.1 with ⟨h', _⟩ | ⟨q, R, h', hA, _⟩
      · cases h'
      · injection h' with h'
        injection h' with h'
        subst h'
        have := hB.symm.trans hA
        simp at this
    have nP : ¬ oc = some ⟨Bp, 0, none⟩ := by
      rintro rfl
      rw [hSe.1] at hCY
      cases hCY
      exact hYn _ _ rfl
    have dB : w3.cell? ⟨w.heap.size + 1, 0, none⟩ = some (.pointer (some ⟨w.heap.size, 0, none⟩)) := (World.cell?_of_block (hch.2.2.2.2 _ lB nB)).trans cB
    have dP0 : w3.cell? ⟨Bp, 0, none⟩ = some (.int .i64 x.1) := (World.cell?_of_block (a := ⟨Bp, 0, none⟩) (hch.2.2.2.2 _ lP nP)).trans cP0
    have dP1 : w3.cell? ⟨Bp, 1, none⟩ = some (.int .i64 x.2) := (World.cell?_of_block (a := ⟨Bp, 1, none⟩) (hch.2.2.2.2 _ lP nP)).trans cP1
    have nPC : Bp ≠ w.heap.size := by
      rintro rfl
      rw [hSe.1] at hBp; simp at hBp
    clear k1 k2 k3 hU hch hSe hown hB hb hBp hCY hYn hC hBc hBs hS0 hrow
    obtain ⟨xa, xb⟩ := x
    dsimp only at *
    generalize hNp : pre.length = N at *
    refine region_round (fun W' => W'.cell? ⟨w.heap.size + 1, 0, none⟩ = some (.pointer (some ⟨w.heap.size, 0, none⟩)) ∧ W'.cell? ⟨Bp, 0, none⟩ = some (.int .i64 xa) ∧ W'.cell? ⟨Bp, 1, none⟩ = some (.int .i64 xb)) (by kernel_rfl) ?hd ?hQ ?hS (fun hHeld => ?_)
    case hd => exact noDefer (by kernel_rfl)
    case hQ => rintro ⟨a, w, hF⟩; exact hF
    case hS => exact ⟨cB, cP0, cP1⟩
    refine wpAnyH_take (i := 0) (v := .pointer (some ⟨w.heap.size, 0, none⟩)) rfl (by kernel_rfl) (by kernel_rfl) (by kernel_rfl) (fun _ _ _ h => h) (Or.inl ⟨by rfl, by rintro w ⟨s1, s2, s3⟩; go_simp⟩) hHeld ?_
    refine wpAnyH_take (i := 1) (v := .pointer (some ⟨w.heap.size, 0, none⟩)) rfl (by kernel_rfl) (by kernel_rfl) (by kernel_rfl) (fun _ _ _ h => h) (Or.inl ⟨by rfl, by rintro w ⟨s1, s2, s3⟩; go_simp⟩) hHeld ?_
    refine norm_any' (fun K hK => ?_)
    go_simp
    refine hK _ _ ?_
    clear hK K
    refine wpAnyH_take (i := 2) (v := .pointer (some ⟨w.heap.size, 0, none⟩)) rfl (by kernel_rfl) (by kernel_rfl) (by kernel_rfl) (fun _ _ _ h => h) (Or.inl ⟨by rfl, by rintro w ⟨s1, s2, s3⟩; go_simp⟩) hHeld ?_
    refine norm_any' (fun K hK => ?_)
    go_simp
    refine hK _ _ ?_
    clear hK K
    refine wpAnyH_take (i := 3) (v := .pointer (some ⟨w.heap.size, 1, none⟩)) rfl (by kernel_rfl) (by kernel_rfl) (by kernel_rfl) (fun _ _ _ h => h) (Or.inl ⟨by rfl, by rintro w ⟨s1, s2, s3⟩; go_simp⟩) hHeld ?_
    refine wpAnyH_take (i := 5) (v := .agg #[.int .i64 xa, .int .i64 xb]) rfl (by kernel_rfl) (by kernel_rfl) (by kernel_rfl) (fun _ _ _ h => h) (Or.inl ⟨by rfl, by rintro w ⟨s1, s2, s3⟩; go_simp⟩) hHeld ?_
    refine norm_any' (fun K hK => ?_)
    go_simp
    refine hK _ _ ?_
    clear hK K
    refine wpAnyH_ready (rs := [4, 6]) (by kernel_rfl) (by simp) (AllReadyH.cons rfl (fun K hK => ?_) (AllReadyH.cons rfl (fun K hK => ?_) AllReadyH.nil))
    · go_simp
      refine hK.out _ _ ?_ (fun hHeld => ?_)
      · exact hHeld
      clear hK K
      refine norm_any' (fun K hK => ?_)
      go_simp
      refine hK _ _ ?_
      clear hK K
      refine wpAnyH_ready (rs := [6]) (by kernel_rfl) (by simp) (AllReadyH.cons rfl (fun K hK => ?_) AllReadyH.nil)
      go_simp
      refine hK.out _ _ ?_ (fun hHeld => ?_)
      · go_simp
      clear hK K
      refine norm_any' (fun K hK => ?_)
      go_simp
      refine hK _ _ ?_
      clear hK K
      refine wpAnyH_ready (rs := [7]) (by kernel_rfl) (by simp) (AllReadyH.cons rfl (fun K hK => ?_) AllReadyH.nil)
      refine step_append_run rfl (.tmp 15) (.tmp 17) 26 26 rfl (.slice oc N cc) (.slice (some ⟨W.heap.size, 0, none⟩) 1 1) rfl rfl (hrun _) ?_
      refine hK.out _ _ ⟨dB, dP0, dP1⟩ (fun hHeld => ?_)
      clear hK K
      refine norm_any' (fun K hK => ?_)
      go_simp
      refine hK _ _ ?_
      clear hK K
      refine wpAnyH_take (i := 8) (v := .pointer (some ⟨w.heap.size, 0, none⟩)) rfl (by kernel_rfl) (by kernel_rfl) (by kernel_rfl) (fun _ _ _ h => h) (Or.inl ⟨by rfl, by rintro w ⟨s1, s2, s3⟩; go_simp⟩) hHeld ?_
      refine norm_any' (fun K hK => ?_)
      go_simp
      refine hK _ _ ?_
      clear hK K
      refine wpAnyH_take (i := 9) (v := .pointer (some ⟨w.heap.size, 1, none⟩)) rfl (by kernel_rfl) (by kernel_rfl) (by kernel_rfl) (fun _ _ _ h => h) (Or.inl ⟨by rfl, by rintro w ⟨s1, s2, s3⟩; go_simp⟩) hHeld ?_
      refine norm_any' (fun K hK => ?_)
      go_simp
      refine hK _ _ ?_
      clear hK K
      refine wpAnyH_ready (rs := [10]) (by kernel_rfl) (by simp) (AllReadyH.cons rfl (fun K hK => ?_) AllReadyH.nil)
      go_simp
      refine hK.out _ _ ?_ (fun hHeld => ?_)
      · exact ⟨(World.cell?_setCell_other _ _ _ _ (by simp)).trans dB, (World.cell?_setCell_other _ _ _ _ (by simp <;> omega)).trans dP0, (World.cell?_setCell_other _ _ _ _ (by simp <;> omega)).trans dP1⟩
      clear hK K
      refine wpAnyH_done (by kernel_rfl) ?_ _
      exact HK.out
    · go_simp
      refine hK.out _ _ ?_ (fun hHeld => ?_)
      · go_simp
      clear hK K
      refine norm_any' (fun K hK => ?_)
      go_simp
      refine hK _ _ ?_
      clear hK K
      refine wpAnyH_ready (rs := [4]) (by kernel_rfl) (by simp) (AllReadyH.cons rfl (fun K hK => ?_) AllReadyH.nil)
      go_simp
      refine hK.out _ _ ?_ (fun hHeld => ?_)
      · exact hHeld
      clear hK K
      refine norm_any' (fun K hK => ?_)
      go_simp
      refine hK _ _ ?_
      clear hK K
      refine wpAnyH_ready (rs := [7]) (by kernel_rfl) (by simp) (AllReadyH.cons rfl (fun K hK => ?_) AllReadyH.nil)
      refine step_append_run rfl (.tmp 15) (.tmp 17) 26 26 rfl (.slice oc N cc) (.slice (some ⟨W.heap.size, 0, none⟩) 1 1) rfl rfl (hrun _) ?_
      refine hK.out _ _ ⟨dB, dP0, dP1⟩ (fun hHeld => ?_)
      clear hK K
      refine norm_any' (fun K hK => ?_)
      go_simp
      refine hK _ _ ?_
      clear hK K
      refine wpAnyH_take (i := 8) (v := .pointer (some ⟨w.heap.size, 0, none⟩)) rfl (by kernel_rfl) (by kernel_rfl) (by kernel_rfl) (fun _ _ _ h => h) (Or.inl ⟨by rfl, by rintro w ⟨s1, s2, s3⟩; go_simp⟩) hHeld ?_
      refine norm_any' (fun K hK => ?_)
      go_simp
      refine hK _ _ ?_
      clear hK K
      refine wpAnyH_take (i := 9) (v := .pointer (some ⟨w.heap.size, 1, none⟩)) rfl (by kernel_rfl) (by kernel_rfl) (by kernel_rfl) (fun _ _ _ h => h) (Or.inl ⟨by rfl, by rintro w ⟨s1, s2, s3⟩; go_simp⟩) hHeld ?_
      refine norm_any' (fun K hK => ?_)
      go_simp
      refine hK _ _ ?_
      clear hK K
      refine wpAnyH_ready (rs := [10]) (by kernel_rfl) (by simp) (AllReadyH.cons rfl (fun K hK => ?_) AllReadyH.nil)
      go_simp
      refine hK.out _ _ ?_ (fun hHeld => ?_)
      · exact ⟨(World.cell?_setCell_other _ _ _ _ (by simp)).trans dB, (World.cell?_setCell_other _ _ _ _ (by simp <;> omega)).trans dP0, (World.cell?_setCell_other _ _ _ _ (by simp <;> omega)).trans dP1⟩
      clear hK K
      refine wpAnyH_done (by kernel_rfl) ?_ _
      exact HK.out
  case done =>
    rintro D ys W hD rfl ⟨⟨oc, cc, hSe, hown⟩, hB, hb⟩ hK
    have cB : W.cell? ⟨w.heap.size + 1, 0, none⟩ = some (.pointer (some ⟨w.heap.size, 0, none⟩)) := by simp [World.cell?, hB]
    have HSe : Aside (Se (W.putObj D (.deferred none)) w.heap.size oc cc ys) := Se_kept (n := D) hSe (grownBy_putObj' W D _) (fun r e => by cases e; exact ⟨Nat.le_refl _, _, hK, rfl⟩)
    have HB2 : Aside (Below w.heap.size w (W.putObj D (.deferred none))) := hb.trans (belowK_b (w := w) (Nat.le_refl _) W D _ _ (by omega) hK rfl rfl)
    have HO : Aside _ := hown
    clear hSe hB hb hown
    go_wp2
    refine ⟨by simp, .inl ⟨_, _, rfl, run_takeDeferred hK, ?_⟩⟩
    exact ⟨_, results_tmp rfl _ _ _, w.heap.size, oc, cc, rfl, HSe.out, HB2.out, Nat.le_refl _, HO.out⟩
  case stop =>
    rintro D cd pre W _ _ hF _
    exact hF.elim

end Go.Proofs.Ytgmhlmficnkhgaa
