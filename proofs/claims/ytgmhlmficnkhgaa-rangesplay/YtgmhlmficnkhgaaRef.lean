/- The reference of layer 5: rows of spans that it makes; without. -/
import Derived.Test.YtgmhlmficnkhgaaBox
namespace Go.Proofs.Ytgmhlmficnkhgaa
open Go.RowKit Go.Shelf Go.Lib
set_option linter.unusedVariables false

/-- A row of spans in memory of the call's own. -/
def Mk (B : Nat) (W : World) (o : Option Addr) (c : Nat) (L : List (Int × Int)) : Prop := Rs W o c L ∧ c ≤ maxLen ∧ ∀ g, o = some ⟨g, 0, none⟩ → B ≤ g
theorem Mk_nil (B : Nat) (W : World) : Mk B W none 0 [] := ⟨.inl ⟨rfl, rfl, rfl⟩, by unfold maxLen; omega, fun g e => nomatch e⟩
theorem Mk.below {B : Nat} {W W' : World} {o : Option Addr} {c : Nat} {L : List (Int × Int)} (h : Mk B W o c L) (hb : Below W.heap.size W W') : Mk B W' o c L := ⟨h.1.below hb (Nat.le_refl _), h.2⟩
theorem Mk.alloc {B : Nat} {W : World} {o : Option Addr} {c : Nat} {L : List (Int × Int)} (h : Mk B W o c L) (ob : Obj) : Mk B (W.alloc ob) o c L := h.below ((Below.refl _ W).alloc (Nat.le_refl _) ob)

/-- One span behind a row. -/
theorem push_row (B : Nat) (W : World) (o : Option Addr) (c : Nat) (L : List (Int × Int)) (x y : Int) (h : Mk B W o c L) (hsz : L.length ≤ 69000) (hB : B ≤ W.heap.size) :
    ∃ g c' w', (∀ ty, (Builtin.append_ #[26, 26] ty #[.slice o L.length c, .slice (some ⟨W.heap.size, 0, none⟩) 1 1]).run Try.prog (W.alloc (.cells #[.int .i64 x, .int .i64 y] 50)) = .ok (.slice (some ⟨g, 0, none⟩) (L.length + 1) c') w') ∧
      Mk B w' (some ⟨g, 0, none⟩) c' (L ++ [(x, y)]) ∧ Below B W w' ∧ Chg (fun k => o = some ⟨k, 0, none⟩) W w' := by
  obtain ⟨hr, hcm, hown⟩ := h
  have hC0 : Chg (fun k => o = some ⟨k, 0, none⟩) W (W.alloc (.cells #[.int .i64 x, .int .i64 y] 50)) := (Chg.refl _ W).alloc _
  have hT : At (W.alloc (.cells #[.int .i64 x, .int .i64 y] 50)) W.heap.size (fl [(x, y)] ++ []) := at_alloc W _
  have hb0 : Below B W (W.alloc (.cells #[.int .i64 x, .int .i64 y] 50)) := (Below.refl B W).alloc hB _
  have hs : Src Try.prog 2 26 (.slice (some ⟨W.heap.size, 0, none⟩) 1 1) 1 (fl [(x, y)]) (W.alloc (.cells #[.int .i64 x, .int .i64 y] 50)) := src2 _ ⟨W.heap.size, 0, none⟩ 1 [(x, y)] (At.src (A := []) hT rfl)
  by_cases hroom : L.length + 1 ≤ c
  · rcases hr with ⟨rfl, rfl, rfl⟩ | ⟨g, R, rfl, hA, hR⟩
    · simp at hroom
    · have hA' : At (W.alloc (.cells #[.int .i64 x, .int .i64 y] 50)) g (fl L ++ R) := At.alloc (w := W) hA _
      have hrun := fun ty => run_append2_room _ ty g L.length c _ _ 1 [(x, y)] hA' hs hroom (by simp; omega) rfl
      refine ⟨g, c, _, hrun, ⟨.inr ⟨g, R.drop 2, rfl, ?_, by simp; omega⟩, hcm, fun q hq => hown q hq⟩, hb0.trans (hA'.sub (W := W) _ (hown g rfl)), hC0.set g _ (.inl rfl)⟩
      have e := over_eq (X := fl L ++ R) (P := fl L) (Q := R.take 2) (S := R.drop 2) (M := fl [(x, y)]) (o := L.length * 2) (by rw [List.append_assoc, List.take_append_drop]) (by simp) (by simp [fl]; omega)
      rw [e, fl_append]
      exact hA'.set _
  · have hb : (o = none ∧ L = []) ∨ ∃ g X, o = some ⟨g, 0, none⟩ ∧ At (W.alloc (.cells #[.int .i64 x, .int .i64 y] 50)) g (fl L ++ X) := by
      rcases hr with ⟨h1, h2, _⟩ | ⟨g, R, h1, h2, _⟩
      · exact .inl ⟨h1, h2⟩
      · exact .inr ⟨g, R, h1, At.alloc (w := W) h2 _⟩
    obtain ⟨c', hc', hrun0, hmax⟩ := run_append2_grow (W.alloc (.cells #[.int .i64 x, .int .i64 y] 50)) 26 o L.length c L [(x, y)] _ 1 rfl rfl hb hs (by omega) (by omega)
    refine ⟨_, c', _, fun ty => hrun0, ⟨.inr ⟨_, zs (c' - (L.length + 1)), rfl, ?_, by simp; omega⟩, hmax, fun q hq => ?_⟩, (hb0.drew).alloc (by simp; omega) _, (hC0.drew).alloc _⟩
    · rw [fl_append]
      exact at_alloc _ _
    · injection hq with hq
      injection hq with hq
      simp at hq
      omega
/-- An append, by its run. -/
theorem wpList_append_run {P : Program} {ops : Array Oper} {rest : List Oper} {o : Oper} {a : Act} {w : World} {Q : Exit → Act → World → Prop}
    (hg : o.guard = none) (d x : Operand) (dT sT : TypeId) (hop : o.op = Op.call { callee := Callee.builtin Builtin.append, args := #[d, x], argTypes := #[dT, sT] })
    (v u : Value) (hd : a.eval d = v) (hx : a.eval x = u) {v' : Value} {w' : World} (hr : (Builtin.append_ #[dT, sT] o.type #[v, u]).run P w = .ok v' w') (hK : wpList P ops Q rest (a.put o.dst v') w') :
    wpList P ops Q (o :: rest) a w :=
  wpList_plain hg fun K hK' => (by
    unfold Oper.wp
    simp [execOp, hop, resolve, invoke, builtin, hd, hx, hr, Result.andThen]
    exact hK' _ _ hK)
theorem wo_take {f l : Int} {L : List (Int × Int)} {k : Nat} (h : k < L.length) : wo f l (L.take (k + 1)) = wo f l (L.take k) ++ wo1 f l L[k] := by
  rw [List.take_succ_eq_append_getElem h, wo_append]
  simp [wo]
theorem Ok.take {L : List (Int × Int)} (h : Ok L) (k : Nat) : Ok (L.take k) := by
  rw [← List.take_append_drop k L] at h
  exact (Ok_append.1 h).1
theorem row_cells {W : World} {o : Option Addr} {c : Nat} {L : List (Int × Int)} (h : Rs W o c L) (k : Nat) (hk : k < L.length) : ∃ g, o = some ⟨g, 0, none⟩ ∧ W.cell? ⟨g, k * 2, none⟩ = some (.int .i64 L[k].1) ∧ W.cell? ⟨g, k * 2 + 1, none⟩ = some (.int .i64 L[k].2) := by
  rcases h with ⟨_, h2, _⟩ | ⟨g, R, h1, h2, _⟩
  · rw [h2] at hk; simp at hk
  · exact ⟨g, h1, cells_at h2 k hk⟩

set_option maxRecDepth 100000 in
set_option maxHeartbeats 2000000 in
theorem without_c (lo : Option Addr) (lc : Nat) (f l : Int) (L : List (Int × Int)) (W : World) (hL : Rs W lo lc L) (hn : L.length ≤ 65536) (hO : Ok L) (hf : Fit f l) :
    Calls Try.prog 25 #[.slice lo L.length lc, .int .i64 f, .int .i64 l] W fun e w' => ∃ o c, e = .returned (.slice o (wo f l L).length c) ∧ Mk W.heap.size w' o c (wo f l L) ∧ Below W.heap.size W w' := by
  obtain ⟨f1, f2, f3⟩ := hf
  have w1 : IntKind.i64.wrap (f - 1) = f - 1 := by rw [IntKind.wrap_i64]; omega
  have w2 : IntKind.i64.wrap (l + 1) = l + 1 := by rw [IntKind.wrap_i64]; omega
  obtain ⟨N, hN⟩ : ∃ N, L.length = N := ⟨_, rfl⟩
  rw [hN] at hn ⊢
  have HLR : Aside _ := hL
  clear hL
  go_enter Try.func25, Try.ntmps25
  go_wp2
  go_loopg [7, 8] N (fun kx s7 s8 wr => ∃ (k : Nat) (o : Option Addr) (c n : Nat), s8 = .int .i64 k ∧ s7 = .slice o n c ∧ k ≤ N ∧ N - k ≤ kx ∧ n = (wo f l (L.take k)).length ∧ Aside (Mk W.heap.size wr o c (wo f l (L.take k))) ∧ Aside (Below W.heap.size W wr))
  case atStart => exact ⟨0, none, 0, 0, rfl, rfl, Nat.zero_le _, by omega, rfl, Mk_nil _ _, Below.refl _ _⟩
  case round =>
    obtain ⟨k, o, c, n, rfl, rfl, hk, hg, hnl, HM, HB⟩ := hrel
    by_cases hlt : k < N
    · have hkL : k < L.length := by omega
      obtain ⟨g, rfl, c0, c1⟩ := row_cells HLR.out k hkL
      have lg : g < W.heap.size := World.block_lt_of_cell? _ _ c0
      have d0 := (HB.out.cell (p := ⟨g, k * 2, none⟩) lg).trans c0
      have d1 := (HB.out.cell (p := ⟨g, k * 2 + 1, none⟩) lg).trans c1
      have hwl := wo_len (f := f) (l := l) (hO.take k)
      have hn2 : n ≤ 65537 := by rw [List.length_take] at hwl; omega
      have HT : Aside _ := wo_take (f := f) (l := l) hkL
      generalize hx : L[k] = x at d0 d1 HT
      obtain ⟨x1, x2⟩ := x
      dsimp only at d0 d1
      have HM1 := HM.out.alloc (.cells #[.int .i64 x1, .int .i64 x2] 50)
      have hz1 : W.heap.size ≤ (wr.alloc (.cells #[.int .i64 x1, .int .i64 x2] 50)).heap.size := by have := HB.out.size; simp; omega
      have HB1 : Aside (Below W.heap.size W (wr.alloc (.cells #[.int .i64 x1, .int .i64 x2] 50))) := HB.out.alloc HB.out.size _
      clear c0 c1
      by_cases h1 : x2 < f ∨ l < x1
      · have e1 : wo1 f l (x1, x2) = [(x1, x2)] := by rw [wo1, if_pos h1]
        obtain ⟨g2, c2, w3, hrun, hM3, hB3, -⟩ := push_row W.heap.size _ o c _ x1 x2 HM1 (by omega) hz1
        rw [← hnl] at hrun
        simp only [World.size_alloc] at hrun
        have HM3 : Aside (Mk W.heap.size w3 (some ⟨g2, 0, none⟩) c2 (wo f l (L.take (k + 1)))) := by rw [HT.out, e1]; exact hM3
        have HB3 : Aside (Below W.heap.size W w3) := HB1.out.trans hB3
        have hl3 : n + 1 = (wo f l (L.take (k + 1))).length := by rw [HT.out, e1, List.length_append, ← hnl]; rfl
        have hb1 : (decide (x2 < f) || decide (l < x1)) = true := by simpa using h1
        have HL3 : Aside _ := hl3
        clear hM3 hB3 HM1 HM hl3 hnl hwl
        by_cases h2 : x2 < f
        · go_wp2_with (at_builtin; refine wpList_append_run rfl (.tmp 30) (.tmp 32) 26 26 rfl (.slice o n c) (.slice (some ⟨wr.heap.size + 1, 0, none⟩) 1 1) rfl rfl (hrun _) ?_)
          go_roundg (N - (k + 1))
          case measure => omega
          case rel => exact ⟨k + 1, _, c2, n + 1, by simp, rfl, by omega, Nat.le_refl _, HL3.out, HM3.out, HB3.out⟩
        · have h3 : l < x1 := by omega
          go_wp2_with (at_builtin; refine wpList_append_run rfl (.tmp 30) (.tmp 32) 26 26 rfl (.slice o n c) (.slice (some ⟨wr.heap.size + 1, 0, none⟩) 1 1) rfl rfl (hrun _) ?_)
          go_roundg (N - (k + 1))
          case measure => omega
          case rel => exact ⟨k + 1, _, c2, n + 1, by simp, rfl, by omega, Nat.le_refl _, HL3.out, HM3.out, HB3.out⟩
      · have hbx : (wr.alloc (.cells #[.int .i64 x1, .int .i64 x2] 50)).heap[wr.heap.size]? = some (.cells #[.int .i64 x1, .int .i64 x2] 50 (0, 0)) := World.alloc_heap_new wr _
        have hno : o ≠ some ⟨wr.heap.size, 0, none⟩ := by
          intro e
          rcases HM.out.1 with ⟨h', _⟩ | ⟨g0, R, h', hA, _⟩
          · rw [h'] at e; cases e
          · rw [h'] at e
            have := hA.lt
            simp at e
        by_cases h2 : x1 < f
        · obtain ⟨g2, c2, w3, hrun, hM3, hB3, hC3⟩ := push_row W.heap.size _ o c _ x1 (f - 1) HM1 (by omega) hz1
          rw [← hnl] at hrun
          simp only [World.size_alloc] at hrun
          have hbx3 := (hC3.2.2.2.2 wr.heap.size (by simp) hno).trans hbx
          have b1 : w3.cell? ⟨wr.heap.size, 1, none⟩ = some (.int .i64 x2) := by simp [World.cell?, hbx3]
          have hz3 : W.heap.size ≤ w3.heap.size := Nat.le_trans hz1 hC3.2.2.2.1
          have hl0 : (wo f l (L.take k) ++ [(x1, f - 1)]).length = n + 1 := by rw [List.length_append, ← hnl]; rfl
          by_cases h3 : l < x2
          · have e1 : wo1 f l (x1, x2) = [(x1, f - 1), (l + 1, x2)] := by rw [wo1, if_neg h1, if_pos h2, if_pos h3]; rfl
            obtain ⟨g4, c4, w4, hrun4, hM4, hB4, -⟩ := push_row W.heap.size w3 _ c2 _ (l + 1) x2 hM3 (by omega) hz3
            rw [hl0] at hrun4
            have HM3 : Aside (Mk W.heap.size w4 (some ⟨g4, 0, none⟩) c4 (wo f l (L.take (k + 1)))) := by
              rw [HT.out, e1, show wo f l (List.take k L) ++ [(x1, f - 1), (l + 1, x2)] = (wo f l (List.take k L) ++ [(x1, f - 1)]) ++ [(l + 1, x2)] by simp]
              exact hM4
            have HB3 : Aside (Below W.heap.size W w4) := (HB1.out.trans hB3).trans hB4
            have HL3 : Aside (n + 1 + 1 = (wo f l (L.take (k + 1))).length) := by rw [HT.out, e1, List.length_append, ← hnl]; rfl
            clear hM3 hB3 HM1 HM hnl hwl hM4 hB4 hl0 hC3 hbx3 hbx
            go_wp2_with (first
              | (at_builtin; refine wpList_append_run rfl (.tmp 38) (.tmp 44) 26 26 rfl (.slice o n c) (.slice (some ⟨wr.heap.size + 1, 0, none⟩) 1 1) rfl rfl (hrun _) ?_)
              | (at_builtin; refine wpList_append_run rfl (.tmp 50) (.tmp 56) 26 26 rfl (.slice (some ⟨g2, 0, none⟩) (n + 1) c2) (.slice (some ⟨w3.heap.size, 0, none⟩) 1 1) rfl rfl (hrun4 _) ?_))
            go_roundg (N - (k + 1))
            case measure => omega
            case rel => exact ⟨k + 1, _, c4, n + 1 + 1, by simp, rfl, by omega, Nat.le_refl _, HL3.out, HM3.out, HB3.out⟩
          · have e1 : wo1 f l (x1, x2) = [(x1, f - 1)] := by rw [wo1, if_neg h1, if_pos h2, if_neg h3]; rfl
            have HM3 : Aside (Mk W.heap.size w3 (some ⟨g2, 0, none⟩) c2 (wo f l (L.take (k + 1)))) := by rw [HT.out, e1]; exact hM3
            have HB3 : Aside (Below W.heap.size W w3) := HB1.out.trans hB3
            have HL3 : Aside (n + 1 = (wo f l (L.take (k + 1))).length) := by rw [HT.out, e1, List.length_append, ← hnl]; rfl
            clear hM3 hB3 HM1 HM hnl hwl hl0 hC3 hbx3 hbx
            go_wp2_with (at_builtin; refine wpList_append_run rfl (.tmp 38) (.tmp 44) 26 26 rfl (.slice o n c) (.slice (some ⟨wr.heap.size + 1, 0, none⟩) 1 1) rfl rfl (hrun _) ?_)
            go_roundg (N - (k + 1))
            case measure => omega
            case rel => exact ⟨k + 1, _, c2, n + 1, by simp, rfl, by omega, Nat.le_refl _, HL3.out, HM3.out, HB3.out⟩
        · by_cases h3 : l < x2
          · have e1 : wo1 f l (x1, x2) = [(l + 1, x2)] := by rw [wo1, if_neg h1, if_neg h2, if_pos h3]; rfl
            obtain ⟨g2, c2, w3, hrun, hM3, hB3, hC3⟩ := push_row W.heap.size _ o c _ (l + 1) x2 HM1 (by omega) hz1
            rw [← hnl] at hrun
            simp only [World.size_alloc] at hrun
            have HM3 : Aside (Mk W.heap.size w3 (some ⟨g2, 0, none⟩) c2 (wo f l (L.take (k + 1)))) := by rw [HT.out, e1]; exact hM3
            have HB3 : Aside (Below W.heap.size W w3) := HB1.out.trans hB3
            have HL3 : Aside (n + 1 = (wo f l (L.take (k + 1))).length) := by rw [HT.out, e1, List.length_append, ← hnl]; rfl
            clear hM3 hB3 HM1 HM hnl hwl hC3 hbx
            go_wp2_with (at_builtin; refine wpList_append_run rfl (.tmp 50) (.tmp 56) 26 26 rfl (.slice o n c) (.slice (some ⟨wr.heap.size + 1, 0, none⟩) 1 1) rfl rfl (hrun _) ?_)
            go_roundg (N - (k + 1))
            case measure => omega
            case rel => exact ⟨k + 1, _, c2, n + 1, by simp, rfl, by omega, Nat.le_refl _, HL3.out, HM3.out, HB3.out⟩
          · have e1 : wo1 f l (x1, x2) = [] := by rw [wo1, if_neg h1, if_neg h2, if_neg h3]; rfl
            have HM3 : Aside (Mk W.heap.size (wr.alloc (.cells #[.int .i64 x1, .int .i64 x2] 50)) o c (wo f l (L.take (k + 1)))) := by rw [HT.out, e1, List.append_nil]; exact HM1
            have HL3 : Aside (n = (wo f l (L.take (k + 1))).length) := by rw [HT.out, e1, List.append_nil]; exact hnl
            clear HM1 HM hnl hwl hbx
            go_wp2
            go_roundg (N - (k + 1))
            case measure => omega
            case rel => exact ⟨k + 1, _, c, n, by simp, rfl, by omega, Nat.le_refl _, HL3.out, HM3.out, HB1.out⟩
    · obtain rfl : k = N := by omega
      have eL : L.take k = L := by rw [← hN]; exact List.take_length
      rw [eL] at HM hnl
      subst hnl
      go_wp2
      go_ret
      exact ⟨o, c, rfl, HM.out, HB.out⟩
end Go.Proofs.Ytgmhlmficnkhgaa
