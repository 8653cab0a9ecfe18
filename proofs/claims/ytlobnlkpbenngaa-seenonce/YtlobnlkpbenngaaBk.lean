/- slices.Backward over spans and over parts: the iterators. -/
import Derived.Test.YtlobnlkpbenngaaRg
import Derived.Test.YtlobnlkpbenngaaNu
import Derived.Sort.LoopGhostIn
namespace Go.Proofs.YtlobnlkpbenngaaR
open Go.RowKit Go.Shelf Go.Lib
set_option linter.unusedVariables false

attribute [local go_sem] Oper.semAt_some

/-- What an iterator over N things answers. -/
def ItP (J Jx : Nat → World → Prop) (N : Nat) (e : Ending) (W' : World) : Prop := (∃ v, e = .returned v) ∧ (J N W' ∨ ∃ k, k ≤ N ∧ Jx k W')
/-- What yield answers of the k-th. -/
def YQ (J Jx : Nat → World → Prop) (k : Nat) (e : Ending) (W' : World) : Prop := (e = .returned (.bool true) ∧ J (k + 1) W') ∨ (e = .returned (.bool false) ∧ Jx (k + 1) W')

set_option maxRecDepth 100000 in
set_option maxHeartbeats 1000000 in
theorem back_spans (Bs q c N l : Nat) (L : List (Int × Int)) (hN : L.length = N) (E : Nat → Int × Int) (hE : ∀ k, k < N → L[N - 1 - k]? = some (E k)) (J Jx : Nat → World → Prop) (W : World)
    (hF : ∀ k W, J k W → W.cell? ⟨Bs, 0, none⟩ = some (.slice (some ⟨q, 0, none⟩) N c) ∧ ∃ R, At W q (fl L ++ R)) (hsz : N ≤ 70000)
    (hY : ∀ k W1, k < N → J k W1 → YieldAt Fence.wide 0 Try.prog l #[.int .i64 ((N : Int) - 1 - k), .agg #[.int .i64 (E k).1, .int .i64 (E k).2]] W1 (YQ J Jx k)) (h0 : J 0 W) :
    CallsIn Fence.wide 0 Try.prog 71 #[.func (.yield l) #[] #[], .pointer (some ⟨Bs, 0, none⟩)] W (ItP J Jx N) := by
  have HF : Aside _ := hF
  have HY : Aside _ := hY
  have HE : Aside _ := hE
  have c0 := (hF 0 W h0).1
  have H0 : Aside _ := h0
  clear hF hY hE h0
  refine callsIn_of_wp Try.func71 rfl trivial ?_ rfl
  simp only [Try.ntmps71, List.size_toArray, List.length_cons, List.length_nil, Nat.reduceAdd, Nat.reduceSub, Array.replicate_succ, Array.replicate_zero, List.push_toArray, List.append_toArray, List.nil_append, List.cons_append]
  gi_wp2
  gi_loopg [3] N (fun kx s3 wr => ∃ k : Nat, s3 = .int .i64 ((N : Int) - 1 - k) ∧ k ≤ N ∧ N - k ≤ kx ∧ Aside (J k wr))
  case atStart => exact ⟨0, by simp, Nat.zero_le _, by omega, H0.out⟩
  case round =>
    obtain ⟨k, rfl, hk, hg, HJ⟩ := hrel
    clear c0 H0
    obtain ⟨c1, R, hA⟩ := HF.out k wr HJ.out
    by_cases hlt : k < N
    · have hi : N - 1 - k < L.length := by omega
      obtain ⟨cm, cm'⟩ := cells_at hA (N - 1 - k) hi
      have e0 := HE.out k hlt
      rw [List.getElem?_eq_getElem hi] at e0
      have e1 : L[N - 1 - k] = E k := by simpa using e0
      rw [e1] at cm cm'
      obtain ⟨fn, tmps, assign, body, hy, hR'⟩ := HY.out k wr hlt HJ.out
      obtain ⟨i, hii⟩ : ∃ i : Nat, N - 1 - k = i := ⟨_, rfl⟩
      have hiI : (N : Int) - 1 - k = (i : Int) := by omega
      rw [hii] at cm cm'
      rw [hiI] at hy ⊢
      have hiN : i < N := by omega
      have hkN : k + 1 + i = N := by omega
      generalize (E k).1 = xa at *
      generalize (E k).2 = xb at *
      clear hA e0 e1 hi hii
      have HI : Aside _ := hiI
      clear hiI
      gi_wp2
      refine ⟨rfl, hR'.mono ?_⟩
      rintro e W3 (⟨rfl, hJ3⟩ | ⟨rfl, hJx3⟩)
      · have HJ3 : Aside _ := hJ3
        clear hJ3 hR' hy
        gi_wp2
        gi_roundg (N - (k + 1))
        case measure => omega
        case rel => exact ⟨k + 1, by have := HI.out; congr 1; omega, by omega, Nat.le_refl _, HJ3.out⟩
      · have HJx : Aside _ := hJx3
        clear hJx3 hR' hy
        gi_wp2
        refine bodyPost_ret (results_none rfl _ _ _) rfl ?_
        exact ⟨⟨_, rfl⟩, .inr ⟨k + 1, by omega, HJx.out⟩⟩
    · obtain rfl : k = N := by omega
      have hneg : ¬ (0 : Int) ≤ (k : Int) - 1 - k := by omega
      gi_wp2
      go_end0
      exact ⟨⟨_, rfl⟩, .inl HJ.out⟩

set_option maxRecDepth 100000 in
theorem back_none (Bs l c : Nat) (J Jx : Nat → World → Prop) (W : World) (hF : W.cell? ⟨Bs, 0, none⟩ = some (.slice none 0 c)) (h0 : J 0 W) :
    CallsIn Fence.wide 0 Try.prog 71 #[.func (.yield l) #[] #[], .pointer (some ⟨Bs, 0, none⟩)] W (ItP J Jx 0) := by
  have H0 : Aside _ := h0
  clear h0
  refine callsIn_of_wp Try.func71 rfl trivial ?_ rfl
  simp only [Try.ntmps71, List.size_toArray, List.length_cons, List.length_nil, Nat.reduceAdd, Nat.reduceSub, Array.replicate_succ, Array.replicate_zero, List.push_toArray, List.append_toArray, List.nil_append, List.cons_append]
  refine wpIn_wide.2 ?_
  go_wp2
  refine wp_loop_rounds 1 ?_
  rw [rounds_succ]
  go_wp2
  go_end0
  exact ⟨⟨_, rfl⟩, .inl H0.out⟩

set_option maxRecDepth 100000 in
set_option maxHeartbeats 1000000 in
/-- .. over the one part. -/
theorem back_part (Bs q l T c : Nat) (f : Int) (J Jx : Nat → World → Prop) (W : World) (hF : ∀ W, J 0 W → W.cell? ⟨Bs, 0, none⟩ = some (.slice (some ⟨q, 0, none⟩) 1 c) ∧ W.cell? ⟨q, 0, none⟩ = some (.int .i64 f) ∧ W.cell? ⟨q, 1, none⟩ = some (.pointer (some ⟨T, 0, none⟩)))
    (hY : ∀ W1, J 0 W1 → YieldAt Fence.wide 0 Try.prog l #[.int .i64 0, .agg #[.int .i64 f, .pointer (some ⟨T, 0, none⟩)]] W1 (YQ J Jx 0)) (h0 : J 0 W) :
    CallsIn Fence.wide 0 Try.prog 70 #[.func (.yield l) #[] #[], .pointer (some ⟨Bs, 0, none⟩)] W (ItP J Jx 1) := by
  have HF : Aside _ := hF
  have HY : Aside _ := hY
  have c0 := (hF W h0).1
  have H0 : Aside _ := h0
  clear hF hY h0
  refine callsIn_of_wp Try.func70 rfl trivial ?_ rfl
  simp only [Try.ntmps70, List.size_toArray, List.length_cons, List.length_nil, Nat.reduceAdd, Nat.reduceSub, Array.replicate_succ, Array.replicate_zero, List.push_toArray, List.append_toArray, List.nil_append, List.cons_append]
  gi_wp2
  gi_loopg [3] 1 (fun kx s3 wr => ∃ k : Nat, s3 = .int .i64 (-k : Int) ∧ k ≤ 1 ∧ 1 - k ≤ kx ∧ Aside (J k wr))
  case atStart => exact ⟨0, by simp, Nat.zero_le _, by omega, H0.out⟩
  case round =>
    obtain ⟨k, rfl, hk, hg, HJ⟩ := hrel
    clear c0 H0
    rcases k with _ | _ | k
    · obtain ⟨c1, c2, c3⟩ := HF.out wr HJ.out
      obtain ⟨fn, tmps, assign, body, hy, hR'⟩ := HY.out wr HJ.out
      gi_wp2
      refine ⟨rfl, hR'.mono ?_⟩
      rintro e W3 (⟨rfl, hJ3⟩ | ⟨rfl, hJx3⟩)
      · have HJ3 : Aside _ := hJ3
        clear hJ3 hR' hy
        gi_wp2
        gi_roundg 0
        case measure => omega
        case rel => exact ⟨1, by simp, by omega, by omega, HJ3.out⟩
      · have HJx : Aside _ := hJx3
        clear hJx3 hR' hy
        gi_wp2
        refine bodyPost_ret (results_none rfl _ _ _) rfl ?_
        exact ⟨⟨_, rfl⟩, .inr ⟨1, by omega, HJx.out⟩⟩
    · gi_wp2
      go_end0
      exact ⟨⟨_, rfl⟩, .inl HJ.out⟩
    · omega
end Go.Proofs.YtlobnlkpbenngaaR
