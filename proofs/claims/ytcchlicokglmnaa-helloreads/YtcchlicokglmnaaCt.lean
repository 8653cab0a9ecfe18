/- hello.cut: the kind and the body of the message at a place. -/
import Derived.Test.YtcchlicokglmnaaDr
import Derived.Test.YtcchlicokglmnaaDs
namespace Go.Proofs.Ytcchlicokglmnaa
open Go.ChangeShapes Go.WideShapes Go.ChangeAt Go.RowKit Go.Lib
set_option linter.unusedVariables false

/-- The error of cut. -/
def cutE (L : List UInt8) (a : Int) : Int :=
  if getE L a 1 ≠ 0 then getE L a 1 else if getE L (a + 1) 3 ≠ 0 then getE L (a + 1) 3 else if (L.length : Int) - (a + 4) < getV L (a + 1) 3 then 10 else 0
/-- How many bytes the body has. -/
def cutN (L : List UInt8) (a : Int) : Nat := (getV L (a + 1) 3).toNat
def CutR (o : Option Addr) (L : List UInt8) (c : Nat) (a : Int) (w : World) (e : Ending) (w' : World) : Prop :=
  Below w.heap.size w w' ∧ (cutE L a ≠ 0 → e = .returned (.tuple #[.int .i64 0, .slice none 0 0, .int .i64 (cutE L a)])) ∧
  (cutE L a = 0 → ∃ o2 c2, e = .returned (.tuple #[.int .i64 (getV L a 1), .slice o2 (cutN L a) c2, .int .i64 0]) ∧ 0 ≤ a ∧ a.toNat + 4 + cutN L a ≤ L.length ∧ Sl w o2 (sub L (a.toNat + 4) (cutN L a)) ∧ cutN L a ≤ c2 ∧ c2 ≤ c ∧ o2 ≠ none ∧ ∀ x, o2 = some x → ∃ y, o = some y ∧ x.block = y.block)
theorem bld0 (w : World) : Below w.heap.size w w.drew := ⟨rfl, rfl, rfl, Nat.le_refl _, fun _ _ => rfl⟩
section
variable {w : World} {o : Option Addr} {L : List UInt8} {c : Nat} {a : Int}
theorem getE_0 {n : Nat} (h : getE L a n = 0) : 0 ≤ a ∧ a + n ≤ L.length := by
  unfold getE at h
  split at h
  · cases h
  · split at h
    · omega
    · cases h
set_option maxRecDepth 10000 in
set_option maxHeartbeats 1000000 in
theorem cut_c (hs : Sl w o L) (hL : L.length ≤ 9223372036854775000) (hc : L.length ≤ c) (hc63 : c ≤ 9223372036854775807) : Calls Try.prog 22 #[.slice o L.length c, .int .i64 a] w (CutR o L c a w) := by
  have HG1 : Hid (∀ X, Below w.heap.size w X → Calls Try.prog 36 #[.slice o L.length c, .int .i64 a, .int .i64 1] X fun e w' => e = .returned (.tuple #[.int .u64 (getV L a 1), .int .i64 (getN L a 1), .int .i64 (getE L a 1)]) ∧ w' = X) := fun X hX => get_c o L c a 1 X (Sl_bel hs hX) hL (by decide) (by decide)
  have HG2 : Hid (∀ X, Below w.heap.size w X → Calls Try.prog 36 #[.slice o L.length c, .int .i64 (a + 1), .int .i64 3] X fun e w' => e = .returned (.tuple #[.int .u64 (getV L (a + 1) 3), .int .i64 (getN L (a + 1) 3), .int .i64 (getE L (a + 1) 3)]) ∧ w' = X) := fun X hX => get_c o L c (a + 1) 3 X (Sl_bel hs hX) hL (by decide) (by decide)
  have HS : Hid (Sl w o L) := hs
  clear hs
  by_cases e1 : getE L a 1 = 0
  · have f1 := getE_0 e1
    have n1 : getN L a 1 = a + 1 := by unfold getN; rw [if_pos f1]; rfl
    have v1 : 0 ≤ getV L a 1 ∧ getV L a 1 < 256 := by
      unfold getV; rw [if_pos f1]
      have h1 := num_lt (sub L a.toNat 1)
      have h2 : (sub L a.toNat 1).length ≤ 1 := by simp [sub]; omega
      have h3 : 256 ^ (sub L a.toNat 1).length ≤ 256 ^ 1 := Nat.pow_le_pow_right (by decide) (by omega)
      omega
    rw [e1, n1] at HG1
    by_cases e2 : getE L (a + 1) 3 = 0
    · have f2 := getE_0 e2
      have n2 : getN L (a + 1) 3 = a + 4 := by unfold getN; rw [if_pos f2]; omega
      rw [e2, n2] at HG2
      have v2 : 0 ≤ getV L (a + 1) 3 ∧ getV L (a + 1) 3 < 16777216 := by
        unfold getV; rw [if_pos f2]
        have h1 := num_lt (sub L (a + 1).toNat 3)
        have h2 : (sub L (a + 1).toNat 3).length ≤ 3 := by simp [sub]; omega
        have h3 : 256 ^ (sub L (a + 1).toNat 3).length ≤ 256 ^ 3 := Nat.pow_le_pow_right (by decide) (by omega)
        omega
      have w1 : IntKind.i64.wrap ((L.length : Int) - (a + 4)) = (L.length : Int) - (a + 4) := by rw [IntKind.wrap_i64]; omega
      have w2 : IntKind.i64.wrap (getV L (a + 1) 3) = getV L (a + 1) 3 := by rw [IntKind.wrap_i64]; omega
      have w3 : IntKind.i64.wrap (getV L a 1) = getV L a 1 := by rw [IntKind.wrap_i64]; omega
      by_cases e3 : (L.length : Int) - (a + 4) < getV L (a + 1) 3
      · have hE : cutE L a = 10 := by unfold cutE; simp [e1, e2, e3]
        have HF : Hid (∀ X, Below w.heap.size w X → CutR o L c a w (.returned (.tuple #[.int .i64 0, .slice none 0 0, .int .i64 10])) X) := fun X hX => ⟨hX, fun _ => by rw [hE], fun h => by rw [hE] at h; cases h⟩
        have e3d : decide ((L.length : Int) - (a + 4) < getV L (a + 1) 3) = true := decide_eq_true e3
        clear e1 e2 hE HS n1 n2
        generalize getV L (a + 1) 3 = V2 at *
        generalize getV L a 1 = V1 at *
        generalize CutR o L c a w = R at *
        generalize L.length = LN at *
        as_aux_lemma =>
        go_enter Try.func22, Try.ntmps22
        go_wp2_with fail
        refine (HG1.out _ (Below.refl _ _)).mono ?_
        rintro e w1 ⟨rfl, rfl⟩
        go_wp2_with fail
        refine (HG2.out _ (Below.refl _ _)).mono ?_
        rintro e w1 ⟨rfl, rfl⟩
        go_wp2_with fail
        refine bodyPost_ret (results_tmp3 (fn := Try.f22) (t := 4) (u := 5) (v := 6) rfl _ _ _) rfl ?_
        exact HF.out _ (Below.refl _ _)
      · have hE : cutE L a = 0 := by unfold cutE; simp [e1, e2, e3]
        have e3d : decide ((L.length : Int) - (a + 4) < getV L (a + 1) 3) = false := decide_eq_false e3
        obtain ⟨an, han⟩ : ∃ an : Nat, (an : Int) = a + 4 := ⟨(a + 4).toNat, by omega⟩
        obtain ⟨n, hn⟩ : ∃ n : Nat, (n : Int) = getV L (a + 1) 3 := ⟨(getV L (a + 1) 3).toNat, by omega⟩
        have hcn : cutN L a = n := by unfold cutN; omega
        obtain ⟨bn, hbn⟩ : ∃ bn : Nat, an + n = bn := ⟨_, rfl⟩
        have w4 : IntKind.i64.wrap ((an : Int) + (n : Int)) = (bn : Int) := by rw [IntKind.wrap_i64]; omega
        have b1 : an ≤ bn := by omega
        have b1' : (an : Int) ≤ (bn : Int) := by omega
        have b2 : bn ≤ c := by omega
        have b2' : (bn : Int) ≤ (c : Int) := by omega
        have b3 : (0 : Int) ≤ (an : Int) := by omega
        have b4 : (0 : Int) ≤ (bn : Int) := by omega
        have b5 : (an : Int) ≤ (c : Int) := by omega
        have hae : a.toNat + 4 = an := by omega
        obtain ⟨ad, rfl⟩ : ∃ ad, o = some ad := by
          obtain ⟨b, off, e, _⟩ := HS.out 0 (by omega)
          exact ⟨_, e⟩
        obtain ⟨o2, ho2⟩ : ∃ o2, (if c = an then some ad else some (ad.add an)) = o2 := ⟨_, rfl⟩
        have HF : Hid (∀ X, Below w.heap.size w X → CutR (some ad) L c a w (.returned (.tuple #[.int .i64 (getV L a 1), .slice o2 (bn - an) (c - an), .int .i64 0])) X) := by
          intro X hX
          refine ⟨hX, fun h => absurd hE h, fun _ => ⟨o2, c - an, ?_, by omega, by omega, ?_, by omega, by omega, ?_, ?_⟩⟩
          · rw [hcn]; have : bn - an = n := by omega
            rw [this]
          · rw [hcn, hae]
            intro j hj
            have hsl : (sub L an n).length = n := sub_length L an n (by omega)
            rw [hsl] at hj
            have hne : ¬ c = an := by omega
            rw [if_neg hne] at ho2
            obtain ⟨b, off, e, hcc⟩ := HS.out (an + j) (by omega)
            cases e
            refine ⟨b, off + an, ?_, ?_⟩
            · rw [← ho2, add_none]
            · rw [Nat.add_assoc, hcc]
              simp [sub]
          · intro e
            rw [e] at ho2
            split at ho2 <;> cases ho2
          · intro x hx
            rw [hx] at ho2
            refine ⟨ad, rfl, ?_⟩
            split at ho2
            · injection ho2 with ho2; rw [ho2]
            · injection ho2 with ho2; rw [← ho2]; unfold Addr.add; split <;> rfl
        have e3' : ¬ (L.length : Int) - (an : Int) < (n : Int) := by omega
        rw [← han] at HG2 w1 e3d
        rw [← hn] at HG2 w2 e3d
        clear e1 e2 hE HS n1 n2 e3 hcn hae hbn
        generalize getV L a 1 = V1 at *
        generalize CutR (some ad) L c a w = R at *
        clear v2 hn f1 f2 han
        generalize L.length = LN at *
        as_aux_lemma =>
        go_enter Try.func22, Try.ntmps22
        go_wp2_with fail
        refine (HG1.out _ (Below.refl _ _)).mono ?_
        rintro e w1 ⟨rfl, rfl⟩
        go_wp2_with fail
        refine (HG2.out _ (Below.refl _ _)).mono ?_
        rintro e w1 ⟨rfl, rfl⟩
        go_wp2_with fail
        go_region_held3 (fun _ => True) (trivial) (fail)
        go_wp2_with fail
        refine bodyPost_ret (results_tmp3 (fn := Try.f22) (t := 4) (u := 5) (v := 6) rfl _ _ _) rfl ?_
        exact HF.out _ (bld0 _)
    · have hE : cutE L a = getE L (a + 1) 3 := by unfold cutE; simp [e1, e2]
      have HF : Hid (∀ X, Below w.heap.size w X → CutR o L c a w (.returned (.tuple #[.int .i64 0, .slice none 0 0, .int .i64 (getE L (a + 1) 3)])) X) := fun X hX => ⟨hX, fun _ => by rw [hE], fun h => by rw [hE] at h; exact absurd h e2⟩
      clear e1 hE HS n1
      generalize getN L (a + 1) 3 = N2 at *
      generalize getE L (a + 1) 3 = E2 at *
      generalize getV L (a + 1) 3 = V2 at *
      generalize getV L a 1 = V1 at *
      generalize CutR o L c a w = R at *
      generalize L.length = LN at *
      as_aux_lemma =>
      go_enter Try.func22, Try.ntmps22
      go_wp2_with fail
      refine (HG1.out _ (Below.refl _ _)).mono ?_
      rintro e w1 ⟨rfl, rfl⟩
      go_wp2_with fail
      refine (HG2.out _ (Below.refl _ _)).mono ?_
      rintro e w1 ⟨rfl, rfl⟩
      go_wp2_with fail
      refine bodyPost_ret (results_tmp3 (fn := Try.f22) (t := 4) (u := 5) (v := 6) rfl _ _ _) rfl ?_
      exact HF.out _ (Below.refl _ _)
  · have hE : cutE L a = getE L a 1 := by unfold cutE; simp [e1]
    have HF : Hid (∀ X, Below w.heap.size w X → CutR o L c a w (.returned (.tuple #[.int .i64 0, .slice none 0 0, .int .i64 (getE L a 1)])) X) := fun X hX => ⟨hX, fun _ => by rw [hE], fun h => by rw [hE] at h; exact absurd h e1⟩
    clear hE HS HG2
    generalize getN L a 1 = N1 at *
    generalize getE L a 1 = E1 at *
    generalize getV L a 1 = V1 at *
    generalize CutR o L c a w = R at *
    generalize L.length = LN at *
    as_aux_lemma =>
    go_enter Try.func22, Try.ntmps22
    go_wp2_with fail
    refine (HG1.out _ (Below.refl _ _)).mono ?_
    rintro e w1 ⟨rfl, rfl⟩
    go_wp2_with fail
    refine bodyPost_ret (results_tmp3 (fn := Try.f22) (t := 4) (u := 5) (v := 6) rfl _ _ _) rfl ?_
    exact HF.out _ (Below.refl _ _)
end
end Go.Proofs.Ytcchlicokglmnaa
