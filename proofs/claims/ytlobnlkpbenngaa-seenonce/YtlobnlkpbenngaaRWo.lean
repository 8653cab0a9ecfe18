/- Spans without some numbers, as the reference makes them; how many spans Add and Remove leave. -/
import Derived.Test.YtlobnlkpbenngaaRLst
namespace Go.Proofs.YtlobnlkpbenngaaR
set_option linter.unusedVariables false

/-- One span without the numbers from f to l. -/
def wo1 (f l : Int) (x : Int × Int) : List (Int × Int) :=
  if x.2 < f ∨ l < x.1 then [x] else (if x.1 < f then [(x.1, f - 1)] else []) ++ (if l < x.2 then [(l + 1, x.2)] else [])
def wo (f l : Int) : List (Int × Int) → List (Int × Int)
  | [] => []
  | x :: t => wo1 f l x ++ wo f l t

set_option maxRecDepth 100000 in
theorem wo_append (f l : Int) (A B : List (Int × Int)) : wo f l (A ++ B) = wo f l A ++ wo f l B := by
  induction A with
  | nil => rfl
  | cons x t ih => simp [wo, ih]
set_option maxRecDepth 100000 in
theorem wo1_in (f l : Int) (x : Int × Int) (n : Int) : In n (wo1 f l x) ↔ (x.1 ≤ n ∧ n ≤ x.2) ∧ ¬ (f ≤ n ∧ n ≤ l) := by
  unfold wo1
  split
  · rw [In_cons]; simp only [In_nil, or_false]; omega
  · rw [In_append]
    have e1 : In n (if x.1 < f then [(x.1, f - 1)] else []) ↔ x.1 < f ∧ x.1 ≤ n ∧ n ≤ f - 1 := by
      split
      · rw [In_cons]; simp only [In_nil, or_false]; omega
      · simp only [In_nil, false_iff]; omega
    have e2 : In n (if l < x.2 then [(l + 1, x.2)] else []) ↔ l < x.2 ∧ l + 1 ≤ n ∧ n ≤ x.2 := by
      split
      · rw [In_cons]; simp only [In_nil, or_false]; omega
      · simp only [In_nil, false_iff]; omega
    rw [e1, e2]
    omega
set_option maxRecDepth 100000 in
theorem wo_in (f l : Int) (L : List (Int × Int)) (n : Int) : In n (wo f l L) ↔ In n L ∧ ¬ (f ≤ n ∧ n ≤ l) := by
  induction L with
  | nil => simp [wo, In_nil]
  | cons x t ih =>
    rw [wo, In_append, ih, wo1_in, In_cons]
    constructor
    · rintro (h | h)
      · exact ⟨.inl h.1, h.2⟩
      · exact ⟨.inr h.1, h.2⟩
    · rintro ⟨h | h, h2⟩
      · exact .inl ⟨h, h2⟩
      · exact .inr ⟨h, h2⟩
set_option maxRecDepth 100000 in
theorem wo1_mem {f l : Int} {x p : Int × Int} (hx : x.1 ≤ x.2) (h : p ∈ wo1 f l x) : x.1 ≤ p.1 ∧ p.1 ≤ p.2 ∧ p.2 ≤ x.2 := by
  unfold wo1 at h
  split at h
  · simp only [List.mem_singleton] at h; subst h; exact ⟨Int.le_refl _, hx, Int.le_refl _⟩
  · rcases List.mem_append.1 h with h | h
    · split at h
      · simp only [List.mem_singleton] at h; subst h; refine ⟨Int.le_refl _, ?_, ?_⟩ <;> simp only <;> omega
      · cases h
    · split at h
      · simp only [List.mem_singleton] at h; subst h; refine ⟨?_, ?_, Int.le_refl _⟩ <;> simp only <;> omega
      · cases h
set_option maxRecDepth 100000 in
theorem wo_mem {f l : Int} {L : List (Int × Int)} {p : Int × Int} (hL : ∀ q ∈ L, q.1 ≤ q.2) (h : p ∈ wo f l L) : ∃ q ∈ L, q.1 ≤ p.1 ∧ p.1 ≤ p.2 ∧ p.2 ≤ q.2 := by
  induction L with
  | nil => cases h
  | cons x t ih =>
    rcases List.mem_append.1 h with h | h
    · exact ⟨x, List.mem_cons_self, wo1_mem (hL x List.mem_cons_self) h⟩
    · obtain ⟨q, hq, hh⟩ := ih (fun q hq => hL q (List.mem_cons_of_mem _ hq)) h
      exact ⟨q, List.mem_cons_of_mem _ hq, hh⟩
set_option maxRecDepth 100000 in
theorem wo1_ok {f l : Int} {x : Int × Int} (hfl : f ≤ l) (hx : 0 ≤ x.1 ∧ x.1 ≤ x.2 ∧ x.2 ≤ 4611686018427387903) : Ok (wo1 f l x) := by
  refine ⟨?_, fun p hp => ?_⟩
  · unfold wo1
    split
    · exact List.pairwise_singleton _ _
    · split <;> split <;> simp <;> omega
  · have := wo1_mem hx.2.1 hp; omega
set_option maxRecDepth 100000 in
theorem wo_ok {f l : Int} {L : List (Int × Int)} (hfl : f ≤ l) (h : Ok L) : Ok (wo f l L) := by
  induction L with
  | nil => exact Ok_nil
  | cons x t ih =>
    obtain ⟨hx, hxt, ht⟩ := Ok_cons.1 h
    refine Ok_append.2 ⟨wo1_ok hfl hx, ih ht, fun p hp q hq => ?_⟩
    have a := wo1_mem hx.2.1 hp
    obtain ⟨r, hr, b⟩ := wo_mem (fun q hq => (ht.2 q hq).2.1) hq
    have := hxt r hr
    omega
set_option maxRecDepth 100000 in
theorem wo_above {f l : Int} {L : List (Int × Int)} (h : ∀ p ∈ L, l < p.1) : wo f l L = L := by
  induction L with
  | nil => rfl
  | cons x t ih =>
    have := h x List.mem_cons_self
    rw [wo, ih (fun p hp => h p (List.mem_cons_of_mem _ hp)), wo1, if_pos (.inr this)]
    rfl
set_option maxRecDepth 100000 in
theorem wo_len {f l : Int} {L : List (Int × Int)} (h : Ok L) : (wo f l L).length ≤ L.length + 1 := by
  induction L with
  | nil => simp [wo]
  | cons x t ih =>
    obtain ⟨hx, hxt, ht⟩ := Ok_cons.1 h
    have := ih ht
    rw [wo, List.length_append]
    by_cases hc : x.1 < f ∧ l < x.2
    · rw [wo_above (fun p hp => by have := hxt p hp; omega)]
      have : (wo1 f l x).length ≤ 2 := by
        unfold wo1
        split
        · simp
        · split <;> split <;> simp
      simp only [List.length_cons]; omega
    · have : (wo1 f l x).length ≤ 1 := by
        unfold wo1
        split
        · simp
        · split <;> split <;> simp <;> omega
      simp only [List.length_cons]; omega
set_option maxRecDepth 100000 in
/-- Remove leaves one span more at most. -/
theorem rem_len {f l : Int} {L M : List (Int × Int)} (hfl : f ≤ l) (h : Ok L) (hM : Ok M) (hm : ∀ n, In n M ↔ In n L ∧ ¬ (f ≤ n ∧ n ≤ l)) : M.length ≤ L.length + 1 := by
  have e : M = wo f l L := Ok_ext hM (wo_ok hfl h) (fun n => by rw [hm n, wo_in])
  rw [e]
  exact wo_len h
set_option maxRecDepth 100000 in
theorem low_of (D : List (Int × Int)) (f : Int) : ∃ x, x ≤ f ∧ (x = f ∨ ∃ p ∈ D, p.1 = x) ∧ ∀ p ∈ D, x ≤ p.1 := by
  induction D with
  | nil => exact ⟨f, Int.le_refl _, .inl rfl, (fun p hp => nomatch hp)⟩
  | cons q t ih =>
    obtain ⟨x, h1, h2, h3⟩ := ih
    by_cases hq : q.1 < x
    · refine ⟨q.1, by omega, .inr ⟨q, List.mem_cons_self, rfl⟩, fun p hp => ?_⟩
      rcases List.mem_cons.1 hp with rfl | hp
      · exact Int.le_refl _
      · have := h3 p hp; omega
    · refine ⟨x, h1, ?_, fun p hp => ?_⟩
      · rcases h2 with h2 | ⟨p, hp, e⟩
        · exact .inl h2
        · exact .inr ⟨p, List.mem_cons_of_mem _ hp, e⟩
      · rcases List.mem_cons.1 hp with rfl | hp
        · omega
        · exact h3 p hp
set_option maxRecDepth 100000 in
theorem high_of (D : List (Int × Int)) (l : Int) : ∃ y, l ≤ y ∧ (y = l ∨ ∃ p ∈ D, p.2 = y) ∧ ∀ p ∈ D, p.2 ≤ y := by
  induction D with
  | nil => exact ⟨l, Int.le_refl _, .inl rfl, (fun p hp => nomatch hp)⟩
  | cons q t ih =>
    obtain ⟨x, h1, h2, h3⟩ := ih
    by_cases hq : x < q.2
    · refine ⟨q.2, by omega, .inr ⟨q, List.mem_cons_self, rfl⟩, fun p hp => ?_⟩
      rcases List.mem_cons.1 hp with rfl | hp
      · exact Int.le_refl _
      · have := h3 p hp; omega
    · refine ⟨x, h1, ?_, fun p hp => ?_⟩
      · rcases h2 with h2 | ⟨p, hp, e⟩
        · exact .inl h2
        · exact .inr ⟨p, List.mem_cons_of_mem _ hp, e⟩
      · rcases List.mem_cons.1 hp with rfl | hp
        · omega
        · exact h3 p hp
set_option maxRecDepth 100000 in
/-- Add leaves one span more at most. -/
theorem add_len {f l : Int} {L M : List (Int × Int)} (hf : 0 ≤ f) (hfl : f ≤ l) (hl : l ≤ 4611686018427387903) (h : Ok L) (hM : Ok M) (hm : ∀ n, In n M ↔ In n L ∨ (f ≤ n ∧ n ≤ l)) : M.length ≤ L.length + 1 := by
  obtain ⟨A, D, B, rfl, hA, hD, hB⟩ := parts L (f - 1) (l + 1) h (by omega)
  obtain ⟨x, hx⟩ := low_of D f
  obtain ⟨y, hy⟩ := high_of D l
  obtain ⟨k1, k2⟩ := add_ok A D B f l h hf hfl hl hA hD hB x y hx hy
  have e : M = A ++ [(x, y)] ++ B := Ok_ext hM k1 (fun n => by rw [hm n, k2 n])
  rw [e]
  simp only [List.length_append, List.length_singleton]
  omega
end Go.Proofs.YtlobnlkpbenngaaR
