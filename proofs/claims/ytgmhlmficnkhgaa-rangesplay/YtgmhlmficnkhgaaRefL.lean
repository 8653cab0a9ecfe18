/- Lists of spans that may touch, and what joining those makes of them. -/
import Derived.Test.YtgmhlmficnkhgaaWo
namespace Go.Proofs.Ytgmhlmficnkhgaa
set_option linter.unusedVariables false

/-- Spans that rise; two of them may touch. -/
def Wk (L : List (Int × Int)) : Prop := L.Pairwise (fun p q => p.2 + 1 ≤ q.1) ∧ ∀ p ∈ L, 0 ≤ p.1 ∧ p.1 ≤ p.2 ∧ p.2 ≤ 4611686018427387903
/-- One span more, joined to the last one where they touch. -/
def jnS (out : List (Int × Int)) (x : Int × Int) : List (Int × Int) :=
  match out.getLast? with
  | some p => if p.2 + 1 = x.1 then out.dropLast ++ [(p.1, x.2)] else out ++ [x]
  | none => out ++ [x]
def jn (L : List (Int × Int)) : List (Int × Int) := L.foldl jnS []
theorem jn_take {L : List (Int × Int)} {k : Nat} (h : k < L.length) : jn (L.take (k + 1)) = jnS (jn (L.take k)) L[k] := by
  unfold jn
  rw [List.take_succ_eq_append_getElem h, List.foldl_append]
  rfl
theorem snoc_of_last {out : List (Int × Int)} {p : Int × Int} (h : out.getLast? = some p) : out = out.dropLast ++ [p] := by
  have hne : out ≠ [] := by rintro rfl; simp at h
  have e := List.dropLast_concat_getLast hne
  rw [List.getLast?_eq_some_getLast hne] at h
  injection h with h
  rw [h] at e
  exact e.symm
theorem jnS_len (out : List (Int × Int)) (x : Int × Int) : (jnS out x).length ≤ out.length + 1 := by
  unfold jnS
  split
  · rename_i p hp
    split
    · have := snoc_of_last hp
      rw [this]; simp
    · simp
  · simp
theorem jn_len (L : List (Int × Int)) : (jn L).length ≤ L.length := by
  have : ∀ (L out : List (Int × Int)), (L.foldl jnS out).length ≤ out.length + L.length := by
    intro L
    induction L with
    | nil => intro out; simp
    | cons x t ih =>
      intro out
      have h1 := ih (jnS out x)
      have h2 := jnS_len out x
      simp only [List.foldl_cons, List.length_cons]
      omega
  have := this L []
  simpa [jn] using this
theorem Wk_append {A B : List (Int × Int)} : Wk (A ++ B) ↔ Wk A ∧ Wk B ∧ ∀ p ∈ A, ∀ q ∈ B, p.2 + 1 ≤ q.1 := by
  unfold Wk
  rw [List.pairwise_append]
  constructor
  · rintro ⟨⟨h1, h2, h3⟩, h4⟩
    exact ⟨⟨h1, fun p hp => h4 p (List.mem_append_left _ hp)⟩, ⟨h2, fun p hp => h4 p (List.mem_append_right _ hp)⟩, h3⟩
  · rintro ⟨⟨h1, h2⟩, ⟨h3, h4⟩, h5⟩
    exact ⟨⟨h1, h3, h5⟩, fun p hp => (List.mem_append.1 hp).elim (h2 p) (h4 p)⟩
theorem Ok.wk {L : List (Int × Int)} (h : Ok L) : Wk L := ⟨h.1.imp (fun h => by omega), h.2⟩
theorem jn_fold (L : List (Int × Int)) : ∀ out, Ok out → Wk (out ++ L) → Ok (L.foldl jnS out) ∧ ∀ n, In n (L.foldl jnS out) ↔ In n (out ++ L) := by
  induction L with
  | nil => intro out h _; simp; exact h
  | cons x t ih =>
    intro out h hw
    have key : Ok (jnS out x) ∧ Wk (jnS out x ++ t) ∧ ∀ n, In n (jnS out x ++ t) ↔ In n (out ++ (x :: t)) := by
      obtain ⟨w1, w2, w3⟩ := Wk_append.1 hw
      have hx := w2.2 x (by simp)
      have hxt : ∀ q ∈ t, x.2 + 1 ≤ q.1 := (List.pairwise_cons.1 w2.1).1
      have wt : Wk t := ⟨(List.pairwise_cons.1 w2.1).2, fun p hp => w2.2 p (List.mem_cons_of_mem _ hp)⟩
      unfold jnS
      split
      · rename_i p hp
        have e := snoc_of_last hp
        generalize out.dropLast = o1 at e ⊢
        subst e
        obtain ⟨k1, k2, k3⟩ := Ok_append.1 h
        have hpv := k2.2 p (by simp)
        split
        · rename_i heq
          refine ⟨Ok_append.2 ⟨k1, Ok_cons.2 ⟨⟨hpv.1, by show p.1 ≤ x.2; omega, hx.2.2⟩, (fun q hq => nomatch hq), Ok_nil⟩, fun q hq r hr => ?_⟩, ?_, fun n => ?_⟩
          · simp only [List.mem_singleton] at hr
            subst hr
            exact k3 q hq p (by simp)
          · refine Wk_append.2 ⟨?_, wt, fun q hq r hr => ?_⟩
            · refine Wk_append.2 ⟨k1.wk, ⟨List.pairwise_singleton _ _, fun q hq => ?_⟩, fun q hq r hr => ?_⟩
              · simp only [List.mem_singleton] at hq
                subst hq
                exact ⟨hpv.1, by show p.1 ≤ x.2; omega, hx.2.2⟩
              · simp only [List.mem_singleton] at hr
                subst hr
                have := k3 q hq p (by simp)
                show q.2 + 1 ≤ p.1
                omega
            · rcases List.mem_append.1 hq with hq | hq
              · exact w3 q (by simp [hq]) r (by simp [hr])
              · simp only [List.mem_singleton] at hq
                subst hq
                exact hxt r hr
          · simp only [In_append, In_cons, In_nil, or_false]
            have : (p.1 ≤ n ∧ n ≤ x.2) ↔ (p.1 ≤ n ∧ n ≤ p.2) ∨ (x.1 ≤ n ∧ n ≤ x.2) := by omega
            simp only [this]
            simp only [or_assoc]
        · rename_i hne
          refine ⟨Ok_append.2 ⟨h, Ok_cons.2 ⟨hx, (fun q hq => nomatch hq), Ok_nil⟩, fun q hq r hr => ?_⟩, by simpa using hw, fun n => by simp⟩
          simp only [List.mem_singleton] at hr
          rw [hr]
          have h2 := w3 q hq x (by simp)
          rcases List.mem_append.1 hq with hq | hq
          · have := k3 q hq p (by simp)
            have := w3 p (by simp) x (by simp)
            omega
          · simp only [List.mem_singleton] at hq
            subst hq
            omega
      · rename_i hp
        obtain rfl : out = [] := by simpa using hp
        refine ⟨Ok_cons.2 ⟨hx, (fun q hq => nomatch hq), Ok_nil⟩, by simpa using hw, fun n => by simp⟩
    obtain ⟨a, b, c⟩ := key
    obtain ⟨d, e⟩ := ih _ a b
    exact ⟨d, fun n => (e n).trans (c n)⟩
theorem jn_ok {L : List (Int × Int)} (h : Wk L) : Ok (jn L) ∧ ∀ n, In n (jn L) ↔ In n L := by
  have := jn_fold L [] Ok_nil (by simpa using h)
  simpa [jn] using this
/-- Spans without numbers from f to l, parted there. -/
theorem ins_parts {R : List (Int × Int)} {f l : Int} (h : Ok R) (hfl : f ≤ l) (hno : ∀ n, f ≤ n → n ≤ l → ¬ In n R) : ∃ A B, R = A ++ B ∧ (∀ p ∈ A, p.2 < f) ∧ (∀ p ∈ B, l < p.1) := by
  obtain ⟨A, D, B, rfl, hA, hD, hB⟩ := parts R f l h (by omega)
  cases D with
  | nil => exact ⟨A, B, by simp, hA, hB⟩
  | cons d t =>
    exfalso
    have h1 := hD d (by simp)
    have h2 := h.2 d (by simp)
    refine hno (max f d.1) (by omega) (by omega) ⟨d, by simp, by omega, by omega⟩
theorem ins_wk {A B : List (Int × Int)} {f l : Int} (h : Ok (A ++ B)) (hf : 0 ≤ f) (hfl : f ≤ l) (hl : l ≤ 4611686018427387903) (hA : ∀ p ∈ A, p.2 < f) (hB : ∀ p ∈ B, l < p.1) : Wk (A ++ [(f, l)] ++ B) := by
  obtain ⟨h1, h2, h3⟩ := Ok_append.1 h
  refine Wk_append.2 ⟨Wk_append.2 ⟨h1.wk, ⟨List.pairwise_singleton _ _, fun q hq => ?_⟩, fun q hq r hr => ?_⟩, h2.wk, fun q hq r hr => ?_⟩
  · simp only [List.mem_singleton] at hq; subst hq; exact ⟨hf, hfl, hl⟩
  · simp only [List.mem_singleton] at hr; subst hr; have := hA q hq; show q.2 + 1 ≤ f; omega
  · rcases List.mem_append.1 hq with hq | hq
    · have := h3 q hq r hr; omega
    · simp only [List.mem_singleton] at hq; subst hq; have := hB r hr; show l + 1 ≤ r.1; omega
/-- What the reference's Add makes. -/
theorem ins_ok {A B : List (Int × Int)} {f l : Int} (h : Ok (A ++ B)) (hf : 0 ≤ f) (hfl : f ≤ l) (hl : l ≤ 4611686018427387903) (hA : ∀ p ∈ A, p.2 < f) (hB : ∀ p ∈ B, l < p.1) :
    Ok (jn (A ++ [(f, l)] ++ B)) ∧ ∀ n, In n (jn (A ++ [(f, l)] ++ B)) ↔ In n (A ++ B) ∨ (f ≤ n ∧ n ≤ l) := by
  have hw : Wk (A ++ [(f, l)] ++ B) := ins_wk h hf hfl hl hA hB
  obtain ⟨a, b⟩ := jn_ok hw
  refine ⟨a, fun n => ?_⟩
  rw [b n]
  simp only [In_append, In_cons, In_nil, or_false]
  constructor
  · rintro ((h | h) | h)
    · exact .inl (.inl h)
    · exact .inr h
    · exact .inl (.inr h)
  · rintro ((h | h) | h)
    · exact .inl (.inl h)
    · exact .inr h
    · exact .inl (.inr h)
end Go.Proofs.Ytgmhlmficnkhgaa
