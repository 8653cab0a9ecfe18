/- vault: what somebody knows; how a mind comes to it. -/
import Derived.Test.YtpjoaimbaboleaaLn0
namespace Go.Proofs.Ytpjoaimbaboleaa
open Go.RowKit Go.Shelf Go.Lib
set_option linter.unusedVariables false

/-- What somebody knows who sees some bytes. -/
inductive Kn (L : List Tm) (S : List (List UInt8)) : Nat → Prop
  | root : Kn L S 0
  | seen {b : List UInt8} {x : Nat} : b ∈ S → x ∈ wins b → x < L.length → Kn L S x
  | made {m i : Nat} {t : Tm} : L[m]? = some t → 2 ≤ t.kd → t.kd ≠ 6 → (t.of' = i ∨ (t.kd = 4 ∧ t.wi = (i : Int))) → Kn L S i → Kn L S m
  | text {m x : Nat} {t : Tm} : L[m]? = some t → t.kd = 6 → Kn L S m → Kn L S t.of' → x ∈ wins t.by'.data.toList → x < L.length → Kn L S x
/-- Known, or put aside. -/
def Pe (K : List Bool) (X : List Nat) (x : Nat) : Prop := K[x]? = some true ∨ x ∈ X
/-- What holds between two lessons. -/
structure Iv (L : List Tm) (S : List (List UInt8)) (K : List Bool) (X : List Nat) : Prop where
  lK : K.length = L.length
  sX : ∀ x ∈ X, x < L.length ∧ Kn L S x
  sK : ∀ i, K[i]? = some true → Kn L S i
  root : Pe K X 0
  seen : ∀ b ∈ S, ∀ x ∈ wins b, x < L.length → Pe K X x
  made : ∀ (m i : Nat) (t : Tm), L[m]? = some t → 2 ≤ t.kd → t.kd ≠ 6 → (t.of' = i ∨ (t.kd = 4 ∧ t.wi = (i : Int))) → K[i]? = some true → Pe K X m
  text : ∀ (m : Nat) (t : Tm), L[m]? = some t → t.kd = 6 → K[m]? = some true → K[t.of']? = some true → ∀ x ∈ wins t.by'.data.toList, x < L.length → Pe K X x
theorem mem_fN {N x : Nat} {X : List Nat} : x ∈ fN N X ↔ x ∈ X ∧ x < N := by simp [fN]
theorem Iv.skip {L : List Tm} {S : List (List UInt8)} {K : List Bool} {X : List Nat} {n : Nat} (h : Iv L S K (X ++ [n])) (hk : K[n]? = some true) : Iv L S K X := by
  have p : ∀ x, Pe K (X ++ [n]) x → Pe K X x := by
    rintro x (h | h)
    · exact .inl h
    · rcases List.mem_append.1 h with h | h
      · exact .inr h
      · obtain rfl := List.mem_singleton.1 h; exact .inl hk
  exact ⟨h.lK, fun x hx => h.sX x (by simp [hx]), h.sK, p _ h.root, fun b hb x hx hl => p _ (h.seen b hb x hx hl), fun m i t a b c d e => p _ (h.made m i t a b c d e), fun m t a b c d x hx hl => p _ (h.text m t a b c d x hx hl)⟩
theorem set_some {K : List Bool} {n i : Nat} : (K.set n true)[i]? = some true ↔ K[i]? = some true ∨ (i = n ∧ n < K.length) := by
  by_cases e : n = i
  · subst e
    by_cases hl : n < K.length
    · rw [List.getElem?_set_self hl]; simp [hl]
    · rw [List.getElem?_eq_none (by simpa using hl), List.getElem?_eq_none (by omega)]; simp [hl]
  · rw [List.getElem?_set_ne e]
    constructor
    · exact .inl
    · rintro (h | ⟨h, _⟩)
      · exact h
      · exact absurd h.symm e
theorem Iv.new {L : List Tm} {S : List (List UInt8)} {K : List Bool} {X C : List Nat} {n : Nat} {t : Tm} (h : Iv L S K (X ++ [n])) (hg : ∀ (i : Nat) (t : Tm), L[i]? = some t → 0 < i → Fit t i) (hr : ∃ r, L = rt :: r) (hk : K[n]? = some false) (ht : L[n]? = some t) (hmem : ∀ l, l ∈ C ↔ (l / 2 < L.length ∧ Tg L l n)) :
    Iv L S (K.set n true) (X ++ own (K.set n true) L.length t ++ C.flatMap (psh L (K.set n true) L.length)) := by
  have hnl : n < K.length := (List.getElem?_eq_some_iff.1 hk).1
  obtain ⟨hnL, hnK⟩ := h.sX n (by simp)
  have sK' : ∀ i, (K.set n true)[i]? = some true → Kn L S i := fun i hi => by
    rcases set_some.1 hi with hi | ⟨rfl, _⟩
    · exact h.sK i hi
    · exact hnK
  have p : ∀ x, Pe K (X ++ [n]) x → Pe (K.set n true) (X ++ own (K.set n true) L.length t ++ C.flatMap (psh L (K.set n true) L.length)) x := by
    rintro x (h | h)
    · exact .inl (set_some.2 (.inl h))
    · rcases List.mem_append.1 h with h | h
      · exact .inr (by simp [h])
      · obtain rfl := List.mem_singleton.1 h; exact .inl (set_some.2 (.inr ⟨rfl, hnl⟩))
  have ofl : ∀ (m : Nat) (s : Tm), L[m]? = some s → 2 ≤ s.kd → s.of' < m := by
    intro m s hm h2
    have h0 : 0 < m := by
      rcases Nat.eq_zero_or_pos m with e | e
      · subst e
        obtain ⟨r, hr⟩ := hr
        rw [hr] at hm
        simp at hm
        subst hm
        simp at h2
      · exact e
    exact (hg m s hm h0).2.2.1 h2
  have tgOf : ∀ (m : Nat) (s : Tm), L[m]? = some s → 2 ≤ s.kd → s.of' = n → 2 * m ∈ C := by
    intro m s hm h2 ho
    have hml := (List.getElem?_eq_some_iff.1 hm).1
    exact (hmem _).2 ⟨by omega, s, by rw [show 2 * m / 2 = m by omega]; exact hm, h2, .inl ⟨by omega, ho⟩⟩
  refine ⟨by simp [h.lK], ?_, sK', p _ h.root, fun b hb x hx hl => p _ (h.seen b hb x hx hl), ?_, ?_⟩
  · intro x hx
    rcases List.mem_append.1 hx with hx | hx
    · rcases List.mem_append.1 hx with hx | hx
      · exact h.sX x (by simp [hx])
      · unfold own at hx
        split at hx
        · rename_i hq
          obtain ⟨h1, h2⟩ := mem_fN.1 hx
          exact ⟨h2, Kn.text ht hq.1 hnK (sK' _ hq.2) h1 h2⟩
        · cases hx
    · obtain ⟨l, hl, hx⟩ := List.mem_flatMap.1 hx
      obtain ⟨hl2, s, hs, h2, hd⟩ := (hmem l).1 hl
      unfold psh at hx
      rw [hs] at hx
      simp only at hx
      have hdd : s.of' = n ∨ (s.kd = 4 ∧ s.wi = (n : Int)) := by rcases hd with ⟨_, e⟩ | ⟨_, e1, e2⟩; exact .inl e; exact .inr ⟨e1, e2⟩
      split at hx
      · rename_i h6
        split at hx
        · rename_i hkn
          obtain ⟨h1, h3⟩ := mem_fN.1 hx
          have hof : s.of' = n := by rcases hdd with e | ⟨e, _⟩; exact e; omega
          exact ⟨h3, Kn.text hs h6 (sK' _ hkn) (by rw [hof]; exact hnK) h1 h3⟩
        · cases hx
      · rename_i h6
        obtain rfl := List.mem_singleton.1 hx
        exact ⟨hl2, Kn.made hs h2 h6 hdd hnK⟩
  · intro m i s hm h2 h6 hd hi
    rcases set_some.1 hi with hi | ⟨rfl, _⟩
    · exact p _ (h.made m i s hm h2 h6 hd hi)
    · right
      have hml := (List.getElem?_eq_some_iff.1 hm).1
      obtain ⟨l, hlC, hlm⟩ : ∃ l, l ∈ C ∧ l / 2 = m := by
        rcases hd with e | ⟨e1, e2⟩
        · exact ⟨2 * m, tgOf m s hm h2 e, by omega⟩
        · exact ⟨2 * m + 1, (hmem _).2 ⟨by omega, s, by rw [show (2 * m + 1) / 2 = m by omega]; exact hm, h2, .inr ⟨by omega, e1, e2⟩⟩, by omega⟩
      refine List.mem_append.2 (.inr (List.mem_flatMap.2 ⟨l, hlC, ?_⟩))
      unfold psh
      rw [hlm, hm]
      simp [h6]
  · intro m s hm h6 hKm hKo x hx hxl
    have hom := ofl m s hm (by omega)
    by_cases e : m = n
    · subst e
      rw [ht] at hm
      injection hm with hm
      subst hm
      right
      refine List.mem_append.2 (.inl (List.mem_append.2 (.inr ?_)))
      unfold own
      rw [if_pos ⟨h6, hKo⟩]
      exact mem_fN.2 ⟨hx, hxl⟩
    · have hKm' : K[m]? = some true := by rcases set_some.1 hKm with h | ⟨h, _⟩; exact h; exact absurd h e
      by_cases e2 : s.of' = n
      · right
        refine List.mem_append.2 (.inr (List.mem_flatMap.2 ⟨2 * m, tgOf m s hm (by omega) e2, ?_⟩))
        unfold psh
        rw [show 2 * m / 2 = m by omega, hm]
        simp only [h6, if_true, hKm]
        exact mem_fN.2 ⟨hx, hxl⟩
      · have hKo' : K[s.of']? = some true := by rcases set_some.1 hKo with h | ⟨h, _⟩; exact h; exact absurd h e2
        exact p _ (h.text m s hm h6 hKm' hKo' x hx hxl)
theorem Iv.fin {L : List Tm} {S : List (List UInt8)} {K : List Bool} (h : Iv L S K []) {i : Nat} : K[i]? = some true ↔ Kn L S i := by
  refine ⟨h.sK i, fun hk => ?_⟩
  have p : ∀ x, Pe K [] x → K[x]? = some true := by
    rintro x (h | h)
    · exact h
    · cases h
  induction hk with
  | root => exact p _ h.root
  | seen hb hx hl => exact p _ (h.seen _ hb _ hx hl)
  | made a b c d _ ih => exact p _ (h.made _ _ _ a b c d ih)
  | text a b _ _ hx hl ih1 ih2 => exact p _ (h.text _ _ a b ih1 ih2 _ hx hl)
/-- How many are not known. -/
def un (K : List Bool) : Nat := K.count false
theorem un_set {K : List Bool} {n : Nat} (h : K[n]? = some false) : un (K.set n true) + 1 = un K := by
  unfold un
  induction K generalizing n with
  | nil => simp at h
  | cons b K ih =>
    cases n with
    | zero =>
      simp at h
      subst h
      simp
    | succ n =>
      have := ih (n := n) (by simpa using h)
      cases b <;> simp <;> omega
theorem un_le (K : List Bool) : un K ≤ K.length := List.count_le_length
end Go.Proofs.Ytpjoaimbaboleaa
