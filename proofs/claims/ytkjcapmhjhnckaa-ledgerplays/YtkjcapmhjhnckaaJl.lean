/- LedgerPlays on lists: what is lost, the spread; the ledger and the reference's stay together. -/
import Derived.Test.YtkjcapmhjhnckaaRf
namespace Go.Proofs.Ytkjcapmhjhnckaa
open Go.RowKit Go.Maps Go.Shelf
set_option linter.unusedVariables false

/-- The greatest of some numbers, 0 where there is none above it. -/
def Pm (V : Int → Prop) (m : Int) : Prop := 0 ≤ m ∧ (∀ v, V v → v ≤ m) ∧ (m = 0 ∨ V m)
theorem Pm.uniq {V V' : Int → Prop} {m m' : Int} (h : Pm V m) (h' : Pm V' m') (e : ∀ v, V v ↔ V' v) : m = m' := by
  obtain ⟨a, b, c⟩ := h
  obtain ⟨a', b', c'⟩ := h'
  have h1 : m ≤ m' := by
    rcases c with c | c
    · omega
    · exact b' _ ((e _).1 c)
  have h2 : m' ≤ m := by
    rcases c' with c | c
    · omega
    · exact b _ ((e _).2 c)
  omega
/-- One that is off lies behind n. -/
def offB (E : List (Pk × Bool)) (n : Int) : Prop := ∃ x ∈ E, x.2 = false ∧ n < x.1.n
/-- How far apart two that are on lie, with none between that is off. -/
def Vs (E : List (Pk × Bool)) (v : Int) : Prop := ∃ a ∈ ons E, ∃ b ∈ ons E, a.n < b.n ∧ a.e = true ∧ b.e = true ∧ (¬ ∃ x ∈ E, x.2 = false ∧ a.n < x.1.n ∧ x.1.n < b.n) ∧ v = b.a - a.a
def Fs (E : List (Pk × Bool)) (f : Int) : Prop :=
  (f = -1 ∧ ∀ a ∈ ons E, a.e = true → offB E a.n) ∨ (0 ≤ f ∧ (∃ a ∈ ons E, a.e = true ∧ ¬ offB E a.n ∧ a.a = f) ∧ ∀ a ∈ ons E, a.e = true → ¬ offB E a.n → f ≤ a.a)
theorem ons_mem {E : List (Pk × Bool)} {p : Pk} : p ∈ ons E ↔ (p, true) ∈ E := by
  unfold ons
  simp only [List.mem_map, List.mem_filter]
  constructor
  · rintro ⟨x, ⟨h1, h2⟩, rfl⟩
    obtain ⟨y, b⟩ := x
    simp only at h2
    subst h2
    exact h1
  · intro h
    exact ⟨(p, true), ⟨h, rfl⟩, rfl⟩
theorem sp_is (E : List (Pk × Bool)) (hr : Rise E) (ha : E.Pairwise fun x y => x.1.a ≤ y.1.a) (h0 : ∀ x ∈ E, 0 ≤ x.1.a) : Pm (Vs E) (sp E).2 ∧ Fs E (sp E).1 := by
  suffices H : ∀ R : List (Pk × Bool), ∀ E, E = R.reverse → Rise E → (E.Pairwise fun x y => x.1.a ≤ y.1.a) → (∀ x ∈ E, 0 ≤ x.1.a) → Pm (Vs E) (sp E).2 ∧ Fs E (sp E).1 from H E.reverse E (by simp) hr ha h0
  intro R
  induction R with
  | nil =>
    rintro E rfl _ _ _
    refine ⟨⟨by simp [sp], ?_, .inl rfl⟩, .inl ⟨rfl, ?_⟩⟩
    · rintro v ⟨a, h, _⟩
      simp [ons] at h
    · intro a h
      simp [ons] at h
  | cons x R ih =>
    rintro E' rfl hr ha h0
    rw [List.reverse_cons] at hr ha h0 ⊢
    generalize hE : R.reverse = E at hr ha h0
    obtain ⟨hr1, -, hr2⟩ := List.pairwise_append.1 hr
    obtain ⟨ha1, -, ha2⟩ := List.pairwise_append.1 ha
    have hlt : ∀ y ∈ E, y.1.n < x.1.n := fun y hy => hr2 y hy x (by simp)
    have hle : ∀ y ∈ E, y.1.a ≤ x.1.a := fun y hy => ha2 y hy x (by simp)
    have hx0 : 0 ≤ x.1.a := h0 x (by simp)
    obtain ⟨⟨m0, m1, m2⟩, hF⟩ := ih E hE.symm hr1 ha1 (fun y hy => h0 y (by simp [hy]))
    have onlt : ∀ a ∈ ons E, a.n < x.1.n ∧ a.a ≤ x.1.a := fun a h => ⟨hlt _ (ons_mem.1 h), hle _ (ons_mem.1 h)⟩
    rw [sp_snoc]
    generalize sp E = fm at *
    obtain ⟨f, m⟩ := fm
    simp only at m0 m1 m2 hF
    obtain ⟨p, on⟩ := x
    simp only at hlt hle hx0 onlt
    cases on with
    | false =>
      have ho : ons (E ++ [(p, false)]) = ons E := by rw [ons_snoc]; simp
      have hV : ∀ v, Vs (E ++ [(p, false)]) v ↔ Vs E v := by
        intro v
        unfold Vs
        rw [ho]
        constructor
        · rintro ⟨a, h1, b, h2, h3, h4, h5, h6, h7⟩
          exact ⟨a, h1, b, h2, h3, h4, h5, fun ⟨x, q1, q2⟩ => h6 ⟨x, by simp [q1], q2⟩, h7⟩
        · rintro ⟨a, h1, b, h2, h3, h4, h5, h6, h7⟩
          refine ⟨a, h1, b, h2, h3, h4, h5, ?_, h7⟩
          rintro ⟨x, q1, q2, q3, q4⟩
          rcases List.mem_append.1 q1 with q1 | q1
          · exact h6 ⟨x, q1, q2, q3, q4⟩
          · simp only [List.mem_singleton] at q1
            subst q1
            have := (onlt b h2).1
            simp only at q4
            omega
      refine ⟨?_, ?_⟩
      · simp only [sp1, if_true]
        exact ⟨m0, fun v hv => m1 v ((hV v).1 hv), m2.imp id fun h => (hV _).2 h⟩
      · simp only [sp1, if_true]
        exact .inl ⟨rfl, fun a h _ => ⟨(p, false), by simp, rfl, (onlt a (by rw [ho] at h; exact h)).1⟩⟩
    | true =>
      have ho : ons (E ++ [(p, true)]) = ons E ++ [p] := by rw [ons_snoc]; simp
      have hob : ∀ n, offB (E ++ [(p, true)]) n ↔ offB E n := by
        intro n
        constructor
        · rintro ⟨x, q1, q2, q3⟩
          rcases List.mem_append.1 q1 with q1 | q1
          · exact ⟨x, q1, q2, q3⟩
          · simp only [List.mem_singleton] at q1
            subst q1
            simp at q2
        · rintro ⟨x, q1, q2, q3⟩
          exact ⟨x, by simp [q1], q2, q3⟩
      have hnb : ¬ offB E p.n := by
        rintro ⟨x, q1, q2, q3⟩
        have := hlt x q1
        omega
      have hV : ∀ v, Vs (E ++ [(p, true)]) v ↔ Vs E v ∨ (p.e = true ∧ ∃ a ∈ ons E, a.e = true ∧ ¬ offB E a.n ∧ v = p.a - a.a) := by
        intro v
        unfold Vs
        rw [ho]
        constructor
        · rintro ⟨a, h1, b, h2, h3, h4, h5, h6, h7⟩
          rcases List.mem_append.1 h2 with k2 | h2
          · rcases List.mem_append.1 h1 with k1 | h1
            · exact .inl ⟨a, k1, b, k2, h3, h4, h5, fun ⟨x, q1, q2⟩ => h6 ⟨x, by simp [q1], q2⟩, h7⟩
            · simp only [List.mem_singleton] at h1
              subst h1
              have := (onlt b k2).1
              omega
          · simp only [List.mem_singleton] at h2
            subst h2
            rcases List.mem_append.1 h1 with h1 | h1
            · refine .inr ⟨h5, a, h1, h4, ?_, h7⟩
              rintro ⟨x, q1, q2, q3⟩
              exact h6 ⟨x, by simp [q1], q2, q3, hlt x q1⟩
            · simp only [List.mem_singleton] at h1
              subst h1
              omega
        · rintro (⟨a, h1, b, h2, h3, h4, h5, h6, h7⟩ | ⟨hp, a, h1, h4, h6, h7⟩)
          · refine ⟨a, by simp [h1], b, by simp [h2], h3, h4, h5, ?_, h7⟩
            rintro ⟨x, q1, q2, q3⟩
            rcases List.mem_append.1 q1 with q1 | q1
            · exact h6 ⟨x, q1, q2, q3⟩
            · simp only [List.mem_singleton] at q1
              subst q1
              simp at q2
          · refine ⟨a, by simp [h1], p, by simp, (onlt a h1).1, h4, hp, ?_, h7⟩
            rintro ⟨x, q1, q2, q3, _⟩
            rcases List.mem_append.1 q1 with q1 | q1
            · exact h6 ⟨x, q1, q2, q3⟩
            · simp only [List.mem_singleton] at q1
              subst q1
              simp at q2
      cases he : p.e with
      | false =>
        simp only [sp1, he, if_true, Bool.true_eq_false, if_false]
        refine ⟨⟨m0, fun v hv => ?_, m2.imp id fun h => (hV _).2 (.inl h)⟩, ?_⟩
        · rcases (hV v).1 hv with h | ⟨h, _⟩
          · exact m1 v h
          · rw [he] at h; cases h
        · rcases hF with ⟨h1, h2⟩ | ⟨h1, ⟨a, q1, q2, q3, q4⟩, h3⟩
          · refine .inl ⟨h1, fun a h q => ?_⟩
            rw [ho] at h
            rcases List.mem_append.1 h with h | h
            · exact (hob _).2 (h2 a h q)
            · simp only [List.mem_singleton] at h
              subst h
              rw [he] at q; cases q
          · refine .inr ⟨h1, ⟨a, by rw [ho]; simp [q1], q2, fun h => q3 ((hob _).1 h), q4⟩, fun b h q hb => ?_⟩
            rw [ho] at h
            rcases List.mem_append.1 h with h | h
            · exact h3 b h q fun h => hb ((hob _).2 h)
            · simp only [List.mem_singleton] at h
              subst h
              rw [he] at q; cases q
      | true =>
        simp only [sp1, he, Bool.true_eq_false, if_false]
        rcases hF with ⟨rfl, h2⟩ | ⟨h1, ⟨a, q1, q2, q3, q4⟩, h3⟩
        · simp only [if_true]
          refine ⟨⟨by omega, fun v hv => ?_, ?_⟩, .inr ⟨hx0, ⟨p, by rw [ho]; simp, he, fun h => hnb ((hob _).1 h), rfl⟩, fun b h q hb => ?_⟩⟩
          · rcases (hV v).1 hv with h | ⟨_, a, r1, r2, r3, _⟩
            · have := m1 v h; omega
            · exact absurd (h2 a r1 r2) r3
          · have e : max m (p.a - p.a) = m := by omega
            rw [e]
            exact m2.imp id fun h => (hV _).2 (.inl h)
          · rw [ho] at h
            rcases List.mem_append.1 h with h | h
            · exact absurd ((hob _).2 (h2 b h q)) hb
            · simp only [List.mem_singleton] at h
              subst h
              exact Int.le_refl _
        · have hne : ¬ f = -1 := by omega
          rw [if_neg hne]
          have hfa : f ≤ p.a := by rw [← q4]; exact (onlt a q1).2
          refine ⟨⟨by omega, fun v hv => ?_, ?_⟩, .inr ⟨h1, ⟨a, by rw [ho]; simp [q1], q2, fun h => q3 ((hob _).1 h), q4⟩, fun b h q hb => ?_⟩⟩
          · rcases (hV v).1 hv with h | ⟨_, b, r1, r2, r3, rfl⟩
            · have := m1 v h; omega
            · have := h3 b r1 r2 r3; omega
          · by_cases hm : m ≤ p.a - f
            · right
              have e : max m (p.a - f) = p.a - f := by omega
              rw [e]
              exact (hV _).2 (.inr ⟨he, a, q1, q2, q3, by omega⟩)
            · have e : max m (p.a - f) = m := by omega
              rw [e]
              exact m2.imp id fun h => (hV _).2 (.inl h)
          · rw [ho] at h
            rcases List.mem_append.1 h with h | h
            · exact h3 b h q fun h => hb ((hob _).2 h)
            · simp only [List.mem_singleton] at h
              subst h
              exact hfa
/-- One that is on, lost by what arrived behind it or by time. -/
def il (g old : Int) (x : Pk × Int) : Bool := decide (x.2 = 0) && decide (x.1.n < g) && (decide (x.1.n ≤ g - 3) || decide (x.1.a ≤ old))
def rlm (g old : Int) (Q : List (Pk × Int)) : List (Pk × Int) := Q.map fun x => if il g old x = true then (x.1, 2) else x
def rlt (g old : Int) (Q : List (Pk × Int)) : List (Pk × Int) := Q.filter (il g old)
/-- Does one lie between that arrived? -/
def btw (Q : List (Pk × Int)) (a b : Pk) : Bool := Q.any fun x => decide (x.2 = 1) && decide (a.n < x.1.n) && decide (x.1.n < b.n)
def cnd (Q : List (Pk × Int)) (a b : Pk) : Bool := a.e && b.e && !btw Q a b
def rsI (Q : List (Pk × Int)) (a : Pk) : List Pk → Int → Int
  | [], s => s
  | b :: t, s => rsI Q a t (if cnd Q a b = true ∧ s < b.a - a.a then b.a - a.a else s)
/-- The spread, by all pairs. -/
def rsp (Q : List (Pk × Int)) : List Pk → Int → Int
  | [], s => s
  | a :: t, s => rsp Q t (rsI Q a t s)
theorem rsI_is (Q : List (Pk × Int)) (a : Pk) (l : List Pk) (s : Int) : s ≤ rsI Q a l s ∧ (∀ b ∈ l, cnd Q a b = true → b.a - a.a ≤ rsI Q a l s) ∧ (rsI Q a l s = s ∨ ∃ b ∈ l, cnd Q a b = true ∧ rsI Q a l s = b.a - a.a) := by
  induction l generalizing s with
  | nil => exact ⟨Int.le_refl _, fun b h => by simp at h, .inl rfl⟩
  | cons b t ih =>
    obtain ⟨h1, h2, h3⟩ := ih (if cnd Q a b = true ∧ s < b.a - a.a then b.a - a.a else s)
    have hu : rsI Q a (b :: t) s = rsI Q a t (if cnd Q a b = true ∧ s < b.a - a.a then b.a - a.a else s) := rfl
    rw [hu]
    generalize hr : rsI Q a t (if cnd Q a b = true ∧ s < b.a - a.a then b.a - a.a else s) = r at *
    by_cases hc : cnd Q a b = true ∧ s < b.a - a.a
    · rw [if_pos hc] at h1 h3
      refine ⟨by omega, fun c hc' q => ?_, ?_⟩
      · rcases List.mem_cons.1 hc' with rfl | hc'
        · exact h1
        · exact h2 c hc' q
      · rcases h3 with h3 | ⟨c, q1, q2, q3⟩
        · exact .inr ⟨b, by simp, hc.1, h3⟩
        · exact .inr ⟨c, by simp [q1], q2, q3⟩
    · rw [if_neg hc] at h1 h3
      refine ⟨h1, fun c hc' q => ?_, ?_⟩
      · rcases List.mem_cons.1 hc' with rfl | hc'
        · have : ¬ s < c.a - a.a := fun h => hc ⟨q, h⟩
          omega
        · exact h2 c hc' q
      · rcases h3 with h3 | ⟨c, q1, q2, q3⟩
        · exact .inl h3
        · exact .inr ⟨c, by simp [q1], q2, q3⟩
theorem rsp_is (Q : List (Pk × Int)) (l : List Pk) (hl : l.Pairwise fun x y => x.n < y.n) (s : Int) : s ≤ rsp Q l s ∧ (∀ a ∈ l, ∀ b ∈ l, a.n < b.n → cnd Q a b = true → b.a - a.a ≤ rsp Q l s) ∧ (rsp Q l s = s ∨ ∃ a ∈ l, ∃ b ∈ l, a.n < b.n ∧ cnd Q a b = true ∧ rsp Q l s = b.a - a.a) := by
  induction l generalizing s with
  | nil => exact ⟨Int.le_refl _, fun a h => by simp at h, .inl rfl⟩
  | cons a t ih =>
    obtain ⟨ha, ht⟩ := List.pairwise_cons.1 hl
    obtain ⟨i1, i2, i3⟩ := rsI_is Q a t s
    obtain ⟨h1, h2, h3⟩ := ih ht (rsI Q a t s)
    have hu : rsp Q (a :: t) s = rsp Q t (rsI Q a t s) := rfl
    rw [hu]
    generalize rsI Q a t s = r at *
    generalize rsp Q t r = R at *
    refine ⟨by omega, fun c hc d hd hcd q => ?_, ?_⟩
    · rcases List.mem_cons.1 hc with rfl | kc
      · rcases List.mem_cons.1 hd with rfl | kd
        · omega
        · have := i2 d kd q; omega
      · rcases List.mem_cons.1 hd with rfl | kd
        · have := ha c kc; omega
        · exact h2 c kc d kd hcd q
    · rcases h3 with h3 | ⟨c, q1, d, q2, q3, q4, q5⟩
      · rcases i3 with i3 | ⟨d, q1, q2, q3⟩
        · exact .inl (by omega)
        · exact .inr ⟨a, by simp, d, by simp [q1], ha d q1, q2, by omega⟩
      · exact .inr ⟨c, by simp [q1], d, by simp [q2], q3, q4, q5⟩
/-- Marks by states. -/
def mks (Q : List (Pk × Int)) : List (Pk × Bool) := Q.map fun x => (x.1, decide (x.2 = 0))
theorem mks_app (a b : List (Pk × Int)) : mks (a ++ b) = mks a ++ mks b := by simp [mks]
theorem mks_len (a : List (Pk × Int)) : (mks a).length = a.length := by simp [mks]
theorem mks_take (a : List (Pk × Int)) (k : Nat) : mks (a.take k) = (mks a).take k := by simp [mks, List.map_take]
theorem mks_drop (a : List (Pk × Int)) (k : Nat) : mks (a.drop k) = (mks a).drop k := by simp [mks, List.map_drop]
/-- Numbers rise, times do not fall. -/
def Rq (Q : List (Pk × Int)) : Prop := Q.Pairwise fun x y => x.1.n < y.1.n ∧ x.1.a ≤ y.1.a
theorem tw_split {α : Type} (P : α → Bool) (l : List α) : (∀ x ∈ l.take (l.takeWhile P).length, P x = true) ∧ (∀ x t, l.drop (l.takeWhile P).length = x :: t → P x = false) := by
  induction l with
  | nil => simp
  | cons y l ih =>
    cases hy : P y with
    | false => simp [List.takeWhile, hy]
    | true =>
      have e : (y :: l).takeWhile P = y :: l.takeWhile P := by simp [List.takeWhile, hy]
      rw [e]
      refine ⟨fun x hx => ?_, fun x t h => ?_⟩
      · simp only [List.length_cons, List.take_succ_cons, List.mem_cons] at hx
        rcases hx with rfl | hx
        · exact hy
        · exact ih.1 x hx
      · exact ih.2 x t (by simpa using h)
/-- What is lost of D, which has no lost ones, is a beginning of it. -/
theorem lose_split (D : List (Pk × Int)) (hr : Rq D) (g old : Int) :
    (∀ x ∈ D.take (lk g old (mks D)), x.2 = 0 → il g old x = true) ∧ (∀ x ∈ D.drop (lk g old (mks D)), il g old x = false) := by
  obtain ⟨h1, h2⟩ := tw_split (isL g old) (mks D)
  have hk : ((mks D).takeWhile (isL g old)).length = lk g old (mks D) := rfl
  rw [hk, ← mks_take] at h1
  rw [hk, ← mks_drop] at h2
  constructor
  · intro x hx h0
    have := h1 (x.1, decide (x.2 = 0)) (List.mem_map.2 ⟨x, hx, rfl⟩)
    simp only [isL, h0, decide_true, Bool.not_true, Bool.false_or] at this
    simp only [il, h0, decide_true, Bool.true_and]
    exact this
  · intro x hx
    have hrd : Rq (D.drop (lk g old (mks D))) := hr.sublist (List.drop_sublist _ _)
    cases hd : D.drop (lk g old (mks D)) with
    | nil => rw [hd] at hx; simp at hx
    | cons y t =>
      rw [hd] at hx hrd h2
      have hy := h2 (y.1, decide (y.2 = 0)) (mks t) rfl
      have hyx : y.1.n ≤ x.1.n ∧ y.1.a ≤ x.1.a ∧ (y = x ∨ y.1.n < x.1.n) := by
        rcases List.mem_cons.1 hx with rfl | hx
        · exact ⟨Int.le_refl _, Int.le_refl _, .inl rfl⟩
        · have := (List.pairwise_cons.1 hrd).1 x hx
          exact ⟨by omega, this.2, .inr this.1⟩
      by_cases hg : x.1.n < g
      · by_cases h0 : x.2 = 0
        · have hyg : y.1.n < g := by omega
          simp only [isL, decide_eq_true hyg, Bool.true_and, Bool.or_eq_false_iff, Bool.not_eq_false', decide_eq_false_iff_not] at hy
          obtain ⟨⟨_, hy1⟩, hy2⟩ := hy
          have e1 : decide (x.1.n ≤ g - 3) = false := decide_eq_false (by omega)
          have e2 : decide (x.1.a ≤ old) = false := decide_eq_false (by omega)
          simp [il, e1, e2]
        · simp [il, h0]
      · simp [il, hg]
theorem filter_none {α : Type} {P : α → Bool} {l : List α} (h : ∀ x ∈ l, P x = false) : l.filter P = [] := by
  rw [List.filter_eq_nil_iff]
  intro x hx
  rw [h x hx]
  simp
theorem map_same {α : Type} {f : α → α} {l : List α} (h : ∀ x ∈ l, f x = x) : l.map f = l := by
  induction l with
  | nil => rfl
  | cons x t ih => rw [List.map_cons, h x (by simp), ih fun y hy => h y (by simp [hy])]
/-- Q and O stay together: O is Q behind f, which are not on their way, and behind f none is lost. -/
structure Jn (f : Nat) (Q : List (Pk × Int)) (O : List (Pk × Bool)) : Prop where
  o : O = mks (Q.drop f)
  h : ∀ x ∈ Q.take f, x.2 ≠ 0
  n : ∀ x ∈ Q.drop f, x.2 = 0 ∨ x.2 = 1
theorem Jn.lost {f : Nat} {Q : List (Pk × Int)} {O : List (Pk × Bool)} (h : Jn f Q O) (hr : Rq Q) (g old : Int) : (rlt g old Q).map (fun x => x.1) = ons (O.take (lk g old O)) := by
  obtain ⟨rfl, hh, hn⟩ := h
  have hD : Rq (Q.drop f) := hr.sublist (List.drop_sublist _ _)
  obtain ⟨s1, s2⟩ := lose_split (Q.drop f) hD g old
  generalize lk g old (mks (Q.drop f)) = k at *
  have e1 : rlt g old Q = ((Q.drop f).take k).filter (il g old) := by
    unfold rlt
    conv => lhs; rw [← List.take_append_drop f Q, List.filter_append, filter_none (l := Q.take f) (fun x hx => by simp [il, hh x hx]), List.nil_append, ← List.take_append_drop k (Q.drop f), List.filter_append, filter_none (l := (Q.drop f).drop k) s2, List.append_nil]
  rw [e1, ← mks_take]
  unfold ons mks
  rw [List.filter_map, List.map_map]
  have e2 : ((Q.drop f).take k).filter (il g old) = ((Q.drop f).take k).filter ((fun x : Pk × Bool => x.2) ∘ fun x : Pk × Int => (x.1, decide (x.2 = 0))) := by
    refine List.filter_congr fun x hx => ?_
    by_cases h0 : x.2 = 0
    · rw [s1 x hx h0]; simp [h0]
    · simp [il, h0]
  rw [e2]
  rfl
theorem Jn.on {f : Nat} {Q : List (Pk × Int)} {O : List (Pk × Bool)} (h : Jn f Q O) : ons O = ons (mks Q) := by
  obtain ⟨rfl, hh, hn⟩ := h
  conv => rhs; rw [← List.take_append_drop f Q, mks_app]
  unfold ons
  rw [List.filter_append, filter_none (l := mks (Q.take f)), List.nil_append]
  intro x hx
  obtain ⟨y, hy, rfl⟩ := List.mem_map.1 hx
  simp [hh y hy]
theorem il_off {g old : Int} {x : Pk × Int} (h : x.2 ≠ 0) : il g old x = false := by simp [il, h]
theorem rlm_len (g old : Int) (Q : List (Pk × Int)) : (rlm g old Q).length = Q.length := by simp [rlm]
/-- What lose leaves, ahead of trim. -/
theorem Jn.left {f : Nat} {Q : List (Pk × Int)} {O : List (Pk × Bool)} (h : Jn f Q O) (hr : Rq Q) (g old : Int) :
    (rlm g old Q).take f = Q.take f ∧ mks ((rlm g old Q).drop f) = off (lk g old O) O ∧ ((rlm g old Q).drop f).drop (lk g old O) = (Q.drop f).drop (lk g old O) := by
  obtain ⟨rfl, hh, hn⟩ := h
  have hD : Rq (Q.drop f) := hr.sublist (List.drop_sublist _ _)
  obtain ⟨s1, s2⟩ := lose_split (Q.drop f) hD g old
  generalize lk g old (mks (Q.drop f)) = k at *
  have d1 : ((rlm g old Q).drop f).drop k = (Q.drop f).drop k := by
    unfold rlm
    rw [← List.map_drop, ← List.map_drop]
    exact map_same fun x hx => by rw [s2 x hx]; simp
  refine ⟨?_, ?_, d1⟩
  · unfold rlm
    rw [← List.map_take]
    exact map_same fun x hx => by rw [il_off (hh x hx)]; simp
  · rw [← List.take_append_drop k ((rlm g old Q).drop f), mks_app, d1]
    unfold off
    rw [mks_drop]
    congr 1
    unfold rlm
    rw [← List.map_drop, ← List.map_take, ← mks_take]
    unfold mks
    rw [List.map_map, List.map_map]
    refine List.map_congr_left fun x hx => ?_
    simp only [Function.comp]
    by_cases h0 : x.2 = 0
    · simp [s1 x hx h0]
    · simp [il_off h0, h0]
theorem fst_split (O : List (Pk × Bool)) : (∀ x ∈ O.take (fst O), x.2 = false) := by
  intro x hx
  have := (tw_split (fun x : Pk × Bool => !x.2) O).1 x hx
  simpa using this
/-- Behind trim they stay together again. -/
theorem trim_jn {f k : Nat} {Q : List (Pk × Int)} {O : List (Pk × Bool)} (ho : O = mks (Q.drop f)) (hh : ∀ x ∈ Q.take f, x.2 ≠ 0) (hk : ∀ x ∈ (Q.drop f).take k, x.2 ≠ 0) (hn : ∀ x ∈ (Q.drop f).drop k, x.2 = 0 ∨ x.2 = 1) (hkl : k ≤ (Q.drop f).length) : Jn (f + fst O) Q (O.drop (fst O)) := by
  subst ho
  have hle : k ≤ fst (mks (Q.drop f)) := by
    have e : (mks (Q.drop f)).takeWhile (fun x => !x.2) = mks ((Q.drop f).takeWhile fun x => !decide (x.2 = 0)) := by
      unfold mks
      rw [List.takeWhile_map]
      rfl
    unfold fst
    rw [e, mks_len]
    generalize Q.drop f = D at hk hkl
    clear e hh hn
    induction D generalizing k with
    | nil => simp at hkl; omega
    | cons y D ih =>
      cases k with
      | zero => omega
      | succ k =>
        have hy := hk y (by simp)
        have e : (y :: D).takeWhile (fun x => !decide (x.2 = 0)) = y :: D.takeWhile fun x => !decide (x.2 = 0) := by simp [List.takeWhile, hy]
        rw [e, List.length_cons]
        have := ih (k := k) (fun x hx => hk x (by simp [hx])) (by simpa using hkl)
        omega
  refine ⟨?_, ?_, ?_⟩
  · rw [← mks_drop, List.drop_drop]
  · intro x hx
    rw [List.take_add] at hx
    rcases List.mem_append.1 hx with hx | hx
    · exact hh x hx
    · have := fst_split (mks (Q.drop f)) (x.1, decide (x.2 = 0)) (by rw [← mks_take]; exact List.mem_map.2 ⟨x, hx, rfl⟩)
      simpa using this
  · intro x hx
    rw [← List.drop_drop] at hx
    have : (Q.drop f).drop (fst (mks (Q.drop f))) <:+ (Q.drop f).drop k := by
      rw [show fst (mks (Q.drop f)) = k + (fst (mks (Q.drop f)) - k) by omega, ← List.drop_drop]
      exact List.drop_suffix _ _
    exact hn x (this.subset hx)
theorem lk_le (g old : Int) (O : List (Pk × Bool)) : lk g old O ≤ O.length := (List.takeWhile_sublist _).length_le
/-- What pass does to both. -/
theorem Jn.pass {f : Nat} {Q : List (Pk × Int)} {O : List (Pk × Bool)} (h : Jn f Q O) (hr : Rq Q) (g old : Int) : ∃ f', Jn f' (rlm g old Q) ((off (lk g old O) O).drop (fst (off (lk g old O) O))) := by
  obtain ⟨h1, h2, h3⟩ := h.left hr g old
  refine ⟨_, trim_jn (k := lk g old O) h2.symm (by rw [h1]; exact h.h) ?_ (by rw [h3]; exact fun x hx => h.n x (List.mem_of_mem_drop hx)) ?_⟩
  · intro x hx
    have hm : (x.1, decide (x.2 = 0)) ∈ (off (lk g old O) O).take (lk g old O) := by
      rw [← h2, ← mks_take]
      exact List.mem_map.2 ⟨x, hx, rfl⟩
    unfold off at hm
    rw [List.take_append_of_le_length (by simp [lk_le])] at hm
    have := List.mem_of_mem_take hm
    obtain ⟨y, hy, e⟩ := List.mem_map.1 this
    simp only [Prod.mk.injEq] at e
    have e2 := e.2
    simpa using e2.symm
  · have : (mks ((rlm g old Q).drop f)).length = O.length := by
      rw [h2]
      unfold off
      simp
      have := lk_le g old O
      omega
    rw [mks_len] at this
    rw [this]
    exact lk_le g old O
theorem rlm_same {g old : Int} {Q : List (Pk × Int)} {x : Pk × Int} (h : x ∈ rlm g old Q) (h1 : x.2 = 1) : x ∈ Q := by
  obtain ⟨y, hy, e⟩ := List.mem_map.1 h
  by_cases hi : il g old y = true
  · rw [if_pos hi] at e
    subst e
    simp at h1
  · rw [if_neg hi] at e
    subst e
    exact hy
/-- The spread is the same. -/
theorem Jn.spread {f : Nat} {Q : List (Pk × Int)} {O : List (Pk × Bool)} (h : Jn f Q O) (hr : Rq Q) (h0 : ∀ x ∈ Q, 0 ≤ x.1.a) (g old : Int) : rsp (rlm g old Q) ((rlt g old Q).map fun x => x.1) 0 = (sp (O.take (lk g old O))).2 := by
  have hl := h.lost hr g old
  rw [hl]
  obtain ⟨rfl, hh, hn⟩ := h
  generalize lk g old (mks (Q.drop f)) = k at *
  have hD : Rq (Q.drop f) := hr.sublist (List.drop_sublist _ _)
  have hE : (mks (Q.drop f)).take k = mks ((Q.drop f).take k) := (mks_take _ _).symm
  rw [hE] at hl ⊢
  have hK : Rq ((Q.drop f).take k) := hD.sublist (List.take_sublist _ _)
  have r1 : Rise (mks ((Q.drop f).take k)) := by
    unfold Rise mks
    rw [List.pairwise_map]
    exact hK.imp fun h => h.1
  have r2 : (mks ((Q.drop f).take k)).Pairwise fun x y => x.1.a ≤ y.1.a := by
    unfold mks
    rw [List.pairwise_map]
    exact hK.imp fun h => h.2
  have r3 : ∀ x ∈ mks ((Q.drop f).take k), 0 ≤ x.1.a := by
    intro x hx
    obtain ⟨y, hy, rfl⟩ := List.mem_map.1 hx
    exact h0 y (List.mem_of_mem_drop (List.mem_of_mem_take hy))
  have hs := (sp_is _ r1 r2 r3).1
  have hp : (ons (mks ((Q.drop f).take k))).Pairwise fun x y => x.n < y.n := by
    unfold ons
    rw [List.pairwise_map]
    exact (r1.sublist List.filter_sublist)
  obtain ⟨p1, p2, p3⟩ := rsp_is (rlm g old Q) _ hp 0
  generalize rsp (rlm g old Q) (ons (mks ((Q.drop f).take k))) 0 = R at *
  generalize hEE : mks ((Q.drop f).take k) = E at *
  have hcn : ∀ a ∈ ons E, ∀ b ∈ ons E, cnd (rlm g old Q) a b = true ↔ (a.e = true ∧ b.e = true ∧ ¬ ∃ x ∈ E, x.2 = false ∧ a.n < x.1.n ∧ x.1.n < b.n) := by
    intro a ha b hb
    have ha' := ons_mem.1 ha
    have hb' := ons_mem.1 hb
    rw [← hEE] at ha' hb'
    obtain ⟨ya, hya, ea⟩ := List.mem_map.1 ha'
    obtain ⟨yb, hyb, eb⟩ := List.mem_map.1 hb'
    simp only [Prod.mk.injEq] at ea eb
    have hbt : btw (rlm g old Q) a b = true ↔ ∃ x ∈ E, x.2 = false ∧ a.n < x.1.n ∧ x.1.n < b.n := by
      unfold btw
      simp only [List.any_eq_true, Bool.and_eq_true, decide_eq_true_eq]
      constructor
      · rintro ⟨x, hx, ⟨q1, q2⟩, q3⟩
        have hxQ := rlm_same hx q1
        have hx1 : x ∈ (Q.drop f).take k := by
          rw [← List.take_append_drop f Q] at hxQ hr
          obtain ⟨-, -, hr3⟩ := List.pairwise_append.1 hr
          rcases List.mem_append.1 hxQ with hxQ | hxQ
          · have := (hr3 x hxQ ya (List.mem_of_mem_take hya)).1
            rw [ea.1] at this
            omega
          · rw [← List.take_append_drop k (Q.drop f)] at hxQ hD
            obtain ⟨-, -, hd3⟩ := List.pairwise_append.1 hD
            rcases List.mem_append.1 hxQ with hxQ | hxQ
            · exact hxQ
            · have := (hd3 yb hyb x hxQ).1
              rw [eb.1] at this
              omega
        refine ⟨(x.1, decide (x.2 = 0)), ?_, by simp [q1], q2, q3⟩
        rw [← hEE]
        exact List.mem_map.2 ⟨x, hx1, rfl⟩
      · rintro ⟨x, hx, q1, q2, q3⟩
        rw [← hEE] at hx
        obtain ⟨y, hy, rfl⟩ := List.mem_map.1 hx
        have hy0 : y.2 ≠ 0 := by simpa using q1
        have hy1 : y.2 = 1 := (hn y (List.mem_of_mem_take hy)).resolve_left hy0
        refine ⟨y, List.mem_map.2 ⟨y, List.mem_of_mem_drop (List.mem_of_mem_take hy), ?_⟩, ⟨hy1, q2⟩, q3⟩
        rw [il_off hy0]
        simp
    unfold cnd
    rw [Bool.and_eq_true, Bool.and_eq_true, Bool.not_eq_true', ← Bool.not_eq_true, hbt]
    constructor
    · rintro ⟨⟨q1, q2⟩, q3⟩
      exact ⟨q1, q2, q3⟩
    · rintro ⟨q1, q2, q3⟩
      exact ⟨⟨q1, q2⟩, q3⟩
  have hm : Pm (Vs E) R := by
    refine ⟨p1, ?_, ?_⟩
    · rintro v ⟨a, ha, b, hb, q1, q2, q3, q4, rfl⟩
      exact p2 a ha b hb q1 ((hcn a ha b hb).2 ⟨q2, q3, q4⟩)
    · rcases p3 with p3 | ⟨a, ha, b, hb, q1, q2, q3⟩
      · exact .inl p3
      · obtain ⟨t1, t2, t3⟩ := (hcn a ha b hb).1 q2
        exact .inr ⟨a, ha, b, hb, q1, t1, t2, t3, q3⟩
  exact hm.uniq hs fun v => Iff.rfl
end Go.Proofs.Ytkjcapmhjhnckaa
