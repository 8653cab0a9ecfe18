/- seen: the numbers' parts, as lists: what stays so. -/
import Derived.Test.YtlobnlkpbenngaaSp0
namespace Go.Proofs.YtlobnlkpbenngaaR
open Go.RowKit Go.Shelf Go.Lib
set_option linter.unusedVariables false

theorem In_self {L : List (Int × Int)} (h : Ok L) {p : Int × Int} (hp : p ∈ L) : In p.1 L ∧ In p.2 L := by
  have := h.2 p hp
  exact ⟨⟨p, hp, by omega, by omega⟩, ⟨p, hp, by omega, by omega⟩⟩

/-- The parts rise, have few spans each, and are well laid. -/
structure Fine (Q : List Pt) : Prop where
  rise : Rise Q
  few : ∀ a ∈ Q, a.L.length ≤ 1024
  ok : ∀ a ∈ Q, Ok a.L
def wt (Q : List Pt) : Nat := (Q.map (fun a => 512 + (a.L.length - 513))).sum
set_option maxRecDepth 100000 in
theorem wt_len (Q : List Pt) : Q.length * 512 ≤ wt Q := by
  unfold wt
  induction Q with
  | nil => simp
  | cons a t ih => simp only [List.map_cons, List.sum_cons, List.length_cons]; omega
theorem wt_append (A B : List Pt) : wt (A ++ B) = wt A + wt B := by simp [wt]
theorem wt_cons (a : Pt) (B : List Pt) : wt (a :: B) = 512 + (a.L.length - 513) + wt B := by simp [wt]

def InQ' (n : Int) (Q : List Pt) : Prop := ∃ a ∈ Q, In n a.L
theorem InQ'_append (n : Int) (A B : List Pt) : InQ' n (A ++ B) ↔ InQ' n A ∨ InQ' n B := by
  unfold InQ'
  constructor
  · rintro ⟨a, ha, h⟩
    rcases List.mem_append.1 ha with ha | ha
    · exact .inl ⟨a, ha, h⟩
    · exact .inr ⟨a, ha, h⟩
  · rintro (⟨a, ha, h⟩ | ⟨a, ha, h⟩)
    · exact ⟨a, List.mem_append_left _ ha, h⟩
    · exact ⟨a, List.mem_append_right _ ha, h⟩
theorem InQ'_cons (n : Int) (a : Pt) (B : List Pt) : InQ' n (a :: B) ↔ In n a.L ∨ InQ' n B := by
  unfold InQ'
  constructor
  · rintro ⟨x, hx, h⟩
    rcases List.mem_cons.1 hx with rfl | hx
    · exact .inl h
    · exact .inr ⟨x, hx, h⟩
  · rintro (h | ⟨x, hx, h⟩)
    · exact ⟨a, List.mem_cons_self, h⟩
    · exact ⟨x, List.mem_cons_of_mem _ hx, h⟩

/-- The parts by what stands ahead of one, it, and behind it. -/
theorem rise_parts {A : List Pt} {a : Pt} {B : List Pt} : Rise (A ++ a :: B) ↔ ((∀ x ∈ (A ++ [a]).head?, x.f = 0) ∧ A.Pairwise (fun a b => a.f < b.f ∧ ∀ p ∈ a.L, p.2 < b.f) ∧ B.Pairwise (fun a b => a.f < b.f ∧ ∀ p ∈ a.L, p.2 < b.f) ∧
    (∀ x ∈ A, x.f < a.f ∧ ∀ p ∈ x.L, p.2 < a.f) ∧ (∀ y ∈ B, a.f < y.f ∧ ∀ p ∈ a.L, p.2 < y.f) ∧ (∀ x ∈ A, ∀ y ∈ B, x.f < y.f ∧ ∀ p ∈ x.L, p.2 < y.f) ∧ (∀ x ∈ A, 0 ≤ x.f ∧ ∀ p ∈ x.L, x.f ≤ p.1) ∧ (0 ≤ a.f ∧ ∀ p ∈ a.L, a.f ≤ p.1) ∧ (∀ y ∈ B, 0 ≤ y.f ∧ ∀ p ∈ y.L, y.f ≤ p.1)) := by
  have hh : (A ++ a :: B).head? = (A ++ [a]).head? := by cases A <;> simp
  constructor
  · intro h
    have hp := List.pairwise_append.1 h.up
    have hc := List.pairwise_cons.1 hp.2.1
    refine ⟨by rw [← hh]; exact h.zero, hp.1, hc.2, fun x hx => hp.2.2 x hx a (by simp), hc.1, fun x hx y hy => hp.2.2 x hx y (List.mem_cons_of_mem _ hy), fun x hx => h.lo x (List.mem_append_left _ hx), h.lo a (by simp), fun y hy => h.lo y (List.mem_append_right _ (List.mem_cons_of_mem _ hy))⟩
  · rintro ⟨h1, h2, h3, h4, h5, h6, h7, h8, h9⟩
    refine ⟨by simp, by rw [hh]; exact h1, List.pairwise_append.2 ⟨h2, List.pairwise_cons.2 ⟨h5, h3⟩, fun x hx y hy => ?_⟩, fun x hx => ?_⟩
    · rcases List.mem_cons.1 hy with rfl | hy
      · exact h4 x hx
      · exact h6 x hx y hy
    · rcases List.mem_append.1 hx with hx | hx
      · exact h7 x hx
      · rcases List.mem_cons.1 hx with rfl | hx
        · exact h8
        · exact h9 x hx

/-- One part's spans are others, with numbers of its own. -/
theorem Rise.turn {A : List Pt} {a : Pt} {B : List Pt} (h : Rise (A ++ a :: B)) (T : Nat) (o : Option Addr) (L : List (Int × Int)) (hO : Ok L) (h1 : ∀ n, In n L → a.f ≤ n ∧ ∀ y ∈ B, n < y.f) : Rise (A ++ ⟨a.f, T, o, L⟩ :: B) := by
  obtain ⟨k1, k2, k3, k4, k5, k6, k7, k8, k9⟩ := rise_parts.1 h
  refine rise_parts.2 ⟨?_, k2, k3, k4, fun y hy => ⟨(k5 y hy).1, fun p hp => (h1 _ (In_self hO hp).2).2 y hy⟩, k6, k7, ⟨k8.1, fun p hp => (h1 _ (In_self hO hp).1).1⟩, k9⟩
  intro x hx
  cases A with
  | nil => simp at hx; subst hx; exact k1 a (by simp)
  | cons z t => exact k1 x (by simpa using hx)

/-- Two neighbours are one. -/
theorem Rise.join {A : List Pt} {a b : Pt} {B : List Pt} (h : Rise (A ++ a :: b :: B)) (ha : Ok a.L) (hb : Ok b.L) (T : Nat) (o : Option Addr) (L : List (Int × Int)) (hO : Ok L) (h1 : ∀ n, In n L ↔ In n a.L ∨ In n b.L) : Rise (A ++ ⟨a.f, T, o, L⟩ :: B) := by
  obtain ⟨k1, k2, k3, k4, k5, k6, k7, k8, k9⟩ := rise_parts.1 h
  have kb := List.pairwise_cons.1 k3
  have h' : Rise (A ++ a :: B) := rise_parts.2 ⟨k1, k2, kb.2, k4, fun y hy => k5 y (List.mem_cons_of_mem _ hy), fun x hx y hy => k6 x hx y (List.mem_cons_of_mem _ hy), k7, k8, fun y hy => k9 y (List.mem_cons_of_mem _ hy)⟩
  refine h'.turn T o L hO (fun n hn => ?_)
  have hab := (k5 b (by simp)).1
  rcases (h1 n).1 hn with ⟨p, hp, q1, q2⟩ | ⟨p, hp, q1, q2⟩
  · refine ⟨by have := k8.2 p hp; omega, fun y hy => ?_⟩
    have := (k5 y (List.mem_cons_of_mem _ hy)).2 p hp
    omega
  · refine ⟨by have := (k9 b (by simp)).2 p hp; omega, fun y hy => ?_⟩
    have := (kb.1 y hy).2 p hp
    omega

/-- One part is two. -/
theorem Rise.split2 {A : List Pt} {a : Pt} {B : List Pt} (h : Rise (A ++ a :: B)) (T T' : Nat) (o o' : Option Addr) (H : Nat) (f l0 : Int) (hO : Ok a.L) (hf : a.L[H]? = some (f, l0)) (hH : 0 < H) : Rise (A ++ ⟨a.f, T, o, a.L.take H⟩ :: ⟨f, T', o', a.L.drop H⟩ :: B) := by
  obtain ⟨k1, k2, k3, k4, k5, k6, k7, k8, k9⟩ := rise_parts.1 h
  obtain ⟨lh, eh⟩ := List.getElem?_eq_some_iff.1 hf
  have hfm : (f, l0) ∈ a.L := eh ▸ List.getElem_mem lh
  have hlow : ∀ p ∈ a.L.take H, p.2 < f := fun p hp => by
    have hin := ((In_half hO H f l0 hf p.2).1.1 (In_self (Ok_take hO H) hp).2).2
    have := hO.2 p (List.mem_of_mem_take hp)
    omega
  have hhigh : ∀ p ∈ a.L.drop H, f ≤ p.1 := fun p hp => ((In_half hO H f l0 hf p.1).2.1 (In_self (Ok_drop hO H) hp).1).2
  have haf : a.f < f := by
    have h0 : 0 < a.L.length := by omega
    have hm : a.L[0] ∈ a.L.take H := by
      rw [List.mem_iff_getElem?]
      exact ⟨0, by rw [List.getElem?_take_of_lt hH, List.getElem?_eq_getElem h0]⟩
    have e1 := hlow _ hm
    have e2 := k8.2 _ (List.getElem_mem h0)
    have e3 := hO.2 _ (List.getElem_mem h0)
    omega
  refine rise_parts.2 ⟨?_, k2, List.pairwise_cons.2 ⟨fun y hy => ⟨?_, fun p hp => (k5 y hy).2 p (List.mem_of_mem_drop hp)⟩, k3⟩, k4, fun y hy => ?_, fun x hx y hy => ?_, k7, ⟨k8.1, fun p hp => k8.2 p (List.mem_of_mem_take hp)⟩, fun y hy => ?_⟩
  · intro x hx
    cases A with
    | nil => simp at hx; subst hx; exact k1 a (by simp)
    | cons z t => exact k1 x (by simpa using hx)
  · have := (k5 y hy).2 _ hfm
    have := (hO.2 _ hfm).2.1
    simp only at *
    omega
  · rcases List.mem_cons.1 hy with rfl | hy
    · exact ⟨haf, hlow⟩
    · exact ⟨(k5 y hy).1, fun p hp => (k5 y hy).2 p (List.mem_of_mem_take hp)⟩
  · rcases List.mem_cons.1 hy with rfl | hy
    · have := k4 x hx
      exact ⟨by show x.f < f; omega, fun p hp => by have := this.2 p hp; show p.2 < f; omega⟩
    · exact k6 x hx y hy
  · rcases List.mem_cons.1 hy with rfl | hy
    · exact ⟨by show 0 ≤ f; omega, hhigh⟩
    · exact k9 y hy
end Go.Proofs.YtlobnlkpbenngaaR
