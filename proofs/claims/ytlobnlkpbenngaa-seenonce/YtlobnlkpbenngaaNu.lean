/- seen: the numbers as they lie: parts, each with a set of spans. -/
import Derived.Test.YtlobnlkpbenngaaPSea
import Derived.Test.YtlobnlkpbenngaaRSet
import Derived.Test.YtlobnlkpbenngaaRWo
import Derived.Test.YtlobnlkpbenngaaNob
namespace Go.Proofs.YtlobnlkpbenngaaR
open Go.RowKit Go.Shelf Go.Lib
set_option linter.unusedVariables false

/-- A part: from where on, the set's block, its row, its spans. -/
structure Pt where
  f : Int
  T : Nat
  o : Option Addr
  L : List (Int × Int)

def Pt.p (a : Pt) : Int × Nat := (a.f, a.T)
/-- Two parts share no memory. -/
def Apart (a b : Pt) : Prop := a.T ≠ b.T ∧ ∀ g, a.o = some ⟨g, 0, none⟩ → b.o ≠ some ⟨g, 0, none⟩

/-- The numbers in block M: the parts Q, in the row of block G. -/
structure Nu (n₀ : Nat) (w : World) (M G c : Nat) (Q : List Pt) : Prop where
  head : w.heap[M]? = some (.cells #[.slice (some ⟨G, 0, none⟩) Q.length c] 76 (0, 0))
  row : ∃ R, YtlobnlkpbenngaaP.At w G (YtlobnlkpbenngaaP.fl (Q.map Pt.p) ++ R) ∧ R.length + Q.length * 2 = c * 2
  cap : c ≤ maxLen
  sets : ∀ a ∈ Q, My n₀ w a.T a.o a.L
  apart : Q.Pairwise Apart
  hM : n₀ ≤ M
  hG : n₀ ≤ G

theorem Nu.headC {n₀ : Nat} {w : World} {M G c : Nat} {Q : List Pt} (h : Nu n₀ w M G c Q) : w.cell? ⟨M, 0, none⟩ = some (.slice (some ⟨G, 0, none⟩) Q.length c) := by
  have := h.head
  simp [World.cell?, this]
theorem Nu.lt {n₀ : Nat} {w : World} {M G c : Nat} {Q : List Pt} (h : Nu n₀ w M G c Q) : M < w.heap.size ∧ G < w.heap.size := by
  obtain ⟨R, hA, _⟩ := h.row
  exact ⟨(Array.getElem?_eq_some_iff.1 h.head).1, hA.lt⟩
/-- What leaves the numbers' blocks alone leaves the numbers. -/
theorem Nu.chg {n₀ : Nat} {X : Nat → Prop} {w w' : World} {M G c : Nat} {Q : List Pt} (h : Nu n₀ w M G c Q) (hc : Chg X w w') (hM : ¬ X M) (hG : ¬ X G) (hT : ∀ a ∈ Q, ¬ X a.T ∧ ∀ g, a.o = some ⟨g, 0, none⟩ → ¬ X g) : Nu n₀ w' M G c Q := by
  obtain ⟨R, hA, hR⟩ := h.row
  exact ⟨(hc.2.2.2.2 M h.lt.1 hM).trans h.head, ⟨R, (hc.2.2.2.2 G h.lt.2 hG).trans hA, hR⟩, h.cap, fun a ha => (h.sets a ha).chg hc (hT a ha).1 (hT a ha).2, h.apart, h.hM, h.hG⟩
theorem Nu.below {n₀ : Nat} {w w' : World} {M G c : Nat} {Q : List Pt} (h : Nu n₀ w M G c Q) (hb : Below w.heap.size w w') : Nu n₀ w' M G c Q :=
  h.chg (X := fun _ => False) (Chg.below hb) (fun h => h) (fun h => h) (fun a _ => ⟨fun h => h, fun _ _ h => h⟩)

/-- The parts rise, the first one begins with 0, and each has numbers of its own alone. -/
structure Rise (Q : List Pt) : Prop where
  ne : Q ≠ []
  zero : ∀ a ∈ Q.head?, a.f = 0
  up : Q.Pairwise (fun a b => a.f < b.f ∧ ∀ p ∈ a.L, p.2 < b.f)
  lo : ∀ a ∈ Q, 0 ≤ a.f ∧ ∀ p ∈ a.L, a.f ≤ p.1

/-- Where a number's part stands. -/
theorem Rise.split {Q : List Pt} (h : Rise Q) (n : Int) (hn : 0 ≤ n) : ∃ A a B, Q = A ++ a :: B ∧ a.f ≤ n ∧ ∀ b ∈ B, n < b.f := by
  obtain ⟨ne, zero, up, lo⟩ := h
  clear lo
  induction Q with
  | nil => exact absurd rfl ne
  | cons x t ih =>
    have hx : x.f = 0 := zero x (by simp)
    clear ih zero ne
    have key : ∀ (t : List Pt) (x : Pt), x.f ≤ n → (x :: t).Pairwise (fun a b => a.f < b.f ∧ ∀ p ∈ a.L, p.2 < b.f) → ∃ A a B, x :: t = A ++ a :: B ∧ a.f ≤ n ∧ ∀ b ∈ B, n < b.f := by
      intro t
      induction t with
      | nil => intro x hx _; exact ⟨[], x, [], rfl, hx, fun _ h => nomatch h⟩
      | cons y t ih =>
        intro x hx hp
        by_cases hy : y.f ≤ n
        · obtain ⟨A, a, B, e, h1, h2⟩ := ih y hy (List.pairwise_cons.1 hp).2
          exact ⟨x :: A, a, B, by rw [e]; rfl, h1, h2⟩
        · refine ⟨[], x, y :: t, rfl, hx, fun b hb => ?_⟩
          rcases List.mem_cons.1 hb with rfl | hb
          · omega
          · have := ((List.pairwise_cons.1 (List.pairwise_cons.1 hp).2).1 b hb).1
            omega
    exact key t x (by omega) up

set_option maxRecDepth 100000 in
/-- place: the part that a number belongs to. -/
theorem place_nu (n₀ M G c k : Nat) (n : Int) (A : List Pt) (a : Pt) (B : List Pt) (w : World) (h : Nu n₀ w M G c (A ++ a :: B)) (hr : Rise (A ++ a :: B)) (hsz : (A ++ a :: B).length ≤ 68719476736) (h1 : a.f ≤ n) (h2 : ∀ b ∈ B, n < b.f) (hk : A.length = k) :
    Calls Try.prog 34 #[.pointer (some ⟨M, 0, none⟩), .int .i64 n] w fun e w' => e = .returned (.int .i64 k) ∧ Below w.heap.size w w' := by
  obtain ⟨R, hA, hR⟩ := h.row
  have hc := h.headC
  obtain ⟨N, hN⟩ : ∃ N, (A ++ a :: B).length = N := ⟨_, rfl⟩
  have hNk : k < N := by rw [← hN]; simp; omega
  have hN2 : N ≤ 68719476736 := by omega
  have hup := List.pairwise_iff_getElem.1 hr.up
  have hkk : ∀ (hj : k < (A ++ a :: B).length), (A ++ a :: B)[k] = a := by
    intro hj
    rw [List.getElem_append_right (by omega)]
    simp [hk]
  have hAa : ∀ j (hj : j < (A ++ a :: B).length), j < k → (A ++ a :: B)[j].f < a.f := by
    intro j hj hjk
    have := (hup j k hj (by omega) hjk).1
    rwa [hkk (by omega)] at this
  have hBb : ∀ j (hj : j < (A ++ a :: B).length), k < j → n < (A ++ a :: B)[j].f := by
    intro j hj hjk
    obtain ⟨q, rfl⟩ : ∃ q, j = A.length + (q + 1) := ⟨j - A.length - 1, by omega⟩
    rw [List.getElem_append_right (by omega)]
    simp only [Nat.add_sub_cancel_left, List.getElem_cons_succ]
    exact h2 _ (List.getElem_mem _)
  have hml : ((A ++ a :: B).map Pt.p).length = N := by rw [List.length_map, hN]
  by_cases he : a.f = n
  · have hs := YtlobnlkpbenngaaP.search_some G c k n ((A ++ a :: B).map Pt.p) R w hA (by omega) (by omega)
      (fun j hj hjk => by rw [List.getElem_map]; have := hAa j (by omega) hjk; simp only [Pt.p]; omega)
      (fun j hj hjk => by
        rw [List.getElem_map]
        rcases Nat.lt_or_ge k j with hx | hx
        · have := hBb j (by omega) hx; simp only [Pt.p]; omega
        · obtain rfl : j = k := by omega
          rw [hkk (by omega)]; simp only [Pt.p]; omega)
    rw [hml] at hs
    rw [hN] at hc
    have he2 : ∀ b, YtlobnlkpbenngaaP.EqAt ((A ++ a :: B).map Pt.p) k n b → b = true := fun b hb => hb.2 ⟨by omega, by rw [List.getElem_map, hkk (by omega)]; exact he⟩
    clear h hr hA hR hup hAa hBb hkk
    go_enter Try.func34, Try.ntmps34
    go_wp2_with fail
    refine hs.mono ?_
    rintro e w' ⟨b, rfl, hb, hbw⟩
    obtain rfl := he2 b hb
    clear hb he2
    go_wp2
    go_ret
    exact ⟨rfl, hbw⟩
  · have hs := YtlobnlkpbenngaaP.search_some G c (k + 1) n ((A ++ a :: B).map Pt.p) R w hA (by omega) (by omega)
      (fun j hj hjk => by
        rw [List.getElem_map]
        rcases Nat.lt_or_ge j k with hx | hx
        · have := hAa j (by omega) hx; simp only [Pt.p]; omega
        · obtain rfl : j = k := by omega
          rw [hkk (by omega)]; simp only [Pt.p]; omega)
      (fun j hj hjk => by rw [List.getElem_map]; have := hBb j (by omega) (by omega); simp only [Pt.p]; omega)
    rw [hml] at hs
    rw [hN] at hc
    have he2 : ∀ b, YtlobnlkpbenngaaP.EqAt ((A ++ a :: B).map Pt.p) (k + 1) n b → b = false := fun b hb => by
      cases b with
      | false => rfl
      | true =>
        obtain ⟨hj, hx⟩ := hb.1 rfl
        rw [List.getElem_map] at hx
        have := hBb (k + 1) (by omega) (by omega)
        simp only [Pt.p] at hx
        omega
    clear h hr hA hR hup hAa hBb hkk
    go_enter Try.func34, Try.ntmps34
    go_wp2_with fail
    refine hs.mono ?_
    rintro e w' ⟨b, rfl, hb, hbw⟩
    obtain rfl := he2 b hb
    clear hb he2
    have hwr : IntKind.i64.wrap (((k + 1 : Nat) : Int) - 1) = (k : Int) := by rw [IntKind.wrap_i64]; omega
    go_wp2
    go_ret
    refine ⟨?_, hbw⟩
    simp
end Go.Proofs.YtlobnlkpbenngaaR
