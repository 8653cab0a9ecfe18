/- SeenOnce: Forget, Acks and Take of the law's end. -/
import Derived.Test.YtlobnlkpbenngaaOn
namespace Go.Proofs.YtlobnlkpbenngaaR
open Go.RowKit Go.Shelf Go.Lib
set_option linter.unusedVariables false

/-- The law's Seen behind Forget: the spans L. -/
def Fs (w : World) (s M : Nat) (fe : Int) (L : List (Int × Int)) (wr : World) : Prop :=
  ∃ G c v a, Sc wr s M v ∧ Nu w.heap.size wr M G c [a] ∧ a.f = 0 ∧ a.L = L ∧ v.f = fe ∧ v.d = 25 ∧ v.n ≤ 1125899906842624 ∧ -1 ≤ v.g ∧ v.g ≤ 4611686018427387903 ∧ w.heap.size ≤ s ∧ Below w.heap.size w wr
theorem Fs.below {w : World} {s M : Nat} {fe : Int} {L : List (Int × Int)} {wr w' : World} (h : Fs w s M fe L wr) (hb : Below wr.heap.size wr w') : Fs w s M fe L w' := by
  obtain ⟨G, c, v, a, h1, h2, h3, h4, h5, h6, h7, h8, h9, h10, h11⟩ := h
  exact ⟨G, c, v, a, h1.below hb, h2.below hb, h3, h4, h5, h6, h7, h8, h9, h10, h11.trans (hb.mono h11.size)⟩
theorem Fs.bel {w : World} {s M : Nat} {fe : Int} {L : List (Int × Int)} {wr : World} (h : Fs w s M fe L wr) : Below w.heap.size w wr := by
  obtain ⟨G, c, v, a, h1, h2, h3, h4, h5, h6, h7, h8, h9, h10, h11⟩ := h
  exact h11

/-- What L is, of the numbers C that have come, those up to fe being forgotten. -/
structure Lf (C : List Int) (fe : Int) (L : List (Int × Int)) : Prop where
  ok : Ok L
  mem : ∀ m, In m L ↔ m ∈ C ∧ fe < m
theorem Lf.tot {C : List Int} {fe : Int} {L : List (Int × Int)} (h : Lf C fe L) : total L ≤ C.length := total_le L C h.ok (fun n hn => ((h.mem n).1 hn).1)
theorem Lf.len {C : List Int} {fe : Int} {L : List (Int × Int)} (h : Lf C fe L) : L.length ≤ C.length := by
  have := h.tot; have := len_total L h.ok; omega

set_option maxRecDepth 100000 in
theorem forget_on (w : World) (s M : Nat) (C : List Int) (t u : Int) (wr : World) (h : OnS w s M C t wr) (hC : C.length ≤ 1000) (ht : t ≤ 1125899906842624) :
    Calls Try.prog 14 #[.pointer (some ⟨s, 0, none⟩), .int .i64 u] wr fun e w' => ∃ r fe L, e = .returned (.int .i64 r) ∧ ((r = 0 ∧ fe = u) ∨ (r = 2 ∧ fe = -1)) ∧ Lf C fe L ∧ Fs w s M fe L w' ∧ Ks w.heap.size s wr w' := by
  obtain ⟨G, c, v, Q, k1, k2, k3, k4, k5, k6, k7, k8, k9, k10, k11, k12, k13, k14⟩ := h
  obtain ⟨a, rfl, q4, q5⟩ := k6 hC
  have hO := k2.ok a (by simp)
  have hin : ∀ m, In m a.L ↔ m ∈ C := fun m => by rw [← InQ'_one, k4 m]
  have same : Lf C (-1) a.L ∧ Fs w s M (-1) a.L wr := ⟨⟨hO, fun m => by
    rw [hin m]
    exact ⟨fun h => ⟨h, by have := k12 m h; omega⟩, fun h => h.1⟩⟩, G, c, v, a, k1, k2, q4, rfl, k8, k7, by omega, k10, k11, k13, k14⟩
  by_cases hu : u < -1 ∨ 4611686018427387903 < u
  · refine (forget_bad s M v u wr k1 hu).mono ?_
    rintro e w' ⟨rfl, hw⟩
    subst w'
    exact ⟨2, -1, a.L, rfl, .inr ⟨rfl, rfl⟩, same.1, same.2, Ks.refl _ _ _⟩
  · by_cases hu1 : u = -1
    · subst hu1
      refine (forget_no s M v (-1) wr k1 (by omega) (by omega) (by omega)).mono ?_
      rintro e w' ⟨rfl, hw⟩
      subst w'
      exact ⟨0, -1, a.L, rfl, .inl ⟨rfl, rfl⟩, same.1, same.2, Ks.refl _ _ _⟩
    · refine (forget_yes w.heap.size s M G c v u a wr k1 k2 k14.size q4 (by omega) (by omega) (by omega) (by omega)).mono ?_
      rintro e w' ⟨rfl, r1, ⟨o', L', r2, r3⟩, r4⟩
      refine ⟨0, u, L', rfl, .inl ⟨rfl, rfl⟩, ⟨r2.ok ⟨0, a.T, o', L'⟩ (by simp), fun m => ?_⟩, ⟨G, c, _, _, r1, r2, rfl, rfl, rfl, k7, by show v.n ≤ _; omega, k10, k11, k13, k14.trans (Ks.toBelow r4 k14.size k13)⟩, r4⟩
      rw [r3 m, hin m]
      constructor
      · rintro ⟨h1, h2⟩
        have := k12 m h1
        exact ⟨h1, by omega⟩
      · rintro ⟨h1, h2⟩
        exact ⟨h1, by omega⟩

/-- The k-th from behind. -/
def fromEnd (L : List (Int × Int)) (k : Nat) : Int × Int := L.getD (L.length - 1 - k) (0, 0)
theorem fromEnd_get (L : List (Int × Int)) (k : Nat) (h : k < L.length) : L[L.length - 1 - k]? = some (fromEnd L k) := by
  have : L.length - 1 - k < L.length := by omega
  simp [fromEnd, List.getD, List.getElem?_eq_getElem this]
theorem upE_rev (L : List (Int × Int)) : upE (fromEnd L) L.length = L.reverse := by
  apply List.ext_getElem
  · simp
  · intro i h1 h2
    simp only [upE_length] at h1
    have h3 := fromEnd_get L i h1
    have h4 : L.length - 1 - i < L.length := by omega
    rw [List.getElem?_eq_getElem h4] at h3
    simp only [upE, List.getElem_map, List.getElem_range, List.getElem_reverse]
    simpa using h3.symm
theorem In_rev (n : Int) (L : List (Int × Int)) : In n L.reverse ↔ In n L := by
  constructor
  · rintro ⟨p, hp, h⟩; exact ⟨p, by simpa using hp, h⟩
  · rintro ⟨p, hp, h⟩; exact ⟨p, by simpa using hp, h⟩
theorem total_rev (L : List (Int × Int)) : total L.reverse = total L := by
  induction L with
  | nil => rfl
  | cons p t ih => rw [List.reverse_cons, total_append, ih]; simp only [total]; omega

set_option maxRecDepth 100000 in
theorem acks_on (w : World) (s M : Nat) (fe : Int) (L : List (Int × Int)) (wr : World) (h : Fs w s M fe L wr) (hl : L.length ≤ 1000) :
    Calls Try.prog 18 #[.pointer (some ⟨s, 0, none⟩), .int .i64 1000] wr fun e w' => ∃ oc cc, e = .returned (.slice oc L.length cc) ∧ Rs w' oc cc L.reverse ∧ Fs w s M fe L w' ∧ Below wr.heap.size wr w' := by
  obtain ⟨G, c, v, a, h1, h2, h3, rfl, h5, h6, h7, h8, h9, h10, h11⟩ := h
  refine (acks_c w.heap.size s M G c a.L.length v a 1000 (fromEnd a.L) wr h1 h2 rfl (fun k hk => fromEnd_get a.L k hk) (by omega) (by omega) (by decide) (by decide)).mono ?_
  rintro e w' ⟨oc, cc, rfl, q1, q2, q3⟩
  refine ⟨oc, cc, rfl, upE_rev a.L ▸ q1, ?_, q2⟩
  exact Fs.below ⟨G, c, v, a, h1, h2, h3, rfl, h5, h6, h7, h8, h9, h10, h11⟩ q2

set_option maxRecDepth 100000 in
/-- What has come is not fresh. -/
theorem take_end (w : World) (s M : Nat) (C : List Int) (fe x : Int) (L : List (Int × Int)) (wr : World) (h : Fs w s M fe L wr) (hL : Lf C fe L) (hl : L.length ≤ 1000) (hx : x ∈ C) (hx0 : 0 ≤ x) (hx1 : x ≤ 4611686018427387903) :
    Calls Try.prog 10 #[.pointer (some ⟨s, 0, none⟩), .int .i64 x, .bool true, .int .i64 1125899906842624] wr fun e w' => e = .returned (.tuple #[.bool false, .int .i64 0]) ∧ Fs w s M fe L w' ∧ Chg (fun k => k = s) wr w' := by
  obtain ⟨G, c, v, a, h1, h2, h3, rfl, h5, h6, h7, h8, h9, h10, h11⟩ := h
  refine (take_one w.heap.size s M G c v a x 1125899906842624 true wr h1 h2 h11.size h3 (by omega) hx0 hx1 (by decide) (by decide) h7 h8 h9 (by omega) (by omega)).mono ?_
  rintro e w' (⟨rfl, hor, q1, q2, q3⟩ | ⟨rfl, hfx, hnin, _⟩)
  · exact ⟨rfl, ⟨G, c, _, a, q1, q2, h3, rfl, h5, h6, Int.le_refl _, h8, h9, h10, h11.trans ⟨q3.1, q3.2.1, q3.2.2.1, q3.2.2.2.1, fun k hk => q3.2.2.2.2 k (Nat.lt_of_lt_of_le hk h11.size) (by omega)⟩⟩, q3⟩
  · exact absurd ⟨a, by simp, (hL.mem x).2 ⟨hx, by omega⟩⟩ hnin
end Go.Proofs.YtlobnlkpbenngaaR
