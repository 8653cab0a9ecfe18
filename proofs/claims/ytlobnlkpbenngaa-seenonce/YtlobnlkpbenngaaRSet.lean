/- ranges: a set of one's own under any Add and Remove. -/
import Derived.Test.YtlobnlkpbenngaaRRound
namespace Go.Proofs.YtlobnlkpbenngaaR
open Go.RowKit Go.Shelf Go.Lib
set_option linter.unusedVariables false

/-- A set of one's own: made since block n₀, its spans rise, and they are not too many. -/
def My (n₀ : Nat) (w : World) (S : Nat) (o : Option Addr) (L : List (Int × Int)) : Prop :=
  (∃ c, Se w S o c L) ∧ Ok L ∧ L.length ≤ 65536 ∧ n₀ ≤ S ∧ (∀ g, o = some ⟨g, 0, none⟩ → n₀ ≤ g)

set_option maxRecDepth 100000 in
theorem My.lt {n₀ : Nat} {w : World} {S : Nat} {o : Option Addr} {L : List (Int × Int)} (h : My n₀ w S o L) : S < w.heap.size ∧ ∀ g, o = some ⟨g, 0, none⟩ → g < w.heap.size := by
  obtain ⟨⟨c, h⟩, _⟩ := h
  refine ⟨h.lt, fun g hg => ?_⟩
  rcases h.2.1 with ⟨h', _⟩ | ⟨q, R, h', hA, _⟩
  · rw [h'] at hg; cases hg
  · rw [h'] at hg
    injection hg with hg
    injection hg with hg
    subst hg
    exact hA.lt
set_option maxRecDepth 100000 in
theorem My.chg {n₀ : Nat} {X : Nat → Prop} {w w' : World} {S : Nat} {o : Option Addr} {L : List (Int × Int)} (h : My n₀ w S o L) (hc : Chg X w w') (hS : ¬ X S) (hg : ∀ g, o = some ⟨g, 0, none⟩ → ¬ X g) : My n₀ w' S o L := by
  have hl := h.lt
  obtain ⟨⟨c, h1⟩, h2⟩ := h
  refine ⟨⟨c, (hc.2.2.2.2 S hl.1 hS).trans h1.1, ?_, h1.2.2⟩, h2⟩
  rcases h1.2.1 with h' | ⟨q, R, h', hA, hR⟩
  · exact .inl h'
  · exact .inr ⟨q, R, h', (hc.2.2.2.2 q hA.lt (hg q h')).trans hA, hR⟩
set_option maxRecDepth 100000 in
theorem My.below {n₀ : Nat} {w w' : World} {S : Nat} {o : Option Addr} {L : List (Int × Int)} (h : My n₀ w S o L) (hb : Below w.heap.size w w') : My n₀ w' S o L :=
  h.chg (X := fun _ => False) (Chg.below hb) (fun h => h) (fun _ _ h => h)

/-- What a call that turned the set leaves. -/
def Turn (n₀ : Nat) (w w' : World) (S : Nat) (o o' : Option Addr) (L' : List (Int × Int)) : Prop :=
  My n₀ w' S o' L' ∧ Chg (fun k => k = S ∨ o = some ⟨k, 0, none⟩) w w' ∧ (o' = o ∨ ∃ g, o' = some ⟨g, 0, none⟩ ∧ w.heap.size ≤ g)
set_option maxRecDepth 100000 in
theorem Turn.below {n₀ : Nat} {w0 w w' : World} {S : Nat} {o o' : Option Addr} {L L' : List (Int × Int)} (h : My n₀ w S o L) (ht : Turn n₀ w w' S o o' L') (hb : Below n₀ w0 w) : Below n₀ w0 w' := by
  obtain ⟨_, hc, _⟩ := ht
  obtain ⟨⟨c, h1⟩, _, _, hS, hg⟩ := h
  refine hb.trans ⟨hc.1, hc.2.1, hc.2.2.1, hc.2.2.2.1, fun k hk => ?_⟩
  by_cases hkw : k < w.heap.size
  · refine hc.2.2.2.2 k hkw ?_
    rintro (e | e)
    · omega
    · have := hg k e; omega
  · have := h1.lt; omega

set_option maxRecDepth 100000 in
theorem turn_of_upd {n₀ : Nat} {w w' : World} {S : Nat} {o : Option Addr} {L L' : List (Int × Int)} (h : My n₀ w S o L) (hn : n₀ ≤ w.heap.size) (hu : Upd w w' S o L') (hO : Ok L') (hl : L'.length ≤ 65536) : ∃ o', Turn n₀ w w' S o o' L' := by
  obtain ⟨o', c', h1, h2, h3⟩ := hu
  refine ⟨o', ⟨⟨c', h1⟩, hO, hl, h.2.2.2.1, fun g hg => ?_⟩, h2, h3⟩
  rcases h3 with h3 | ⟨q, hq, hq2⟩
  · exact h.2.2.2.2 g (h3 ▸ hg)
  · rw [hq] at hg
    injection hg with hg
    injection hg with hg
    omega

set_option maxRecDepth 100000 in
/-- Add, whatever the span. -/
theorem add_my (n₀ S : Nat) (o : Option Addr) (f l : Int) (L : List (Int × Int)) (w : World) (h : My n₀ w S o L) (hn : n₀ ≤ w.heap.size) :
    Calls Try.prog 37 #[.pointer (some ⟨S, 0, none⟩), .int .i64 f, .int .i64 l] w fun e w' => ∃ r o' L', e = .returned (.int .i64 r) ∧ Turn n₀ w w' S o o' L' ∧
      ((r = 0 ∧ Fit f l ∧ ∀ n, In n L' ↔ In n L ∨ (f ≤ n ∧ n ≤ l)) ∨ (r = 2 ∧ ¬ Fit f l ∧ L' = L) ∨ (r = 3 ∧ Fit f l ∧ L' = L ∧ ∃ M, Ok M ∧ 65536 < M.length ∧ ∀ n, In n M ↔ In n L ∨ (f ≤ n ∧ n ≤ l))) := by
  obtain ⟨⟨c, hS⟩, hO, hl, h3⟩ := id h
  by_cases hf : Fit f l
  · refine (add_c S c o f l L w hS hO hl hf).mono ?_
    rintro e w' ⟨r, rfl, L', k1, k2, ⟨a, rfl, b⟩ | ⟨a, rfl, b⟩⟩
    · obtain ⟨o', ht⟩ := turn_of_upd h hn b k1 a
      exact ⟨0, o', L', rfl, ht, .inl ⟨rfl, hf, k2⟩⟩
    · obtain ⟨o', ht⟩ := turn_of_upd h hn b hO hl
      exact ⟨3, o', L, rfl, ht, .inr (.inr ⟨rfl, hf, rfl, L', k1, a, k2⟩)⟩
  · refine (add_bad S f l w hS.head.1 hf).mono ?_
    rintro e w' ⟨rfl, rfl⟩
    exact ⟨2, o, L, rfl, ⟨h, Chg.refl _ _, .inl rfl⟩, .inr (.inl ⟨rfl, hf, rfl⟩)⟩
set_option maxRecDepth 100000 in
/-- Remove, whatever the span. -/
theorem rem_my (n₀ S : Nat) (o : Option Addr) (f l : Int) (L : List (Int × Int)) (w : World) (h : My n₀ w S o L) (hn : n₀ ≤ w.heap.size) :
    Calls Try.prog 45 #[.pointer (some ⟨S, 0, none⟩), .int .i64 f, .int .i64 l] w fun e w' => ∃ r o' L', e = .returned (.int .i64 r) ∧ Turn n₀ w w' S o o' L' ∧
      ((r = 0 ∧ Fit f l ∧ ∀ n, In n L' ↔ In n L ∧ ¬ (f ≤ n ∧ n ≤ l)) ∨ (r = 2 ∧ ¬ Fit f l ∧ L' = L) ∨ (r = 3 ∧ Fit f l ∧ L' = L ∧ ∃ M, Ok M ∧ 65536 < M.length ∧ ∀ n, In n M ↔ In n L ∧ ¬ (f ≤ n ∧ n ≤ l))) := by
  obtain ⟨⟨c, hS⟩, hO, hl, h3⟩ := id h
  by_cases hf : Fit f l
  · refine (rem_c S c o f l L w hS hO hl hf).mono ?_
    rintro e w' ⟨r, rfl, L', k1, k2, ⟨a, rfl, b⟩ | ⟨a, rfl, b⟩⟩
    · obtain ⟨o', ht⟩ := turn_of_upd h hn b k1 a
      exact ⟨0, o', L', rfl, ht, .inl ⟨rfl, hf, k2⟩⟩
    · obtain ⟨o', ht⟩ := turn_of_upd h hn b hO hl
      exact ⟨3, o', L, rfl, ht, .inr (.inr ⟨rfl, hf, rfl, L', k1, a, k2⟩)⟩
  · refine (rem_bad S f l w hS.head.1 hf).mono ?_
    rintro e w' ⟨rfl, rfl⟩
    exact ⟨2, o, L, rfl, ⟨h, Chg.refl _ _, .inl rfl⟩, .inr (.inl ⟨rfl, hf, rfl⟩)⟩

set_option maxRecDepth 100000 in
/-- The set as New makes it, with 1 to 2 added and removed: none. -/
theorem add12 (L' : List (Int × Int)) (h : Ok L') (hm : ∀ n, In n L' ↔ In n [] ∨ (1 ≤ n ∧ n ≤ 2)) : L' = [(1, 2)] := by
  refine Ok_ext h (Ok_cons.2 ⟨⟨by decide, by decide, by decide⟩, (fun q hq => nomatch hq), Ok_nil⟩) (fun n => ?_)
  rw [hm n, In_cons]
  simp [In_nil]
set_option maxRecDepth 100000 in
theorem ok12 : Ok [(1, 2)] := Ok_cons.2 ⟨⟨by decide, by decide, by decide⟩, (fun q hq => nomatch hq), Ok_nil⟩
set_option maxRecDepth 100000 in
theorem new_my (n₀ : Nat) (w : World) (hn : n₀ ≤ w.heap.size) : My n₀ (w.alloc (.cells #[.bool true, .slice none 0 0] 84)) w.heap.size none [] :=
  ⟨⟨0, Se_new w⟩, Ok_nil, by simp, hn, fun g e => nomatch e⟩

set_option maxRecDepth 100000 in
theorem add12_my (n₀ S : Nat) (o : Option Addr) (w : World) (h : My n₀ w S o []) (hn : n₀ ≤ w.heap.size) :
    Calls Try.prog 37 #[.pointer (some ⟨S, 0, none⟩), .int .i64 1, .int .i64 2] w fun e w' => e = .returned (.int .i64 0) ∧ ∃ o', Turn n₀ w w' S o o' [(1, 2)] := by
  have hf : Fit 1 2 := ⟨by decide, by decide, by decide⟩
  refine (add_my n₀ S o 1 2 [] w h hn).mono ?_
  rintro e w' ⟨r, o', L', rfl, ht, ⟨rfl, _, hm⟩ | ⟨_, hx, _⟩ | ⟨_, _, _, M, k1, k2, k3⟩⟩
  · obtain rfl := add12 L' ht.1.2.1 hm
    exact ⟨rfl, o', ht⟩
  · exact absurd hf hx
  · rw [add12 M k1 k3] at k2
    simp at k2
set_option maxRecDepth 100000 in
theorem rem12_my (n₀ S : Nat) (o : Option Addr) (w : World) (h : My n₀ w S o [(1, 2)]) (hn : n₀ ≤ w.heap.size) :
    Calls Try.prog 45 #[.pointer (some ⟨S, 0, none⟩), .int .i64 1, .int .i64 2] w fun e w' => e = .returned (.int .i64 0) ∧ ∃ o', Turn n₀ w w' S o o' [] := by
  have hf : Fit 1 2 := ⟨by decide, by decide, by decide⟩
  have key : ∀ M, Ok M → (∀ n, In n M ↔ In n [(1, 2)] ∧ ¬ (1 ≤ n ∧ n ≤ 2)) → M = [] := fun M hM hm => Ok_ext hM Ok_nil (fun n => by rw [hm n, In_cons]; simp [In_nil])
  refine (rem_my n₀ S o 1 2 _ w h hn).mono ?_
  rintro e w' ⟨r, o', L', rfl, ht, ⟨rfl, _, hm⟩ | ⟨_, hx, _⟩ | ⟨_, _, _, M, k1, k2, k3⟩⟩
  · obtain rfl := key L' ht.1.2.1 hm
    exact ⟨rfl, o', ht⟩
  · exact absurd hf hx
  · rw [key M k1 k3] at k2
    simp at k2
set_option maxRecDepth 100000 in
/-- Remove of all. -/
theorem remall_my (n₀ S : Nat) (o : Option Addr) (L : List (Int × Int)) (w : World) (h : My n₀ w S o L) (hn : n₀ ≤ w.heap.size) :
    Calls Try.prog 45 #[.pointer (some ⟨S, 0, none⟩), .int .i64 0, .int .i64 4611686018427387903] w fun e w' => e = .returned (.int .i64 0) ∧ ∃ o', Turn n₀ w w' S o o' [] := by
  have hf : Fit 0 4611686018427387903 := ⟨by decide, by decide, by decide⟩
  have key : ∀ M, Ok M → (∀ n, In n M ↔ In n L ∧ ¬ (0 ≤ n ∧ n ≤ 4611686018427387903)) → M = [] := fun M hM hm => Ok_ext hM Ok_nil (fun n => by
    rw [hm n]
    constructor
    · rintro ⟨⟨p, hp, q1, q2⟩, hno⟩
      have := h.2.1.2 p hp
      omega
    · intro hh; exact absurd hh (In_nil n))
  refine (rem_my n₀ S o 0 4611686018427387903 L w h hn).mono ?_
  rintro e w' ⟨r, o', L', rfl, ht, ⟨rfl, _, hm⟩ | ⟨_, hx, _⟩ | ⟨_, _, _, M, k1, k2, k3⟩⟩
  · obtain rfl := key L' ht.1.2.1 hm
    exact ⟨rfl, o', ht⟩
  · exact absurd hf hx
  · rw [key M k1 k3] at k2
    simp at k2

end Go.Proofs.YtlobnlkpbenngaaR
