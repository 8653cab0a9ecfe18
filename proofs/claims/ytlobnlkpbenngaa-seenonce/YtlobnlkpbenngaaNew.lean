/- seen: New; Take with one part that stays one. -/
import Derived.Test.YtlobnlkpbenngaaTk
namespace Go.Proofs.YtlobnlkpbenngaaR
open Go.RowKit Go.Shelf Go.Lib
set_option linter.unusedVariables false

set_option maxRecDepth 100000 in
theorem newNumbers_c (n₀ : Nat) (w : World) (hn : n₀ ≤ w.heap.size) : Calls Try.prog 21 #[] w fun e w' => ∃ M G T, e = .returned (.pointer (some ⟨M, 0, none⟩)) ∧ Nu n₀ w' M G 1 [⟨0, T, none, []⟩] ∧ Below w.heap.size w w' := by
  have hb : Below w.heap.size w (((w.alloc (.cells #[.bool true, .slice none 0 0] 84)).alloc (.cells #[.int .i64 0, .pointer (some ⟨w.heap.size, 0, none⟩)] 73)).alloc (.cells #[.slice (some ⟨w.heap.size + 1, 0, none⟩) 1 1] 76)) :=
    (((Below.refl _ w).alloc (Nat.le_refl _) _).alloc (by simp) _).alloc (by simp; omega) _
  have hN : Nu n₀ (((w.alloc (.cells #[.bool true, .slice none 0 0] 84)).alloc (.cells #[.int .i64 0, .pointer (some ⟨w.heap.size, 0, none⟩)] 73)).alloc (.cells #[.slice (some ⟨w.heap.size + 1, 0, none⟩) 1 1] 76)) (w.heap.size + 2) (w.heap.size + 1) 1 [⟨0, w.heap.size, none, []⟩] := by
    refine ⟨?_, ⟨[], ?_, rfl⟩, by unfold maxLen; omega, ?_, List.pairwise_singleton _ _, by omega, by omega⟩
    · have := World.alloc_heap_new ((w.alloc (.cells #[.bool true, .slice none 0 0] 84)).alloc (.cells #[.int .i64 0, .pointer (some ⟨w.heap.size, 0, none⟩)] 73)) (.cells #[.slice (some ⟨w.heap.size + 1, 0, none⟩) 1 1] 76)
      simpa using this
    · show _ = _
      rw [Below.heap_alloc _ _ _ (by simp)]
      have := World.alloc_heap_new (w.alloc (.cells #[.bool true, .slice none 0 0] 84)) (.cells #[.int .i64 0, .pointer (some ⟨w.heap.size, 0, none⟩)] 73)
      rwa [World.size_alloc] at this
    · intro a ha
      obtain rfl : a = ⟨0, w.heap.size, none, []⟩ := by simpa using ha
      have h1 := new_my n₀ w hn
      exact ((h1.below ((Below.refl _ _).alloc (Nat.le_refl _) _)).below ((Below.refl _ _).alloc (Nat.le_refl _) _))
  have HB : Aside _ := hb
  have HN : Aside _ := hN
  clear hb hN
  go_enter Try.func21, Try.ntmps21
  go_wp2_with fail
  refine (new_c w).mono ?_
  rintro e w' ⟨rfl, hw⟩
  subst w'
  go_wp2
  go_ret
  exact ⟨_, _, _, rfl, HN.out, HB.out⟩

set_option maxRecDepth 100000 in
theorem new_sc (n₀ : Nat) (d : Int) (w : World) (hn : n₀ ≤ w.heap.size) (h0 : 0 ≤ d) (h1 : d ≤ 1125899906842624) : Calls Try.prog 7 #[.int .i64 d] w fun e w' => ∃ s M G T, e = .returned (.tuple #[.pointer (some ⟨s, 0, none⟩), .int .i64 0]) ∧ Sc w' s M ⟨d, -1, -1, 0, 0, -1⟩ ∧ Nu n₀ w' M G 1 [⟨0, T, none, []⟩] ∧ Below w.heap.size w w' ∧ n₀ ≤ s := by
  have ht := time_c d w
  rw [decide_eq_true (And.intro h0 h1)] at ht
  go_enter Try.func7, Try.ntmps7
  go_wp2_with fail
  refine ht.mono ?_
  rintro e w' ⟨rfl, hw⟩
  subst w'
  go_wp2_with fail
  refine (newNumbers_c n₀ w hn).mono ?_
  rintro e w1 ⟨M, G, T, rfl, hN, hb⟩
  have hE : ∀ o, Nu n₀ (w1.alloc o) M G 1 [⟨0, T, none, []⟩] ∧ Below w.heap.size w (w1.alloc o) := fun o => ⟨hN.below ((Below.refl _ _).alloc (Nat.le_refl _) _), hb.alloc hb.size _⟩
  have hsz := hb.size
  have HE : Aside _ := hE
  clear hN hb hE ht
  go_wp2
  go_ret2
  exact ⟨_, M, G, T, rfl, World.alloc_heap_new w1 _, (HE.out _).1, (HE.out _).2, by omega⟩

/-- Where there is one part, and it has room. -/
theorem take_one (n₀ s M G c : Nat) (v : Svs) (a : Pt) (n t : Int) (el : Bool) (w : World) (hs : Sc w s M v) (hu : Nu n₀ w M G c [a]) (hn₀ : n₀ ≤ w.heap.size) (ha : a.f = 0) (hl : a.L.length ≤ 1023)
    (h0 : 0 ≤ n) (h1 : n ≤ 4611686018427387903) (h2 : 0 ≤ t) (h3 : t ≤ 1125899906842624) (h4 : v.n ≤ t) (hg0 : -1 ≤ v.g) (hg1 : v.g ≤ 4611686018427387903) (hd0 : 0 ≤ v.d) (hd1 : v.d ≤ 1125899906842624) :
    Calls Try.prog 10 #[.pointer (some ⟨s, 0, none⟩), .int .i64 n, .bool el, .int .i64 t] w (TakeQ n₀ s M G c v [a] (fun Q' => ∃ a', Q' = [a'] ∧ a'.f = 0 ∧ (∀ m, In m a'.L ↔ In m a.L ∨ m = n) ∧ a'.L.length ≤ a.L.length + 1) n t el w) := by
  refine take_c n₀ s M G c v [a] _ n t el w hs hu hn₀ h0 h1 h2 h3 h4 hg0 hg1 hd0 hd1 (fun X hX => ?_) (fun X hX hn => ?_)
  · have hO := (hX.sets a (by simp)).2.1
    refine (has_nu n₀ M G c n [] a [] X hX (Nu.rise1 ha hO) (by simp) (by omega) (fun _ h => nomatch h)).mono ?_
    rintro e w' ⟨b, rfl, hb, hbw⟩
    refine ⟨b, rfl, hb.trans ?_, hbw⟩
    constructor
    · intro h; exact ⟨a, by simp, h⟩
    · rintro ⟨x, hx, h⟩
      obtain rfl : x = a := by simpa using hx
      exact h
  · refine (add_one n₀ M G c n a X hX hn ha hl h0 h1).mono ?_
    rintro e w' ⟨hv, o', L', q1, q2, q3, q4⟩
    exact ⟨hv, ⟨G, c, _, q1, _, rfl, rfl, q2, q3⟩, q4⟩
end Go.Proofs.YtlobnlkpbenngaaR
