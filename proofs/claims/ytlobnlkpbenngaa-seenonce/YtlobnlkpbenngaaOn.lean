/- SeenOnce: the Seen of the law, and its calls. -/
import Derived.Test.YtlobnlkpbenngaaNg
import Derived.Test.YtlobnlkpbenngaaAk
import Derived.Test.YtlobnlkpbenngaaFg
import Derived.Test.YtlobnlkpbenngaaCd
import Derived.Test.YtlobnlkpbenngaaIr
namespace Go.Proofs.YtlobnlkpbenngaaR
open Go.RowKit Go.Shelf Go.Lib
set_option linter.unusedVariables false

set_option maxRecDepth 100000 in
theorem wrong_num (s M : Nat) (v : Svs) (n t : Int) (w : World) (h : Sc w s M v) (hn : n < 0 ∨ 4611686018427387903 < n) : Calls Try.prog 22 #[.pointer (some ⟨s, 0, none⟩), .int .i64 n, .int .i64 t] w fun e w' => e = .returned (.int .i64 2) ∧ w' = w := by
  have hno := none_sc s M v w h
  by_cases h1 : n < 0
  · go_enter Try.func22, Try.ntmps22
    go_wp2_with fail
    refine hno.mono ?_
    rintro e w' ⟨rfl, hw⟩
    subst w'
    go_wp2
    go_ret
    exact ⟨rfl, rfl⟩
  · have h2 : 4611686018427387903 < n := by omega
    go_enter Try.func22, Try.ntmps22
    go_wp2_with fail
    refine hno.mono ?_
    rintro e w' ⟨rfl, hw⟩
    subst w'
    go_wp2
    go_ret
    exact ⟨rfl, rfl⟩
set_option maxRecDepth 100000 in
theorem take_bad (s M : Nat) (v : Svs) (n t : Int) (el : Bool) (w : World) (h : Sc w s M v) (hn : n < 0 ∨ 4611686018427387903 < n) : Calls Try.prog 10 #[.pointer (some ⟨s, 0, none⟩), .int .i64 n, .bool el, .int .i64 t] w fun e w' => e = .returned (.tuple #[.bool false, .int .i64 2]) ∧ w' = w := by
  have hw := wrong_num s M v n t w h hn
  clear h hn
  go_enter Try.func10, Try.ntmps10
  go_wp2_with fail
  refine hw.mono ?_
  rintro e w' ⟨rfl, hw⟩
  subst w'
  go_wp2
  go_ret2
  exact ⟨rfl, rfl⟩

theorem InQ_iff {A : List Pt} {a : Pt} {B : List Pt} (h : Rise (A ++ a :: B)) (n : Int) (h1 : a.f ≤ n) (h2 : ∀ b ∈ B, n < b.f) : InQ n (A ++ a :: B) ↔ In n a.L := by
  obtain ⟨k1, k2, k3, k4, k5, k6, k7, k8, k9⟩ := rise_parts.1 h
  constructor
  · rintro ⟨x, hx, p, hp, q1, q2⟩
    rcases List.mem_append.1 hx with hx | hx
    · have := (k4 x hx).2 p hp; omega
    · rcases List.mem_cons.1 hx with rfl | hx
      · exact ⟨p, hp, q1, q2⟩
      · have := (k9 x hx).2 p hp; have := h2 x hx; omega
  · intro hh; exact ⟨a, by simp, hh⟩

/-- Take, whatever the parts. -/
theorem take_gen (n₀ s M G c : Nat) (v : Svs) (Q : List Pt) (n t : Int) (el : Bool) (w : World) (hs : Sc w s M v) (hu : Nu n₀ w M G c Q) (hn₀ : n₀ ≤ w.heap.size) (hf : Fine Q) (hwt : wt Q ≤ 35184372000000)
    (h0 : 0 ≤ n) (h1 : n ≤ 4611686018427387903) (h2 : 0 ≤ t) (h3 : t ≤ 1125899906842624) (h4 : v.n ≤ t) (hg0 : -1 ≤ v.g) (hg1 : v.g ≤ 4611686018427387903) (hd0 : 0 ≤ v.d) (hd1 : v.d ≤ 1125899906842624) :
    Calls Try.prog 10 #[.pointer (some ⟨s, 0, none⟩), .int .i64 n, .bool el, .int .i64 t] w (TakeQ n₀ s M G c v Q (fun Q' => Fine Q' ∧ (∀ m, InQ' m Q' ↔ InQ' m Q ∨ m = n) ∧ wt Q' ≤ wt Q + 1) n t el w) := by
  refine take_c n₀ s M G c v Q _ n t el w hs hu hn₀ h0 h1 h2 h3 h4 hg0 hg1 hd0 hd1 (fun X hX => ?_) (fun X hX hn => ?_)
  · obtain ⟨A, a, B, rfl, k1, k2⟩ := hf.rise.split n h0
    have hl := wt_len (A ++ a :: B)
    refine (has_nu n₀ M G c n A a B X hX hf.rise (by omega) k1 k2).mono ?_
    rintro e w' ⟨b, rfl, hb, hbw⟩
    exact ⟨b, rfl, hb.trans (InQ_iff hf.rise n k1 k2).symm, hbw⟩
  · refine (add_nu n₀ M G c n Q X hX hn hf hwt h0 h1).mono ?_
    rintro e w' ⟨hv, ⟨G', c', Q', q1, q2, q3, q4⟩, q5⟩
    exact ⟨hv, ⟨G', c', Q', q1, q2, q3, q4⟩, q5⟩

/-- The law's Seen, when the numbers C have come. -/
def OnS (w : World) (s M : Nat) (C : List Int) (t : Int) (wr : World) : Prop :=
  ∃ G c v Q, Sc wr s M v ∧ Nu w.heap.size wr M G c Q ∧ Fine Q ∧ (∀ m, InQ' m Q ↔ m ∈ C) ∧ wt Q ≤ 512 + C.length ∧ (C.length ≤ 1000 → ∃ a, Q = [a] ∧ a.f = 0 ∧ a.L.length ≤ C.length) ∧ v.d = 25 ∧ v.f = -1 ∧ v.n ≤ t ∧ -1 ≤ v.g ∧ v.g ≤ 4611686018427387903 ∧ (∀ x ∈ C, 0 ≤ x ∧ x ≤ 4611686018427387903) ∧ w.heap.size ≤ s ∧ Below w.heap.size w wr

theorem OnS.sc {w : World} {s M : Nat} {C : List Int} {t : Int} {wr : World} (h : OnS w s M C t wr) : ∃ v, Sc wr s M v := by
  obtain ⟨G, c, v, Q, h1, _⟩ := h
  exact ⟨v, h1⟩
theorem OnS.bel {w : World} {s M : Nat} {C : List Int} {t : Int} {wr : World} (h : OnS w s M C t wr) : Below w.heap.size w wr := by
  obtain ⟨G, c, v, Q, h1, h2, h3, h4, h5, h6, h7, h8, h9, h10, h11, h12, h13, h14⟩ := h
  exact h14
theorem OnS.below {w : World} {s M : Nat} {C : List Int} {t : Int} {wr w' : World} (h : OnS w s M C t wr) (hb : Below wr.heap.size wr w') : OnS w s M C t w' := by
  obtain ⟨G, c, v, Q, h1, h2, h3, h4, h5, h6, h7, h8, h9, h10, h11, h12, h13, h14⟩ := h
  exact ⟨G, c, v, Q, h1.below hb, h2.below hb, h3, h4, h5, h6, h7, h8, h9, h10, h11, h12, h13, h14.trans (hb.mono h14.size)⟩
theorem OnS.later {w : World} {s M : Nat} {C : List Int} {t t' : Int} {wr : World} (h : OnS w s M C t wr) (ht : t ≤ t') : OnS w s M C t' wr := by
  obtain ⟨G, c, v, Q, h1, h2, h3, h4, h5, h6, h7, h8, h9, h10, h11, h12, h13, h14⟩ := h
  exact ⟨G, c, v, Q, h1, h2, h3, h4, h5, h6, h7, h8, by omega, h10, h11, h12, h13, h14⟩

theorem wt_one (a : Pt) : wt [a] = 512 + (a.L.length - 513) := by simp [wt]
theorem InQ'_one (m : Int) (a : Pt) : InQ' m [a] ↔ In m a.L := by
  rw [InQ'_cons]
  constructor
  · rintro (h | ⟨x, hx, _⟩)
    · exact h
    · cases hx
  · exact .inl
theorem fine_one {a : Pt} (ha : a.f = 0) (hO : Ok a.L) (hl : a.L.length ≤ 1024) : Fine [a] :=
  ⟨Nu.rise1 ha hO, fun x hx => by obtain rfl : x = a := by simpa using hx
                                  exact hl, fun x hx => by obtain rfl : x = a := by simpa using hx
                                                           exact hO⟩

set_option maxRecDepth 100000 in
/-- Take of the law's first loop. -/
theorem take_on (w : World) (s M : Nat) (C : List Int) (t x : Int) (wr : World) (h : OnS w s M C t wr) (hC : C.length ≤ 17592186043904) (h0 : 0 ≤ t) (h1 : t ≤ 1125899906842624) (hx0 : 0 ≤ x) (hx1 : x ≤ 4611686018427387903) :
    Calls Try.prog 10 #[.pointer (some ⟨s, 0, none⟩), .int .i64 x, .bool true, .int .i64 t] wr fun e w' => ∃ b : Bool, e = .returned (.tuple #[.bool b, .int .i64 0]) ∧ (b = true ↔ ¬ x ∈ C) ∧ OnS w s M (C ++ [x]) t w' ∧ Ks w.heap.size s wr w' := by
  obtain ⟨G, c, v, Q, k1, k2, k3, k4, k5, k6, k7, k8, k9, k10, k11, k12, k13, k14⟩ := h
  have hrange : ∀ y ∈ C ++ [x], 0 ≤ y ∧ y ≤ 4611686018427387903 := by
    intro y hy
    rcases List.mem_append.1 hy with hy | hy
    · exact k12 y hy
    · obtain rfl : y = x := by simpa using hy
      exact ⟨hx0, hx1⟩
  have old : ∀ w', InQ x Q → Sc w' s M { v with n := t } → Nu w.heap.size w' M G c Q → Chg (fun k => k = s) wr w' → OnS w s M (C ++ [x]) t w' ∧ Ks w.heap.size s wr w' := by
    intro w' hin q1 q2 q3
    have hxC : x ∈ C := (k4 x).1 hin
    refine ⟨⟨G, c, _, Q, q1, q2, k3, fun m => ?_, by simp; omega, fun hl => ?_, k7, k8, Int.le_refl _, k10, k11, hrange, k13, ?_⟩, q3.1, q3.2.1, q3.2.2.1, q3.2.2.2.1, fun k hk hks _ => q3.2.2.2.2 k hk hks⟩
    · rw [k4 m, List.mem_append]
      constructor
      · exact .inl
      · rintro (h | h)
        · exact h
        · obtain rfl : m = x := by simpa using h
          exact hxC
    · simp at hl
      obtain ⟨a, e, q4, q5⟩ := k6 (by omega)
      exact ⟨a, e, q4, by simp; omega⟩
    · exact k14.trans ⟨q3.1, q3.2.1, q3.2.2.1, q3.2.2.2.1, fun k hk => q3.2.2.2.2 k (Nat.lt_of_lt_of_le hk k14.size) (by omega)⟩
  by_cases hsm : C.length ≤ 999
  · obtain ⟨a, rfl, q4, q5⟩ := k6 (by omega)
    refine (take_one w.heap.size s M G c v a x t true wr k1 k2 k14.size q4 (by omega) hx0 hx1 h0 h1 k9 k10 k11 (by omega) (by omega)).mono ?_
    rintro e w' (⟨rfl, hor, q1, q2, q3⟩ | ⟨rfl, hfx, hnin, ⟨G', c', Q', r1, a', rfl, r2, r3, r4⟩, r5, r6⟩)
    · have hin : InQ x [a] := by
        rcases hor with h | h
        · omega
        · exact h
      refine ⟨false, rfl, ?_, old w' hin q1 q2 q3⟩
      simp only [Bool.false_eq_true, false_iff, Classical.not_not]
      exact (k4 x).1 hin
    · have hxC : ¬ x ∈ C := fun hx => hnin ((k4 x).2 hx)
      refine ⟨true, rfl, by simp [hxC], ⟨G', c', _, [a'], r6, r1, fine_one r2 (r1.ok a' (by simp)) (by omega), fun m => ?_, ?_, fun hl => ⟨a', rfl, r2, by simp; omega⟩, k7, k8, Int.le_refl _, ?_, ?_, hrange, k13, k14.trans (Ks.toBelow r5 k14.size k13)⟩, r5⟩
      · rw [InQ'_one, r3 m, ← InQ'_one, k4 m, List.mem_append]
        simp
      · rw [wt_one]; simp; omega
      · show -1 ≤ (if v.g < x then x else v.g); split <;> omega
      · show (if v.g < x then x else v.g) ≤ 4611686018427387903; split <;> omega
  · refine (take_gen w.heap.size s M G c v Q x t true wr k1 k2 k14.size k3 (by omega) hx0 hx1 h0 h1 k9 k10 k11 (by omega) (by omega)).mono ?_
    rintro e w' (⟨rfl, hor, q1, q2, q3⟩ | ⟨rfl, hfx, hnin, ⟨G', c', Q', r1, r2, r3, r4⟩, r5, r6⟩)
    · have hin : InQ x Q := by
        rcases hor with h | h
        · omega
        · exact h
      refine ⟨false, rfl, ?_, old w' hin q1 q2 q3⟩
      simp only [Bool.false_eq_true, false_iff, Classical.not_not]
      exact (k4 x).1 hin
    · have hxC : ¬ x ∈ C := fun hx => hnin ((k4 x).2 hx)
      refine ⟨true, rfl, by simp [hxC], ⟨G', c', _, Q', r6, r1, r2, fun m => ?_, by simp; omega, fun hl => by simp at hl; omega, k7, k8, Int.le_refl _, ?_, ?_, hrange, k13, k14.trans (Ks.toBelow r5 k14.size k13)⟩, r5⟩
      · rw [r3 m, k4 m, List.mem_append]
        simp
      · show -1 ≤ (if v.g < x then x else v.g); split <;> omega
      · show (if v.g < x then x else v.g) ≤ 4611686018427387903; split <;> omega
end Go.Proofs.YtlobnlkpbenngaaR
