/- seen: Forget, where there is one part. -/
import Derived.Test.YtlobnlkpbenngaaDel
import Derived.Test.YtlobnlkpbenngaaNew
namespace Go.Proofs.YtlobnlkpbenngaaR
open Go.RowKit Go.Shelf Go.Lib
set_option linter.unusedVariables false

set_option maxRecDepth 100000 in
/-- Remove from a set that has room. -/
theorem rem_set (n₀ S : Nat) (o : Option Addr) (f l : Int) (L : List (Int × Int)) (w : World) (h : My n₀ w S o L) (hn : n₀ ≤ w.heap.size) (hf : Fit f l) (hl : L.length ≤ 2000) :
    Calls Try.prog 45 #[.pointer (some ⟨S, 0, none⟩), .int .i64 f, .int .i64 l] w fun e w' => ∃ r o' L', e = .returned (.int .i64 r) ∧ Turn n₀ w w' S o o' L' ∧ (∀ n, In n L' ↔ In n L ∧ ¬ (f ≤ n ∧ n ≤ l)) ∧ L'.length ≤ L.length + 1 := by
  refine (rem_my n₀ S o f l L w h hn).mono ?_
  rintro e w' ⟨r, o', L', rfl, ht, ⟨rfl, _, hm⟩ | ⟨_, hx, _⟩ | ⟨_, _, _, M, k1, k2, k3⟩⟩
  · exact ⟨0, o', L', rfl, ht, hm, rem_len hf.2.1 h.2.1 ht.1.2.1 hm⟩
  · exact absurd hf hx
  · have := rem_len hf.2.1 h.2.1 k1 k3
    omega

/-- The slice of parts is laid anew as it lay. -/
theorem Nu.same {n₀ : Nat} {w : World} {M G c : Nat} {Q : List Pt} (h : Nu n₀ w M G c Q) : w.setCell ⟨M, 0, none⟩ (.slice (some ⟨G, 0, none⟩) Q.length c) = w := by
  have := h.head
  rw [setCell_eq_setRow w M 0 _ 76 (0, 0) _ this]
  exact setRow_self w M _ 76 (0, 0) this
theorem Nu.frozen {n₀ : Nat} {w : World} {M G c : Nat} {Q : List Pt} (h : Nu n₀ w M G c Q) : w.frozen? ⟨M, 0, none⟩ = false := by
  have := h.head
  simp [World.frozen?, this]

set_option maxRecDepth 100000 in
theorem drop_one (n₀ M G c : Nat) (u : Int) (a : Pt) (w : World) (h : Nu n₀ w M G c [a]) (hn₀ : n₀ ≤ w.heap.size) (ha : a.f = 0) (hl : a.L.length ≤ 2000) (h0 : 0 ≤ u) (h1 : u ≤ 4611686018427387903) :
    Calls Try.prog 29 #[.pointer (some ⟨M, 0, none⟩), .int .i64 u] w fun e w' => (∃ v, e = .returned v) ∧ ∃ o' L', Nu n₀ w' M G c [⟨0, a.T, o', L'⟩] ∧ (∀ m, In m L' ↔ In m a.L ∧ ¬ (0 ≤ m ∧ m ≤ u)) ∧ Kp n₀ w w' := by
  have hO := (h.sets a (by simp)).2.1
  have hp := place_nu n₀ M G c 0 u [] a [] w h (Nu.rise1 ha hO) (by simp) (by omega) (fun _ h => nomatch h) rfl
  have hcap : 1 ≤ c := by
    obtain ⟨R, _, hR⟩ := h.row
    simp at hR
    omega
  have H : Aside _ := h
  clear h hO
  go_enter Try.func29, Try.ntmps29
  go_wp2_with fail
  refine hp.mono ?_
  rintro e w1 ⟨rfl, hb⟩
  have h1' := H.out.below hb
  have c1 := h1'.headC
  have c2 := Nu.cell (A := []) h1' 0 rfl
  have hsame := h1'.same
  have hfz := h1'.frozen
  have hadd := rem_set n₀ a.T a.o 0 u a.L w1 (h1'.sets a (by simp)) (Nat.le_trans hn₀ hb.size) ⟨by decide, h0, h1⟩ (by omega)
  have HB : Aside _ := hb
  have H1 : Aside _ := h1'
  have hdel := YtlobnlkpbenngaaP.delete_no ⟨G, 0, none⟩ 1 c 0 w1 (by omega) hcap
  simp only [List.length_cons, List.length_nil, Nat.zero_add, Nat.zero_mul] at c1 c2 hsame
  clear hb h1' hp
  go_wp2_with fail
  refine hdel.mono ?_
  rintro e w2 ⟨rfl, hw⟩
  subst w2
  go_wp2_with fail
  refine hadd.mono ?_
  rintro e w2 ⟨r, o', L', rfl, ht, hm, hL⟩
  have h2' : Nu n₀ w2 M G c [⟨a.f, a.T, o', L'⟩] := Nu.turn (A := []) (B := []) H1.out ht
  have HE : Aside (∃ o' L', Nu n₀ w2 M G c [⟨0, a.T, o', L'⟩] ∧ (∀ m, In m L' ↔ In m a.L ∧ ¬ (0 ≤ m ∧ m ≤ u)) ∧ Kp n₀ w w2) := ⟨o', L', ha ▸ h2', hm, (Kp.below HB.out).trans (Turn.kp (H1.out.sets a (by simp)) ht)⟩
  clear hadd c1 c2 H1 HB H ht hm hL h2'
  go_wp2
  go_end0
  exact ⟨⟨_, rfl⟩, HE.out⟩

set_option maxRecDepth 100000 in
theorem forget_bad (s M : Nat) (v : Svs) (u : Int) (w : World) (hs : Sc w s M v) (hu : u < -1 ∨ 4611686018427387903 < u) : Calls Try.prog 14 #[.pointer (some ⟨s, 0, none⟩), .int .i64 u] w fun e w' => e = .returned (.int .i64 2) ∧ w' = w := by
  have hn := none_sc s M v w hs
  by_cases h1 : u < -1
  · go_enter Try.func14, Try.ntmps14
    go_wp2_with fail
    refine hn.mono ?_
    rintro e w' ⟨rfl, hw⟩
    subst w'
    go_wp2
    go_ret
    exact ⟨rfl, rfl⟩
  · have h2 : 4611686018427387903 < u := by omega
    go_enter Try.func14, Try.ntmps14
    go_wp2_with fail
    refine hn.mono ?_
    rintro e w' ⟨rfl, hw⟩
    subst w'
    go_wp2
    go_ret
    exact ⟨rfl, rfl⟩
set_option maxRecDepth 100000 in
theorem forget_no (s M : Nat) (v : Svs) (u : Int) (w : World) (hs : Sc w s M v) (h0 : -1 ≤ u) (h1 : u ≤ 4611686018427387903) (h2 : u ≤ v.f) : Calls Try.prog 14 #[.pointer (some ⟨s, 0, none⟩), .int .i64 u] w fun e w' => e = .returned (.int .i64 0) ∧ w' = w := by
  have hn := none_sc s M v w hs
  have c2 := hs.cells.2.2.1
  go_enter Try.func14, Try.ntmps14
  go_wp2_with fail
  refine hn.mono ?_
  rintro e w' ⟨rfl, hw⟩
  subst w'
  go_wp2
  go_ret
  exact ⟨rfl, rfl⟩
set_option maxRecDepth 100000 in
theorem forget_yes (n₀ s M G c : Nat) (v : Svs) (u : Int) (a : Pt) (w : World) (hs : Sc w s M v) (hnu : Nu n₀ w M G c [a]) (hn₀ : n₀ ≤ w.heap.size) (ha : a.f = 0) (hl : a.L.length ≤ 2000) (h0 : 0 ≤ u) (h1 : u ≤ 4611686018427387903) (h2 : v.f < u) :
    Calls Try.prog 14 #[.pointer (some ⟨s, 0, none⟩), .int .i64 u] w fun e w' => e = .returned (.int .i64 0) ∧ Sc w' s M { v with f := u } ∧ (∃ o' L', Nu n₀ w' M G c [⟨0, a.T, o', L'⟩] ∧ (∀ m, In m L' ↔ In m a.L ∧ ¬ (0 ≤ m ∧ m ≤ u))) ∧ Ks n₀ s w w' := by
  have hn := none_sc s M v w hs
  obtain ⟨c0, c1, c2, c3, c4, c5, c6⟩ := hs.cells
  have hf := hs.frozen 2
  have hsA : Sc (w.setCell ⟨s, 2, none⟩ (.int .i64 u)) s M { v with f := u } := hs.set 2 _ _ rfl
  have hd := drop_one n₀ M G c u a _ (hnu.store hs 2 (.int .i64 u)) (by simpa using hn₀) ha hl h0 h1
  have HS : Aside _ := hsA
  have HK : Aside (Ks n₀ s w (w.setCell ⟨s, 2, none⟩ (.int .i64 u))) := Ks.set hs 2 _
  clear hs hsA hnu
  go_enter Try.func14, Try.ntmps14
  go_wp2_with fail
  refine hn.mono ?_
  rintro e w' ⟨rfl, hw⟩
  subst w'
  go_wp2_with fail
  refine hd.mono ?_
  rintro e w' ⟨⟨x, rfl⟩, o', L', q1, q2, q3⟩
  have HP : Aside (Sc w' s M { v with f := u } ∧ (∃ o' L', Nu n₀ w' M G c [⟨0, a.T, o', L'⟩] ∧ (∀ m, In m L' ↔ In m a.L ∧ ¬ (0 ≤ m ∧ m ≤ u))) ∧ Ks n₀ s w w') := ⟨Sc.kp HS.out q3, ⟨o', L', q1, q2⟩, Ks.trans HK.out (Ks.kp q3)⟩
  clear q1 q2 q3
  go_wp2
  go_ret
  exact ⟨rfl, HP.out⟩
end Go.Proofs.YtlobnlkpbenngaaR
