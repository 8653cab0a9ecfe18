/- seen: what is kept by calls that turn numbers; add where there is one part that stays so. -/
import Derived.Test.YtlobnlkpbenngaaNuH
namespace Go.Proofs.YtlobnlkpbenngaaR
open Go.RowKit Go.Shelf Go.Lib
set_option linter.unusedVariables false

/-- The types of the blocks that numbers are made of. -/
def NuT (t : TypeId) : Prop := t = 76 ∨ t = 73 ∨ t = 84 ∨ t = 53
/-- What has turned is new, or made since n₀ and of the numbers' types. -/
def Kp (n₀ : Nat) (w w' : World) : Prop := w'.os = w.os ∧ w'.tape = w.tape ∧ w'.output = w.output ∧ w.heap.size ≤ w'.heap.size ∧
  ∀ k, k < w.heap.size → (k < n₀ ∨ ∃ o, w.heap[k]? = some o ∧ ∀ X t, o = .cells X t (0, 0) → ¬ NuT t) → w'.heap[k]? = w.heap[k]?
theorem Kp.refl (n₀ : Nat) (w : World) : Kp n₀ w w := ⟨rfl, rfl, rfl, Nat.le_refl _, fun _ _ _ => rfl⟩
theorem Kp.trans {n₀ : Nat} {a b c : World} (h : Kp n₀ a b) (k : Kp n₀ b c) : Kp n₀ a c :=
  ⟨k.1.trans h.1, k.2.1.trans h.2.1, k.2.2.1.trans h.2.2.1, Nat.le_trans h.2.2.2.1 k.2.2.2.1, fun j hj hx => by
    have e := h.2.2.2.2 j hj hx
    refine (k.2.2.2.2 j (Nat.lt_of_lt_of_le hj h.2.2.2.1) ?_).trans e
    rcases hx with hx | ⟨o, ho, hx⟩
    · exact .inl hx
    · exact .inr ⟨o, e.trans ho, hx⟩⟩
theorem Kp.chg {n₀ : Nat} {X : Nat → Prop} {a b : World} (h : Chg X a b) (hX : ∀ k, k < a.heap.size → X k → n₀ ≤ k ∧ ∃ Y t, a.heap[k]? = some (.cells Y t (0, 0)) ∧ NuT t) : Kp n₀ a b :=
  ⟨h.1, h.2.1, h.2.2.1, h.2.2.2.1, fun j hj hx => h.2.2.2.2 j hj (fun hj2 => by
    obtain ⟨h1, Y, t, h2, h3⟩ := hX j hj hj2
    rcases hx with hx | ⟨o, ho, hx⟩
    · omega
    · rw [h2] at ho
      cases ho
      exact hx _ _ rfl h3)⟩
theorem Kp.below {n₀ : Nat} {a b : World} (h : Below a.heap.size a b) : Kp n₀ a b := Kp.chg (X := fun _ => False) (Chg.below h) (fun _ _ h => h.elim)
theorem Kp.toBelow {n₀ : Nat} {a b : World} (h : Kp n₀ a b) (hn : n₀ ≤ a.heap.size) : Below n₀ a b := ⟨h.1, h.2.1, h.2.2.1, h.2.2.2.1, fun k hk => h.2.2.2.2 k (by omega) (.inl hk)⟩
theorem Kp.cells {n₀ : Nat} {a b : World} (h : Kp n₀ a b) {k : Nat} {X : Array Value} {t : TypeId} (hk : a.heap[k]? = some (.cells X t (0, 0))) (ht : ¬ NuT t) : b.heap[k]? = some (.cells X t (0, 0)) :=
  (h.2.2.2.2 k (Array.getElem?_eq_some_iff.1 hk).1 (.inr ⟨_, hk, fun Y u e => by cases e; exact ht⟩)).trans hk
theorem Kp.drew {n₀ : Nat} {a b : World} (h : Kp n₀ a b) : Kp n₀ a b.drew := h
theorem Kp.alloc {n₀ : Nat} {a b : World} (h : Kp n₀ a b) (o : Obj) : Kp n₀ a (b.alloc o) := h.trans (Kp.below ((Below.refl _ b).alloc (Nat.le_refl _) _))

theorem My.row {n₀ : Nat} {w : World} {S : Nat} {o : Option Addr} {L : List (Int × Int)} (h : My n₀ w S o L) : (∃ Y, w.heap[S]? = some (.cells Y 84 (0, 0))) ∧ ∀ g, o = some ⟨g, 0, none⟩ → ∃ Y, w.heap[g]? = some (.cells Y 53 (0, 0)) := by
  obtain ⟨⟨c, h1⟩, _⟩ := h
  refine ⟨⟨_, h1.1⟩, fun g hg => ?_⟩
  rcases h1.2.1 with ⟨h', _⟩ | ⟨q, R, h', hA, _⟩
  · rw [h'] at hg; cases hg
  · rw [h'] at hg
    obtain rfl : q = g := by simpa using hg
    exact ⟨_, hA⟩
theorem Turn.kp {n₀ : Nat} {w w' : World} {S : Nat} {o o' : Option Addr} {L L' : List (Int × Int)} (h : My n₀ w S o L) (ht : Turn n₀ w w' S o o' L') : Kp n₀ w w' := by
  refine Kp.chg ht.2.1 (fun k hk hx => ?_)
  obtain ⟨⟨Y, hY⟩, hr⟩ := h.row
  rcases hx with rfl | hx
  · exact ⟨h.2.2.2.1, Y, 84, hY, .inr (.inr (.inl rfl))⟩
  · obtain ⟨Z, hZ⟩ := hr k hx
    exact ⟨h.2.2.2.2 k hx, Z, 53, hZ, .inr (.inr (.inr rfl))⟩

/-- A set of the numbers has turned. -/
theorem Nu.turn {n₀ : Nat} {w w' : World} {M G c : Nat} {A : List Pt} {a : Pt} {B : List Pt} {o' : Option Addr} {L' : List (Int × Int)} (h : Nu n₀ w M G c (A ++ a :: B)) (ht : Turn n₀ w w' a.T a.o o' L') : Nu n₀ w' M G c (A ++ ⟨a.f, a.T, o', L'⟩ :: B) := by
  obtain ⟨ht1, hc, ho⟩ := ht
  obtain ⟨R, hA, hR⟩ := h.row
  have ha := h.sets a (by simp)
  obtain ⟨⟨Y, hY⟩, hr⟩ := ha.row
  have hap := List.pairwise_append.1 h.apart
  have hapB := List.pairwise_cons.1 hap.2.1
  have ns : ∀ k Z t, w.heap[k]? = some (.cells Z t (0, 0)) → t ≠ 84 → t ≠ 53 → ¬ (k = a.T ∨ a.o = some ⟨k, 0, none⟩) := by
    rintro k Z t hk h1 h2 (rfl | hx)
    · rw [hY] at hk; cases hk; exact h1 rfl
    · obtain ⟨V, hV⟩ := hr k hx
      rw [hV] at hk; cases hk; exact h2 rfl
  have oth : ∀ b ∈ A ++ B, My n₀ w' b.T b.o b.L ∧ Apart b a ∧ Apart a b := by
    intro b hb
    have hab : Apart b a ∧ Apart a b := by
      rcases List.mem_append.1 hb with hb | hb
      · have := hap.2.2 b hb a (by simp)
        exact ⟨this, fun e => this.1 e.symm, fun g e e' => this.2 g e' e⟩
      · have := hapB.1 b hb
        exact ⟨⟨fun e => this.1 e.symm, fun g e e' => this.2 g e' e⟩, this⟩
    have hbm : b ∈ A ++ a :: B := by
      rcases List.mem_append.1 hb with hb | hb
      · exact List.mem_append_left _ hb
      · exact List.mem_append_right _ (List.mem_cons_of_mem _ hb)
    have hbM := h.sets b hbm
    obtain ⟨⟨Yb, hYb⟩, hrb⟩ := hbM.row
    refine ⟨hbM.chg hc ?_ ?_, hab⟩
    · rintro (e | e)
      · exact hab.1.1 e
      · obtain ⟨V, hV⟩ := hr _ e
        rw [hV] at hYb; simp at hYb
    · rintro g hg (e | e)
      · obtain ⟨V, hV⟩ := hrb g hg
        subst e
        rw [hV] at hY; simp at hY
      · exact hab.1.2 g hg e
  have new : ∀ b ∈ A ++ B, Apart b ⟨a.f, a.T, o', L'⟩ ∧ Apart ⟨a.f, a.T, o', L'⟩ b := by
    intro b hb
    obtain ⟨_, h1, h2⟩ := oth b hb
    have hbm : b ∈ A ++ a :: B := by
      rcases List.mem_append.1 hb with hb | hb
      · exact List.mem_append_left _ hb
      · exact List.mem_append_right _ (List.mem_cons_of_mem _ hb)
    have key : ∀ g, b.o = some ⟨g, 0, none⟩ → o' ≠ some ⟨g, 0, none⟩ := by
      intro g hg e
      rcases ho with ho | ⟨q, hq, hq2⟩
      · exact h1.2 g hg (ho ▸ e)
      · rw [hq] at e
        obtain rfl : q = g := by simpa using e
        have := (h.sets b hbm).lt.2 q hg
        omega
    exact ⟨⟨h1.1, key⟩, ⟨h2.1, fun g e e' => key g e' e⟩⟩
  refine ⟨?_, ⟨R, ?_, ?_⟩, h.cap, ?_, ?_, h.hM, h.hG⟩
  · have e := (hc.2.2.2.2 M h.lt.1 (ns M _ 76 h.head (by decide) (by decide))).trans h.head
    simpa using e
  · have e : YtlobnlkpbenngaaP.At w' G _ := (hc.2.2.2.2 G h.lt.2 (ns G _ 73 hA (by decide) (by decide))).trans hA
    simpa [Pt.p] using e
  · simpa using hR
  · intro b hb
    rcases List.mem_append.1 hb with hb | hb
    · exact (oth b (List.mem_append_left _ hb)).1
    · rcases List.mem_cons.1 hb with rfl | hb
      · exact ht1
      · exact (oth b (List.mem_append_right _ hb)).1
  · refine List.pairwise_append.2 ⟨hap.1, List.pairwise_cons.2 ⟨fun b hb => (new b (List.mem_append_right _ hb)).2, hapB.2⟩, fun b hb d hd => ?_⟩
    rcases List.mem_cons.1 hd with rfl | hd
    · exact (new b (List.mem_append_left _ hb)).1
    · exact hap.2.2 b hb d (List.mem_cons_of_mem _ hd)

set_option maxRecDepth 100000 in
/-- Add to a set that has room. -/
theorem add_set (n₀ S : Nat) (o : Option Addr) (f l : Int) (L : List (Int × Int)) (w : World) (h : My n₀ w S o L) (hn : n₀ ≤ w.heap.size) (hf : Fit f l) (hl : L.length ≤ 2000) :
    Calls Try.prog 37 #[.pointer (some ⟨S, 0, none⟩), .int .i64 f, .int .i64 l] w fun e w' => ∃ r o' L', e = .returned (.int .i64 r) ∧ Turn n₀ w w' S o o' L' ∧ (∀ n, In n L' ↔ In n L ∨ (f ≤ n ∧ n ≤ l)) ∧ L'.length ≤ L.length + 1 := by
  refine (add_my n₀ S o f l L w h hn).mono ?_
  rintro e w' ⟨r, o', L', rfl, ht, ⟨rfl, _, hm⟩ | ⟨_, hx, _⟩ | ⟨_, _, _, M, k1, k2, k3⟩⟩
  · exact ⟨0, o', L', rfl, ht, hm, add_len hf.1 hf.2.1 hf.2.2 h.2.1 ht.1.2.1 hm⟩
  · exact absurd hf hx
  · have := add_len hf.1 hf.2.1 hf.2.2 h.2.1 k1 k3
    omega

set_option maxRecDepth 100000 in
/-- join, where there is nothing to join. -/
theorem join_skip (n₀ M G c : Nat) (i : Int) (Q : List Pt) (w : World) (h : Nu n₀ w M G c Q) (hi : i < 1 ∨ (Q.length : Int) ≤ i) :
    Calls Try.prog 40 #[.pointer (some ⟨M, 0, none⟩), .int .i64 i] w fun e w' => (∃ v, e = .returned v) ∧ w' = w := by
  have hc := h.headC
  generalize Q.length = N at *
  by_cases h1 : i < 1
  · go_enter Try.func40, Try.ntmps40
    go_wp2
    exact bodyPost_ret (results_none rfl _ _ _) rfl ⟨⟨_, rfl⟩, rfl⟩
  · have h2 : (N : Int) ≤ i := by omega
    go_enter Try.func40, Try.ntmps40
    go_wp2
    exact bodyPost_ret (results_none rfl _ _ _) rfl ⟨⟨_, rfl⟩, rfl⟩

theorem Nu.rise1 {a : Pt} (ha : a.f = 0) (hO : Ok a.L) : Rise [a] :=
  ⟨by simp, by simpa using ha, List.pairwise_singleton _ _, fun b hb => by
    obtain rfl : b = a := by simpa using hb
    exact ⟨by omega, fun p hp => by have := (hO.2 p hp).1; omega⟩⟩

set_option maxRecDepth 100000 in
/-- add, where there is one part, and it stays so. -/
theorem add_one (n₀ M G c : Nat) (n : Int) (a : Pt) (w : World) (h : Nu n₀ w M G c [a]) (hn₀ : n₀ ≤ w.heap.size) (ha : a.f = 0) (hl : a.L.length ≤ 1023) (h0 : 0 ≤ n) (h1 : n ≤ 4611686018427387903) :
    Calls Try.prog 25 #[.pointer (some ⟨M, 0, none⟩), .int .i64 n] w fun e w' => (∃ v, e = .returned v) ∧ ∃ o' L', Nu n₀ w' M G c [⟨0, a.T, o', L'⟩] ∧ (∀ m, In m L' ↔ In m a.L ∨ m = n) ∧ L'.length ≤ a.L.length + 1 ∧ Kp n₀ w w' := by
  have hO := (h.sets a (by simp)).2.1
  have hp := place_nu n₀ M G c 0 n [] a [] w h (Nu.rise1 ha hO) (by simp) (by omega) (fun _ h => nomatch h) rfl
  have H : Aside _ := h
  have HO : Aside _ := hO
  clear h hO
  go_enter Try.func25, Try.ntmps25
  go_wp2_with fail
  refine hp.mono ?_
  rintro e w1 ⟨rfl, hb⟩
  have h1' := H.out.below hb
  have c1 := h1'.headC
  have c2 := Nu.cell (A := []) h1' 0 rfl
  have hadd := add_set n₀ a.T a.o n n a.L w1 (h1'.sets a (by simp)) (Nat.le_trans hn₀ hb.size) ⟨h0, Int.le_refl _, h1⟩ (by omega)
  have HB : Aside _ := hb
  have H1 : Aside _ := h1'
  simp only [List.length_cons, List.length_nil, Nat.zero_add, Nat.zero_mul] at c1 c2
  clear hb h1' hp
  go_wp2_with fail
  refine hadd.mono ?_
  rintro e w2 ⟨r, o', L', rfl, ht, hm, hL⟩
  have h2' : Nu n₀ w2 M G c [⟨a.f, a.T, o', L'⟩] := Nu.turn (A := []) (B := []) H1.out ht
  have d1 := h2'.headC
  have d2 := Nu.cell (A := []) h2' 0 rfl
  simp only [List.length_cons, List.length_nil, Nat.zero_add, Nat.zero_mul] at d1 d2
  obtain ⟨⟨cs, hS⟩, _⟩ := h2'.sets _ (List.mem_singleton.2 rfl)
  have hsp := spans_c a.T cs o' L' w2 hS
  have hlt : ¬ (1024 : Int) < (L'.length : Int) := by omega
  have hK : Kp n₀ w w2 := (Kp.below HB.out).trans (Turn.kp (H1.out.sets a (by simp)) ht)
  have j1 := join_skip n₀ M G c 1 _ w2 h2' (.inr (by simp))
  have j0 := join_skip n₀ M G c 0 _ w2 h2' (.inl (by decide))
  have HE : Aside (∃ o' L', Nu n₀ w2 M G c [⟨0, a.T, o', L'⟩] ∧ (∀ m, In m L' ↔ In m a.L ∨ m = n) ∧ L'.length ≤ a.L.length + 1 ∧ Kp n₀ w w2) := ⟨o', L', ha ▸ h2', fun m => by rw [hm m]; constructor <;> (rintro (x | x); exact .inl x; exact .inr (by omega)), hL, hK⟩
  clear hadd c1 c2 H1 HB H HO ht hm hL h2' hS hK
  go_wp2_with fail
  refine hsp.mono ?_
  rintro e w3 ⟨rfl, hw⟩
  subst w3
  go_wp2_with fail
  refine j1.mono ?_
  rintro e w3 ⟨⟨v, rfl⟩, hw⟩
  subst w3
  go_wp2_with fail
  refine j0.mono ?_
  rintro e w3 ⟨⟨v, rfl⟩, hw⟩
  subst w3
  go_wp2
  go_end0
  exact ⟨⟨_, rfl⟩, HE.out⟩
end Go.Proofs.YtlobnlkpbenngaaR
