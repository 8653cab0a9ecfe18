/- RangesPlay: what its walk carries. -/
import Derived.Test.YtgmhlmficnkhgaaStaW
namespace Go.Proofs.Ytgmhlmficnkhgaa
open Go.RowKit Go.Shelf Go.Lib
set_option linter.unusedVariables false

/-- The law's store: the set and the reference's set, side by side. -/
structure Pl (n₀ : Nat) (w : World) (K : Nat → Array Value → Prop) (S r : Nat) (o oR : Option Addr) (cR : Nat) (Ls Lr : List (Int × Int)) (W : World) : Prop where
  s : My n₀ W S o Ls
  rh : W.heap[r]? = some (.cells #[.slice oR Lr.length cR] 28 (0, 0))
  rm : Mk n₀ W oR cR Lr
  rn : n₀ ≤ r
  sep : ∀ g, o = some ⟨g, 0, none⟩ → oR ≠ some ⟨g, 0, none⟩
  bel : Below n₀ w W
  sz : n₀ ≤ W.heap.size
  kb : ∀ A X, K A X → W.heap[A]? = some (.cells X 31 (0, 0))
section
variable {n₀ : Nat} {w : World} {K : Nat → Array Value → Prop} {S r : Nat} {o oR : Option Addr} {cR : Nat} {Ls Lr : List (Int × Int)} {W W' : World}
theorem Pl.rlt (h : Pl n₀ w K S r o oR cR Ls Lr W) : r < W.heap.size := (Array.getElem?_eq_some_iff.1 h.rh).1
theorem Pl.row (h : Pl n₀ w K S r o oR cR Ls Lr W) (g : Nat) (hg : oR = some ⟨g, 0, none⟩) : ∃ X, W.heap[g]? = some (.cells X 50 (0, 0)) := by
  rcases h.rm.1 with ⟨h', _⟩ | ⟨g', R, h', hA, _⟩
  · rw [h'] at hg; cases hg
  · rw [h'] at hg
    obtain rfl : g' = g := by simpa using hg
    exact ⟨_, hA⟩
theorem Pl.srow (h : Pl n₀ w K S r o oR cR Ls Lr W) (g : Nat) (hg : o = some ⟨g, 0, none⟩) : ∃ X, W.heap[g]? = some (.cells X 50 (0, 0)) := by
  obtain ⟨⟨c, hS⟩, _⟩ := h.s
  rcases hS.2.1 with ⟨h', _⟩ | ⟨g', R, h', hA, _⟩
  · rw [h'] at hg; cases hg
  · rw [h'] at hg
    obtain rfl : g' = g := by simpa using hg
    exact ⟨_, hA⟩
theorem Pl.shead (h : Pl n₀ w K S r o oR cR Ls Lr W) : ∃ X, W.heap[S]? = some (.cells X 38 (0, 0)) := by
  obtain ⟨⟨c, hS⟩, _⟩ := h.s
  exact ⟨_, hS.1⟩
theorem Pl.below (h : Pl n₀ w K S r o oR cR Ls Lr W) (hb : Below W.heap.size W W') : Pl n₀ w K S r o oR cR Ls Lr W' :=
  ⟨h.s.below hb, (hb.block r h.rlt).trans h.rh, h.rm.below hb, h.rn, h.sep, h.bel.trans (hb.mono h.sz), Nat.le_trans h.sz hb.size, fun A X hk => (hb.block A (Array.getElem?_eq_some_iff.1 (h.kb A X hk)).1).trans (h.kb A X hk)⟩
theorem Pl.turn {o' : Option Addr} {L' : List (Int × Int)} (h : Pl n₀ w K S r o oR cR Ls Lr W) (ht : Turn n₀ W W' S o o' L') : Pl n₀ w K S r o' oR cR L' Lr W' := by
  have hrS : ∀ k, (k = S ∨ o = some ⟨k, 0, none⟩) → k ≠ r := by
    rintro k (rfl | e) rfl
    · obtain ⟨X, hX⟩ := h.shead
      have := hX.symm.trans h.rh
      simp at this
    · obtain ⟨X, hX⟩ := h.srow _ e
      have := hX.symm.trans h.rh
      simp at this
  have hrow : ∀ g, oR = some ⟨g, 0, none⟩ → ¬ (g = S ∨ o = some ⟨g, 0, none⟩) := by
    rintro g hg (rfl | e)
    · obtain ⟨X, hX⟩ := h.shead
      obtain ⟨Y, hY⟩ := h.row _ hg
      have := hX.symm.trans hY
      simp at this
    · exact h.sep g e hg
  refine ⟨ht.1, (ht.2.1.2.2.2.2 r h.rlt (fun e => hrS r e rfl)).trans h.rh, ⟨?_, h.rm.2⟩, h.rn, ?_, ht.below h.s h.bel, Nat.le_trans h.sz ht.2.1.2.2.2.1, fun A X hk => (ht.2.1.2.2.2.2 A (Array.getElem?_eq_some_iff.1 (h.kb A X hk)).1 (fun e => ?_)).trans (h.kb A X hk)⟩
  · rcases h.rm.1 with h' | ⟨g, R, h', hA, hR⟩
    · exact .inl h'
    · exact .inr ⟨g, R, h', (ht.2.1.2.2.2.2 g hA.lt (hrow g h')).trans hA, hR⟩
  · intro g hg e
    rcases ht.2.2 with e' | ⟨g', e', hg'⟩
    · exact h.sep g (e' ▸ hg) e
    · rw [e'] at hg
      obtain rfl : g' = g := by simpa using hg
      obtain ⟨X, hX⟩ := h.row g' e
      have := (Array.getElem?_eq_some_iff.1 hX).1
      omega
  · rcases e with rfl | e
    · obtain ⟨Y, hY⟩ := h.shead
      have := hY.symm.trans (h.kb _ X hk)
      simp at this
    · obtain ⟨Y, hY⟩ := h.srow _ e
      have := hY.symm.trans (h.kb _ X hk)
      simp at this
/-- The kinds of blocks that the reference may go on with. -/
def Kd (W : World) (oR : Option Addr) (g : Nat) : Prop := oR = some ⟨g, 0, none⟩ ∨ W.heap.size ≤ g
theorem Pl.rf (h : Pl n₀ w K S r o oR cR Ls Lr W) : Rf (Kd W oR) W r Lr := ⟨oR, cR, h.rh, h.rm.1, h.rm.2.1, fun g e => .inl e⟩
theorem Pl.ref {L' : List (Int × Int)} (h : Pl n₀ w K S r o oR cR Ls Lr W) (hr : Rf (Kd W oR) W' r L') (hc : Chg (fun k => k = r) W W') : ∃ oR' cR', Pl n₀ w K S r o oR' cR' Ls L' W' := by
  obtain ⟨oR', cR', hh, hm⟩ := hr
  have hrS : S ≠ r := by
    rintro rfl
    obtain ⟨X, hX⟩ := h.shead
    have := hX.symm.trans h.rh
    simp at this
  have hro : ∀ g, o = some ⟨g, 0, none⟩ → g ≠ r := by
    rintro g e rfl
    obtain ⟨X, hX⟩ := h.srow _ e
    have := hX.symm.trans h.rh
    simp at this
  refine ⟨oR', cR', h.s.chg hc hrS hro, hh, ⟨hm.1, hm.2.1, fun g e => ?_⟩, h.rn, fun g hg e => ?_, ?_, Nat.le_trans h.sz hc.2.2.2.1, fun A X hk => (hc.2.2.2.2 A (Array.getElem?_eq_some_iff.1 (h.kb A X hk)).1 (fun e => ?_)).trans (h.kb A X hk)⟩
  · rcases hm.2.2 g e with h' | h'
    · exact h.rm.2.2 g h'
    · exact Nat.le_trans h.sz h'
  · rcases hm.2.2 g e with h' | h'
    · exact h.sep g hg h'
    · obtain ⟨X, hX⟩ := h.srow g hg
      have := (Array.getElem?_eq_some_iff.1 hX).1
      omega
  · exact h.bel.trans ⟨hc.1, hc.2.1, hc.2.2.1, hc.2.2.2.1, fun k hk => hc.2.2.2.2 k (Nat.lt_of_lt_of_le hk h.sz) (fun e => by have := h.rn; omega)⟩
  · subst e
    have := h.rh.symm.trans (h.kb _ X hk)
    simp at this
end
/-- An act as it came in. -/
def Ac (w : World) (la : Option Addr) (l : List (Int × Int × Int × Int)) : Prop := ∀ i (h : i < l.length), ∃ b off, la = some ⟨b, off, none⟩ ∧ w.cell? ⟨b, off + i * 4, none⟩ = some (.int .i64 l[i].1) ∧ w.cell? ⟨b, off + i * 4 + 1, none⟩ = some (.int .i64 l[i].2.1) ∧ w.cell? ⟨b, off + i * 4 + 2, none⟩ = some (.int .i64 l[i].2.2.1) ∧ w.cell? ⟨b, off + i * 4 + 3, none⟩ = some (.int .i64 l[i].2.2.2)
theorem names_c (W : World) : Calls Try.prog 9 #[] W fun e w' => e = .returned (.bool true) ∧ w' = W := by
  go_enter Try.func9, Try.ntmps9
  go_wp2
  go_ret
  exact ⟨rfl, rfl⟩
/-- Both Adds answer alike, and leave the same spans. -/
theorem both_add {n₀ : Nat} {w : World} {K : Nat → Array Value → Prop} {S r : Nat} {o oR : Option Addr} {cR : Nat} {L : List (Int × Int)} {W : World} (h : Pl n₀ w K S r o oR cR L L W) (f l : Int) :
    Calls Try.prog 10 #[.pointer (some ⟨S, 0, none⟩), .int .i64 f, .int .i64 l] W fun e w' => ∃ q o' Ls, e = .returned (.int .i64 q) ∧ Pl n₀ w K S r o' oR cR Ls L w' ∧
      Calls Try.prog 11 #[.pointer (some ⟨r, 0, none⟩), .int .i64 f, .int .i64 l] w' fun e w'' => e = .returned (.int .i64 q) ∧ ∃ oR' cR', Pl n₀ w K S r o' oR' cR' Ls Ls w'' := by
  refine (add_my n₀ S o f l L W h.s h.sz).mono ?_
  rintro e w' ⟨q, o', Ls, rfl, ht, hcase⟩
  have h' := h.turn ht
  refine ⟨q, o', Ls, rfl, h', ?_⟩
  refine (radd_c (Kd w' oR) r f l L w' h'.rf (fun g hg => .inr hg) h.s.2.2.1 h.s.2.1).mono ?_
  rintro e w'' ⟨q', L', rfl, hr, hc, hcase'⟩
  obtain ⟨oR', cR', hp⟩ := h'.ref hr hc
  have key : q' = q ∧ L' = Ls := by
    rcases hcase with ⟨rfl, hf, hm⟩ | ⟨rfl, hf, rfl⟩ | ⟨rfl, hf, rfl, M, hO, hl, hm⟩
    · rcases hcase' with ⟨_, hx, _⟩ | ⟨M', _, hO', hm', ⟨_, hl', _⟩ | ⟨rfl, hl', rfl⟩⟩
      · exact absurd hf hx
      · have e := Ok_ext hO' ht.1.2.1 (fun n => (hm' n).trans (hm n).symm)
        rw [e] at hl'
        have := ht.1.2.2.1
        omega
      · exact ⟨rfl, Ok_ext hO' ht.1.2.1 (fun n => (hm' n).trans (hm n).symm)⟩
    · rcases hcase' with ⟨rfl, _, rfl⟩ | ⟨M', hx, _⟩
      · exact ⟨rfl, rfl⟩
      · exact absurd hx hf
    · rcases hcase' with ⟨_, hx, _⟩ | ⟨M', _, hO', hm', ⟨rfl, hl', rfl⟩ | ⟨_, hl', _⟩⟩
      · exact absurd hf hx
      · exact ⟨rfl, rfl⟩
      · have e := Ok_ext hO' hO (fun n => (hm' n).trans (hm n).symm)
        rw [e] at hl'
        omega
  obtain ⟨rfl, rfl⟩ := key
  exact ⟨rfl, oR', cR', hp⟩
/-- Both Removes answer alike, and leave the same spans. -/
theorem both_rem {n₀ : Nat} {w : World} {K : Nat → Array Value → Prop} {S r : Nat} {o oR : Option Addr} {cR : Nat} {L : List (Int × Int)} {W : World} (h : Pl n₀ w K S r o oR cR L L W) (f l : Int) :
    Calls Try.prog 12 #[.pointer (some ⟨S, 0, none⟩), .int .i64 f, .int .i64 l] W fun e w' => ∃ q o' Ls, e = .returned (.int .i64 q) ∧ Pl n₀ w K S r o' oR cR Ls L w' ∧
      Calls Try.prog 13 #[.pointer (some ⟨r, 0, none⟩), .int .i64 f, .int .i64 l] w' fun e w'' => e = .returned (.int .i64 q) ∧ ∃ oR' cR', Pl n₀ w K S r o' oR' cR' Ls Ls w'' := by
  refine (rem_my n₀ S o f l L W h.s h.sz).mono ?_
  rintro e w' ⟨q, o', Ls, rfl, ht, hcase⟩
  have h' := h.turn ht
  refine ⟨q, o', Ls, rfl, h', ?_⟩
  refine (rrem_c (Kd w' oR) r f l L w' h'.rf (fun g hg => .inr hg) h.s.2.2.1 h.s.2.1).mono ?_
  rintro e w'' ⟨q', L', rfl, hr, hc, hcase'⟩
  obtain ⟨oR', cR', hp⟩ := h'.ref hr hc
  have hwo : Fit f l → Ok (wo f l L) := fun hf => wo_ok hf.2.1 h.s.2.1
  have key : q' = q ∧ L' = Ls := by
    rcases hcase with ⟨rfl, hf, hm⟩ | ⟨rfl, hf, rfl⟩ | ⟨rfl, hf, rfl, M, hO, hl, hm⟩
    · have e := Ok_ext (hwo hf) ht.1.2.1 (fun n => (wo_in f l L n).trans (hm n).symm)
      rcases hcase' with ⟨_, hx, _⟩ | ⟨_, _, hl', _⟩ | ⟨rfl, _, hl', rfl⟩
      · exact absurd hf hx
      · rw [e] at hl'
        have := ht.1.2.2.1
        omega
      · exact ⟨rfl, e⟩
    · rcases hcase' with ⟨rfl, _, rfl⟩ | ⟨_, hx, _⟩ | ⟨_, hx, _⟩
      · exact ⟨rfl, rfl⟩
      · exact absurd hx hf
      · exact absurd hx hf
    · have e := Ok_ext (hwo hf) hO (fun n => (wo_in f l _ n).trans (hm n).symm)
      rcases hcase' with ⟨_, hx, _⟩ | ⟨rfl, _, hl', rfl⟩ | ⟨_, _, hl', _⟩
      · exact absurd hf hx
      · exact ⟨rfl, rfl⟩
      · rw [e] at hl'
        omega
  obtain ⟨rfl, rfl⟩ := key
  exact ⟨rfl, oR', cR', hp⟩
/-- A clone in the set's place; what is added to the set is nobody's. -/
theorem both_clone {n₀ : Nat} {w : World} {K : Nat → Array Value → Prop} {S r : Nat} {o oR : Option Addr} {cR : Nat} {L : List (Int × Int)} {W : World} (h : Pl n₀ w K S r o oR cR L L W) (f l : Int) :
    Calls Try.prog 14 #[.pointer (some ⟨S, 0, none⟩)] W fun e w' => ∃ C oc, e = .returned (.pointer (some ⟨C, 0, none⟩)) ∧ Pl n₀ w K S r o oR cR L L w' ∧
      Calls Try.prog 10 #[.pointer (some ⟨S, 0, none⟩), .int .i64 f, .int .i64 l] w' fun e w'' => ∃ q, e = .returned (.int .i64 q) ∧ Pl n₀ w K C r oc oR cR L L w'' := by
  obtain ⟨⟨c, hSe⟩, hO, hl, hSn, hon⟩ := id h.s
  refine (clone_c S c o L W hSe hl).mono ?_
  rintro e w' ⟨C, oc, cc, rfl, hC, hb, hCl, hcr⟩
  have h' := h.below hb
  refine ⟨C, oc, rfl, h', ?_⟩
  have hcl : My n₀ w' C oc L := ⟨⟨cc, hC⟩, hO, hl, Nat.le_trans h.sz hCl, fun g e => Nat.le_trans h.sz (hcr g e)⟩
  have hlt := h.s.lt
  have hcp : Pl n₀ w K C r oc oR cR L L w' := ⟨hcl, h'.rh, h'.rm, h'.rn, fun g hg e => by
    obtain ⟨X, hX⟩ := h.row g e
    have := (Array.getElem?_eq_some_iff.1 hX).1
    have := hcr g hg
    omega, h'.bel, h'.sz, h'.kb⟩
  refine (add_my n₀ S o f l L w' h'.s h'.sz).mono ?_
  rintro e w'' ⟨q, o', Ls, rfl, ht, _⟩
  refine ⟨q, rfl, ?_⟩
  have ht' := h'.turn ht
  refine ⟨hcl.chg ht.2.1 ?_ ?_, ht'.rh, ht'.rm, h.rn, hcp.sep, ht'.bel, ht'.sz, ht'.kb⟩
  · rintro (e | e)
    · have := hlt.1; omega
    · have := hlt.2 C e; omega
  · rintro g hg (e | e)
    · have := hlt.1; have := hcr g hg; omega
    · have := hlt.2 g e; have := hcr g hg; omega
end Go.Proofs.Ytgmhlmficnkhgaa
