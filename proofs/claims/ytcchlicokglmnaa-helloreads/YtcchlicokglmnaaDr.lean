/- The reader as it lies; take. -/
import Derived.Test.YtcchlicokglmnaaGt
import Derived.Test.YtcchlicokglmnaaPt
namespace Go.Proofs.Ytcchlicokglmnaa
open Go.ChangeShapes Go.WideShapes Go.ChangeAt Go.RowKit Go.Lib
set_option linter.unusedVariables false

/-- Nothing that was there turns but blocks in K. -/
structure Gs (K : Nat → Prop) (w w' : World) : Prop where
  os : w'.os = w.os
  tape : w'.tape = w.tape
  output : w'.output = w.output
  size : w.heap.size ≤ w'.heap.size
  block : ∀ k, k < w.heap.size → ¬ K k → w'.heap[k]? = w.heap[k]?
theorem Gs.refl (K : Nat → Prop) (w : World) : Gs K w w := ⟨rfl, rfl, rfl, Nat.le_refl _, fun _ _ _ => rfl⟩
theorem Gs.trans {K : Nat → Prop} {a b c : World} (h : Gs K a b) (k : Gs K b c) : Gs K a c :=
  ⟨k.os.trans h.os, k.tape.trans h.tape, k.output.trans h.output, Nat.le_trans h.size k.size, fun i hi hk => (k.block i (Nat.lt_of_lt_of_le hi h.size) hk).trans (h.block i hi hk)⟩
theorem Gs.of_below {K : Nat → Prop} {w w' : World} (h : Below w.heap.size w w') : Gs K w w' := ⟨h.os, h.tape, h.output, h.size, fun k hk _ => h.block k hk⟩
theorem Gs.mono {K J : Nat → Prop} {w w' : World} (h : Gs K w w') (hk : ∀ k, K k → J k) : Gs J w w' := ⟨h.os, h.tape, h.output, h.size, fun k hk' hn => h.block k hk' fun hK => hn (hk k hK)⟩
theorem Gs.set {K : Nat → Prop} {w : World} {p j : Nat} (x : Value) (hp : K p) : Gs K w (w.setCell ⟨p, j, none⟩ x) :=
  ⟨rfl, rfl, rfl, by simp [World.setCell], fun k _ hn => Below.heap_setCell _ _ _ _ (by rintro rfl; exact hn hp)⟩
theorem Gs.cell {K : Nat → Prop} {w w' : World} (h : Gs K w w') {b j : Nat} {v : Value} (hc : w.cell? ⟨b, j, none⟩ = some v) (hb : ¬ K b) : w'.cell? ⟨b, j, none⟩ = some v :=
  (World.cell?_of_block (a := ⟨b, j, none⟩) (h.block b (World.block_lt_of_cell? w _ hc) hb)).trans hc
theorem Gs.sl {K : Nat → Prop} {w w' : World} (h : Gs K w w') {ao : Option Addr} {l : List UInt8} (hs : Sl w ao l) (hb : ∀ a, ao = some a → l ≠ [] → ¬ K a.block) : Sl w' ao l := by
  intro j hj
  obtain ⟨b, off, rfl, hc⟩ := hs j hj
  have hl : l ≠ [] := by rintro rfl; simp at hj
  exact ⟨b, off, rfl, h.cell hc (hb _ rfl hl)⟩
/-- The reader as it lies in block p: its bytes, where it stands, and whether something was wrong. -/
structure Rr (w : World) (p : Nat) (o : Option Addr) (L : List UInt8) (c : Nat) (r : Bool) (at' : Nat) : Prop where
  row : w.heap[p]? = some (.cells #[.bool r, .slice o L.length c, .int .i64 (at' : Int)] 64 (0, 0))
  sl : Sl w o L
  le : at' ≤ L.length
  cap : L.length ≤ c
  ne : o ≠ none
  big : c ≤ 9223372036854775807
  ap : ∀ a, o = some a → L ≠ [] → a.block ≠ p
section
variable {w w' : World} {p : Nat} {o : Option Addr} {L : List UInt8} {c : Nat} {r : Bool} {at' : Nat}
theorem Rr.c0 (h : Rr w p o L c r at') : w.cell? ⟨p, 0, none⟩ = some (.bool r) := by unfold World.cell?; rw [h.row]; rfl
theorem Rr.c1 (h : Rr w p o L c r at') : w.cell? ⟨p, 1, none⟩ = some (.slice o L.length c) := by unfold World.cell?; rw [h.row]; rfl
theorem Rr.c2 (h : Rr w p o L c r at') : w.cell? ⟨p, 2, none⟩ = some (.int .i64 (at' : Int)) := by unfold World.cell?; rw [h.row]; rfl
theorem Rr.fr (h : Rr w p o L c r at') (j : Nat) : w.frozen? ⟨p, j, none⟩ = false := by unfold World.frozen?; rw [h.row]; simp
theorem Rr.set0 (h : Rr w p o L c r at') (x : Bool) : Rr (w.setCell ⟨p, 0, none⟩ (.bool x)) p o L c x at' :=
  ⟨by rw [heap_setCell_same w p 0 _ 64 _ h.row]; rfl, (Gs.set (K := fun k => k = p) (.bool x) rfl).sl h.sl h.ap, h.le, h.cap, h.ne, h.big, h.ap⟩
theorem Rr.set2 (h : Rr w p o L c r at') (x : Nat) (hx : x ≤ L.length) : Rr (w.setCell ⟨p, 2, none⟩ (.int .i64 (x : Int))) p o L c r x :=
  ⟨by rw [heap_setCell_same w p 2 _ 64 _ h.row]; rfl, (Gs.set (K := fun k => k = p) (.int .i64 (x : Int)) rfl).sl h.sl h.ap, hx, h.cap, h.ne, h.big, h.ap⟩
theorem Rr.bel (h : Rr w p o L c r at') (hb : Below w.heap.size w w') : Rr w' p o L c r at' :=
  ⟨(hb.block p (lt_block h.row)).trans h.row, Sl_bel h.sl hb, h.le, h.cap, h.ne, h.big, h.ap⟩
theorem Rr.drew (h : Rr w p o L c r at') : Rr w.drew p o L c r at' := h.bel (bld w)
end
set_option maxRecDepth 10000 in
/-- must, of whatever has a verdict. -/
theorem must_g (w : World) (p : Nat) (r ok : Bool) (c0 : w.cell? ⟨p, 0, none⟩ = some (.bool r)) (f0 : w.frozen? ⟨p, 0, none⟩ = false) : Calls Try.prog 23 #[.pointer (some ⟨p, 0, none⟩), .bool ok] w fun e w' => e = .returned (.tuple #[]) ∧ w' = w.setCell ⟨p, 0, none⟩ (.bool (r || !ok)) := by
  cases r <;> cases ok
  all_goals
    go_enter Try.func23, Try.ntmps23
    go_wp2_with fail
    go_end0
    exact ⟨rfl, rfl⟩
/-- What take answers: a piece, or nothing. -/
def TkR (p : Nat) (o : Option Addr) (L : List UInt8) (c : Nat) (r : Bool) (a n : Nat) (w : World) (e : Ending) (w' : World) : Prop :=
  ∃ o' c', e = .returned (.slice o' (if (r || !(decide (a + n ≤ L.length))) then [] else sub L a n).length c') ∧ Sl w' o' (if (r || !(decide (a + n ≤ L.length))) then [] else sub L a n) ∧ (o' = none → (if (r || !(decide (a + n ≤ L.length))) then [] else sub L a n).length = 0 ∧ c' = 0) ∧ (∀ x, o' = some x → ∃ y, o = some y ∧ x.block = y.block) ∧
    Rr w' p o L c (r || !(decide (a + n ≤ L.length))) (if (r || !(decide (a + n ≤ L.length))) then a else a + n) ∧ Gs (fun k => k = p) w w'
section
variable {w : World} {p : Nat} {o : Option Addr} {L : List UInt8} {c : Nat} {r : Bool} {a : Nat}
set_option maxRecDepth 10000 in
set_option maxHeartbeats 1000000 in
theorem rtake_c (h : Rr w p o L c r a) (n : Nat) (hn : n ≤ 9223372036854775000) : Calls Try.prog 67 #[.pointer (some ⟨p, 0, none⟩), .int .i64 n] w (TkR p o L c r a n w) := by
  obtain ⟨ok, hok⟩ : ∃ ok, decide (a + n ≤ L.length) = ok := ⟨_, rfl⟩
  have HM : Hid (Calls Try.prog 23 #[.pointer (some ⟨p, 0, none⟩), .bool ok] w.drew fun e w' => e = .returned (.tuple #[]) ∧ Rr w' p o L c (r || !ok) a ∧ Gs (fun k => k = p) w w') :=
    (must_g w.drew p r ok h.c0 (h.fr 0)).mono fun e w' ⟨h1, h2⟩ => ⟨h1, by rw [h2]; exact h.drew.set0 _, by rw [h2]; exact (Gs.of_below (bld w)).trans (Gs.set _ rfl)⟩
  have hcc : decide ((n : Int) ≤ (L.length : Int) - (a : Int)) = ok := by rw [← hok]; congr 1; have := h.le; apply propext; omega
  have hle := h.le
  have hbig : L.length ≤ 9223372036854775807 := Nat.le_trans h.cap h.big
  have ws : IntKind.i64.wrap ((L.length : Int) - (a : Int)) = (L.length : Int) - (a : Int) := by rw [IntKind.wrap_i64]; omega
  have c1 := h.c1
  have c2 := h.c2
  have HOK : Hid _ := hok
  have HH : Hid _ := h
  clear h hok
  obtain ⟨bad, hbad⟩ : ∃ bad, (r || !ok) = bad := ⟨_, rfl⟩
  rw [hbad] at HM
  have HBAD : Hid (bad = (r || !(decide (a + n ≤ L.length)))) := by show _ = _; rw [HOK.out, hbad]
  clear hbad
  generalize hLN : L.length = LN at c1 hcc hle hbig ws
  have HLN : Hid _ := hLN
  clear hLN
  go_enter Try.func67, Try.ntmps67
  go_wp2_with fail
  go_region_held3 (fun w' => w'.cell? ⟨p, 1, none⟩ = some (.slice o LN c) ∧ w'.cell? ⟨p, 2, none⟩ = some (.int .i64 (a : Int))) (first | exact ⟨c1', c2'⟩ | exact ⟨c1, c2⟩) (first | (go_at_call 23; refine HM.out.mono ?_; rintro e w1 ⟨rfl, h1, g1⟩; have c1' : w1.cell? ⟨p, 1, none⟩ = some (.slice o LN c) := (by rw [← HLN.out]; exact h1.c1); have c2' := h1.c2; have c0' := h1.c0; have H1 : Hid _ := h1; have G1 : Hid _ := g1; clear h1 g1))
  clear HM c1 c2
  cases bad
  · have hbd := HBAD.out
    have hr0 : r = false ∧ decide (a + n ≤ L.length) = true := by
      revert hbd
      cases r <;> cases decide (a + n ≤ L.length) <;> simp
    have hfit := of_decide_eq_true hr0.2
    rw [HLN.out] at hfit
    have wa : IntKind.i64.wrap ((a : Int) + (n : Int)) = ((a + n : Nat) : Int) := by rw [IntKind.wrap_i64]; omega
    have wb : IntKind.i64.wrap (((a + n : Nat) : Int) - (n : Int)) = (a : Int) := by rw [IntKind.wrap_i64]; omega
    have f2 := H1.out.fr 2
    have H2 : Hid (Rr (w1.setCell ⟨p, 2, none⟩ (.int .i64 ((a + n : Nat) : Int))) p o L c false (a + n)) := H1.out.set2 _ (by rw [HLN.out]; exact hfit)
    have G2 : Hid (Gs (fun k => k = p) w (w1.setCell ⟨p, 2, none⟩ (.int .i64 ((a + n : Nat) : Int)))) := G1.out.trans (Gs.set _ rfl)
    clear hbd
    obtain ⟨an, han⟩ : ∃ an, a + n = an := ⟨_, rfl⟩
    rw [han] at wa wb H2 G2 hfit
    have HAN : Hid _ := han
    clear han
    as_aux_lemma =>
    go_wp2_with fail
    have q1 := H2.out.c1
    have q2 := H2.out.c2
    rw [HLN.out] at q1
    generalize w1.setCell ⟨p, 2, none⟩ (.int .i64 (an : Int)) = w2 at *
    have hcap : LN ≤ c := by rw [← HLN.out]; exact H2.out.cap
    have hc63 := H2.out.big
    have b1 : a ≤ an := by have := HAN.out; omega
    have b1' : (a : Int) ≤ (an : Int) := by omega
    have b2 : an ≤ c := by omega
    have b2' : (an : Int) ≤ (c : Int) := by omega
    have b3 : (0 : Int) ≤ (a : Int) := by omega
    have b4 : (0 : Int) ≤ (an : Int) := by omega
    have b5 : (a : Int) ≤ (c : Int) := by omega
    have HTK : Hid (∀ (o2 : Option Addr) (c2 : Nat), Sl w2 o2 (sub L a n) → (o2 = none → n = 0 ∧ c2 = 0) → (∀ x, o2 = some x → ∃ y, o = some y ∧ x.block = y.block) → TkR p o L c r a n w (.returned (.slice o2 (an - a) c2)) w2.drew) := fun o2 c2 h1 h2 h3 => by
      have hsl : (sub L a n).length = n := sub_length L a n (by rw [HAN.out, HLN.out]; exact hfit)
      have hb := HBAD.out.symm
      refine ⟨o2, c2, ?_, ?_, ?_, h3, ?_, G2.out.trans (Gs.of_below (bld w2))⟩
      · rw [hb]; show _ = Ending.returned (.slice o2 (sub L a n).length c2); rw [hsl]; congr 2; have := HAN.out; omega
      · rw [hb]; exact Sl_bel h1 (bld w2)
      · rw [hb]; show o2 = none → (sub L a n).length = 0 ∧ c2 = 0; rw [hsl]; exact h2
      · rw [hb]; show Rr _ p o L c false (a + n); rw [HAN.out]; exact H2.out.drew
    cases o with
    | none =>
      exact absurd rfl H2.out.ne
    | some ad =>
      obtain ⟨o2, ho2⟩ : ∃ o2, (if c = a then some ad else some (ad.add a)) = o2 := ⟨_, rfl⟩
      have HF : Hid (TkR p (some ad) L c r a n w (.returned (.slice o2 (an - a) (c - a))) w2.drew) := by
        refine HTK.out o2 (c - a) ?_ ?_ ?_
        · intro j hj
          have hsl : (sub L a n).length = n := sub_length L a n (by rw [HAN.out, HLN.out]; exact hfit)
          rw [hsl] at hj
          have hne : ¬ c = a := by have := HAN.out; omega
          rw [if_neg hne] at ho2
          obtain ⟨b, off, e, hc⟩ := H2.out.sl (a + j) (by rw [HLN.out]; have := HAN.out; omega)
          cases e
          refine ⟨b, off + a, ?_, ?_⟩
          · rw [← ho2, add_none]
          · rw [Nat.add_assoc, hc]
            simp [sub]
        · intro e
          rw [e] at ho2
          split at ho2 <;> cases ho2
        · intro x hx
          rw [hx] at ho2
          refine ⟨ad, rfl, ?_⟩
          split at ho2
          · injection ho2 with ho2; rw [ho2]
          · injection ho2 with ho2; rw [← ho2]; unfold Addr.add; split <;> rfl
      clear HTK H2 G2 H1 G1 HBAD HOK HH
      as_aux_lemma =>
      go_region_held3 (fun w' => w'.cell? ⟨p, 1, none⟩ = some (.slice (some ad) LN c) ∧ w'.cell? ⟨p, 2, none⟩ = some (.int .i64 (an : Int))) (exact ⟨q1, q2⟩) (fail)
      go_wp2_with fail
      go_ret
      exact HF.out
  · have HF : Hid (TkR p o L c r a n w (.returned (.slice none 0 0)) w1) := by
      refine ⟨none, 0, ?_, ?_, ?_, (fun x hx => by cases hx), ?_, G1.out⟩
      · rw [← HBAD.out]; rfl
      · rw [← HBAD.out]; exact fun j hj => absurd hj (by simp)
      · rw [← HBAD.out]; exact fun _ => ⟨rfl, rfl⟩
      · rw [← HBAD.out]; exact H1.out
    clear HBAD H1 G1 HOK HH
    as_aux_lemma =>
    go_wp2_with fail
    go_ret
    exact HF.out
end
end Go.Proofs.Ytcchlicokglmnaa
