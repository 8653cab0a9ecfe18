/- The reader's number. -/
import Derived.Test.YtcchlicokglmnaaDr
namespace Go.Proofs.Ytcchlicokglmnaa
open Go.ChangeShapes Go.WideShapes Go.ChangeAt Go.RowKit Go.Lib
set_option linter.unusedVariables false

/-- Whether a number is there, and may be. -/
def nmOk (L : List UInt8) (a n : Nat) (least most : Int) : Bool := decide (a + n ≤ L.length) && (decide (least ≤ (num (sub L a n) : Int)) && decide ((num (sub L a n) : Int) ≤ most))
/-- What number leaves: the reader, and the cell that it fills in. -/
def RnR (p : Nat) (o : Option Addr) (L : List UInt8) (c : Nat) (r : Bool) (a n : Nat) (least most : Int) (q j : Nat) (cs : Array Value) (t : Nat) (w : World) (e : Ending) (w' : World) : Prop :=
  e = .returned (.tuple #[]) ∧ Rr w' p o L c (r || !(nmOk L a n least most)) (if (r || !(nmOk L a n least most)) then a else a + n) ∧
    w'.heap[q]? = some (.cells (if (r || !(nmOk L a n least most)) then cs else cs.setIfInBounds j (.int .i64 (num (sub L a n) : Int))) t (0, 0)) ∧ Gs (fun k => k = p ∨ k = q) w w'
section
variable {w : World} {p : Nat} {o : Option Addr} {L : List UInt8} {c : Nat} {r : Bool} {a : Nat}
theorem Rr.gs {K : Nat → Prop} {w w' : World} (h : Rr w p o L c r a) (hg : Gs K w w') (hp : ¬ K p) (hb : ∀ x, o = some x → L ≠ [] → ¬ K x.block) : Rr w' p o L c r a :=
  ⟨(hg.block p (lt_block h.row) hp).trans h.row, hg.sl h.sl hb, h.le, h.cap, h.ne, h.big, h.ap⟩
set_option maxRecDepth 10000 in
set_option maxHeartbeats 1000000 in
theorem rnumber_c (h : Rr w p o L c r a) (hL : L.length ≤ 9223372036854775000) (q j : Nat) (cs : Array Value) (t : Nat) (x0 : Int) (hq : w.heap[q]? = some (.cells cs t (0, 0))) (hj : cs[j]? = some (.int .i64 x0)) (hqp : q ≠ p) (hqb : ∀ x, o = some x → L ≠ [] → x.block ≠ q) (n : Nat) (hn1 : 1 ≤ n) (hn4 : n ≤ 4) (least most : Int) :
    Calls Try.prog 64 #[.pointer (some ⟨p, 0, none⟩), .pointer (some ⟨q, j, none⟩), .int .i64 n, .int .i64 least, .int .i64 most] w (RnR p o L c r a n least most q j cs t w) := by
  have hle := h.le
  have HG : Hid (Calls Try.prog 36 #[.slice o L.length c, .int .i64 (a : Int), .int .i64 n] w.drew fun e w' => e = .returned (.tuple #[.int .u64 (getV L a n), .int .i64 (getN L a n), .int .i64 (getE L a n)]) ∧ w' = w.drew) := get_c o L c a n w.drew h.drew.sl hL hn1 (by omega)
  obtain ⟨V, hV⟩ : ∃ V, getV L a n = V := ⟨_, rfl⟩
  obtain ⟨Nx, hNx⟩ : ∃ Nx, getN L a n = Nx := ⟨_, rfl⟩
  obtain ⟨E, hE⟩ : ∃ E, getE L a n = E := ⟨_, rfl⟩
  rw [hV, hNx, hE] at HG
  have hna : ¬ ((a : Int) < 0 ∨ (L.length : Int) < (a : Int)) := by omega
  have hnum : num (sub L a n) < 4294967296 := by
    have h1 := num_lt (sub L a n)
    have h2 : (sub L a n).length ≤ n := by simp [sub]; omega
    have h3 : 256 ^ (sub L a n).length ≤ 256 ^ 4 := Nat.pow_le_pow_right (by decide) (by omega)
    omega
  -- what must is told
  obtain ⟨ok, hok⟩ : ∃ ok, nmOk L a n least most = ok := ⟨_, rfl⟩
  have HM : Hid (∀ X : World, Rr X p o L c r a → Calls Try.prog 23 #[.pointer (some ⟨p, 0, none⟩), .bool ok] X fun e w' => e = .returned (.tuple #[]) ∧ w' = X.setCell ⟨p, 0, none⟩ (.bool (r || !ok))) := fun X hX => must_g X p r ok hX.c0 (hX.fr 0)
  have c1 := h.c1
  have c2 := h.c2
  have HH : Hid (Rr w.drew p o L c r a) := h.drew
  have HQ : Hid _ := hq
  have HJ : Hid _ := hj
  have HQB : Hid _ := hqb
  have HOK : Hid _ := hok
  -- the rest of the walk, from the world behind must on
  have HPOST : Hid (∀ W1, W1 = w.drew.setCell ⟨p, 0, none⟩ (.bool (r || !ok)) → (r || !ok) = true → RnR p o L c r a n least most q j cs t w (.returned (.tuple #[])) W1) := by
    intro W1 e hb
    subst e
    have g1 : Gs (fun k => k = p ∨ k = q) w (w.drew.setCell ⟨p, 0, none⟩ (.bool (r || !ok))) := (Gs.of_below (bld w)).trans (Gs.set _ (.inl rfl))
    refine ⟨rfl, ?_, ?_, g1⟩
    · rw [hok, hb]; have := h.drew.set0 (r || !ok); rw [hb] at this; simpa using this
    · rw [hok, hb]; simp only [if_true]; exact (Below.heap_setCell _ _ _ _ hqp).trans hq
  have HPOST2 : Hid (∀ W1, W1 = w.drew.setCell ⟨p, 0, none⟩ (.bool (r || !ok)) → (r || !ok) = false → W1.cell? ⟨q, j, none⟩ = some (.int .i64 x0) ∧ W1.frozen? ⟨q, j, none⟩ = false ∧ (W1.setCell ⟨q, j, none⟩ (.int .i64 (num (sub L a n) : Int))).cell? ⟨p, 2, none⟩ = some (.int .i64 (a : Int)) ∧ (W1.setCell ⟨q, j, none⟩ (.int .i64 (num (sub L a n) : Int))).frozen? ⟨p, 2, none⟩ = false ∧ RnR p o L c r a n least most q j cs t w (.returned (.tuple #[])) ((W1.setCell ⟨q, j, none⟩ (.int .i64 (num (sub L a n) : Int))).setCell ⟨p, 2, none⟩ (.int .i64 ((a + n : Nat) : Int)))) := by
    intro W1 e hb
    have hrow1 : W1.heap[q]? = some (.cells cs t (0, 0)) := by rw [e]; exact (Below.heap_setCell _ _ _ _ hqp).trans hq
    have hR1 : Rr W1 p o L c false a := by rw [e]; have := h.drew.set0 (r || !ok); rw [hb] at this ⊢; exact this
    have g1 : Gs (fun k => k = p ∨ k = q) w W1 := by rw [e]; exact (Gs.of_below (bld w)).trans (Gs.set _ (.inl rfl))
    have g2 : Gs (fun k => k = q) W1 (W1.setCell ⟨q, j, none⟩ (.int .i64 (num (sub L a n) : Int))) := Gs.set _ rfl
    have hR2 : Rr (W1.setCell ⟨q, j, none⟩ (.int .i64 (num (sub L a n) : Int))) p o L c false a := hR1.gs g2 (fun hh => hqp hh.symm) (fun x hx hl hh => hqb x hx hl hh)
    have hfit : a + n ≤ L.length := by
      have : nmOk L a n least most = true := by rw [hok]; revert hb; cases r <;> cases ok <;> simp
      simp only [nmOk, Bool.and_eq_true, decide_eq_true_eq] at this
      exact this.1
    refine ⟨by unfold World.cell?; rw [hrow1]; exact hj, by unfold World.frozen?; rw [hrow1]; simp, hR2.c2, hR2.fr 2, rfl, ?_, ?_, (g1.trans (g2.mono fun k hk => .inr hk)).trans (Gs.set _ (.inl rfl))⟩
    · rw [hok, hb]; simp only [Bool.false_eq_true, if_false]; exact hR2.set2 (a + n) hfit
    · rw [hok, hb]; simp only [Bool.false_eq_true, if_false]
      refine (Below.heap_setCell _ _ _ _ hqp).trans ?_
      rw [heap_setCell_same W1 q j _ t _ hrow1]
  have HVC : Hid (ok = true → V = (num (sub L a n) : Int) ∧ Nx = ((a + n : Nat) : Int)) := by
    intro e
    rw [e] at hok
    simp only [nmOk, Bool.and_eq_true, decide_eq_true_eq] at hok
    have hf : (0 : Int) ≤ (a : Int) ∧ (a : Int) + n ≤ L.length := by omega
    refine ⟨?_, ?_⟩
    · rw [← hV]; unfold getV; rw [if_pos hf]; simp
    · rw [← hNx]; unfold getN; rw [if_pos hf]; simp
  have hVb : 0 ≤ V ∧ V < 4294967296 := by
    rw [← hV]; unfold getV; split
    · simp only [Int.toNat_natCast]; omega
    · omega
  have HC1 : Hid (E = 0 → (decide (least ≤ V) && decide (V ≤ most)) = ok) := by
    intro e
    have hf : a + n ≤ L.length := by
      rw [← hE] at e; unfold getE at e; rw [if_neg hna] at e
      split at e
      · omega
      · cases e
    have hf' : (0 : Int) ≤ (a : Int) ∧ (a : Int) + n ≤ L.length := by omega
    have hv : V = (num (sub L a n) : Int) := by rw [← hV]; unfold getV; rw [if_pos hf']; simp
    rw [← hok, hv]; simp [nmOk, hf]
  have HC2 : Hid (E ≠ 0 → ok = false) := by
    intro e
    rw [← hok]
    have : ¬ a + n ≤ L.length := by
      intro hf
      apply e
      rw [← hE]; unfold getE; rw [if_neg hna, if_pos (by omega)]
    simp [nmOk, this]
  have wv : IntKind.i64.wrap V = V := by rw [IntKind.wrap_i64]; omega
  clear h hok hV hNx hE hq hj hqb
  generalize L.length = LN at *
  by_cases e0 : E = 0
  · subst e0
    have hcc := HC1.out rfl
    by_cases d1 : least ≤ V
    · have d1d : decide (least ≤ V) = true := decide_eq_true d1
      by_cases d2 : V ≤ most
      · have d2d : decide (V ≤ most) = true := decide_eq_true d2
        obtain rfl : ok = true := by rw [← hcc, d1d, d2d]; rfl
        have HVX : Hid (V = (num (sub L a n) : Int) ∧ Nx = ((a + n : Nat) : Int)) := HVC.out rfl
        cases r
        · as_aux_lemma =>
          go_enter Try.func64, Try.ntmps64
          go_wp2_with fail
          go_region_held3 (fun w' => w'.cell? ⟨p, 1, none⟩ = some (.slice o LN c) ∧ w'.cell? ⟨p, 2, none⟩ = some (.int .i64 (a : Int))) (first | exact ⟨c1, c2⟩) (first | (go_at_call 36; refine HG.out.mono ?_; rintro e w1 ⟨rfl, rfl⟩))
          go_wp2_with fail
          refine (HM.out w.drew HH.out).mono ?_
          rintro e W1 ⟨rfl, he⟩
          obtain ⟨k1, k2, k3, k4, hf⟩ := HPOST2.out W1 he rfl
          have c0' : W1.cell? ⟨p, 0, none⟩ = some (.bool false) := by rw [he]; have := (HH.out.set0 false).c0; simpa using this
          rw [← HVX.out.1] at k3 k4 hf
          rw [← HVX.out.2] at hf
          have HF : Hid _ := hf
          clear hf HPOST HPOST2 he HM HH HVC HVX HC1 HC2
          go_wp2_with fail
          go_end0
          exact ⟨rfl, HF.out.2⟩

        · as_aux_lemma =>
          go_enter Try.func64, Try.ntmps64
          go_wp2_with fail
          go_region_held3 (fun w' => w'.cell? ⟨p, 1, none⟩ = some (.slice o LN c) ∧ w'.cell? ⟨p, 2, none⟩ = some (.int .i64 (a : Int))) (first | exact ⟨c1, c2⟩) (first | (go_at_call 36; refine HG.out.mono ?_; rintro e w1 ⟨rfl, rfl⟩))
          go_wp2_with fail
          refine (HM.out w.drew HH.out).mono ?_
          rintro e W1 ⟨rfl, he⟩
          have c0' : W1.cell? ⟨p, 0, none⟩ = some (.bool true) := by rw [he]; have := (HH.out.set0 true).c0; simpa using this
          have HF := mkHid (HPOST.out W1 he (by simp))
          clear HPOST HPOST2 he HM HH
          go_wp2_with fail
          go_end0
          exact HF.out

      · have d2d : decide (V ≤ most) = false := decide_eq_false d2
        obtain rfl : ok = false := by rw [← hcc, d1d, d2d]; rfl
        cases r
        all_goals
          as_aux_lemma =>
          go_enter Try.func64, Try.ntmps64
          go_wp2_with fail
          go_region_held3 (fun w' => w'.cell? ⟨p, 1, none⟩ = some (.slice o LN c) ∧ w'.cell? ⟨p, 2, none⟩ = some (.int .i64 (a : Int))) (first | exact ⟨c1, c2⟩) (first | (go_at_call 36; refine HG.out.mono ?_; rintro e w1 ⟨rfl, rfl⟩))
          go_wp2_with fail
          refine (HM.out w.drew HH.out).mono ?_
          rintro e W1 ⟨rfl, he⟩
          have c0' : W1.cell? ⟨p, 0, none⟩ = some (.bool true) := by rw [he]; have := (HH.out.set0 true).c0; simpa using this
          have HF := mkHid (HPOST.out W1 he (by simp))
          clear HPOST HPOST2 he HM HH
          go_wp2_with fail
          go_end0
          exact HF.out

    · have d1d : decide (least ≤ V) = false := decide_eq_false d1
      obtain rfl : ok = false := by rw [← hcc, d1d]; rfl
      cases r
      all_goals
        as_aux_lemma =>
        go_enter Try.func64, Try.ntmps64
        go_wp2_with fail
        go_region_held3 (fun w' => w'.cell? ⟨p, 1, none⟩ = some (.slice o LN c) ∧ w'.cell? ⟨p, 2, none⟩ = some (.int .i64 (a : Int))) (first | exact ⟨c1, c2⟩) (first | (go_at_call 36; refine HG.out.mono ?_; rintro e w1 ⟨rfl, rfl⟩))
        go_wp2_with fail
        refine (HM.out w.drew HH.out).mono ?_
        rintro e W1 ⟨rfl, he⟩
        have c0' : W1.cell? ⟨p, 0, none⟩ = some (.bool true) := by rw [he]; have := (HH.out.set0 true).c0; simpa using this
        have HF := mkHid (HPOST.out W1 he (by simp))
        clear HPOST HPOST2 he HM HH
        go_wp2_with fail
        go_end0
        exact HF.out

  · obtain rfl : ok = false := HC2.out e0
    have e0b : (E == 0) = false := by simpa using e0
    have e0d : decide (E = 0) = false := decide_eq_false e0
    cases r
    all_goals
      as_aux_lemma =>
      go_enter Try.func64, Try.ntmps64
      go_wp2_with fail
      go_region_held3 (fun w' => w'.cell? ⟨p, 1, none⟩ = some (.slice o LN c) ∧ w'.cell? ⟨p, 2, none⟩ = some (.int .i64 (a : Int))) (first | exact ⟨c1, c2⟩) (first | (go_at_call 36; refine HG.out.mono ?_; rintro e w1 ⟨rfl, rfl⟩))
      go_wp2_with fail
      refine (HM.out w.drew HH.out).mono ?_
      rintro e W1 ⟨rfl, he⟩
      have c0' : W1.cell? ⟨p, 0, none⟩ = some (.bool true) := by rw [he]; have := (HH.out.set0 true).c0; simpa using this
      have HF := mkHid (HPOST.out W1 he (by simp))
      clear HPOST HPOST2 he HM HH
      go_wp2_with fail
      go_end0
      exact HF.out

end
end Go.Proofs.Ytcchlicokglmnaa
