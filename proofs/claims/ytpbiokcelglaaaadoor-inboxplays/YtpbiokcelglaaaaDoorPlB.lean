/- inbox and its reference side by side: End, Grow, Read. -/
import Derived.Test.YtpbiokcelglaaaaDoorPl
namespace Go.Proofs.YtpbiokcelglaaaaDoor
open Go.RowKit Go.Maps
set_option linter.unusedVariables false

def EndB (p R lm rc rm : Nat) (V : Nat → Option UInt8) (kn : Bool) (fi n : Int) : Prop :=
  ∃ (c : Int) (rc' : Nat) (kn' : Bool) (fi' : Int), Nu p R lm rc' rm V kn' fi' ∧
    (∀ b mb nn X, nn ≤ 900000000000000000 → Tb X → IbP b mb nn p R lm rc rm V kn X → Calls Tryd.prog 14 #[.pointer (some ⟨b, 0, none⟩), .int .i64 n] X fun e w' => e = .returned (.int .i64 c) ∧ (∃ nn', nn' ≤ nn + 20000 ∧ IbP b mb nn' p R lm rc' rm V kn' w') ∧ Chg (fun j => j = b ∨ j = mb) X w') ∧
    (∀ r X, RfP r p lm rc rm V kn fi X → Calls Tryd.prog 15 #[.pointer (some ⟨r, 0, none⟩), .int .i64 n] X fun e w' => e = .returned (.int .i64 c) ∧ RfP r p lm rc' rm V kn' fi' w' ∧ Chg (fun k => k = r) X w')
theorem end_both {p R lm rc rm : Nat} {V : Nat → Option UInt8} {kn : Bool} {fi : Int} (hq : Nu p R lm rc rm V kn fi) (hpB : p ≤ 3000000000000000000) (n : Int) (hn : -9223372036854775808 ≤ n ∧ n ≤ 9223372036854775807) : EndB p R lm rc rm V kn fi n := by
  have hsame : ∀ c, (∀ b mb nn X, IbP b mb nn p R lm rc rm V kn X → Calls Tryd.prog 10 #[.pointer (some ⟨b, 0, none⟩), .int .i64 n, .slice none 0 0, .bool true] X fun e w' => e = .returned (.int .i64 c) ∧ w' = X) →
      (∀ r X, RfP r p lm rc rm V kn fi X → Calls Tryd.prog 15 #[.pointer (some ⟨r, 0, none⟩), .int .i64 n] X fun e w' => e = .returned (.int .i64 c) ∧ w' = X) → EndB p R lm rc rm V kn fi n := fun c h1 h2 =>
    ⟨c, rc, kn, fi, hq, fun b mb nn X _ _ hI => (end_of (h1 b mb nn X hI)).mono (by rintro e w' ⟨rfl, rfl⟩; exact ⟨rfl, ⟨nn, by omega, hI⟩, Chg.refl _ _⟩),
      fun r X hR => (h2 r X hR).mono (by rintro e w' ⟨rfl, rfl⟩; exact ⟨rfl, hR, Chg.refl _ _⟩)⟩
  by_cases hA : n < 0 ∨ 4611686018427387903 < n
  · exact hsame 2 (fun b mb nn X hI => put_arg b mb n 0 0 none true X (Ib.c0 hI) (by omega) hn) (fun r X hR => rend_arg r n X hA)
  obtain ⟨O, rfl⟩ : ∃ O : Nat, n = O := ⟨n.toNat, by omega⟩
  have hO : O + 0 ≤ 4611686018427387903 := by omega
  by_cases hF : (kn = true ∧ rc < O) ∨ O < rc
  · exact hsame 33 (fun b mb nn X hI => put_final b mb nn O 0 0 lm rc V p R _ rm kn true none X hO hI (hF.imp (fun e => e) (fun e => ⟨rfl, e⟩))) (fun r X ⟨ca, cc, hR⟩ => rend_final hR O (by omega) hq.hfi hF)
  have h1 : kn = true → O ≤ rc := fun e => by
    by_cases hc : O ≤ rc
    · exact hc
    · exact absurd (.inl ⟨e, by omega⟩) hF
  have h2 : rc ≤ O := by
    by_cases hc : rc ≤ O
    · exact hc
    · exact absurd (.inr (by omega)) hF
  by_cases hL : lm < O
  · exact hsame 30 (fun b mb nn X hI => put_flow b mb nn O 0 0 lm rc V p R _ rm kn true none X hO hI h1 (fun _ => h2) hL) (fun r X ⟨ca, cc, hR⟩ => rend_flow hR O (by omega) hq.hfi h1 h2 hL)
  have h3 : O ≤ lm := by omega
  obtain ⟨hpR, hRl⟩ := hq.hR
  have hhp := hq.hp
  have hhM := hq.hM
  have hcn := came_le V p (lm - p)
  refine ⟨0, O, true, O, ⟨hq.st, hq.no, hhp, hhM, h3, fun _ => rfl, hq.hrm⟩, fun b mb nn X hnn hT hI => ?_, fun r X hR => ?_⟩
  · refine (end_of (put_ok b mb nn O p 0 0 R R lm rc O V ((cnt V p (lm - p) : Nat) : Int) rm kn true none [] [] X rfl (Nat.le_refl _) (by omega) (by omega) (by have := hq.hrc; omega) ⟨by omega, by show ((came V p (lm - p)).length : Int) ≤ _; omega⟩ (by omega) hT hI (fun j hj => absurd hj (by simp)) (by simp) ⟨Nat.le_refl _, fun j j1 j2 => by omega, hq.st.2.2⟩ (by omega) h1 (fun _ => h2) h3 (by omega))).mono ?_
    rintro e w' ⟨rfl, ⟨n', hn', hib⟩, hch⟩
    refine ⟨rfl, ⟨n', by simp [fc] at hn'; omega, ?_⟩, hch⟩
    have e1 : (kn || true) = true := by simp
    rw [e1] at hib
    simpa [IbP, putF, cntF] using hib
  · obtain ⟨ca, cc, hR⟩ := hR
    refine (rend_ok hR O (by omega) hq.hfi h1 h2 h3).mono ?_
    rintro e w' ⟨rfl, hr, hch⟩
    exact ⟨rfl, ⟨ca, cc, hr⟩, hch⟩
def GrowB (p R lm rc rm : Nat) (V : Nat → Option UInt8) (kn : Bool) (fi n : Int) : Prop :=
  ∃ (c : Int) (lm' rm' : Nat), Nu p R lm' rc rm' V kn fi ∧
    (∀ b mb nn X, IbP b mb nn p R lm rc rm V kn X → Calls Tryd.prog 16 #[.pointer (some ⟨b, 0, none⟩), .int .i64 n] X fun e w' => e = .returned (.int .i64 c) ∧ IbP b mb nn p R lm' rc rm' V kn w' ∧ Chg (fun j => j = b ∨ j = mb) X w') ∧
    (∀ r X, RfP r p lm rc rm V kn fi X → Calls Tryd.prog 17 #[.pointer (some ⟨r, 0, none⟩), .int .i64 n] X fun e w' => e = .returned (.int .i64 c) ∧ RfP r p lm' rc rm' V kn fi w' ∧ Chg (fun k => k = r) X w')
theorem grow_both {p R lm rc rm : Nat} {V : Nat → Option UInt8} {kn : Bool} {fi : Int} (hq : Nu p R lm rc rm V kn fi) (hpB : p ≤ 3000000000000000000) (n : Int) : GrowB p R lm rc rm V kn fi n := by
  by_cases hA : n < 0 ∨ 1048576 < n
  · exact ⟨2, lm, rm, hq, fun b mb nn X hI => (grow_no (Ib.c0 hI) n hA).mono (by rintro e w' ⟨rfl, rfl⟩; exact ⟨rfl, hI, Chg.refl _ _⟩), fun r X hR => (rgrow_no n X r hA).mono (by rintro e w' ⟨rfl, rfl⟩; exact ⟨rfl, hR, Chg.refl _ _⟩)⟩
  obtain ⟨O, rfl⟩ : ∃ O : Nat, n = O := ⟨n.toNat, by omega⟩
  have hhp := hq.hp
  have hhM := hq.hM
  have hmx : (if (lm : Int) < (p : Int) + (O : Int) then (p : Int) + (O : Int) else (lm : Int)) = ((max lm (p + O) : Nat) : Int) := by split <;> omega
  have hw := came_wide (V := V) (p := p) (lm := lm) (lm' := max lm (p + O)) (by omega) hhp hq.no
  refine ⟨0, max lm (p + O), O, ⟨hq.st, fun j hj => hq.no j (by omega), by omega, by omega, by have := hq.hrc; omega, hq.hfi, by omega⟩, fun b mb nn X hI => ?_, fun r X hR => ?_⟩
  · refine (grow_ok hI O _ (by omega) (by omega) (by rw [IntKind.wrap_i64]; omega) hmx).mono ?_
    rintro e w' ⟨rfl, hib, hch⟩
    refine ⟨rfl, ?_, hch⟩
    unfold IbP cnt
    rw [hw]
    exact hib
  · obtain ⟨ca, cc, hR⟩ := hR
    refine (rgrow_ok hR O _ (by omega) (by omega) (by rw [IntKind.wrap_i64]; omega) hmx).mono ?_
    rintro e w' ⟨rfl, hr, hch⟩
    refine ⟨rfl, ⟨ca, cc, ?_⟩, hch⟩
    rw [hw]
    exact hr
def ReadB (p R lm rc rm : Nat) (V : Nat → Option UInt8) (kn : Bool) (fi x : Int) : Prop :=
  ∃ (m lm' : Nat) (l : List UInt8) (dn : Bool), l.length = m ∧ m ≤ 1048576 ∧
    (∀ b mb nn X, IbP b mb nn p R lm rc rm V kn X → Calls Tryd.prog 12 #[.pointer (some ⟨b, 0, none⟩), .int .i64 x] X fun e w' => ∃ g V', e = .returned (.tuple #[.slice (some ⟨g, 0, none⟩) m m, .bool dn]) ∧ X.heap.size ≤ g ∧ w'.ownsRow g 5 1 (.slice (some ⟨g, 0, none⟩) m m) m (bs l) ∧ IbP b mb nn (p + m) R lm' rc rm V' kn w' ∧ Nu (p + m) R lm' rc rm V' kn fi ∧ (∀ j, p + m ≤ j → V' j = V j) ∧ Chg (fun j => j = b ∨ j = mb) X w') ∧
    (∀ r X, RfP r p lm rc rm V kn fi X → Calls Tryd.prog 13 #[.pointer (some ⟨r, 0, none⟩), .int .i64 x] X fun e w' => ∃ ao c, e = .returned (.tuple #[.slice ao m c, .bool dn]) ∧ w'.ownsRow X.heap.size 5 1 (.slice ao m c) m (bs l) ∧ (∀ V', (∀ j, p + m ≤ j → V' j = V j) → RfP r (p + m) lm' rc rm V' kn fi w') ∧ Chg (fun k => k = r) X w')
theorem read_both {p R lm rc rm : Nat} {V : Nat → Option UInt8} {kn : Bool} {fi : Int} (hq : Nu p R lm rc rm V kn fi) (hpB : p ≤ 3000000000000000000) (x : Int) : ReadB p R lm rc rm V kn fi x := by
  obtain ⟨hpR, hRl⟩ := hq.hR
  have hhp := hq.hp
  have hhM := hq.hM
  have hhr := hq.hrm
  obtain ⟨m, hm⟩ : ∃ m : Nat, (m : Int) = min (max x 0) ((R : Int) - p) := ⟨(min (max x 0) ((R : Int) - p)).toNat, by omega⟩
  have hx : ∃ l : List UInt8, l.length = m ∧ ∀ j (hj : j < l.length), V (p + j) = some l[j] := by
    refine ⟨(List.range m).map (fun j => (V (p + j)).getD 0), by simp, fun j hj => ?_⟩
    have hj' : j < m := by simpa using hj
    obtain ⟨y, hy⟩ := Option.ne_none_iff_exists'.1 (hq.st.2.1 (p + j) (by omega) (by omega))
    simp [hy]
  obtain ⟨l, hl, hlv⟩ := hx
  have hcn := came_le V p (lm - p)
  have hmx : (if (lm : Int) < ((p + m : Nat) : Int) + (rm : Int) then ((p + m : Nat) : Int) + (rm : Int) else (lm : Int)) = ((max lm (p + m + rm) : Nat) : Int) := by split <;> omega
  have hfull : ∀ j, p ≤ j → j < p + m → V j ≠ none := fun j h1 h2 => hq.st.2.1 j h1 (by omega)
  have hcm : cnt V p (lm - p) = m + cnt V (p + m) (lm - (p + m)) := by
    show (came V p (lm - p)).length = m + (came V (p + m) (lm - (p + m))).length
    rw [show lm - p = m + (lm - (p + m)) by omega, came_add, List.length_append, came_full p m hfull]
  refine ⟨m, max lm (p + m + rm), l, kn && decide (((p + m : Nat) : Int) = rc), hl, by omega, fun b mb nn X hI => ?_, fun r X hR => ?_⟩
  · refine (read_c b mb nn p m R V ((cnt V p (lm - p) : Nat) : Int) rm lm rc _ x kn l X hI hpR hm hl hlv (by omega) (by omega) ⟨by omega, by show ((came V p (lm - p)).length : Int) ≤ _; omega⟩ ⟨by omega, by omega⟩ hmx).mono ?_
    rintro e w' ⟨g, V', rfl, hg, hown, hib, hV, hch⟩
    have hno' : ∀ j, lm ≤ j → V' j = none := fun j hj => by rw [hV j (by omega)]; exact hq.no j hj
    have hw := came_wide (V := V') (p := p + m) (lm := lm) (lm' := max lm (p + m + rm)) (by omega) (by omega) hno'
    refine ⟨g, V', rfl, hg, hown, ?_, ⟨⟨by omega, fun j h1 h2 => by rw [hV j h1]; exact hq.st.2.1 j (by omega) h2, by rw [hV R (by omega)]; exact hq.st.2.2⟩, fun j hj => hno' j (by omega), by omega, by omega, by have := hq.hrc; omega, hq.hfi, hhr⟩, hV, hch⟩
    have e1 : cnt V' (p + m) (max lm (p + m + rm) - (p + m)) = cnt V (p + m) (lm - (p + m)) := by
      show (came V' _ _).length = (came V _ _).length
      rw [hw, came_ext (p + m) _ (fun j h1 _ => hV j h1)]
    have e2 : ((cnt V p (lm - p) : Nat) : Int) - (m : Int) = ((cnt V (p + m) (lm - (p + m)) : Nat) : Int) := by rw [hcm]; omega
    unfold IbP
    rw [e1, ← e2]
    exact hib
  · obtain ⟨ca, cc, hR⟩ := hR
    obtain ⟨r1, r2, r3⟩ := came_ready hq.st hRl
    have hcR : ((R - p : Nat) : Int) = (R : Int) - p := by omega
    refine (rread_c hR x _ (R - p) m l (by omega) (by omega) r2 (fun i hi hi2 => by rw [r1 i hi hi2]; omega) (fun hi e => r3 hi (by omega)) (by rw [hcR]; exact hm) hl (fun i hi hi' => ?_) ⟨by omega, by omega⟩ hmx).mono ?_
    · have e3 : came V p (lm - p) = came V p l.length ++ came V (p + l.length) (lm - p - l.length) := by
        have := came_add V p l.length (lm - p - l.length)
        rwa [show l.length + (lm - p - l.length) = lm - p by omega] at this
      have hil : i < (came V p l.length).length := by rw [came_full p l.length (by rw [hl]; exact hfull)]; exact hi
      have e4 := came_run p l hlv i hi hil
      simp only [e3]
      rw [List.getElem_append_left hil, e4]
    · rintro e w' ⟨ao, c, rfl, hown, ⟨ca', cc', hr⟩, hch⟩
      refine ⟨ao, c, ?_, hown, fun V' hV => ⟨ca', cc', ?_⟩, hch⟩
      · cases kn with
        | false => rfl
        | true => rw [hq.hfi rfl]
      · have hno' : ∀ j, lm ≤ j → V' j = none := fun j hj => by rw [hV j (by omega)]; exact hq.no j hj
        rw [came_wide (V := V') (p := p + m) (lm := lm) (lm' := max lm (p + m + rm)) (by omega) (by omega) hno', came_ext (p + m) _ (fun j h1 _ => hV j h1)]
        rw [came_drop (by omega) hfull, show lm - p - m = lm - (p + m) by omega] at hr
        exact hr
end Go.Proofs.YtpbiokcelglaaaaDoor
