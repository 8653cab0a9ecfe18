/- An inbox to which pieces of one text come: Put, Read, Held, Limit. -/
import Derived.Test.YtpbiokcelglaaaaDoorReadI
import Derived.Test.YtpbiokcelglaaaaDoorCnt
import Derived.Test.YtpbiokcelglaaaaDoorNew
import Derived.Test.YtpbiokcelglaaaaDoorEndW
namespace Go.Proofs.YtpbiokcelglaaaaDoor
open Go.RowKit Go.Maps
set_option linter.unusedVariables false

theorem held_c {W : World} {b mb n : Nat} {V : Nat → Option UInt8} {p R hd rm lm rc : Int} {kn : Bool} (h : Ib W b mb n V p R hd rm lm rc kn) : Calls Tryd.prog 23 #[.pointer (some ⟨b, 0, none⟩)] W fun e w' => e = .returned (.int .i64 hd) ∧ w' = W := by
  have c0 := h.c0
  have c3 : W.cell? ⟨b, 3, none⟩ = some (.int .i64 hd) := by simp [World.cell?, h.1]
  clear h
  go_enter Tryd.func23, Tryd.ntmps23
  go_wp2_with (first | (go_at_call 25; refine (some_none b mb _ c0).mono ?_; rintro e w1 ⟨rfl, rfl⟩) | fail)
  go_ret
  exact ⟨rfl, rfl⟩
theorem limit_c {W : World} {b mb n : Nat} {V : Nat → Option UInt8} {p R hd rm lm rc : Int} {kn : Bool} (h : Ib W b mb n V p R hd rm lm rc kn) : Calls Tryd.prog 21 #[.pointer (some ⟨b, 0, none⟩)] W fun e w' => e = .returned (.int .i64 lm) ∧ w' = W := by
  have c0 := h.c0
  have c5 := h.c5
  clear h
  go_enter Tryd.func21, Tryd.ntmps21
  go_wp2_with (first | (go_at_call 25; refine (some_none b mb _ c0).mono ?_; rintro e w1 ⟨rfl, rfl⟩) | fail)
  go_ret
  exact ⟨rfl, rfl⟩

/-- How many bytes wait. -/
abbrev cnt (V : Nat → Option UInt8) (a k : Nat) : Nat := (came V a k).length
/-- An inbox to which pieces of T came, and of which p bytes were read. -/
structure Bk (b mb : Nat) (T : List UInt8) (p R nn rc : Nat) (V : Nat → Option UInt8) (kn : Bool) (w : World) : Prop where
  ib : Ib w b mb nn V p R ((cnt V p (T.length - p) : Nat) : Int) (T.length : Nat) ((p + T.length : Nat) : Int) (rc : Int) kn
  of : Of T p V
  st : Stop V p R
  hp : p ≤ T.length
  hrc : rc ≤ T.length
  hkn : kn = true → rc = T.length
theorem Bk.hR {b mb : Nat} {T : List UInt8} {p R nn rc : Nat} {V : Nat → Option UInt8} {kn : Bool} {w : World} (h : Bk b mb T p R nn rc V kn w) : p ≤ R ∧ R ≤ T.length := by
  obtain ⟨h1, h2, h3⟩ := h.st
  refine ⟨h1, ?_⟩
  have hp := h.hp
  rcases Of.run (m := R - p) h.of (fun j a c => h2 j a (by omega)) with h | h <;> omega
theorem Bk.kept {b mb : Nat} {T : List UInt8} {p R nn rc : Nat} {V : Nat → Option UInt8} {kn : Bool} {w w' : World} (h : Bk b mb T p R nn rc V kn w) {X : Nat → Prop} (hc : Chg X w w') (h1 : ¬ X b) (h2 : ¬ X mb) : Bk b mb T p R nn rc V kn w' :=
  ⟨h.ib.kept hc h1 h2, h.of, h.st, h.hp, h.hrc, h.hkn⟩
theorem Of.none {T : List UInt8} {p : Nat} {V : Nat → Option UInt8} (h : Of T p V) {j : Nat} (h1 : p ≤ j) (h2 : T.length ≤ j) : V j = none := by
  rcases h j h1 with e | e
  · exact e
  · rw [e]; exact List.getElem?_eq_none h2

theorem stop_ex' {V : Nat → Option UInt8} {B p : Nat} (hB : ∀ j, p ≤ j → B ≤ j → V j = none) (R : Nat) (hp : p ≤ R) (hR : R ≤ B) : ∃ E, Stop V R E ∧ E ≤ B := by
  obtain ⟨E, ⟨e1, e2, e3⟩, e4⟩ := stop_ex (V := fun j => if j < p then none else V j) (B := B) (fun j hj => by show (if j < p then none else V j) = none; split; rfl; exact hB j (by omega) hj) B R hR (by omega)
  have hv : ∀ j, R ≤ j → (if j < p then none else V j) = V j := fun j hj => if_neg (by omega)
  exact ⟨E, ⟨e1, fun j h1 h2 => by rw [← hv j h1]; exact e2 j h1 h2, by rw [← hv E e1]; exact e3⟩, e4⟩
theorem Bk.put {b mb : Nat} {T : List UInt8} {p R nn rc : Nat} {V : Nat → Option UInt8} {kn : Bool} {w : World} (h : Bk b mb T p R nn rc V kn w) (hT : Tb w) (at' k cap : Nat) (fin : Bool) (la : Option Addr) (hs : Sl w la ((T.drop at').take k)) (hk : at' + k ≤ T.length) (hcap : k ≤ cap) (hTl : T.length ≤ 1048576) (hnn : nn ≤ 900000000000000000) (hf : fin = true ↔ at' + k = T.length) :
    Calls Tryd.prog 10 #[.pointer (some ⟨b, 0, none⟩), .int .i64 at', .slice la k cap, .bool fin] w fun e w' => e = .returned (.int .i64 0) ∧ ∃ R' nn' rc' V' kn', Bk b mb T p R' nn' rc' V' kn' w' ∧ nn' ≤ nn + 20000 ∧ (at' + k = T.length → kn' = true) ∧ (kn = true → kn' = true) ∧
      (∀ j, p ≤ j → V j ≠ none → V' j ≠ none) ∧ (∀ j, p ≤ j → at' ≤ j → j < at' + k → V' j ≠ none) ∧ Chg (fun j => j = b ∨ j = mb) w w' := by
  obtain ⟨hpR, hRT⟩ := h.hR
  have hp := h.hp
  obtain ⟨m, hm⟩ : ∃ m, m = min k (p - at') := ⟨_, rfl⟩
  have hl : ((T.drop at').take k).length = k := by simp; omega
  have hl' : ((T.drop at').take k).drop m = (T.drop (max at' p)).take (k - m) := by
    rw [List.drop_take, List.drop_drop]
    by_cases hc : p - at' ≤ k
    · congr 2; omega
    · rw [show k - m = 0 by omega]; simp
  have hll : ((T.drop (max at' p)).take (k - m)).length = k - m := by simp; omega
  have hOf : Of T p (putF V (max at' p) ((T.drop (max at' p)).take (k - m))) := h.of.put rfl
  have hkeep : ∀ j, V j ≠ none → putF V (max at' p) ((T.drop (max at' p)).take (k - m)) j ≠ none := by
    intro j hj
    by_cases hin : max at' p ≤ j ∧ j < max at' p + ((T.drop (max at' p)).take (k - m)).length
    · rw [putF_in _ _ _ _ hin.1 hin.2]; exact Option.some_ne_none _
    · rw [putF_out _ _ _ _ (by omega)]; exact hj
  obtain ⟨E, hE, hET⟩ := stop_ex' (V := putF V (max at' p) ((T.drop (max at' p)).take (k - m))) (B := T.length) (p := p) (fun j h1 h2 => hOf.none h1 h2) R hpR hRT
  have hcn := came_le V p (T.length - p)
  refine (put_ok b mb nn at' p k cap R E (p + T.length) rc (max rc (at' + k)) V ((cnt V p (T.length - p) : Nat) : Int) (T.length : Nat) kn fin la ((T.drop at').take k) ((T.drop (max at' p)).take (k - m)) w hl hcap (by omega) (by omega) (by have := h.hrc; omega) ⟨by omega, by show ((came V p (T.length - p)).length : Int) ≤ _; omega⟩ (by omega) hT h.ib hs (by rw [← hm]; exact hl'.symm) hE (by omega) (fun e => by have := h.hkn e; omega) (fun e => by have := hf.1 e; have := h.hrc; omega) (by omega) rfl).mono ?_
  rintro e w' ⟨rfl, ⟨n', hn', hib⟩, hch⟩
  refine ⟨rfl, E, n', max rc (at' + k), _, kn || fin, ⟨?_, hOf, ⟨Nat.le_trans hpR hE.1, fun j h1 h2 => ?_, hE.2.2⟩, hp, by have := h.hrc; omega, fun e => ?_⟩, ?_, fun e => by rw [hf.2 e]; simp, fun e => by rw [e]; rfl, fun j _ hj => hkeep j hj, fun j h1 h2 h3 => ?_, hch⟩
  · have ec := cnt_putF (V := V) p (T.length - p) (max at' p) ((T.drop (max at' p)).take (k - m)) (by omega) (by rw [hll]; omega)
    have eC : ((cnt (putF V (max at' p) ((T.drop (max at' p)).take (k - m))) p (T.length - p) : Nat) : Int) = (cnt V p (T.length - p) : Nat) + (cntF V (max at' p) ((T.drop (max at' p)).take (k - m)) : Nat) := by
      show (((came _ _ _).length : Nat) : Int) = _
      rw [ec]
      rfl
    rw [eC]
    exact hib
  · by_cases hj : j < R
    · exact hkeep j (h.st.2.1 j h1 hj)
    · exact hE.2.1 j (by omega) h2
  · rcases Bool.or_eq_true _ _ ▸ e with e | e
    · have := h.hkn e; omega
    · have := hf.1 e; have := h.hrc; omega
  · have := fc_le (max at' p) ((T.drop (max at' p)).take (k - m)).length
    rw [hll] at this hn'
    omega
  · rw [putF_in _ _ _ _ (by omega) (by rw [hll]; omega)]; exact Option.some_ne_none _

theorem Bk.read {b mb : Nat} {T : List UInt8} {p R nn rc : Nat} {V : Nat → Option UInt8} {kn : Bool} {w : World} (h : Bk b mb T p R nn rc V kn w) (x : Int) (hTl : T.length ≤ 1048576) :
    Calls Tryd.prog 12 #[.pointer (some ⟨b, 0, none⟩), .int .i64 x] w fun e w' => ∃ g m V' dn, e = .returned (.tuple #[.slice (some ⟨g, 0, none⟩) m m, .bool dn]) ∧ (m : Int) = min (max x 0) ((R : Int) - p) ∧ w.heap.size ≤ g ∧ p + m ≤ T.length ∧ dn = (kn && decide (((p + m : Nat) : Int) = rc)) ∧
      w'.ownsRow g 5 1 (.slice (some ⟨g, 0, none⟩) m m) m (bs ((T.drop p).take m)) ∧ Bk b mb T (p + m) R nn rc V' kn w' ∧ (∀ j, p + m ≤ j → V' j = V j) ∧ Chg (fun j => j = b ∨ j = mb) w w' := by
  obtain ⟨hpR, hRT⟩ := h.hR
  have hp := h.hp
  obtain ⟨m, hm⟩ : ∃ m : Nat, (m : Int) = min (max x 0) ((R : Int) - p) := ⟨(min (max x 0) ((R : Int) - p)).toNat, by omega⟩
  have hl : ((T.drop p).take m).length = m := by simp; omega
  have hcn := came_le V p (T.length - p)
  have hcm : cnt V p (T.length - p) = m + cnt V (p + m) (T.length - (p + m)) := by
    show (came V p (T.length - p)).length = m + (came V (p + m) (T.length - (p + m))).length
    rw [show T.length - p = m + (T.length - (p + m)) by omega, came_add, List.length_append, came_full p m (fun j h1 h2 => h.st.2.1 j h1 (by omega))]
  refine (read_c b mb nn p m R V ((cnt V p (T.length - p) : Nat) : Int) (T.length : Nat) ((p + T.length : Nat) : Int) rc ((p + m + T.length : Nat) : Int) x kn ((T.drop p).take m) w h.ib hpR hm hl (fun j hj => ?_) (by omega) (by omega) ⟨by omega, by show ((came V p (T.length - p)).length : Int) ≤ _; omega⟩ ⟨by omega, by omega⟩ (by split <;> omega)).mono ?_
  · rw [hl] at hj
    rcases h.of (p + j) (by omega) with e | e
    · exact absurd e (h.st.2.1 _ (by omega) (by omega))
    · rw [e, List.getElem?_eq_getElem (by omega)]
      simp [List.getElem_take, List.getElem_drop]
  · rintro e w' ⟨g, V', rfl, hg, hown, hib, hV, hch⟩
    refine ⟨g, m, V', _, rfl, hm, hg, by omega, rfl, hown, ⟨?_, h.of.cut (by omega) hV, ⟨by omega, fun j h1 h2 => ?_, ?_⟩, by omega, h.hrc, h.hkn⟩, hV, hch⟩
    · have e1 : cnt V' (p + m) (T.length - (p + m)) = cnt V (p + m) (T.length - (p + m)) := by
        show (came V' _ _).length = (came V _ _).length
        rw [came_ext (p + m) _ (fun j h1 _ => hV j h1)]
      rw [e1]
      have e2 : ((cnt V p (T.length - p) : Nat) : Int) - (m : Int) = ((cnt V (p + m) (T.length - (p + m)) : Nat) : Int) := by rw [hcm]; omega
      rw [← e2]
      exact hib
    · rw [hV j h1]; exact h.st.2.1 j (by omega) h2
    · rw [hV R (by omega)]; exact h.st.2.2
end Go.Proofs.YtpbiokcelglaaaaDoor
