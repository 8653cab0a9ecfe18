/- inbox and its reference side by side: New, Put, End, Grow, Read; the looks. -/
import Derived.Test.YtpbiokcelglaaaaDoorRfC
import Derived.Test.YtpbiokcelglaaaaDoorRfE
import Derived.Test.YtpbiokcelglaaaaDoorRfR
import Derived.Test.YtpbiokcelglaaaaDoorBk
namespace Go.Proofs.YtpbiokcelglaaaaDoor
open Go.RowKit Go.Maps
set_option linter.unusedVariables false

theorem room_no (rm : Int) (w : World) (h : rm < 0 ∨ 1048576 < rm) : Calls Tryd.prog 24 #[.int .i64 rm] w fun e w' => e = .returned (.bool true) ∧ w' = w := by
  by_cases h0 : rm < 0
  · clear h
    go_enter Tryd.func24, Tryd.ntmps24
    go_wp2
    go_ret
    exact ⟨rfl, rfl⟩
  · have h1 : (1048576 : Int) < rm := by omega
    clear h
    go_enter Tryd.func24, Tryd.ntmps24
    go_wp2
    go_ret
    exact ⟨rfl, rfl⟩
theorem new_no (rm : Int) (w : World) (h : rm < 0 ∨ 1048576 < rm) : Calls Tryd.prog 7 #[.int .i64 rm] w fun e w' => e = .returned (.tuple #[.pointer none, .int .i64 2]) ∧ w' = w := by
  have H : Aside _ := h
  clear h
  go_enter Tryd.func7, Tryd.ntmps7
  go_wp2_with fail
  refine (room_no rm _ H.out).mono ?_
  rintro e w' ⟨rfl, rfl⟩
  go_wp2
  go_ret2
  exact ⟨rfl, rfl⟩
theorem put_arg (b mb : Nat) (o : Int) (N cap : Nat) (la : Option Addr) (fin : Bool) (w : World) (c0 : w.cell? ⟨b, 0, none⟩ = some (.map (some mb))) (h : o < 0 ∨ 4611686018427387903 - (N : Int) < o) (ho : -9223372036854775808 ≤ o ∧ o ≤ 9223372036854775807) :
    Calls Tryd.prog 10 #[.pointer (some ⟨b, 0, none⟩), .int .i64 o, .slice la N cap, .bool fin] w fun e w' => e = .returned (.int .i64 2) ∧ w' = w := by
  by_cases h0 : o < 0
  · clear h
    go_enter Tryd.func10, Tryd.ntmps10
    go_wp2_with (first | (go_at_call 25; refine (some_none b mb _ c0).mono ?_; rintro e w1 ⟨rfl, rfl⟩) | fail)
    go_ret
    exact ⟨rfl, rfl⟩
  · have i0 : IntKind.i64.wrap (4611686018427387903 - o) = 4611686018427387903 - o := by rw [IntKind.wrap_i64]; omega
    have i1 : 4611686018427387903 - o < (N : Int) := by omega
    clear h
    go_enter Tryd.func10, Tryd.ntmps10
    go_wp2_with (first | (go_at_call 25; refine (some_none b mb _ c0).mono ?_; rintro e w1 ⟨rfl, rfl⟩) | fail)
    go_ret
    exact ⟨rfl, rfl⟩
set_option maxRecDepth 100000 in
set_option maxHeartbeats 400000 in
theorem put_flow (b mb n o N cap lm rc : Nat) (V : Nat → Option UInt8) (p R hd rm : Int) (kn fin : Bool) (la : Option Addr) (W : World) (ho : o + N ≤ 4611686018427387903)
    (hI : Ib W b mb n V p R hd rm lm rc kn) (h1 : kn = true → o + N ≤ rc) (h2 : fin = true → rc ≤ o + N) (h3 : lm < o + N) :
    Calls Tryd.prog 10 #[.pointer (some ⟨b, 0, none⟩), .int .i64 o, .slice la N cap, .bool fin] W fun e w' => e = .returned (.int .i64 30) ∧ w' = W := by
  have c0 := hI.c0
  have c5 := hI.c5
  have c6 := hI.c6
  have c7 := hI.c7
  have i0 : IntKind.i64.wrap (4611686018427387903 - (o : Int)) = 4611686018427387903 - (o : Int) := by rw [IntKind.wrap_i64]; omega
  have i1 : ¬ (4611686018427387903 - (o : Int) < (N : Int)) := by omega
  have i2 : IntKind.i64.wrap ((o : Int) + (N : Int)) = (o : Int) + (N : Int) := by rw [IntKind.wrap_i64]; omega
  have i3 : (lm : Int) < (o : Int) + (N : Int) := by omega
  have j1 : kn = true → ¬ ((rc : Int) < (o : Int) + (N : Int)) := fun h => by have := h1 h; omega
  have j2 : fin = true → ¬ ((o : Int) + (N : Int) < (rc : Int)) := fun h => by have := h2 h; omega
  clear hI h1 h2 h3
  cases kn <;> cases fin
  all_goals
    (try have k1 := j1 rfl)
    (try have k2 := j2 rfl)
    clear j1 j2
    go_enter Tryd.func10, Tryd.ntmps10
    go_wp2_with (first | (go_at_call 25; refine (some_none b mb _ c0).mono ?_; rintro e w1 ⟨rfl, rfl⟩) | fail)
    go_ret
    exact ⟨rfl, rfl⟩
section
variable {W : World} {b mb n : Nat} {V : Nat → Option UInt8} {p R hd rm lm rc : Int} {kn : Bool}
theorem Ib.set4 (h : Ib W b mb n V p R hd rm lm rc kn) (rm' : Int) :
    Ib (W.setCell ⟨b, 4, none⟩ (.int .i64 rm')) b mb n V p R hd rm' lm rc kn ∧ Chg (fun j => j = b ∨ j = mb) W (W.setCell ⟨b, 4, none⟩ (.int .i64 rm')) := by
  rw [setCell_eq_setRow W b 4 _ 49 (0, 0) _ h.1]
  have hne := h.ne
  refine ⟨⟨?_, h.2.kept ?_⟩, rfl, rfl, rfl, by simp, fun k hk hx => ?_⟩
  · rw [setRow_heap _ b _ _ 49 (0, 0) h.1]
    simp
  · rw [setRow_other _ b mb _ (fun e => hne e.symm)]
  · rw [setRow_other _ b k _ (fun e => hx (.inl e))]
theorem grow_ok (h : Ib W b mb n V p R hd rm lm rc kn) (rm' mx : Int) (h0 : 0 ≤ rm') (h1 : rm' ≤ 1048576) (hw : IntKind.i64.wrap (p + rm') = p + rm') (hmx : (if lm < p + rm' then p + rm' else lm) = mx) :
    Calls Tryd.prog 16 #[.pointer (some ⟨b, 0, none⟩), .int .i64 rm'] W fun e w' => e = .returned (.int .i64 0) ∧ Ib w' b mb n V p R hd rm' mx rc kn ∧ Chg (fun j => j = b ∨ j = mb) W w' := by
  obtain ⟨g1, g2⟩ := h.set4 rm'
  have RC : Aside _ := raise_c g1 hw hmx
  have G2 : Aside _ := g2
  have c0 := h.c0
  have c4 : W.cell? ⟨b, 4, none⟩ = some (.int .i64 rm) := by simp [World.cell?, h.1]
  have f4 := h.f6 4
  clear h g1 g2
  go_enter Tryd.func16, Tryd.ntmps16
  go_wp2_with (first | (go_at_call 25; refine (some_none b mb _ c0).mono ?_; rintro e w1 ⟨rfl, rfl⟩) | (go_at_call 24; refine (room_ok rm' _ h0 h1).mono ?_; rintro e w2 ⟨rfl, hw2⟩; subst hw2) | fail)
  refine Calls.mono RC.out ?_
  rintro e w3 ⟨rfl, k1, k2⟩
  have K1 : Aside (Ib w3 b mb n V p R hd rm' mx rc kn) := k1
  have K2 : Aside _ := Chg.trans G2.out k2
  clear k1 k2
  go_wp2
  go_ret
  exact ⟨rfl, K1.out, K2.out⟩
theorem grow_no (c0 : W.cell? ⟨b, 0, none⟩ = some (.map (some mb))) (rm' : Int) (h : rm' < 0 ∨ 1048576 < rm') :
    Calls Tryd.prog 16 #[.pointer (some ⟨b, 0, none⟩), .int .i64 rm'] W fun e w' => e = .returned (.int .i64 2) ∧ w' = W := by
  have H : Aside _ := h
  clear h
  go_enter Tryd.func16, Tryd.ntmps16
  go_wp2_with (first | (go_at_call 25; refine (some_none b mb _ c0).mono ?_; rintro e w1 ⟨rfl, rfl⟩) | (go_at_call 24; refine (room_no rm' _ H.out).mono ?_; rintro e w2 ⟨rfl, hw2⟩; subst hw2) | fail)
  go_ret
  exact ⟨rfl, rfl⟩
theorem final_no (h : Ib W b mb n V p R hd rm lm rc false) : Calls Tryd.prog 18 #[.pointer (some ⟨b, 0, none⟩)] W fun e w' => e = .returned (.tuple #[.int .i64 0, .bool false]) ∧ w' = W := by
  have c0 := h.c0
  have c7 := h.c7
  clear h
  go_enter Tryd.func18, Tryd.ntmps18
  go_wp2_with (first | (go_at_call 25; refine (some_none b mb _ c0).mono ?_; rintro e w1 ⟨rfl, rfl⟩) | fail)
  go_ret2
  exact ⟨rfl, rfl⟩
theorem ready_q (h : Ib W b mb n V p R hd rm lm rc kn) (hw : IntKind.i64.wrap (R - p) = R - p) : Calls Tryd.prog 19 #[.pointer (some ⟨b, 0, none⟩)] W fun e w' => e = .returned (.int .i64 (R - p)) ∧ ∃ m, w' = W.drewN m := by
  have c0 := h.c0
  have c1 : W.cell? ⟨b, 1, none⟩ = some (.int .i64 p) := by simp [World.cell?, h.1]
  have c2 : W.cell? ⟨b, 2, none⟩ = some (.int .i64 R) := by simp [World.cell?, h.1]
  clear h
  go_enter Tryd.func19, Tryd.ntmps19
  go_wp2_with (first | (go_at_call 25; refine (some_none b mb _ c0).mono ?_; rintro e w1 ⟨rfl, rfl⟩) | fail)
  go_quiet (fail)
  go_wp2
  go_ret
  exact ⟨rfl, nq, rfl⟩
end
/-- What both keep, of numbers alone. -/
structure Nu (p R lm rc rm : Nat) (V : Nat → Option UInt8) (kn : Bool) (fi : Int) : Prop where
  st : Stop V p R
  no : ∀ j, lm ≤ j → V j = none
  hp : p ≤ lm
  hM : lm ≤ p + 1048576
  hrc : rc ≤ lm
  hfi : kn = true → fi = rc
  hrm : rm ≤ 1048576
theorem Nu.hR {p R lm rc rm : Nat} {V : Nat → Option UInt8} {kn : Bool} {fi : Int} (h : Nu p R lm rc rm V kn fi) : p ≤ R ∧ R ≤ lm := by
  refine ⟨h.st.1, ?_⟩
  by_cases hc : R ≤ lm
  · exact hc
  · exact absurd (h.no lm (Nat.le_refl _)) (h.st.2.1 lm h.hp (by omega))
/-- The inbox's half, and the reference's. -/
def IbP (b mb nn p R lm rc rm : Nat) (V : Nat → Option UInt8) (kn : Bool) (X : World) : Prop := Ib X b mb nn V p R ((cnt V p (lm - p) : Nat) : Int) rm lm rc kn
def RfP (r p lm rc rm : Nat) (V : Nat → Option UInt8) (kn : Bool) (fi : Int) (X : World) : Prop := ∃ ca cc, Rf X r rm p lm rc fi kn ca cc (came V p (lm - p))
/-- A piece: both answer alike, and come to the same. -/
def PutB (p R lm rc rm : Nat) (V : Nat → Option UInt8) (kn : Bool) (fi o : Int) (l : List UInt8) (fin : Bool) : Prop :=
    ∃ (c : Int) (R' rc' : Nat) (V' : Nat → Option UInt8) (kn' : Bool) (fi' : Int), Nu p R' lm rc' rm V' kn' fi' ∧
      (∀ b mb nn X la cap, nn ≤ 900000000000000000 → Tb X → IbP b mb nn p R lm rc rm V kn X → Sl X la l → l.length ≤ cap → Calls Tryd.prog 10 #[.pointer (some ⟨b, 0, none⟩), .int .i64 o, .slice la l.length cap, .bool fin] X fun e w' => e = .returned (.int .i64 c) ∧ (∃ nn', nn' ≤ nn + 20000 ∧ IbP b mb nn' p R' lm rc' rm V' kn' w') ∧ Chg (fun j => j = b ∨ j = mb) X w') ∧
      (∀ r X la cap, RfP r p lm rc rm V kn fi X → Sl X la l → Calls Tryd.prog 11 #[.pointer (some ⟨r, 0, none⟩), .int .i64 o, .slice la l.length cap, .bool fin] X fun e w' => e = .returned (.int .i64 c) ∧ RfP r p lm rc' rm V' kn' fi' w' ∧ Chg (fun k => k = r) X w')
theorem put_both {p R lm rc rm : Nat} {V : Nat → Option UInt8} {kn : Bool} {fi : Int} (hq : Nu p R lm rc rm V kn fi) (hpB : p ≤ 3000000000000000000) (o : Int) (ho : -9223372036854775808 ≤ o ∧ o ≤ 9223372036854775807) (l : List UInt8) (hl : l.length ≤ 140737488351232) (fin : Bool) : PutB p R lm rc rm V kn fi o l fin := by
  have hsame : ∀ c, (∀ b mb nn X la cap, IbP b mb nn p R lm rc rm V kn X → Calls Tryd.prog 10 #[.pointer (some ⟨b, 0, none⟩), .int .i64 o, .slice la l.length cap, .bool fin] X fun e w' => e = .returned (.int .i64 c) ∧ w' = X) →
      (∀ r X la cap, RfP r p lm rc rm V kn fi X → Calls Tryd.prog 11 #[.pointer (some ⟨r, 0, none⟩), .int .i64 o, .slice la l.length cap, .bool fin] X fun e w' => e = .returned (.int .i64 c) ∧ w' = X) → PutB p R lm rc rm V kn fi o l fin := fun c h1 h2 =>
    ⟨c, R, rc, V, kn, fi, hq, fun b mb nn X la cap _ _ hI _ _ => (h1 b mb nn X la cap hI).mono (by rintro e w' ⟨rfl, rfl⟩; exact ⟨rfl, ⟨nn, by omega, hI⟩, Chg.refl _ _⟩),
      fun r X la cap hR _ => (h2 r X la cap hR).mono (by rintro e w' ⟨rfl, rfl⟩; exact ⟨rfl, hR, Chg.refl _ _⟩)⟩
  by_cases hA : o < 0 ∨ 4611686018427387903 - (l.length : Int) < o
  · exact hsame 2 (fun b mb nn X la cap hI => put_arg b mb o l.length cap la fin X (Ib.c0 hI) hA ho) (fun r X la cap hR => rput_arg r o l.length cap la fin X hA (by omega))
  obtain ⟨O, rfl⟩ : ∃ O : Nat, o = O := ⟨o.toNat, by omega⟩
  have hO : O + l.length ≤ 4611686018427387903 := by omega
  by_cases hF : (kn = true ∧ rc < O + l.length) ∨ (fin = true ∧ O + l.length < rc)
  · exact hsame 33 (fun b mb nn X la cap hI => put_final b mb nn O l.length cap lm rc V p R _ rm kn fin la X hO hI hF) (fun r X la cap ⟨ca, cc, hR⟩ => rput_final hR O l.length cap la fin hO hq.hfi hF)
  have h1 : kn = true → O + l.length ≤ rc := fun e => by
    by_cases hc : O + l.length ≤ rc
    · exact hc
    · exact absurd (.inl ⟨e, by omega⟩) hF
  have h2 : fin = true → rc ≤ O + l.length := fun e => by
    by_cases hc : rc ≤ O + l.length
    · exact hc
    · exact absurd (.inr ⟨e, by omega⟩) hF
  by_cases hL : lm < O + l.length
  · exact hsame 30 (fun b mb nn X la cap hI => put_flow b mb nn O l.length cap lm rc V p R _ rm kn fin la X hO hI h1 h2 hL) (fun r X la cap ⟨ca, cc, hR⟩ => rput_flow hR O l.length cap la fin hO hq.hfi h1 h2 hL)
  have h3 : O + l.length ≤ lm := by omega
  obtain ⟨hpR, hRl⟩ := hq.hR
  have hhp := hq.hp
  have hhM := hq.hM
  obtain ⟨l', hl'⟩ : ∃ l', l' = l.drop (min l.length (p - O)) := ⟨_, rfl⟩
  have hll : l'.length = l.length - min l.length (p - O) := by rw [hl', List.length_drop]
  have hno : ∀ j, lm ≤ j → putF V (max O p) l' j = none := fun j hj => by
    by_cases hz : l'.length = 0
    · rw [List.eq_nil_of_length_eq_zero hz]; exact hq.no j hj
    · rw [putF_out _ _ _ _ (by omega)]; exact hq.no j hj
  have hkeep : ∀ j, V j ≠ none → putF V (max O p) l' j ≠ none := by
    intro j hj
    by_cases hin : max O p ≤ j ∧ j < max O p + l'.length
    · rw [putF_in _ _ _ _ hin.1 hin.2]; exact Option.some_ne_none _
    · rw [putF_out _ _ _ _ (by omega)]; exact hj
  obtain ⟨E, hE, hEl⟩ := stop_ex (V := putF V (max O p) l') (B := lm) hno lm R hRl (by omega)
  have hcn := came_le V p (lm - p)
  have hfc := fc_le (max O p) l'.length
  refine ⟨0, E, max rc (O + l.length), putF V (max O p) l', kn || fin, if fin = true then ((O + l.length : Nat) : Int) else fi, ⟨⟨Nat.le_trans hpR hE.1, fun j j1 j2 => ?_, hE.2.2⟩, hno, hhp, hhM, by have := hq.hrc; omega, fun e => ?_, hq.hrm⟩, fun b mb nn X la cap hnn hT hI hs hcap => ?_, fun r X la cap hR hs => ?_⟩
  · by_cases hj : j < R
    · exact hkeep j (hq.st.2.1 j j1 hj)
    · exact hE.2.1 j (by omega) j2
  · by_cases hf : fin = true
    · rw [if_pos hf]
      have := h2 hf
      rw [show max rc (O + l.length) = O + l.length by omega]
    · rw [if_neg hf]
      have hk : kn = true := by
        rcases Bool.or_eq_true _ _ ▸ e with e | e
        · exact e
        · exact absurd e hf
      have := h1 hk
      rw [show max rc (O + l.length) = rc by omega]
      exact hq.hfi hk
  · refine (put_ok b mb nn O p l.length cap R E lm rc (max rc (O + l.length)) V ((cnt V p (lm - p) : Nat) : Int) rm kn fin la l l' X rfl hcap (by omega) (by omega) (by have := hq.hrc; omega) ⟨by omega, by show ((came V p (lm - p)).length : Int) ≤ _; omega⟩ (by omega) hT hI hs hl' hE (by omega) h1 h2 h3 rfl).mono ?_
    rintro e w' ⟨rfl, ⟨n', hn', hib⟩, hch⟩
    refine ⟨rfl, ⟨n', by omega, ?_⟩, hch⟩
    have eC : ((cnt (putF V (max O p) l') p (lm - p) : Nat) : Int) = (cnt V p (lm - p) : Nat) + (cntF V (max O p) l' : Nat) := by
      show (((came _ _ _).length : Nat) : Int) = _
      by_cases hz : l'.length = 0
      · rw [List.eq_nil_of_length_eq_zero hz]
        simp [putF, cntF]
      · rw [cnt_putF (V := V) p (lm - p) (max O p) l' (by omega) (by omega)]
        rfl
    unfold IbP
    rw [eC]
    exact hib
  · obtain ⟨ca, cc, hR⟩ := hR
    refine (rput_ok hR O l.length cap la l fin rfl hs hO (by omega) (by omega) hq.hfi h1 h2 h3).mono ?_
    rintro e w' ⟨rfl, ⟨ca', cc', hr⟩, hch⟩
    rw [putR_eq, ← hl'] at hr
    exact ⟨rfl, ⟨ca', cc', hr⟩, hch⟩
end Go.Proofs.YtpbiokcelglaaaaDoor
