/- frame: what Put lays is read as it was. -/
import Derived.Test.YtaeapgkfmofjlaaDoorNb
import Derived.Test.YtaeapgkfmofjlaaDoorMd
import Derived.Test.YtaeapgkfmofjlaaDoorEd
namespace Go.Proofs.YtaeapgkfmofjlaaDoor
open Go.ChangeShapes Go.WideShapes Go.ChangeAt Go.RowKit
set_option linter.unusedVariables false
set_option maxRecDepth 100000

/-- A frame that does not say how long it is. -/
def openA (a : Fa) : Prop := a.k = 0 ∨ a.k = 48 ∨ a.k = 8 ∧ a.len = false
theorem encv_one {K : Int} (h0 : 0 ≤ K) (h1 : K ≤ 49) : (encv K).length = 1 ∧ szN K = 1 := by
  have hs : szN K = 1 := by unfold szN; rw [if_pos (by omega)]
  refine ⟨?_, hs⟩
  unfold encv
  rw [if_pos (vaE_ok (by omega)), enc_length, hs]
  rfl
theorem can_DA (K : Int) (a : Fa) (hK : isKd K = true) : (can K a).D.length ≤ a.D.length ∧ (can K a).A.length ≤ a.A.length := by
  rcases isKd_cases hK with rfl | rfl | rfl | rfl | rfl | rfl | rfl | rfl | rfl | rfl | rfl | rfl | rfl | rfl | rfl | rfl | rfl | rfl | rfl | rfl | rfl | rfl | rfl | rfl | rfl | rfl | rfl | rfl | rfl | rfl | rfl | rfl | rfl
  · exact ⟨Nat.zero_le _, Nat.zero_le _⟩
  · exact ⟨Nat.zero_le _, Nat.zero_le _⟩
  · exact ⟨Nat.zero_le _, Nat.le_refl _⟩
  · exact ⟨Nat.zero_le _, Nat.le_refl _⟩
  · exact ⟨Nat.zero_le _, Nat.zero_le _⟩
  · exact ⟨Nat.zero_le _, Nat.zero_le _⟩
  · exact ⟨Nat.le_refl _, Nat.zero_le _⟩
  · exact ⟨Nat.le_refl _, Nat.zero_le _⟩
  · exact ⟨Nat.le_refl _, Nat.zero_le _⟩
  · exact ⟨Nat.le_refl _, Nat.zero_le _⟩
  · exact ⟨Nat.le_refl _, Nat.zero_le _⟩
  · exact ⟨Nat.le_refl _, Nat.zero_le _⟩
  · exact ⟨Nat.le_refl _, Nat.zero_le _⟩
  · exact ⟨Nat.le_refl _, Nat.zero_le _⟩
  · exact ⟨Nat.le_refl _, Nat.zero_le _⟩
  · exact ⟨Nat.le_refl _, Nat.zero_le _⟩
  · exact ⟨Nat.zero_le _, Nat.zero_le _⟩
  · exact ⟨Nat.zero_le _, Nat.zero_le _⟩
  · exact ⟨Nat.zero_le _, Nat.zero_le _⟩
  · exact ⟨Nat.zero_le _, Nat.zero_le _⟩
  · exact ⟨Nat.zero_le _, Nat.zero_le _⟩
  · exact ⟨Nat.zero_le _, Nat.zero_le _⟩
  · exact ⟨Nat.zero_le _, Nat.zero_le _⟩
  · exact ⟨Nat.zero_le _, Nat.zero_le _⟩
  · exact ⟨Nat.zero_le _, Nat.zero_le _⟩
  · exact ⟨Nat.zero_le _, Nat.zero_le _⟩
  · exact ⟨Nat.zero_le _, Nat.zero_le _⟩
  · exact ⟨Nat.zero_le _, Nat.zero_le _⟩
  · exact ⟨Nat.le_refl _, Nat.zero_le _⟩
  · exact ⟨Nat.le_refl _, Nat.zero_le _⟩
  · exact ⟨Nat.zero_le _, Nat.zero_le _⟩
  · exact ⟨Nat.le_refl _, Nat.zero_le _⟩
  · exact ⟨Nat.le_refl _, Nat.zero_le _⟩
theorem padB_le (c : Int) : (padB c).length ≤ 1048576 := by
  unfold padB
  split
  · rw [List.length_replicate]; omega
  · simp
theorem pB_le (K : Int) (a : Fa) (hK : isKd K = true) (hR : a.R.length = 16) (hT : a.T.length = 8) (hI : K = 24 → a.I.length ≤ 20) : (pB K a).length ≤ 1060000 := by
  have hD := rB_le a.D
  rcases isKd_cases hK with rfl | rfl | rfl | rfl | rfl | rfl | rfl | rfl | rfl | rfl | rfl | rfl | rfl | rfl | rfl | rfl | rfl | rfl | rfl | rfl | rfl | rfl | rfl | rfl | rfl | rfl | rfl | rfl | rfl | rfl | rfl | rfl | rfl
  · have n0 := padB_le a.cnt
    have e : pB 0 a = padB a.cnt := rfl
    rw [e]
    omega
  · have e : pB 1 a = [] := rfl
    rw [e]
    simp
  · have n0 := ackB_le a.A a.del
    have e : pB 2 a = ackB a.A a.del := rfl
    rw [e]
    omega
  · have n0 := ackB_le a.A a.del
    have n1 := encs_le [a.e0, a.e1, a.e2]; simp only [List.length_cons, List.length_nil] at n1
    have e : pB 3 a = (ackB a.A a.del ++ encs [a.e0, a.e1, a.e2]) := rfl
    rw [e]
    simp only [List.length_append]
    omega
  · have n0 := encs_le [a.s, a.code, a.lim]; simp only [List.length_cons, List.length_nil] at n0
    have e : pB 4 a = encs [a.s, a.code, a.lim] := rfl
    rw [e]
    omega
  · have n0 := encs_le [a.s, a.code]; simp only [List.length_cons, List.length_nil] at n0
    have e : pB 5 a = encs [a.s, a.code] := rfl
    rw [e]
    omega
  · have n0 := encs_le [a.o]; simp only [List.length_cons, List.length_nil] at n0
    have n1 := encv_le a.D.length
    have e : pB 6 a = (encs [a.o] ++ (encv a.D.length ++ rB a.D)) := rfl
    rw [e]
    simp only [List.length_append]
    omega
  · have n0 := encv_le a.D.length
    have e : pB 7 a = (encv a.D.length ++ rB a.D) := rfl
    rw [e]
    simp only [List.length_append]
    omega
  · have n0 := encs_le [a.s]; simp only [List.length_cons, List.length_nil] at n0
    have e : pB 8 a = (encs [a.s] ++ rB a.D) := rfl
    rw [e]
    simp only [List.length_append]
    omega
  · have n0 := encs_le [a.s]; simp only [List.length_cons, List.length_nil] at n0
    have e : pB 9 a = (encs [a.s] ++ rB a.D) := rfl
    rw [e]
    simp only [List.length_append]
    omega
  · have n0 := encs_le [a.s]; simp only [List.length_cons, List.length_nil] at n0
    have n1 := encv_le a.D.length
    have e : pB 10 a = (encs [a.s] ++ (encv a.D.length ++ rB a.D)) := rfl
    rw [e]
    simp only [List.length_append]
    omega
  · have n0 := encs_le [a.s]; simp only [List.length_cons, List.length_nil] at n0
    have n1 := encv_le a.D.length
    have e : pB 11 a = (encs [a.s] ++ (encv a.D.length ++ rB a.D)) := rfl
    rw [e]
    simp only [List.length_append]
    omega
  · have n0 := encs_le [a.s]; simp only [List.length_cons, List.length_nil] at n0
    have n1 := encs_le [a.o]; simp only [List.length_cons, List.length_nil] at n1
    have e : pB 12 a = (encs [a.s] ++ (encs [a.o] ++ rB a.D)) := rfl
    rw [e]
    simp only [List.length_append]
    omega
  · have n0 := encs_le [a.s]; simp only [List.length_cons, List.length_nil] at n0
    have n1 := encs_le [a.o]; simp only [List.length_cons, List.length_nil] at n1
    have e : pB 13 a = (encs [a.s] ++ (encs [a.o] ++ rB a.D)) := rfl
    rw [e]
    simp only [List.length_append]
    omega
  · have n0 := encs_le [a.s]; simp only [List.length_cons, List.length_nil] at n0
    have n1 := encs_le [a.o]; simp only [List.length_cons, List.length_nil] at n1
    have n2 := encv_le a.D.length
    have e : pB 14 a = (encs [a.s] ++ (encs [a.o] ++ (encv a.D.length ++ rB a.D))) := rfl
    rw [e]
    simp only [List.length_append]
    omega
  · have n0 := encs_le [a.s]; simp only [List.length_cons, List.length_nil] at n0
    have n1 := encs_le [a.o]; simp only [List.length_cons, List.length_nil] at n1
    have n2 := encv_le a.D.length
    have e : pB 15 a = (encs [a.s] ++ (encs [a.o] ++ (encv a.D.length ++ rB a.D))) := rfl
    rw [e]
    simp only [List.length_append]
    omega
  · have n0 := encs_le [a.lim]; simp only [List.length_cons, List.length_nil] at n0
    have e : pB 16 a = encs [a.lim] := rfl
    rw [e]
    omega
  · have n0 := encs_le [a.s]; simp only [List.length_cons, List.length_nil] at n0
    have n1 := encs_le [a.lim]; simp only [List.length_cons, List.length_nil] at n1
    have e : pB 17 a = (encs [a.s] ++ encs [a.lim]) := rfl
    rw [e]
    simp only [List.length_append]
    omega
  · have n0 := encs_le [a.lim]; simp only [List.length_cons, List.length_nil] at n0
    have e : pB 18 a = encs [a.lim] := rfl
    rw [e]
    omega
  · have n0 := encs_le [a.lim]; simp only [List.length_cons, List.length_nil] at n0
    have e : pB 19 a = encs [a.lim] := rfl
    rw [e]
    omega
  · have n0 := encs_le [a.lim]; simp only [List.length_cons, List.length_nil] at n0
    have e : pB 20 a = encs [a.lim] := rfl
    rw [e]
    omega
  · have n0 := encs_le [a.s]; simp only [List.length_cons, List.length_nil] at n0
    have n1 := encs_le [a.lim]; simp only [List.length_cons, List.length_nil] at n1
    have e : pB 21 a = (encs [a.s] ++ encs [a.lim]) := rfl
    rw [e]
    simp only [List.length_append]
    omega
  · have n0 := encs_le [a.lim]; simp only [List.length_cons, List.length_nil] at n0
    have e : pB 22 a = encs [a.lim] := rfl
    rw [e]
    omega
  · have n0 := encs_le [a.lim]; simp only [List.length_cons, List.length_nil] at n0
    have e : pB 23 a = encs [a.lim] := rfl
    rw [e]
    omega
  · have n0 := encs_le [a.seq, a.ret]; simp only [List.length_cons, List.length_nil] at n0
    have n1 := hI rfl
    have e : pB 24 a = (encs [a.seq, a.ret] ++ ([UInt8.ofNat a.I.length] ++ (a.I ++ a.R))) := rfl
    rw [e]
    simp only [List.length_append, List.length_cons, List.length_nil]
    omega
  · have n0 := encs_le [a.seq]; simp only [List.length_cons, List.length_nil] at n0
    have e : pB 25 a = encs [a.seq] := rfl
    rw [e]
    omega
  · have e : pB 26 a = a.T := rfl
    rw [e]
    omega
  · have e : pB 27 a = a.T := rfl
    rw [e]
    omega
  · have n0 := encs_le [a.code, a.of]; simp only [List.length_cons, List.length_nil] at n0
    have n1 := encv_le a.D.length
    have e : pB 28 a = (encs [a.code, a.of] ++ (encv a.D.length ++ rB a.D)) := rfl
    rw [e]
    simp only [List.length_append]
    omega
  · have n0 := encs_le [a.code]; simp only [List.length_cons, List.length_nil] at n0
    have n1 := encv_le a.D.length
    have e : pB 29 a = (encs [a.code] ++ (encv a.D.length ++ rB a.D)) := rfl
    rw [e]
    simp only [List.length_append]
    omega
  · have e : pB 30 a = [] := rfl
    rw [e]
    simp
  · have e : pB 48 a = rB a.D := rfl
    rw [e]
    omega
  · have n0 := encv_le a.D.length
    have e : pB 49 a = (encv a.D.length ++ rB a.D) := rfl
    rw [e]
    simp only [List.length_append]
    omega
/-- What one kind has to show. -/
def Kdk (K : Int) (a : Fa) : Prop := ∀ l, Hs l 1 (pB K a) → (openA a → l.length = 1 + (pB K a).length) → yW K l (ab (bgF K) dz, (1, 0)) = (can K a, (1 + (pB K a).length, 0)) ∧ mayB (can K a) = true ∧ stB (can K a) = K ∧ pB K (can K a) = pB K a ∧ pX K (can K a) = pX K a ∧ (can K a).k = a.k ∧ (a.k = 8 → (can K a).s = a.s ∧ (can K a).o = a.o ∧ (can K a).fin = a.fin ∧ (can K a).len = a.len)
theorem putR_parts {a : Fa} (hp : (putR a).2 = 0) : isKd a.k = true ∧ ¬ (8 < a.k ∧ a.k < 16) ∧ mayB a = true ∧ pX (stB a) a = false ∧ putR a = (encv (stB a) ++ pB (stB a) a, 0) := by
  unfold putR at *
  split at hp
  · cases hp
  · rename_i h
    rw [if_neg h]
    have h1 : isKd a.k = true := by
      cases hq : isKd a.k
      · exact absurd (.inl hq) h
      · rfl
    have h2 : ¬ (8 < a.k ∧ a.k < 16) := fun e => h (.inr e)
    split at hp
    · cases hp
    · rename_i h3
      rw [if_neg h3]
      split at hp
      · cases hp
      · rename_i h4
        rw [if_neg h4]
        exact ⟨h1, h2, by simpa using h3, by simpa using h4, rfl⟩
theorem fin_K {a : Fa} (hp : (putR a).2 = 0) (hk : Kdk (stB a) a) : ∃ c : Fa, (c.D.length ≤ a.D.length ∧ c.A.length ≤ a.A.length) ∧ c.k = a.k ∧ (a.k = 8 → c.s = a.s ∧ c.o = a.o ∧ c.fin = a.fin ∧ c.len = a.len) ∧ putR c = putR a ∧ ∀ r, (openA a → r = []) → rdS ((putR a).1 ++ r) 0 = (c, ((putR a).1.length, 0)) ∧ rdE ((putR a).1 ++ r) 0 = 0 := by
  obtain ⟨h1, h2, hm, hx, he⟩ := putR_parts hp
  obtain ⟨s1, s2, s3⟩ := stB_kd a h1 h2
  generalize stB a = K at *
  obtain ⟨w1, w2⟩ := encv_one s2 s3
  have hH : ∀ r, Hs (encv K ++ pB K a ++ r) 1 (pB K a) := fun r => ⟨encv K, r, by rw [List.append_assoc], w1⟩
  have hO : ∀ r, (openA a → r = []) → openA a → (encv K ++ pB K a ++ r).length = 1 + (pB K a).length := fun r hr ho => by
    rw [hr ho, List.append_nil, List.length_append, w1]
  have hK := hk _ (hH []) (hO [] (fun _ => rfl))
  obtain ⟨_, c2, c3, c4, c5, c6, c7⟩ := hK
  refine ⟨can K a, can_DA K a s1, c6, c7, ?_, ?_⟩
  · rw [he]
    unfold putR
    rw [c6, if_neg (by intro e; rcases e with e | e; rw [h1] at e; cases e; exact h2 e), c2, if_neg (by simp), c3, c5, hx, if_neg (by simp), c4]
  · intro r hr
    rw [he]
    dsimp only
    obtain ⟨d1, _⟩ := hk _ (hH r) (hO r hr)
    have hv : Hs (encv K ++ pB K a ++ r) 0 (encv K) := ⟨[], pB K a ++ r, by rw [List.nil_append, List.append_assoc], rfl⟩
    obtain ⟨v1, v2, v3⟩ := v_en hv (badv_small s2 s3)
    have hK : xK (encv K ++ pB K a ++ r) 0 = (K, (1, 0)) := by
      unfold xK
      rw [if_pos v3, v1, v2, w1, w2, s1]
      simp
    have hS : rdS (encv K ++ pB K a ++ r) 0 = (can K a, (1 + (pB K a).length, 0)) := by
      unfold rdS
      rw [hK, if_neg (fun h => h rfl)]
      exact d1
    refine ⟨?_, ?_⟩
    · rw [hS, List.length_append, w1]
    · unfold rdE
      rw [hS, if_neg (fun h => h rfl), c2, if_neg (by simp)]
theorem rd_back (a : Fa) (hp : (putR a).2 = 0) (hR : a.R.length = 16) (hT : a.T.length = 8) : ∃ c : Fa, (c.D.length ≤ a.D.length ∧ c.A.length ≤ a.A.length) ∧ c.k = a.k ∧ (a.k = 8 → c.s = a.s ∧ c.o = a.o ∧ c.fin = a.fin ∧ c.len = a.len) ∧ putR c = putR a ∧ ∀ r, (openA a → r = []) → rdS ((putR a).1 ++ r) 0 = (c, ((putR a).1.length, 0)) ∧ rdE ((putR a).1 ++ r) 0 = 0 := by
  obtain ⟨h1, h2, hm, hx, he⟩ := putR_parts hp
  refine fin_K hp ?_
  by_cases h8 : a.k = 8
  · by_cases ho : a.o = 0
    · cases hln : a.len
      · cases hfn : a.fin
        · skip
          have hK : stB a = 8 := by unfold stB; rw [if_pos h8, hln, hfn, if_pos ho]; rfl
          rw [hK] at hx ⊢
          intro l h hl
          obtain ⟨c1, c2, c3, c4, c5, c6, c7⟩ := kd_8 a h8 ho hln hfn hm hx hR hT h (hl (.inr (.inr ⟨h8, hln⟩)))
          exact ⟨c1, c2, c3, c4, c5, c6, fun _ => c7⟩
        · skip
          have hK : stB a = 9 := by unfold stB; rw [if_pos h8, hln, hfn, if_pos ho]; rfl
          rw [hK] at hx ⊢
          intro l h hl
          obtain ⟨c1, c2, c3, c4, c5, c6, c7⟩ := kd_9 a h8 ho hln hfn hm hx hR hT h (hl (.inr (.inr ⟨h8, hln⟩)))
          exact ⟨c1, c2, c3, c4, c5, c6, fun _ => c7⟩
      · cases hfn : a.fin
        · skip
          have hK : stB a = 10 := by unfold stB; rw [if_pos h8, hln, hfn, if_pos ho]; rfl
          rw [hK] at hx ⊢
          intro l h hl
          obtain ⟨c1, c2, c3, c4, c5, c6, c7⟩ := kd_10 a h8 ho hln hfn hm hx hR hT h
          exact ⟨c1, c2, c3, c4, c5, c6, fun _ => c7⟩
        · skip
          have hK : stB a = 11 := by unfold stB; rw [if_pos h8, hln, hfn, if_pos ho]; rfl
          rw [hK] at hx ⊢
          intro l h hl
          obtain ⟨c1, c2, c3, c4, c5, c6, c7⟩ := kd_11 a h8 ho hln hfn hm hx hR hT h
          exact ⟨c1, c2, c3, c4, c5, c6, fun _ => c7⟩
    · skip
      cases hln : a.len
      · cases hfn : a.fin
        · skip
          have hK : stB a = 12 := by unfold stB; rw [if_pos h8, hln, hfn, if_neg ho]; rfl
          rw [hK] at hx ⊢
          intro l h hl
          obtain ⟨c1, c2, c3, c4, c5, c6, c7⟩ := kd_12 a h8 ho hln hfn hm hx hR hT h (hl (.inr (.inr ⟨h8, hln⟩)))
          exact ⟨c1, c2, c3, c4, c5, c6, fun _ => c7⟩
        · skip
          have hK : stB a = 13 := by unfold stB; rw [if_pos h8, hln, hfn, if_neg ho]; rfl
          rw [hK] at hx ⊢
          intro l h hl
          obtain ⟨c1, c2, c3, c4, c5, c6, c7⟩ := kd_13 a h8 ho hln hfn hm hx hR hT h (hl (.inr (.inr ⟨h8, hln⟩)))
          exact ⟨c1, c2, c3, c4, c5, c6, fun _ => c7⟩
      · cases hfn : a.fin
        · skip
          have hK : stB a = 14 := by unfold stB; rw [if_pos h8, hln, hfn, if_neg ho]; rfl
          rw [hK] at hx ⊢
          intro l h hl
          obtain ⟨c1, c2, c3, c4, c5, c6, c7⟩ := kd_14 a h8 ho hln hfn hm hx hR hT h
          exact ⟨c1, c2, c3, c4, c5, c6, fun _ => c7⟩
        · skip
          have hK : stB a = 15 := by unfold stB; rw [if_pos h8, hln, hfn, if_neg ho]; rfl
          rw [hK] at hx ⊢
          intro l h hl
          obtain ⟨c1, c2, c3, c4, c5, c6, c7⟩ := kd_15 a h8 ho hln hfn hm hx hR hT h
          exact ⟨c1, c2, c3, c4, c5, c6, fun _ => c7⟩
  · have hK : stB a = a.k := by unfold stB; rw [if_neg h8]
    rw [hK] at hx ⊢
    rcases isKd_cases h1 with hk | hk | hk | hk | hk | hk | hk | hk | hk | hk | hk | hk | hk | hk | hk | hk | hk | hk | hk | hk | hk | hk | hk | hk | hk | hk | hk | hk | hk | hk | hk | hk | hk
    · rw [hk] at hx ⊢
      intro l h hl
      obtain ⟨c1, c2, c3, c4, c5, c6⟩ := kd_0 a hk hm hx hR hT h (hl (.inl hk))
      exact ⟨c1, c2, c3, c4, c5, c6, fun e => absurd e h8⟩
    · rw [hk] at hx ⊢
      intro l h hl
      obtain ⟨c1, c2, c3, c4, c5, c6⟩ := kd_1 a hk hm hx hR hT h
      exact ⟨c1, c2, c3, c4, c5, c6, fun e => absurd e h8⟩
    · rw [hk] at hx ⊢
      intro l h hl
      obtain ⟨c1, c2, c3, c4, c5, c6⟩ := kd_2 a hk hm hx hR hT h
      exact ⟨c1, c2, c3, c4, c5, c6, fun e => absurd e h8⟩
    · rw [hk] at hx ⊢
      intro l h hl
      obtain ⟨c1, c2, c3, c4, c5, c6⟩ := kd_3 a hk hm hx hR hT h
      exact ⟨c1, c2, c3, c4, c5, c6, fun e => absurd e h8⟩
    · rw [hk] at hx ⊢
      intro l h hl
      obtain ⟨c1, c2, c3, c4, c5, c6⟩ := kd_4 a hk hm hx hR hT h
      exact ⟨c1, c2, c3, c4, c5, c6, fun e => absurd e h8⟩
    · rw [hk] at hx ⊢
      intro l h hl
      obtain ⟨c1, c2, c3, c4, c5, c6⟩ := kd_5 a hk hm hx hR hT h
      exact ⟨c1, c2, c3, c4, c5, c6, fun e => absurd e h8⟩
    · rw [hk] at hx ⊢
      intro l h hl
      obtain ⟨c1, c2, c3, c4, c5, c6⟩ := kd_6 a hk hm hx hR hT h
      exact ⟨c1, c2, c3, c4, c5, c6, fun e => absurd e h8⟩
    · rw [hk] at hx ⊢
      intro l h hl
      obtain ⟨c1, c2, c3, c4, c5, c6⟩ := kd_7 a hk hm hx hR hT h
      exact ⟨c1, c2, c3, c4, c5, c6, fun e => absurd e h8⟩
    · exact absurd hk (by omega)
    · exact absurd hk (by omega)
    · exact absurd hk (by omega)
    · exact absurd hk (by omega)
    · exact absurd hk (by omega)
    · exact absurd hk (by omega)
    · exact absurd hk (by omega)
    · exact absurd hk (by omega)
    · rw [hk] at hx ⊢
      intro l h hl
      obtain ⟨c1, c2, c3, c4, c5, c6⟩ := kd_16 a hk hm hx hR hT h
      exact ⟨c1, c2, c3, c4, c5, c6, fun e => absurd e h8⟩
    · rw [hk] at hx ⊢
      intro l h hl
      obtain ⟨c1, c2, c3, c4, c5, c6⟩ := kd_17 a hk hm hx hR hT h
      exact ⟨c1, c2, c3, c4, c5, c6, fun e => absurd e h8⟩
    · rw [hk] at hx ⊢
      intro l h hl
      obtain ⟨c1, c2, c3, c4, c5, c6⟩ := kd_18 a hk hm hx hR hT h
      exact ⟨c1, c2, c3, c4, c5, c6, fun e => absurd e h8⟩
    · rw [hk] at hx ⊢
      intro l h hl
      obtain ⟨c1, c2, c3, c4, c5, c6⟩ := kd_19 a hk hm hx hR hT h
      exact ⟨c1, c2, c3, c4, c5, c6, fun e => absurd e h8⟩
    · rw [hk] at hx ⊢
      intro l h hl
      obtain ⟨c1, c2, c3, c4, c5, c6⟩ := kd_20 a hk hm hx hR hT h
      exact ⟨c1, c2, c3, c4, c5, c6, fun e => absurd e h8⟩
    · rw [hk] at hx ⊢
      intro l h hl
      obtain ⟨c1, c2, c3, c4, c5, c6⟩ := kd_21 a hk hm hx hR hT h
      exact ⟨c1, c2, c3, c4, c5, c6, fun e => absurd e h8⟩
    · rw [hk] at hx ⊢
      intro l h hl
      obtain ⟨c1, c2, c3, c4, c5, c6⟩ := kd_22 a hk hm hx hR hT h
      exact ⟨c1, c2, c3, c4, c5, c6, fun e => absurd e h8⟩
    · rw [hk] at hx ⊢
      intro l h hl
      obtain ⟨c1, c2, c3, c4, c5, c6⟩ := kd_23 a hk hm hx hR hT h
      exact ⟨c1, c2, c3, c4, c5, c6, fun e => absurd e h8⟩
    · rw [hk] at hx ⊢
      intro l h hl
      obtain ⟨c1, c2, c3, c4, c5, c6⟩ := kd_24 a hk hm hx hR hT h
      exact ⟨c1, c2, c3, c4, c5, c6, fun e => absurd e h8⟩
    · rw [hk] at hx ⊢
      intro l h hl
      obtain ⟨c1, c2, c3, c4, c5, c6⟩ := kd_25 a hk hm hx hR hT h
      exact ⟨c1, c2, c3, c4, c5, c6, fun e => absurd e h8⟩
    · rw [hk] at hx ⊢
      intro l h hl
      obtain ⟨c1, c2, c3, c4, c5, c6⟩ := kd_26 a hk hm hx hR hT h
      exact ⟨c1, c2, c3, c4, c5, c6, fun e => absurd e h8⟩
    · rw [hk] at hx ⊢
      intro l h hl
      obtain ⟨c1, c2, c3, c4, c5, c6⟩ := kd_27 a hk hm hx hR hT h
      exact ⟨c1, c2, c3, c4, c5, c6, fun e => absurd e h8⟩
    · rw [hk] at hx ⊢
      intro l h hl
      obtain ⟨c1, c2, c3, c4, c5, c6⟩ := kd_28 a hk hm hx hR hT h
      exact ⟨c1, c2, c3, c4, c5, c6, fun e => absurd e h8⟩
    · rw [hk] at hx ⊢
      intro l h hl
      obtain ⟨c1, c2, c3, c4, c5, c6⟩ := kd_29 a hk hm hx hR hT h
      exact ⟨c1, c2, c3, c4, c5, c6, fun e => absurd e h8⟩
    · rw [hk] at hx ⊢
      intro l h hl
      obtain ⟨c1, c2, c3, c4, c5, c6⟩ := kd_30 a hk hm hx hR hT h
      exact ⟨c1, c2, c3, c4, c5, c6, fun e => absurd e h8⟩
    · rw [hk] at hx ⊢
      intro l h hl
      obtain ⟨c1, c2, c3, c4, c5, c6⟩ := kd_48 a hk hm hx hR hT h (hl (.inr (.inl hk)))
      exact ⟨c1, c2, c3, c4, c5, c6, fun e => absurd e h8⟩
    · rw [hk] at hx ⊢
      intro l h hl
      obtain ⟨c1, c2, c3, c4, c5, c6⟩ := kd_49 a hk hm hx hR hT h
      exact ⟨c1, c2, c3, c4, c5, c6, fun e => absurd e h8⟩
end Go.Proofs.YtaeapgkfmofjlaaDoor
