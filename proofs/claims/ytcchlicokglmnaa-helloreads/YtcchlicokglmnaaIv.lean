/- A reader and the message that it fills in, whatever its kind. -/
import Derived.Test.YtcchlicokglmnaaIu
import Derived.Test.YtcchlicokglmnaaCt
namespace Go.Proofs.Ytcchlicokglmnaa
open Go.ChangeShapes Go.WideShapes Go.ChangeAt Go.RowKit Go.Lib
set_option linter.unusedVariables false

/-- A message of a kind, and nothing else. -/
def m0 (k : Int) : Msg := ⟨k, z16, z16, .empty, none, [], 0, none, [], 0, none, [], 0, z16, false, false, z16, 0⟩
/-- A message without the places of its rows. -/
def Msg.pl (m : Msg) : Msg := { m with po := none, pc := 0, ao := none, ac := 0, to := none, tc := 0 }
/-- Where a reader stands behind a body, and the message. -/
def rd (k : Int) (L : List UInt8) (s : Sd) : Sd × Msg :=
  if k = 1 then (if (ck6 L s).2 % 2 = 1 then ((ck8 L s).1, cm8 (m0 1) L s none 0 none 0 none 0) else (((ck6 L s).1.1 || !(!ckE L s && ((m0 1).binder == z16)), (ck6 L s).1.2), cm6 (m0 1) L s none 0 none 0))
  else if k = 2 then ((dN L 1 0 1 (dT L 16 (dT L 16 s).1).1).1, { m0 2 with random := newH z16 (dT L 16 s).2, share := newH z16 (dT L 16 (dT L 16 s).1).2, again := decide ((dN L 1 0 1 (dT L 16 (dT L 16 s).1).1).2 = 1) })
  else if k = 8 then ((dN L 1 0 1 (dL L 0 4096 (dPs L 1 s []).1).1).1, { m0 8 with protos := (dPs L 1 s []).2, params := (dL L 0 4096 (dPs L 1 s []).1).2, early := decide ((dN L 1 0 1 (dL L 0 4096 (dPs L 1 s []).1).1).2 = 1) })
  else if k = 11 then ((dT L 16 (dS L 0 s).1).1, { m0 11 with name := ⟨(dS L 0 s).2.toArray⟩, mark := newH z16 (dT L 16 (dS L 0 s).1).2 })
  else if k = 4 then ((dN L 1 0 1 (dL L 1 512 (dN L 4 0 4294967295 s).1).1).1, { m0 4 with life := newN L 4 0 4294967295 s 0, ticket := (dL L 1 512 (dN L 4 0 4294967295 s).1).2, early := decide ((dN L 1 0 1 (dL L 1 512 (dN L 4 0 4294967295 s).1).1).2 = 1) })
  else ((dT L 16 s).1, { m0 k with mark := newH z16 (dT L 16 s).2 })
section
variable {W0 W : World} {p : Nat} {o : Option Addr} {L : List UInt8} {c M : Nat} {s : Sd} {k : Int}
/-- walk, by a reader, of any kind. -/
theorem rw_all (cr : Cr W0 p o L M) (hk : isK k = true) (h : Im W0 p o L c M s (m0 k) W0) : rwalk p M W0 (fun X => ∃ m, Im W0 p o L c M (rd k L s).1 m X ∧ m.pl = (rd k L s).2) := by
  have h0 : (m0 k).po = none ∧ (m0 k).protos = [] ∧ (m0 k).pc = 0 := ⟨rfl, rfl, rfl⟩
  have hkk := of_decide_eq_true hk
  by_cases k1 : k = 1
  · subst k1
    refine (rw1 cr rfl h0 h).mono fun e w' ⟨h1, h2⟩ => ⟨h1, ?_⟩
    unfold Jc at h2
    by_cases hc : (ck6 L s).2 % 2 = 1
    · rw [if_pos hc] at h2
      obtain ⟨po, pc, ao, ac, to, tc, h2⟩ := h2
      have e : rd 1 L s = ((ck8 L s).1, cm8 (m0 1) L s none 0 none 0 none 0) := by unfold rd; rw [if_pos rfl, if_pos hc]
      rw [e]
      exact ⟨_, h2, rfl⟩
    · rw [if_neg hc] at h2
      obtain ⟨po, pc, ao, ac, h2⟩ := h2
      have e : rd 1 L s = (((ck6 L s).1.1 || !(!ckE L s && ((m0 1).binder == z16)), (ck6 L s).1.2), cm6 (m0 1) L s none 0 none 0) := by unfold rd; rw [if_pos rfl, if_neg hc]
      rw [e]
      exact ⟨_, h2, rfl⟩
  by_cases k2 : k = 2
  · subst k2
    exact (rw2 cr rfl h).mono fun e w' ⟨h1, h2⟩ => ⟨h1, _, h2, rfl⟩
  by_cases k8 : k = 8
  · subst k8
    exact (rw8 cr rfl h0 h).mono fun e w' ⟨h1, po, pc, ao, ac, h2⟩ => ⟨h1, _, h2, rfl⟩
  by_cases k11 : k = 11
  · subst k11
    exact (rw11 cr rfl h).mono fun e w' ⟨h1, h2⟩ => ⟨h1, _, h2, rfl⟩
  by_cases k4 : k = 4
  · subst k4
    exact (rw4 cr rfl h).mono fun e w' ⟨h1, ao, ac, h2⟩ => ⟨h1, _, h2, rfl⟩
  have e : rd k L s = ((dT L 16 s).1, { m0 k with mark := newH z16 (dT L 16 s).2 }) := by unfold rd; rw [if_neg k1, if_neg k2, if_neg k8, if_neg k11, if_neg k4]
  rw [e]
  by_cases k15 : k = 15
  · subst k15
    exact (rw15 cr rfl h).mono fun e w' ⟨h1, h2⟩ => ⟨h1, _, h2, rfl⟩
  by_cases k20 : k = 20
  · subst k20
    exact (rw20 cr rfl h).mono fun e w' ⟨h1, h2⟩ => ⟨h1, _, h2, rfl⟩
  omega
end
end Go.Proofs.Ytcchlicokglmnaa
