/- What is read is laid so: a body. -/
import Derived.Test.YtcchlicokglmnaaBa
namespace Go.Proofs.Ytcchlicokglmnaa
open Go.ChangeShapes Go.WideShapes Go.ChangeAt Go.RowKit Go.Lib
set_option linter.unusedVariables false

section
variable {L : List UInt8} {s : Sd} {a : St}
theorem Pre.start : Pre L (false, 0) ([], false) := ⟨rfl, Nat.zero_le _, by simp⟩
theorem Pre.full (h : Pre L s a) (hs : s.2 = L.length) : a = (L, false) := by
  obtain ⟨h1, h2, h3⟩ := h
  rw [hs, List.take_length] at h3
  cases a
  simp only at h1 h3
  rw [h1, h3]
theorem aH_two (x y : List UInt8) : aH [x, y] a = aH [y] (aH [x] a) := by simp [aH]
theorem aP_eq (h : a.2 = false) {Ns : List ByteArray} {count : Int} (hc : (Ns.length : Int) = count) : aP Ns count a = prs a Ns := by
  unfold aP
  have hd : decide ((Ns.length : Int) = count) = true := decide_eq_true hc
  rw [hd, h]
  have : a = (a.1, false) := by rw [← h]
  rw [← this]
  rfl
theorem bit1 {v : Nat} (h : v ≤ 1) : bitN (decide (v = 1)) 1 = v := by
  rcases (show v = 0 ∨ v = 1 by omega) with rfl | rfl <;> rfl
theorem bit2 {v : Nat} (h : v ≤ 3) (h1 : v % 2 = 1) : bitN true 1 + bitN (decide (v / 2 = 1)) 2 = v := by
  rcases (show v = 1 ∨ v = 3 by omega) with rfl | rfl <;> rfl
theorem le01 (s : Sd) : (dN L 1 0 1 s).2 ≤ 1 := dN_le L 1 1 s
theorem le03 (s : Sd) : (dN L 1 0 3 s).2 ≤ 3 := dN_le L 1 3 s
theorem rd2 (hs : (rd 2 L (false, 0)).1 = (false, L.length)) : bodyS (rd 2 L (false, 0)).2 = (L, false) := by
  have e : rd 2 L (false, 0) = ((dN L 1 0 1 (dT L 16 (dT L 16 (false, 0)).1).1).1, { m0 2 with random := newH z16 (dT L 16 (false, 0)).2, share := newH z16 (dT L 16 (dT L 16 (false, 0)).1).2, again := decide ((dN L 1 0 1 (dT L 16 (dT L 16 (false, 0)).1).1).2 = 1) }) := rfl
  rw [e] at hs ⊢
  simp only at hs ⊢
  have h3 : (dN L 1 0 1 (dT L 16 (dT L 16 (false, 0)).1).1).1.1 = false := by rw [hs]
  have p1 := (B_H (Pre.start (L := L)) (dT_ok (dN_ok h3)) z16).2
  have p2 := (B_H p1 (dN_ok h3) z16).2
  have p3 := (B_F (by decide) p2 h3).2
  have := p3.full (by rw [hs])
  rw [← this]
  show aF (bitN (decide _) 1) (aH [_, _] ([], false)) = _
  dsimp only
  rw [bit1 (le01 _), aH_two]
theorem rd8 (hs : (rd 8 L (false, 0)).1 = (false, L.length)) : bodyS (rd 8 L (false, 0)).2 = (L, false) := by
  have e : rd 8 L (false, 0) = ((dN L 1 0 1 (dL L 0 4096 (dPs L 1 (false, 0) []).1).1).1, { m0 8 with protos := (dPs L 1 (false, 0) []).2, params := (dL L 0 4096 (dPs L 1 (false, 0) []).1).2, early := decide ((dN L 1 0 1 (dL L 0 4096 (dPs L 1 (false, 0) []).1).1).2 = 1) }) := rfl
  rw [e] at hs ⊢
  simp only at hs ⊢
  have h3 : (dN L 1 0 1 (dL L 0 4096 (dPs L 1 (false, 0) []).1).1).1.1 = false := by rw [hs]
  have h2 : (dL L 0 4096 (dPs L 1 (false, 0) []).1).1.1 = false := dN_ok h3
  obtain ⟨ms, e1, e2, p1⟩ := B_P 1 [] (Pre.start (L := L)) (dN_ok (dT_ok h2)) rfl
  have p2 := (B_L (by decide) p1 h2).2.2.2
  have p3 := (B_F (by decide) p2 h3).2
  have := p3.full (by rw [hs])
  rw [← this]
  show aF (bitN (decide _) 1) (aL _ 0 4096 (aP (dPs L 1 (false, 0) []).2 1 ([], false))) = _
  dsimp only
  rw [bit1 (le01 _), e1, List.nil_append, aP_eq rfl (by rw [e2]; rfl)]
theorem rd11 (hs : (rd 11 L (false, 0)).1 = (false, L.length)) : bodyS (rd 11 L (false, 0)).2 = (L, false) := by
  have e : rd 11 L (false, 0) = ((dT L 16 (dS L 0 (false, 0)).1).1, { m0 11 with name := ⟨(dS L 0 (false, 0)).2.toArray⟩, mark := newH z16 (dT L 16 (dS L 0 (false, 0)).1).2 }) := rfl
  rw [e] at hs ⊢
  simp only at hs ⊢
  have h2 : (dT L 16 (dS L 0 (false, 0)).1).1.1 = false := by rw [hs]
  have p1 := (B_S (Pre.start (L := L)) (dT_ok h2)).2.2.2
  have p2 := (B_H p1 h2 z16).2
  have := p2.full (by rw [hs])
  rw [← this]
  rfl
theorem newN_ok {n : Nat} {least most old : Int} (h : (dN L n least most s).1.1 = false) : newN L n least most s old = ((dN L n least most s).2 : Int) := by
  unfold dN at h ⊢
  simp only at h ⊢
  unfold newN
  rw [h]
  rfl
theorem rd4 (hs : (rd 4 L (false, 0)).1 = (false, L.length)) : bodyS (rd 4 L (false, 0)).2 = (L, false) := by
  have e : rd 4 L (false, 0) = ((dN L 1 0 1 (dL L 1 512 (dN L 4 0 4294967295 (false, 0)).1).1).1, { m0 4 with life := newN L 4 0 4294967295 (false, 0) 0, ticket := (dL L 1 512 (dN L 4 0 4294967295 (false, 0)).1).2, early := decide ((dN L 1 0 1 (dL L 1 512 (dN L 4 0 4294967295 (false, 0)).1).1).2 = 1) }) := rfl
  rw [e] at hs ⊢
  simp only at hs ⊢
  have h3 : (dN L 1 0 1 (dL L 1 512 (dN L 4 0 4294967295 (false, 0)).1).1).1.1 = false := by rw [hs]
  have h2 : (dL L 1 512 (dN L 4 0 4294967295 (false, 0)).1).1.1 = false := dN_ok h3
  have h1 : (dN L 4 0 4294967295 (false, 0)).1.1 = false := dN_ok (dT_ok h2)
  have p1 := (B_aN (by decide) (Pre.start (L := L)) h1).2
  have p2 := (B_L (by decide) p1 h2).2.2.2
  have p3 := (B_F (by decide) p2 h3).2
  have := p3.full (by rw [hs])
  rw [← this]
  show aF (bitN (decide _) 1) (aL _ 1 512 (aN 4 (newN L 4 0 4294967295 (false, 0) 0) 0 4294967295 ([], false))) = _
  dsimp only
  rw [bit1 (le01 _), newN_ok h1]
theorem rd_mark {k : Int} (hk : k = 15 ∨ k = 20) (hs : (rd k L (false, 0)).1 = (false, L.length)) : bodyS (rd k L (false, 0)).2 = (L, false) := by
  have e : rd k L (false, 0) = ((dT L 16 (false, 0)).1, { m0 k with mark := newH z16 (dT L 16 (false, 0)).2 }) := by rcases hk with rfl | rfl <;> rfl
  rw [e] at hs ⊢
  simp only at hs ⊢
  have h1 : (dT L 16 (false, 0)).1.1 = false := by rw [hs]
  have p1 := (B_H (Pre.start (L := L)) h1 z16).2
  have := p1.full (by rw [hs])
  rw [← this]
  rcases hk with rfl | rfl <;> rfl
theorem rd1 (hs : (rd 1 L (false, 0)).1 = (false, L.length)) : bodyS (rd 1 L (false, 0)).2 = (L, false) := by
  obtain ⟨s, hs0⟩ : ∃ s : Sd, s = (false, 0) := ⟨_, rfl⟩
  rw [← hs0] at hs ⊢
  have p0 : Pre L s ([], false) := by rw [hs0]; exact Pre.start
  have base : (ck6 L s).1.1 = false → Pre L (ck6 L s).1 (aF (ck6 L s).2 (aL (ck5 L s).2 0 4096 (aP (ck4 L s).2 (ck4 L s).2.length (aN 1 (ck4 L s).2.length 1 8 (stp 0 (aH [newH z16 (dT L 16 s).2, newH z16 (ck1 L s).2] ([], false)) ⟨(ck2 L s).2.toArray⟩))))) := by
    intro h6
    have h5 : (ck5 L s).1.1 = false := dN_ok h6
    have h4 : (ck4 L s).1.1 = false := dN_ok (dT_ok h5)
    have h3 : (ck3 L s).1.1 = false := dPs_ok _ _ h4
    have h2 : (ck2 L s).1.1 = false := dN_ok h3
    have h1 : (ck1 L s).1.1 = false := dN_ok (dT_ok h2)
    have q0 := (B_H p0 (dT_ok h1) z16).2
    have q1 := (B_H q0 h1 z16).2
    rw [← aH_two] at q1
    have q2 := (B_S q1 h2).2.2.2
    have q3 := (B_aN (by decide) q2 h3).2
    obtain ⟨ms, e1, e2, q4⟩ := B_P _ [] q3 h4 h3
    have e1' : (ck4 L s).2 = ms := e1
    have e2' : ms.length = (ck3 L s).2 := e2
    have q5 := (B_L (by decide) q4 h5).2.2.2
    have q6 := (B_F (by decide) q5 h6).2
    rw [e1', aP_eq ?_ rfl, e2']
    · exact q6
    · rw [e2']; exact q3.ok
  by_cases hc : (ck6 L s).2 % 2 = 1
  · have e : rd 1 L s = ((ck8 L s).1, cm8 (m0 1) L s none 0 none 0 none 0) := by unfold rd; rw [if_pos rfl, if_pos hc]
    rw [e] at hs ⊢
    have h8 : (ck8 L s).1.1 = false := by rw [hs]
    have h7 : (ck7 L s).1.1 = false := dT_ok h8
    have h6 : (ck6 L s).1.1 = false := dN_ok (dT_ok h7)
    have q6 := base h6
    obtain ⟨_, l1, _, q7⟩ := B_L (by decide) q6 h7
    have q8 := (B_H q7 h8 z16).2
    have := q8.full (by have : (ck8 L s).1.2 = L.length := by rw [hs]
                        exact this)
    rw [← this]
    have lt : 0 < (ck7 L s).2.length := by have : (1 : Int) ≤ ((ck7 L s).2.length : Int) := l1; omega
    show (if 0 < (ck7 L s).2.length then aH [newH z16 (ck8 L s).2] (aL (ck7 L s).2 1 512 (aF (bitN (decide (0 < (ck7 L s).2.length)) 1 + bitN (decide ((ck6 L s).2 / 2 = 1)) 2) _)) else _) = _
    rw [if_pos lt, decide_eq_true lt, bit2 (v := (ck6 L s).2) (le03 _) hc]
    rfl
  · have e : rd 1 L s = (((ck6 L s).1.1 || !(!ckE L s && ((m0 1).binder == z16)), (ck6 L s).1.2), cm6 (m0 1) L s none 0 none 0) := by unfold rd; rw [if_pos rfl, if_neg hc]
    rw [e] at hs ⊢
    have h8 : ((ck6 L s).1.1 || !(!ckE L s && ((m0 1).binder == z16))) = false := congrArg Prod.fst hs
    have h9 : (ck6 L s).1.2 = L.length := congrArg Prod.snd hs
    have h6 : (ck6 L s).1.1 = false := by revert h8; cases (ck6 L s).1.1 <;> simp
    have hE : ckE L s = false := by revert h8; cases ckE L s <;> simp
    have hz : ((m0 1).binder == z16) = true := by decide
    have q6 := base h6
    have := q6.full h9
    have hv : (ck6 L s).2 = 0 := by
      have h3 : (ck6 L s).2 ≤ 3 := le03 _
      have h4 : ¬ (ck6 L s).2 / 2 = 1 := of_decide_eq_false hE
      omega
    rw [hv] at this
    have hb : bodyS (cm6 (m0 1) L s none 0 none 0) = aM (!ckE L s && ((m0 1).binder == z16)) (aF (bitN (decide (0 < ([] : List UInt8).length)) 1 + bitN (ckE L s) 2) (aL (ck5 L s).2 0 4096 (aP (ck4 L s).2 (ck4 L s).2.length (aN 1 (ck4 L s).2.length 1 8 (stp 0 (aH [newH z16 (dT L 16 s).2, newH z16 (ck1 L s).2] ([], false)) ⟨(ck2 L s).2.toArray⟩))))) := rfl
    show bodyS (cm6 (m0 1) L s none 0 none 0) = _
    rw [hb, hE, hz]
    have h10 : ∀ x : St, aM true x = x := fun x => by cases x; simp [aM]
    rw [show (!false && true) = true from rfl, h10]
    exact this
/-- What is read is laid so. -/
theorem rd_laid {k : Int} (hk : isK k = true) (hs : (rd k L (false, 0)).1 = (false, L.length)) : bodyS (rd k L (false, 0)).2 = (L, false) := by
  have hkk := of_decide_eq_true hk
  rcases hkk with rfl | rfl | rfl | rfl | rfl | rfl | rfl
  · exact rd1 hs
  · exact rd2 hs
  · exact rd8 hs
  · exact rd11 hs
  · exact rd_mark (.inl rfl) hs
  · exact rd_mark (.inr rfl) hs
  · exact rd4 hs
theorem bodyS_pl (m : Msg) : bodyS m.pl = bodyS m := rfl
end
end Go.Proofs.Ytcchlicokglmnaa
