/- What is read is laid so: the parts. What is read is laid so: a body. What is laid is read again: the parts. What is laid is read again: a body. A message laid is read, a message read is laid so. A message that was read is one that can be put. -/
import Derived.Test.YtcchlicokglmnaaRx
namespace Go.Proofs.Ytcchlicokglmnaa
open Go.ChangeShapes Go.WideShapes Go.ChangeAt Go.RowKit Go.Lib
set_option linter.unusedVariables false

theorem be_add (k v c : Nat) : be k (v + c * 256 ^ k) = be k v := by
  induction k generalizing c with
  | zero => rfl
  | succ k ih =>
    rw [be_head, be_head]
    have h1 : v + c * 256 ^ (k + 1) = v + c * 256 * 256 ^ k := by rw [Nat.pow_succ, Nat.mul_assoc, Nat.mul_comm (256 ^ k) 256]
    rw [h1, ih (c * 256)]
    congr 1
    rw [Nat.add_mul_div_right _ _ (Nat.pow_pos (by decide))]
    apply UInt8.toNat_inj.1
    simp [UInt8.toNat_ofNat']
theorem be_num : ∀ l : List UInt8, be l.length (num l) = l
  | [] => rfl
  | x :: t => by
    have h1 : num (x :: t) = num t + x.toNat * 256 ^ t.length := by
      have := num_append [x] t
      simp only [List.singleton_append] at this
      rw [this, Nat.add_comm]
      simp [num]
    show be (t.length + 1) (num (x :: t)) = x :: t
    rw [be_head, h1, be_add, be_num t, Nat.add_mul_div_right _ _ (Nat.pow_pos (by decide)), Nat.div_eq_of_lt (num_lt t)]
    simp
/-- A reader and a putter that stand at the same place: the bytes so far. -/
structure Pre (L : List UInt8) (s : Sd) (a : St) : Prop where
  ok : a.2 = false
  le : s.2 ≤ L.length
  eq : a.1 = L.take s.2
section
variable {L : List UInt8} {s : Sd} {a : St}
theorem take_sub {n : Nat} (h : s.2 ≤ L.length) : L.take s.2 ++ sub L s.2 n = L.take (s.2 + n) := by
  rw [sub, List.take_add]
theorem B_T {n : Nat} (h : Pre L s a) (hs : (dT L n s).1.1 = false) : s.1 = false ∧ (dT L n s).2.length = n ∧ Pre L (dT L n s).1 (a.1 ++ (dT L n s).2, false) := by
  unfold dT at hs ⊢
  simp only at hs ⊢
  have hh := hs
  simp only [Bool.or_eq_false_iff, Bool.not_eq_false', decide_eq_true_eq] at hh
  simp only [hs, Bool.false_eq_true, if_false]
  refine ⟨hh.1, sub_length _ _ _ hh.2, rfl, hh.2, ?_⟩
  rw [h.eq]
  exact take_sub h.le
theorem B_N {n : Nat} {least most : Int} (h : Pre L s a) (hs : (dN L n least most s).1.1 = false) : s.1 = false ∧ least ≤ ((dN L n least most s).2 : Int) ∧ ((dN L n least most s).2 : Int) ≤ most ∧ Pre L (dN L n least most s).1 (a.1 ++ be n (dN L n least most s).2, false) := by
  unfold dN at hs ⊢
  simp only at hs ⊢
  have hh := hs
  simp only [nmOk, Bool.or_eq_false_iff, Bool.not_eq_false', decide_eq_true_eq, Bool.and_eq_true] at hh
  simp only [hs, Bool.false_eq_true, if_false]
  refine ⟨hh.1, hh.2.2.1, hh.2.2.2, rfl, hh.2.1, ?_⟩
  have hl := sub_length L s.2 n hh.2.1
  have hb := be_num (sub L s.2 n)
  rw [hl] at hb
  show a.1 ++ be n (num (sub L s.2 n)) = _
  rw [hb, h.eq]
  exact take_sub h.le
theorem dT_ok {n : Nat} (hs : (dT L n s).1.1 = false) : s.1 = false := by
  unfold dT at hs
  simp only [Bool.or_eq_false_iff] at hs
  exact hs.1
theorem dN_ok {n : Nat} {least most : Int} (hs : (dN L n least most s).1.1 = false) : s.1 = false := by
  unfold dN at hs
  simp only [Bool.or_eq_false_iff] at hs
  exact hs.1
/-- A short text. -/
theorem B_S {least : Int} (h : Pre L s a) (hs : (dS L least s).1.1 = false) : s.1 = false ∧ least ≤ ((dS L least s).2.length : Int) ∧ (dS L least s).2.length ≤ 255 ∧ Pre L (dS L least s).1 (stp least a ⟨(dS L least s).2.toArray⟩) := by
  unfold dS at hs ⊢
  obtain ⟨g1, g2, g3, g4⟩ := B_N h (dT_ok hs)
  obtain ⟨h1, h2, h3⟩ := B_T g4 hs
  generalize dN L 1 least 255 s = N at *
  generalize dT L N.2 N.1 = T at *
  refine ⟨g1, by rw [h2]; exact g2, by omega, ?_⟩
  have hz : (⟨T.2.toArray⟩ : ByteArray).size = N.2 := by rw [← h2]; rfl
  have hd : decide (least ≤ (N.2 : Int) ∧ (N.2 : Int) ≤ 255) = true := decide_eq_true ⟨g2, g3⟩
  unfold stp
  rw [hz, h.ok, hd, uN_nat _ (by omega)]
  exact h3
/-- A long text. -/
theorem B_L {least most : Int} (hm : most ≤ 65535) (h : Pre L s a) (hs : (dL L least most s).1.1 = false) : s.1 = false ∧ least ≤ ((dL L least most s).2.length : Int) ∧ ((dL L least most s).2.length : Int) ≤ most ∧ Pre L (dL L least most s).1 (aL (dL L least most s).2 least most a) := by
  unfold dL at hs ⊢
  obtain ⟨g1, g2, g3, g4⟩ := B_N h (dT_ok hs)
  obtain ⟨h1, h2, h3⟩ := B_T g4 hs
  generalize dN L 2 least most s = N at *
  generalize dT L N.2 N.1 = T at *
  refine ⟨g1, by rw [h2]; exact g2, by rw [h2]; exact g3, ?_⟩
  have hd : decide (least ≤ (N.2 : Int) ∧ (N.2 : Int) ≤ most) = true := decide_eq_true ⟨g2, g3⟩
  unfold aL
  rw [h2, h.ok, hd, uN_nat _ (by omega)]
  exact h3
/-- A number of a putter. -/
theorem B_aN {n : Nat} {least most : Int} (hm : most ≤ 4294967295) (h : Pre L s a) (hs : (dN L n least most s).1.1 = false) : s.1 = false ∧ Pre L (dN L n least most s).1 (aN n ((dN L n least most s).2 : Int) least most a) := by
  obtain ⟨g1, g2, g3, g4⟩ := B_N h hs
  refine ⟨g1, ?_⟩
  generalize dN L n least most s = N at *
  have hd : decide (least ≤ (N.2 : Int) ∧ (N.2 : Int) ≤ most) = true := decide_eq_true ⟨g2, g3⟩
  unfold aN
  rw [h.ok, hd, uN_nat _ (by omega)]
  exact g4
/-- A byte of flags. -/
theorem B_F {most : Int} (hm : most ≤ 255) (h : Pre L s a) (hs : (dN L 1 0 most s).1.1 = false) : s.1 = false ∧ Pre L (dN L 1 0 most s).1 (aF (dN L 1 0 most s).2 a) := by
  obtain ⟨g1, g2, g3, g4⟩ := B_N h hs
  refine ⟨g1, ?_⟩
  generalize dN L 1 0 most s = N at *
  unfold aF
  rw [h.ok]
  have : be 1 N.2 = [UInt8.ofNat N.2] := by simp [be]
  rw [this] at g4
  exact g4
/-- Texts, one behind the other. -/
theorem B_P (n : Nat) : ∀ {s : Sd} {a : St} (ns : List ByteArray), Pre L s a → (dPs L n s ns).1.1 = false → s.1 = false → ∃ ms : List ByteArray, (dPs L n s ns).2 = ns ++ ms ∧ ms.length = n ∧ Pre L (dPs L n s ns).1 (prs a ms) := by
  induction n with
  | zero => intro s a ns h hs _; exact ⟨[], by simp [dPs], rfl, h⟩
  | succ n ih =>
    intro s a ns h hs h0
    unfold dPs at hs ⊢
    by_cases hb : (dS L 1 s).1.1 = true
    · rw [if_pos hb] at hs; rw [hb] at hs; cases hs
    · rw [if_neg hb] at hs ⊢
      have hb' : (dS L 1 s).1.1 = false := by simpa using hb
      obtain ⟨g1, g2, g3, g4⟩ := B_S h hb'
      obtain ⟨ms, e1, e2, e3⟩ := ih _ g4 hs hb'
      exact ⟨⟨(dS L 1 s).2.toArray⟩ :: ms, by rw [e1]; simp, by simp [e2], e3⟩
theorem dPs_ok (n : Nat) : ∀ {s : Sd} (ns : List ByteArray), (dPs L n s ns).1.1 = false → s.1 = false := by
  induction n with
  | zero => intro s ns h; exact h
  | succ n ih =>
    intro s ns h
    unfold dPs at h
    by_cases hb : (dS L 1 s).1.1 = true
    · rw [if_pos hb] at h; rw [hb] at h; cases h
    · rw [if_neg hb] at h
      have hb' : (dS L 1 s).1.1 = false := by simpa using hb
      exact dN_ok (dT_ok hb')
/-- Handles. -/
theorem B_H (h : Pre L s a) (hs : (dT L 16 s).1.1 = false) (old : List UInt8) : s.1 = false ∧ Pre L (dT L 16 s).1 (aH [newH old (dT L 16 s).2] a) := by
  obtain ⟨h1, h2, h3⟩ := B_T h hs
  refine ⟨h1, ?_⟩
  unfold newH aH
  rw [if_pos h2, h.ok]
  simpa using h3
end
end Go.Proofs.Ytcchlicokglmnaa
namespace Go.Proofs.Ytcchlicokglmnaa
open Go.ChangeShapes Go.WideShapes Go.ChangeAt Go.RowKit Go.Lib
set_option linter.unusedVariables false

section
variable {L : List UInt8} {s : Sd} {a : St}
theorem Pre.start : Pre L (false, 0) ([], false) := ⟨rfl, Nat.zero_le _, by simp⟩
theorem Pre.full (h : Pre L s a) (hs : s.2 = L.length) : a = (L, false) := by
  obtain ⟨h1, h2, h3⟩ := h
  rw [hs, List.take_length] at h3
  cases a
  simp only at h1 h3
  rw [h1, h3]
theorem aH_two (x y : List UInt8) : aH [x, y] a = aH [y] (aH [x] a) := by simp [aH]
theorem aP_eq (h : a.2 = false) {Ns : List ByteArray} {count : Int} (hc : (Ns.length : Int) = count) : aP Ns count a = prs a Ns := by
  unfold aP
  have hd : decide ((Ns.length : Int) = count) = true := decide_eq_true hc
  rw [hd, h]
  have : a = (a.1, false) := by rw [← h]
  rw [← this]
  rfl
theorem bit1 {v : Nat} (h : v ≤ 1) : bitN (decide (v = 1)) 1 = v := by
  rcases (show v = 0 ∨ v = 1 by omega) with rfl | rfl <;> rfl
theorem bit2 {v : Nat} (h : v ≤ 3) (h1 : v % 2 = 1) : bitN true 1 + bitN (decide (v / 2 = 1)) 2 = v := by
  rcases (show v = 1 ∨ v = 3 by omega) with rfl | rfl <;> rfl
theorem le01 (s : Sd) : (dN L 1 0 1 s).2 ≤ 1 := dN_le L 1 1 s
theorem le03 (s : Sd) : (dN L 1 0 3 s).2 ≤ 3 := dN_le L 1 3 s
theorem rd2 (hs : (rd 2 L (false, 0)).1 = (false, L.length)) : bodyS (rd 2 L (false, 0)).2 = (L, false) := by
  have e : rd 2 L (false, 0) = ((dN L 1 0 1 (dT L 16 (dT L 16 (false, 0)).1).1).1, { m0 2 with random := newH z16 (dT L 16 (false, 0)).2, share := newH z16 (dT L 16 (dT L 16 (false, 0)).1).2, again := decide ((dN L 1 0 1 (dT L 16 (dT L 16 (false, 0)).1).1).2 = 1) }) := rfl
  rw [e] at hs ⊢
  simp only at hs ⊢
  have h3 : (dN L 1 0 1 (dT L 16 (dT L 16 (false, 0)).1).1).1.1 = false := by rw [hs]
  have p1 := (B_H (Pre.start (L := L)) (dT_ok (dN_ok h3)) z16).2
  have p2 := (B_H p1 (dN_ok h3) z16).2
  have p3 := (B_F (by decide) p2 h3).2
  have := p3.full (by rw [hs])
  rw [← this]
  show aF (bitN (decide _) 1) (aH [_, _] ([], false)) = _
  dsimp only
  rw [bit1 (le01 _), aH_two]
theorem rd8 (hs : (rd 8 L (false, 0)).1 = (false, L.length)) : bodyS (rd 8 L (false, 0)).2 = (L, false) := by
  have e : rd 8 L (false, 0) = ((dN L 1 0 1 (dL L 0 4096 (dPs L 1 (false, 0) []).1).1).1, { m0 8 with protos := (dPs L 1 (false, 0) []).2, params := (dL L 0 4096 (dPs L 1 (false, 0) []).1).2, early := decide ((dN L 1 0 1 (dL L 0 4096 (dPs L 1 (false, 0) []).1).1).2 = 1) }) := rfl
  rw [e] at hs ⊢
  simp only at hs ⊢
  have h3 : (dN L 1 0 1 (dL L 0 4096 (dPs L 1 (false, 0) []).1).1).1.1 = false := by rw [hs]
  have h2 : (dL L 0 4096 (dPs L 1 (false, 0) []).1).1.1 = false := dN_ok h3
  obtain ⟨ms, e1, e2, p1⟩ := B_P 1 [] (Pre.start (L := L)) (dN_ok (dT_ok h2)) rfl
  have p2 := (B_L (by decide) p1 h2).2.2.2
  have p3 := (B_F (by decide) p2 h3).2
  have := p3.full (by rw [hs])
  rw [← this]
  show aF (bitN (decide _) 1) (aL _ 0 4096 (aP (dPs L 1 (false, 0) []).2 1 ([], false))) = _
  dsimp only
  rw [bit1 (le01 _), e1, List.nil_append, aP_eq rfl (by rw [e2]; rfl)]
theorem rd11 (hs : (rd 11 L (false, 0)).1 = (false, L.length)) : bodyS (rd 11 L (false, 0)).2 = (L, false) := by
  have e : rd 11 L (false, 0) = ((dT L 16 (dS L 0 (false, 0)).1).1, { m0 11 with name := ⟨(dS L 0 (false, 0)).2.toArray⟩, mark := newH z16 (dT L 16 (dS L 0 (false, 0)).1).2 }) := rfl
  rw [e] at hs ⊢
  simp only at hs ⊢
  have h2 : (dT L 16 (dS L 0 (false, 0)).1).1.1 = false := by rw [hs]
  have p1 := (B_S (Pre.start (L := L)) (dT_ok h2)).2.2.2
  have p2 := (B_H p1 h2 z16).2
  have := p2.full (by rw [hs])
  rw [← this]
  rfl
theorem newN_ok {n : Nat} {least most old : Int} (h : (dN L n least most s).1.1 = false) : newN L n least most s old = ((dN L n least most s).2 : Int) := by
  unfold dN at h ⊢
  simp only at h ⊢
  unfold newN
  rw [h]
  rfl
theorem rd4 (hs : (rd 4 L (false, 0)).1 = (false, L.length)) : bodyS (rd 4 L (false, 0)).2 = (L, false) := by
  have e : rd 4 L (false, 0) = ((dN L 1 0 1 (dL L 1 512 (dN L 4 0 4294967295 (false, 0)).1).1).1, { m0 4 with life := newN L 4 0 4294967295 (false, 0) 0, ticket := (dL L 1 512 (dN L 4 0 4294967295 (false, 0)).1).2, early := decide ((dN L 1 0 1 (dL L 1 512 (dN L 4 0 4294967295 (false, 0)).1).1).2 = 1) }) := rfl
  rw [e] at hs ⊢
  simp only at hs ⊢
  have h3 : (dN L 1 0 1 (dL L 1 512 (dN L 4 0 4294967295 (false, 0)).1).1).1.1 = false := by rw [hs]
  have h2 : (dL L 1 512 (dN L 4 0 4294967295 (false, 0)).1).1.1 = false := dN_ok h3
  have h1 : (dN L 4 0 4294967295 (false, 0)).1.1 = false := dN_ok (dT_ok h2)
  have p1 := (B_aN (by decide) (Pre.start (L := L)) h1).2
  have p2 := (B_L (by decide) p1 h2).2.2.2
  have p3 := (B_F (by decide) p2 h3).2
  have := p3.full (by rw [hs])
  rw [← this]
  show aF (bitN (decide _) 1) (aL _ 1 512 (aN 4 (newN L 4 0 4294967295 (false, 0) 0) 0 4294967295 ([], false))) = _
  dsimp only
  rw [bit1 (le01 _), newN_ok h1]
theorem rd_mark {k : Int} (hk : k = 15 ∨ k = 20) (hs : (rd k L (false, 0)).1 = (false, L.length)) : bodyS (rd k L (false, 0)).2 = (L, false) := by
  have e : rd k L (false, 0) = ((dT L 16 (false, 0)).1, { m0 k with mark := newH z16 (dT L 16 (false, 0)).2 }) := by rcases hk with rfl | rfl <;> rfl
  rw [e] at hs ⊢
  simp only at hs ⊢
  have h1 : (dT L 16 (false, 0)).1.1 = false := by rw [hs]
  have p1 := (B_H (Pre.start (L := L)) h1 z16).2
  have := p1.full (by rw [hs])
  rw [← this]
  rcases hk with rfl | rfl <;> rfl
theorem rd1 (hs : (rd 1 L (false, 0)).1 = (false, L.length)) : bodyS (rd 1 L (false, 0)).2 = (L, false) := by
  obtain ⟨s, hs0⟩ : ∃ s : Sd, s = (false, 0) := ⟨_, rfl⟩
  rw [← hs0] at hs ⊢
  have p0 : Pre L s ([], false) := by rw [hs0]; exact Pre.start
  have base : (ck6 L s).1.1 = false → Pre L (ck6 L s).1 (aF (ck6 L s).2 (aL (ck5 L s).2 0 4096 (aP (ck4 L s).2 (ck4 L s).2.length (aN 1 (ck4 L s).2.length 1 8 (stp 0 (aH [newH z16 (dT L 16 s).2, newH z16 (ck1 L s).2] ([], false)) ⟨(ck2 L s).2.toArray⟩))))) := by
    intro h6
    have h5 : (ck5 L s).1.1 = false := dN_ok h6
    have h4 : (ck4 L s).1.1 = false := dN_ok (dT_ok h5)
    have h3 : (ck3 L s).1.1 = false := dPs_ok _ _ h4
    have h2 : (ck2 L s).1.1 = false := dN_ok h3
    have h1 : (ck1 L s).1.1 = false := dN_ok (dT_ok h2)
    have q0 := (B_H p0 (dT_ok h1) z16).2
    have q1 := (B_H q0 h1 z16).2
    rw [← aH_two] at q1
    have q2 := (B_S q1 h2).2.2.2
    have q3 := (B_aN (by decide) q2 h3).2
    obtain ⟨ms, e1, e2, q4⟩ := B_P _ [] q3 h4 h3
    have e1' : (ck4 L s).2 = ms := e1
    have e2' : ms.length = (ck3 L s).2 := e2
    have q5 := (B_L (by decide) q4 h5).2.2.2
    have q6 := (B_F (by decide) q5 h6).2
    rw [e1', aP_eq ?_ rfl, e2']
    · exact q6
    · rw [e2']; exact q3.ok
  by_cases hc : (ck6 L s).2 % 2 = 1
  · have e : rd 1 L s = ((ck8 L s).1, cm8 (m0 1) L s none 0 none 0 none 0) := by unfold rd; rw [if_pos rfl, if_pos hc]
    rw [e] at hs ⊢
    have h8 : (ck8 L s).1.1 = false := by rw [hs]
    have h7 : (ck7 L s).1.1 = false := dT_ok h8
    have h6 : (ck6 L s).1.1 = false := dN_ok (dT_ok h7)
    have q6 := base h6
    obtain ⟨_, l1, _, q7⟩ := B_L (by decide) q6 h7
    have q8 := (B_H q7 h8 z16).2
    have := q8.full (by have : (ck8 L s).1.2 = L.length := by rw [hs]
                        exact this)
    rw [← this]
    have lt : 0 < (ck7 L s).2.length := by have : (1 : Int) ≤ ((ck7 L s).2.length : Int) := l1; omega
    show (if 0 < (ck7 L s).2.length then aH [newH z16 (ck8 L s).2] (aL (ck7 L s).2 1 512 (aF (bitN (decide (0 < (ck7 L s).2.length)) 1 + bitN (decide ((ck6 L s).2 / 2 = 1)) 2) _)) else _) = _
    rw [if_pos lt, decide_eq_true lt, bit2 (v := (ck6 L s).2) (le03 _) hc]
    rfl
  · have e : rd 1 L s = (((ck6 L s).1.1 || !(!ckE L s && ((m0 1).binder == z16)), (ck6 L s).1.2), cm6 (m0 1) L s none 0 none 0) := by unfold rd; rw [if_pos rfl, if_neg hc]
    rw [e] at hs ⊢
    have h8 : ((ck6 L s).1.1 || !(!ckE L s && ((m0 1).binder == z16))) = false := congrArg Prod.fst hs
    have h9 : (ck6 L s).1.2 = L.length := congrArg Prod.snd hs
    have h6 : (ck6 L s).1.1 = false := by revert h8; cases (ck6 L s).1.1 <;> simp
    have hE : ckE L s = false := by revert h8; cases ckE L s <;> simp
    have hz : ((m0 1).binder == z16) = true := by decide
    have q6 := base h6
    have := q6.full h9
    have hv : (ck6 L s).2 = 0 := by
      have h3 : (ck6 L s).2 ≤ 3 := le03 _
      have h4 : ¬ (ck6 L s).2 / 2 = 1 := of_decide_eq_false hE
      omega
    rw [hv] at this
    have hb : bodyS (cm6 (m0 1) L s none 0 none 0) = aM (!ckE L s && ((m0 1).binder == z16)) (aF (bitN (decide (0 < ([] : List UInt8).length)) 1 + bitN (ckE L s) 2) (aL (ck5 L s).2 0 4096 (aP (ck4 L s).2 (ck4 L s).2.length (aN 1 (ck4 L s).2.length 1 8 (stp 0 (aH [newH z16 (dT L 16 s).2, newH z16 (ck1 L s).2] ([], false)) ⟨(ck2 L s).2.toArray⟩))))) := rfl
    show bodyS (cm6 (m0 1) L s none 0 none 0) = _
    rw [hb, hE, hz]
    have h10 : ∀ x : St, aM true x = x := fun x => by cases x; simp [aM]
    rw [show (!false && true) = true from rfl, h10]
    exact this
/-- What is read is laid so. -/
theorem rd_laid {k : Int} (hk : isK k = true) (hs : (rd k L (false, 0)).1 = (false, L.length)) : bodyS (rd k L (false, 0)).2 = (L, false) := by
  have hkk := of_decide_eq_true hk
  rcases hkk with rfl | rfl | rfl | rfl | rfl | rfl | rfl
  · exact rd1 hs
  · exact rd2 hs
  · exact rd8 hs
  · exact rd11 hs
  · exact rd_mark (.inl rfl) hs
  · exact rd_mark (.inr rfl) hs
  · exact rd4 hs
theorem bodyS_pl (m : Msg) : bodyS m.pl = bodyS m := rfl
end
end Go.Proofs.Ytcchlicokglmnaa
namespace Go.Proofs.Ytcchlicokglmnaa
open Go.ChangeShapes Go.WideShapes Go.ChangeAt Go.RowKit Go.Lib
set_option linter.unusedVariables false

section
variable {L : List UInt8} {a : St}
theorem A_T (P T : List UInt8) (h : P ++ T <+: L) : dT L T.length (false, P.length) = ((false, P.length + T.length), T) := by
  obtain ⟨R, rfl⟩ := h
  unfold dT
  have h1 : decide (P.length + T.length ≤ (P ++ T ++ R).length) = true := decide_eq_true (by simp)
  have h2 : sub (P ++ T ++ R) P.length T.length = T := by simp [sub]
  simp only [h1, h2]
  rfl
theorem A_N (P : List UInt8) (n v : Nat) (least most : Int) (hv : v < 256 ^ n) (h1 : least ≤ v) (h2 : (v : Int) ≤ most) (h : P ++ be n v <+: L) : dN L n least most (false, P.length) = ((false, P.length + n), v) := by
  obtain ⟨R, rfl⟩ := h
  have hl := be_length n v
  have hsub : sub (P ++ be n v ++ R) P.length n = be n v := by
    have : sub (P ++ be n v ++ R) P.length (be n v).length = be n v := by simp [sub]
    rw [hl] at this; exact this
  have hnum : num (be n v) = v := by rw [num_be, Nat.mod_eq_of_lt hv]
  have hok : nmOk (P ++ be n v ++ R) P.length n least most = true := by
    unfold nmOk
    rw [hsub, hnum]
    simp [hl, h1, h2]
  unfold dN
  simp only [hok, hsub, hnum]
  rfl
theorem pre_left {P Q : List UInt8} (h : P ++ Q <+: L) : P <+: L := (List.prefix_append P Q).trans h
theorem stp_ok {least : Int} {S : ByteArray} (h : (stp least a S).2 = false) : a.2 = false ∧ least ≤ (S.size : Int) ∧ S.size ≤ 255 ∧ (stp least a S).1 = a.1 ++ be 1 S.size ++ S.data.toList := by
  unfold stp at h ⊢
  simp only at h ⊢
  have hh := h
  simp only [Bool.or_eq_false_iff, Bool.not_eq_false', decide_eq_true_eq] at hh
  refine ⟨hh.1, hh.2.1, by omega, ?_⟩
  rw [h, uN_nat _ (by omega)]
  rfl
theorem aL_ok {l : List UInt8} {least most : Int} (hm : most ≤ 65535) (h : (aL l least most a).2 = false) : a.2 = false ∧ least ≤ (l.length : Int) ∧ (l.length : Int) ≤ most ∧ (aL l least most a).1 = a.1 ++ be 2 l.length ++ l := by
  unfold aL at h ⊢
  simp only at h ⊢
  have hh := h
  simp only [Bool.or_eq_false_iff, Bool.not_eq_false', decide_eq_true_eq] at hh
  refine ⟨hh.1, hh.2.1, hh.2.2, ?_⟩
  rw [h, uN_nat _ (by omega)]
  rfl
theorem A_S {least : Int} {S : ByteArray} (h : (stp least a S).2 = false) (hp : (stp least a S).1 <+: L) : dS L least (false, a.1.length) = ((false, (stp least a S).1.length), S.data.toList) := by
  obtain ⟨h1, h2, h3, h4⟩ := stp_ok h
  rw [h4] at hp ⊢
  have hl : S.data.toList.length = S.size := rfl
  have e1 := A_N a.1 1 S.size least 255 (by omega) h2 (by omega) (pre_left hp)
  have e2 := A_T (a.1 ++ be 1 S.size) S.data.toList hp
  rw [hl] at e2
  unfold dS
  rw [e1]
  have e3 : (a.1 ++ be 1 S.size).length = a.1.length + 1 := by simp [be_length]
  rw [e3] at e2
  simp only
  rw [e2]
  simp only [List.length_append, be_length, hl]
theorem A_L {l : List UInt8} {least most : Int} (hm : most ≤ 65535) (h : (aL l least most a).2 = false) (hp : (aL l least most a).1 <+: L) : dL L least most (false, a.1.length) = ((false, (aL l least most a).1.length), l) := by
  obtain ⟨h1, h2, h3, h4⟩ := aL_ok hm h
  rw [h4] at hp ⊢
  have e1 := A_N a.1 2 l.length least most (by omega) h2 h3 (pre_left hp)
  have e2 := A_T (a.1 ++ be 2 l.length) l hp
  unfold dL
  rw [e1]
  have e3 : (a.1 ++ be 2 l.length).length = a.1.length + 2 := by simp [be_length]
  rw [e3] at e2
  simp only
  rw [e2]
  simp only [List.length_append, be_length]
theorem prs_ok : ∀ (Ns : List ByteArray) {a : St}, (prs a Ns).2 = false → a.2 = false ∧ a.1 <+: (prs a Ns).1
  | [], a, h => ⟨h, List.prefix_rfl⟩
  | S :: t, a, h => by
    obtain ⟨h1, h2⟩ := prs_ok t (a := stp 1 a S) h
    obtain ⟨g1, _, _, g4⟩ := stp_ok h1
    refine ⟨g1, List.IsPrefix.trans ?_ h2⟩
    rw [g4, List.append_assoc]
    exact List.prefix_append _ _
theorem A_P : ∀ (Ns : List ByteArray) {a : St} (ns : List ByteArray), (prs a Ns).2 = false → (prs a Ns).1 <+: L → dPs L Ns.length (false, a.1.length) ns = ((false, (prs a Ns).1.length), ns ++ Ns)
  | [], a, ns, h, hp => by simp [dPs, prs]
  | S :: t, a, ns, h, hp => by
    obtain ⟨h1, h2⟩ := prs_ok t (a := stp 1 a S) h
    have e1 := A_S h1 (h2.trans hp)
    show dPs L (t.length + 1) _ _ = _
    unfold dPs
    rw [e1]
    have := A_P t (a := stp 1 a S) (ns ++ [S]) h hp
    simp only [Bool.false_eq_true, if_false]
    have hS : (⟨S.data.toList.toArray⟩ : ByteArray) = S := by simp
    rw [hS, this]
    simp [prs]
theorem A_H {x : List UInt8} (hx : x.length = 16) (hp : (aH [x] a).1 <+: L) : dT L 16 (false, a.1.length) = ((false, (aH [x] a).1.length), x) := by
  have e : (aH [x] a).1 = a.1 ++ x := by simp [aH]
  rw [e] at hp ⊢
  have := A_T a.1 x hp
  rw [hx] at this
  rw [this]
  simp [hx]
theorem A_F {n : Nat} {most : Int} (hn : n < 256) (hm : (n : Int) ≤ most) (hp : (aF n a).1 <+: L) : dN L 1 0 most (false, a.1.length) = ((false, (aF n a).1.length), n) := by
  have e : (aF n a).1 = a.1 ++ be 1 n := by simp [aF, be]
  rw [e] at hp ⊢
  rw [A_N a.1 1 n 0 most (by omega) (by omega) hm hp]
  simp [be_length]
theorem A_aN {n : Nat} {x least most : Int} (h : (aN n x least most a).2 = false) (h0 : 0 ≤ least) (hm : most < ((256 ^ n : Nat) : Int)) (hn : n ≤ 4) (hp : (aN n x least most a).1 <+: L) : dN L n least most (false, a.1.length) = ((false, (aN n x least most a).1.length), x.toNat) ∧ a.2 = false := by
  unfold aN at h hp ⊢
  simp only [Bool.or_eq_false_iff, Bool.not_eq_false', decide_eq_true_eq] at h
  simp only at hp ⊢
  obtain ⟨v, rfl⟩ := Int.eq_ofNat_of_zero_le (show 0 ≤ x by omega)
  have hv : v < 256 ^ n := Int.ofNat_lt.1 (Int.lt_of_le_of_lt h.2.2 hm)
  have h64 : 256 ^ n ≤ 256 ^ 4 := Nat.pow_le_pow_right (by decide) hn
  have hu : uN (v : Int) = v := uN_nat v (by omega)
  rw [hu] at hp ⊢
  refine ⟨?_, h.1⟩
  rw [A_N a.1 n v least most hv h.2.1 h.2.2 hp]
  simp [be_length]
end
end Go.Proofs.Ytcchlicokglmnaa
namespace Go.Proofs.Ytcchlicokglmnaa
open Go.ChangeShapes Go.WideShapes Go.ChangeAt Go.RowKit Go.Lib
set_option linter.unusedVariables false

section
variable {L : List UInt8} {a : St} {m : Msg}
theorem pre_aH (hs : List (List UInt8)) : a.1 <+: (aH hs a).1 := List.prefix_append _ _
theorem pre_aF (n : Nat) : a.1 <+: (aF n a).1 := List.prefix_append _ _
theorem pre_aN (n : Nat) (x l q : Int) : a.1 <+: (aN n x l q a).1 := List.prefix_append _ _
theorem pre_aL (l : List UInt8) (p q : Int) : a.1 <+: (aL l p q a).1 := by unfold aL; rw [List.append_assoc]; exact List.prefix_append _ _
theorem pre_stp (p : Int) (S : ByteArray) : a.1 <+: (stp p a S).1 := by unfold stp; rw [List.append_assoc]; exact List.prefix_append _ _
theorem bit_le1 (b : Bool) : bitN b 1 ≤ 1 := by cases b <;> decide
theorem bit_le3 (b c : Bool) : bitN b 1 + bitN c 2 ≤ 3 := by cases b <;> cases c <;> decide
theorem two_h (hl : m.len) (h : (aH [m.random, m.share] ([], false)).1 <+: L) : (dT L 16 (dT L 16 (false, 0)).1).1 = (false, (aH [m.random, m.share] ([], false)).1.length) := by
  rw [aH_two] at h ⊢
  have e1 := A_H (L := L) (a := ([], false)) hl.r ((pre_aH [m.share]).trans h)
  have e1' : dT L 16 (false, 0) = _ := e1
  rw [e1', A_H hl.s h]
theorem rr2 (hk : m.kind = 2) (hl : m.len) (ho : (bodyS m).2 = false) : (rd 2 (bodyS m).1 (false, 0)).1 = (false, (bodyS m).1.length) := by
  have e : bodyS m = aF (bitN m.again 1) (aH [m.random, m.share] ([], false)) := by unfold bodyS; simp [hk]
  rw [e]
  show (dN _ 1 0 1 (dT _ 16 (dT _ 16 (false, 0)).1).1).1 = _
  have hb := bit_le1 m.again
  rw [two_h hl (pre_aF _), A_F (by omega) (by omega) List.prefix_rfl]
theorem rr8 (hk : m.kind = 8) (ho : (bodyS m).2 = false) : (rd 8 (bodyS m).1 (false, 0)).1 = (false, (bodyS m).1.length) := by
  have e : bodyS m = aF (bitN m.early 1) (aL m.params 0 4096 (aP m.protos 1 ([], false))) := by unfold bodyS; simp [hk]
  rw [e] at ho ⊢
  have h2 : (aL m.params 0 4096 (aP m.protos 1 ([], false))).2 = false := ho
  have h1 := (aL_ok (by decide) h2).1
  have hc : (m.protos.length : Int) = 1 := by
    unfold aP at h1
    by_cases hd : (m.protos.length : Int) = 1
    · exact hd
    · simp [hd] at h1
  rw [aP_eq rfl hc] at h1 h2 ⊢
  show (dN _ 1 0 1 (dL _ 0 4096 (dPs _ 1 (false, 0) []).1).1).1 = _
  have hb := bit_le1 m.early
  have p2 : (aL m.params 0 4096 (prs ([], false) m.protos)).1 <+: (aF (bitN m.early 1) (aL m.params 0 4096 (prs ([], false) m.protos))).1 := pre_aF _
  have e1 := A_P m.protos [] h1 ((pre_aL _ _ _).trans p2)
  have hn : m.protos.length = 1 := by omega
  rw [hn] at e1
  have e1' : dPs _ 1 (false, 0) [] = _ := e1
  rw [e1', A_L (by decide) h2 p2, A_F (by omega) (by omega) List.prefix_rfl]
theorem rr11 (hk : m.kind = 11) (hl : m.len) (ho : (bodyS m).2 = false) : (rd 11 (bodyS m).1 (false, 0)).1 = (false, (bodyS m).1.length) := by
  have e : bodyS m = aH [m.mark] (stp 0 ([], false) m.name) := by unfold bodyS; simp [hk]
  rw [e] at ho ⊢
  show (dT _ 16 (dS _ 0 (false, 0)).1).1 = _
  have e1 : dS (aH [m.mark] (stp 0 ([], false) m.name)).1 0 (false, 0) = _ := A_S (a := ([], false)) (S := m.name) (least := 0) ho (pre_aH _)
  rw [e1, A_H hl.k List.prefix_rfl]
theorem rr4 (hk : m.kind = 4) (ho : (bodyS m).2 = false) : (rd 4 (bodyS m).1 (false, 0)).1 = (false, (bodyS m).1.length) := by
  have e : bodyS m = aF (bitN m.early 1) (aL m.ticket 1 512 (aN 4 m.life 0 4294967295 ([], false))) := by unfold bodyS; simp [hk]
  rw [e] at ho ⊢
  have h2 : (aL m.ticket 1 512 (aN 4 m.life 0 4294967295 ([], false))).2 = false := ho
  have h1 := (aL_ok (by decide) h2).1
  show (dN _ 1 0 1 (dL _ 1 512 (dN _ 4 0 4294967295 (false, 0)).1).1).1 = _
  have hb := bit_le1 m.early
  have p2 : (aL m.ticket 1 512 (aN 4 m.life 0 4294967295 ([], false))).1 <+: (aF (bitN m.early 1) (aL m.ticket 1 512 (aN 4 m.life 0 4294967295 ([], false)))).1 := pre_aF _
  have e1 := (A_aN h1 (by decide) (by decide) (by decide) ((pre_aL _ _ _).trans p2)).1
  have e1' : dN _ 4 0 4294967295 (false, 0) = _ := e1
  rw [e1', A_L (by decide) h2 p2, A_F (by omega) (by omega) List.prefix_rfl]
theorem rr_mark (hk : m.kind = 15 ∨ m.kind = 20) (hl : m.len) : (rd m.kind (bodyS m).1 (false, 0)).1 = (false, (bodyS m).1.length) := by
  have e : bodyS m = aH [m.mark] ([], false) := by unfold bodyS; rcases hk with hk | hk <;> simp [hk]
  have e0 : ∀ L, (rd m.kind L (false, 0)).1 = (dT L 16 (false, 0)).1 := by intro L; rcases hk with hk | hk <;> rw [hk] <;> rfl
  rw [e0, e]
  have e1 : dT (aH [m.mark] ([], false)).1 16 (false, 0) = _ := A_H (a := ([], false)) hl.k List.prefix_rfl
  rw [e1]
theorem rr1 (hk : m.kind = 1) (hl : m.len) (ho : (bodyS m).2 = false) : (rd 1 (bodyS m).1 (false, 0)).1 = (false, (bodyS m).1.length) := by
  obtain ⟨s2, e2⟩ : ∃ s2, aH [m.random, m.share] ([], false) = s2 := ⟨_, rfl⟩
  obtain ⟨s3, e3⟩ : ∃ s3, stp 0 s2 m.name = s3 := ⟨_, rfl⟩
  obtain ⟨s4, e4⟩ : ∃ s4, aN 1 m.protos.length 1 8 s3 = s4 := ⟨_, rfl⟩
  obtain ⟨s5, e5⟩ : ∃ s5, aP m.protos m.protos.length s4 = s5 := ⟨_, rfl⟩
  obtain ⟨s6, e6⟩ : ∃ s6, aL m.params 0 4096 s5 = s6 := ⟨_, rfl⟩
  obtain ⟨f, ef⟩ : ∃ f, bitN (decide (0 < m.ticket.length)) 1 + bitN m.early 2 = f := ⟨_, rfl⟩
  obtain ⟨s7, e7⟩ : ∃ s7, aF f s6 = s7 := ⟨_, rfl⟩
  have hf : f ≤ 3 := by rw [← ef]; exact bit_le3 _ _
  have e : bodyS m = if 0 < m.ticket.length then aH [m.binder] (aL m.ticket 1 512 s7) else aM (!m.early && (m.binder == z16)) s7 := by
    unfold bodyS; rw [if_pos hk]; simp only [e2, e3, e4, e5, e6, ef, e7]
  have base : ∀ L, s7.1 <+: L → s7.2 = false → ck6 L (false, 0) = ((false, s7.1.length), f) := by
    intro L hp h7
    have h6 : (aL m.params 0 4096 s5).2 = false := by rw [e6]; rw [← e7] at h7; exact h7
    have h5 := (aL_ok (by decide) h6).1
    have h4 : s4.2 = false := by
      rw [← e5] at h5; unfold aP at h5
      cases h : s4.2
      · rfl
      · rw [h] at h5; simp at h5
    have e5' : prs s4 m.protos = s5 := by rw [← e5, aP_eq h4 rfl]
    have p6 : (aL m.params 0 4096 s5).1 <+: L := by rw [e6]; rw [← e7] at hp; exact (pre_aF _).trans hp
    have p5 : (prs s4 m.protos).1 <+: L := by rw [e5']; exact (pre_aL _ _ _).trans p6
    have h5' : (prs s4 m.protos).2 = false := by rw [e5']; exact h5
    have p4 : (aN 1 m.protos.length 1 8 s3).1 <+: L := by rw [e4]; exact (prs_ok _ h5').2.trans p5
    obtain ⟨q4, h3⟩ := A_aN (by rw [e4]; exact h4) (by decide) (by decide) (by decide) p4
    have p3 : (stp 0 s2 m.name).1 <+: L := by rw [e3]; exact (pre_aN _ _ _ _).trans p4
    have q3 := A_S (by rw [e3]; exact h3) p3
    have q2 := two_h (L := L) hl (by rw [e2]; exact (pre_stp _ _).trans p3)
    rw [e2] at q2
    rw [e3] at q3
    rw [e4] at q4
    have q5 := A_P m.protos [] h5' p5
    rw [e5'] at q5
    have q6 := A_L (by decide) h6 p6
    rw [e6] at q6
    have q7 := A_F (a := s6) (n := f) (most := 3) (by omega) (by omega) (by rw [e7]; exact hp)
    rw [e7] at q7
    have hpn : ((m.protos.length : Int)).toNat = m.protos.length := by simp
    rw [hpn] at q4
    unfold ck6 ck5 ck4 ck3 ck2 ck1
    rw [q2, q3, q4, q5, q6, q7]
  by_cases ht : 0 < m.ticket.length
  · rw [if_pos ht] at e
    rw [e] at ho ⊢
    have h8 : (aL m.ticket 1 512 s7).2 = false := ho
    have h7 := (aL_ok (by decide) h8).1
    have p8 : (aL m.ticket 1 512 s7).1 <+: (aH [m.binder] (aL m.ticket 1 512 s7)).1 := pre_aH _
    have b := base _ ((pre_aL _ _ _).trans p8) h7
    have hf1 : f % 2 = 1 := by rw [← ef, decide_eq_true ht]; cases m.early <;> decide
    unfold rd
    rw [if_pos rfl, if_pos (by rw [b]; exact hf1)]
    show (dT _ 16 (dL _ 1 512 (ck6 _ (false, 0)).1).1).1 = _
    rw [b, A_L (by decide) h8 p8, A_H hl.b List.prefix_rfl]
  · rw [if_neg ht] at e
    rw [e] at ho ⊢
    have ho' : (s7.2 || !(!m.early && (m.binder == z16))) = false := ho
    have h7 : s7.2 = false := by revert ho'; cases s7.2 <;> simp
    have hE : m.early = false := by revert ho'; cases m.early <;> simp
    have hf0 : f = 0 := by rw [← ef, hE, decide_eq_false ht]; rfl
    have b := base (aM (!m.early && (m.binder == z16)) s7).1 List.prefix_rfl h7
    unfold rd
    rw [if_pos rfl, if_neg (by rw [b, hf0]; simp)]
    have hck : ckE (aM (!m.early && (m.binder == z16)) s7).1 (false, 0) = false := by unfold ckE; rw [b, hf0]; simp
    have hz : ((m0 1).binder == z16) = true := by decide
    simp only [hck, hz, b]
    rfl
/-- What is laid is read again. -/
theorem rd_reads (hk : isK m.kind = true) (hl : m.len) (ho : (bodyS m).2 = false) : (rd m.kind (bodyS m).1 (false, 0)).1 = (false, (bodyS m).1.length) := by
  rcases of_decide_eq_true hk with h | h | h | h | h | h | h
  · rw [h]; exact rr1 h hl ho
  · rw [h]; exact rr2 h hl ho
  · rw [h]; exact rr8 h ho
  · rw [h]; exact rr11 h hl ho
  · exact rr_mark (.inl h) hl
  · exact rr_mark (.inr h) hl
  · rw [h]; exact rr4 h ho
end
end Go.Proofs.Ytcchlicokglmnaa
namespace Go.Proofs.Ytcchlicokglmnaa
open Go.ChangeShapes Go.WideShapes Go.ChangeAt Go.RowKit Go.Lib
set_option linter.unusedVariables false

section
variable {L : List UInt8} {m : Msg} {a : Int}
theorem sub_add (L : List UInt8) (a p q : Nat) : sub L a (p + q) = sub L a p ++ sub L (a + p) q := by
  unfold sub
  rw [List.take_add, List.drop_drop]
theorem rd_kind {k : Int} (hk : isK k = true) (s : Sd) : (rd k L s).2.kind = k := by
  rcases of_decide_eq_true hk with rfl | rfl | rfl | rfl | rfl | rfl | rfl
  · unfold rd
    rw [if_pos rfl]
    split <;> rfl
  all_goals rfl
theorem putE_0 (h : putE m = 0) : isK m.kind = true ∧ (bodyS m).2 = false := by
  unfold putE at h
  split at h
  · cases h
  · rename_i h1
    split at h
    · cases h
    · rename_i h2
      exact ⟨by simpa using h1, by simpa using h2⟩
/-- What is laid is read. -/
theorem read_put (P R : List UInt8) (hok : putE m = 0) (hl : m.len) : readE (P ++ putL m ++ R) P.length = 0 ∧ getV (P ++ putL m ++ R) P.length 1 = m.kind ∧ cutN (P ++ putL m ++ R) P.length = (bodyS m).1.length ∧ rdAt (P ++ putL m ++ R) P.length = rd m.kind (bodyS m).1 (false, 0) := by
  obtain ⟨hk, hb⟩ := putE_0 hok
  have hkv := isK_vals hk
  have hlen := bodyS_len m hl
  have hpl : putL m = ([UInt8.ofNat m.kind.toNat] ++ be 3 (bodyS m).1.length) ++ (bodyS m).1 := by
    unfold putL; rw [if_pos hok]; unfold putB; rw [uN_nat _ (by omega)]
  obtain ⟨B, hB⟩ : ∃ B, (bodyS m).1 = B := ⟨_, rfl⟩
  rw [hB] at hpl hlen
  obtain ⟨L, hL⟩ : ∃ L, P ++ putL m ++ R = L := ⟨_, rfl⟩
  have hL' : L = P ++ ([UInt8.ofNat m.kind.toNat] ++ (be 3 B.length ++ (B ++ R))) := by rw [← hL, hpl]; simp
  have hLl : L.length = P.length + (4 + (B.length + R.length)) := by rw [hL']; simp [be_length]; omega
  have s1 : sub L P.length 1 = [UInt8.ofNat m.kind.toNat] := by rw [hL']; simp [sub]
  have s2 : sub L (P.length + 1) 3 = be 3 B.length := by
    have : L = (P ++ [UInt8.ofNat m.kind.toNat]) ++ (be 3 B.length ++ (B ++ R)) := by rw [hL']; simp
    have hlp : (P ++ [UInt8.ofNat m.kind.toNat]).length = P.length + 1 := by simp
    rw [this, ← hlp, sub, List.drop_left, List.take_append_of_le_length (by simp [be_length])]
    exact List.take_of_length_le (by simp [be_length])
  have s3 : sub L (P.length + 4) B.length = B := by
    have : L = (P ++ ([UInt8.ofNat m.kind.toNat] ++ be 3 B.length)) ++ (B ++ R) := by rw [hL']; simp
    have hlp : (P ++ ([UInt8.ofNat m.kind.toNat] ++ be 3 B.length)).length = P.length + 4 := by simp [be_length]
    rw [this, ← hlp, sub, List.drop_left, List.take_append_of_le_length (Nat.le_refl _)]
    exact List.take_of_length_le (Nat.le_refl _)
  have v1 : getV L P.length 1 = m.kind := by
    unfold getV
    rw [if_pos (by omega), Int.toNat_natCast, s1]
    simp [num]
    omega
  have v2 : getV L ((P.length : Int) + 1) 3 = (B.length : Int) := by
    unfold getV
    rw [if_pos (by omega)]
    have : ((P.length : Int) + 1).toNat = P.length + 1 := by omega
    rw [this, s2, num_be, Nat.mod_eq_of_lt (by omega)]
  have E1 : getE L P.length 1 = 0 := by unfold getE; rw [if_neg (by omega), if_pos (by omega)]
  have E2 : getE L ((P.length : Int) + 1) 3 = 0 := by unfold getE; rw [if_neg (by omega), if_pos (by omega)]
  have cN : cutN L P.length = B.length := by unfold cutN; rw [v2]; simp
  have cE : cutE L P.length = 0 := by
    unfold cutE
    rw [if_neg (by rw [E1]; simp), if_neg (by rw [E2]; simp), if_neg (by rw [v2]; omega)]
  have hbd : bdy L P.length = B := by unfold bdy; rw [cN]; simpa using s3
  have hrd : rdAt L P.length = rd m.kind B (false, 0) := by unfold rdAt; rw [v1, hbd]
  rw [hL, hB]
  refine ⟨?_, v1, cN, hrd⟩
  have hr := rd_reads hk hl hb
  rw [hB] at hr
  unfold readE
  rw [if_neg (by rw [cE]; simp), v1, hrd, hr, cN, if_neg (by rw [hk]; simp)]
  simp
/-- What is read is laid so. -/
theorem put_read (h : readE L a = 0) (hpl : m.pl = (rdAt L a).2) (hL : L.length ≤ 9223372036854775000) : 0 ≤ a ∧ a.toNat + (4 + cutN L a) ≤ L.length ∧ putE m = 0 ∧ putL m = sub L a.toNat (4 + cutN L a) := by
  unfold readE at h
  split at h
  · rename_i h1; exact absurd h h1
  rename_i h1
  have hc : cutE L a = 0 := by simpa using h1
  split at h
  · cases h
  rename_i h2
  have hk : isK (getV L a 1) = true := by simpa using h2
  split at h
  · cases h
  rename_i h3
  have h3' : (rdAt L a).1.1 = false ∧ (rdAt L a).1.2 = cutN L a := by simpa using h3
  unfold cutE at hc
  split at hc
  · rename_i g; exact absurd hc g
  rename_i g1
  have E1 : getE L a 1 = 0 := by simpa using g1
  split at hc
  · rename_i g; exact absurd hc g
  rename_i g2
  have E2 : getE L (a + 1) 3 = 0 := by simpa using g2
  split at hc
  · cases hc
  rename_i g3
  have f1 := getE_0 E1
  have f2 := getE_0 E2
  obtain ⟨A, rfl⟩ := Int.eq_ofNat_of_zero_le f1.1
  have v1 : getV L (A : Int) 1 = (num (sub L A 1) : Int) := by unfold getV; rw [if_pos f1]; simp
  have v2 : getV L ((A : Int) + 1) 3 = (num (sub L (A + 1) 3) : Int) := by
    unfold getV; rw [if_pos f2]
    have : ((A : Int) + 1).toNat = A + 1 := by omega
    rw [this]
  have cN : cutN L A = num (sub L (A + 1) 3) := by unfold cutN; rw [v2]; simp
  obtain ⟨n, hn⟩ : ∃ n, cutN L A = n := ⟨_, rfl⟩
  have fit : A + (4 + n) ≤ L.length := by rw [v2, ← cN, hn] at g3; omega
  have hbl : (bdy L A).length = n := by unfold bdy; rw [hn]; exact sub_length _ _ _ (by simp; omega)
  have hrd : (rd (getV L A 1) (bdy L A) (false, 0)).1 = (false, (bdy L A).length) := by
    rw [hbl, ← hn]
    exact Prod.ext h3'.1 h3'.2
  have hlay := rd_laid hk hrd
  have hb : bodyS m = (bdy L A, false) := by
    rw [← bodyS_pl, hpl]; exact hlay
  have hkd : m.kind = getV L A 1 := by
    have : m.pl.kind = m.kind := rfl
    rw [← this, hpl]; exact rd_kind hk _
  have pE : putE m = 0 := by unfold putE; rw [hkd, hk, hb]; rfl
  refine ⟨by omega, by simpa [hn] using fit, pE, ?_⟩
  unfold putL putB
  rw [if_pos pE, hkd, hb, uN_nat _ (by rw [hbl]; omega), hbl, hn, v1]
  have t1 : sub L A (4 + n) = sub L A 1 ++ sub L (A + 1) 3 ++ sub L (A + 4) n := by
    rw [show 4 + n = 1 + 3 + n by omega, sub_add, sub_add]
  have b1 := be_num (sub L A 1)
  rw [sub_length L A 1 (by omega)] at b1
  have b3 := be_num (sub L (A + 1) 3)
  rw [sub_length L (A + 1) 3 (by omega), ← cN, hn] at b3
  have b1' : [UInt8.ofNat (num (sub L A 1))] = sub L A 1 := by
    have e : be 1 (num (sub L A 1)) = [UInt8.ofNat (num (sub L A 1))] := by simp [be]
    exact e.symm.trans b1
  simp only [Int.toNat_natCast]
  rw [t1, b1', b3]
  unfold bdy
  rw [hn]
  simp
end
end Go.Proofs.Ytcchlicokglmnaa
namespace Go.Proofs.Ytcchlicokglmnaa
open Go.ChangeShapes Go.WideShapes Go.ChangeAt Go.RowKit Go.Lib
set_option linter.unusedVariables false

section
variable {L : List UInt8} {s : Sd} {m : Msg}
theorem dS_len (least : Int) (s : Sd) : (dS L least s).2.length ≤ 255 := by
  have h1 := dT_len L (dN L 1 least 255 s).2 (dN L 1 least 255 s).1
  have h2 : (dN L 1 least 255 s).2 ≤ 255 := by
    unfold dN
    simp only
    split
    · omega
    · rename_i h
      simp [nmOk] at h
      omega
  unfold dS
  omega
theorem dPs_len (n : Nat) : ∀ (s : Sd) (ns : List ByteArray), (∀ S ∈ ns, S.size ≤ 255) → (dPs L n s ns).2.length ≤ ns.length + n ∧ ∀ S ∈ (dPs L n s ns).2, S.size ≤ 255 := by
  induction n with
  | zero => intro s ns h; exact ⟨by simp [dPs], h⟩
  | succ n ih =>
    intro s ns h
    unfold dPs
    by_cases hb : (dS L 1 s).1.1 = true
    · rw [if_pos hb]; exact ⟨by simp only; omega, h⟩
    · rw [if_neg hb]
      obtain ⟨h1, h2⟩ := ih (dS L 1 s).1 (ns ++ [⟨(dS L 1 s).2.toArray⟩]) (by
        intro S hS
        rw [List.mem_append, List.mem_singleton] at hS
        rcases hS with hS | rfl
        · exact h S hS
        · exact dS_len 1 s)
      refine ⟨?_, h2⟩
      simp only [List.length_append, List.length_singleton] at h1
      omega
/-- How great the fields are that were read. -/
structure Fit (m : Msg) : Prop where
  name : m.name.size ≤ 255
  protos : m.protos.length ≤ 8
  each : ∀ S ∈ m.protos, S.size ≤ 255
  params : m.params.length ≤ 900000
  ticket : m.ticket.length ≤ 900000
theorem m0_fit (k : Int) : Fit (m0 k) := ⟨by show (0 : Nat) ≤ 255; omega, by show (0 : Nat) ≤ 8; omega, fun S hS => (by cases hS), by show (0 : Nat) ≤ _; omega, by show (0 : Nat) ≤ _; omega⟩
theorem rd_fit {k : Int} (hk : isK k = true) (L : List UInt8) (s : Sd) : Fit (rd k L s).2 := by
  have f := m0_fit k
  rcases of_decide_eq_true hk with rfl | rfl | rfl | rfl | rfl | rfl | rfl
  · have h4 := dPs_len (L := L) (ck3 L s).2 (ck3 L s).1 [] (fun S hS => (by cases hS))
    have h3 : (ck3 L s).2 ≤ 8 := dN_le1 L _
    have hn : (⟨(ck2 L s).2.toArray⟩ : ByteArray).size ≤ 255 := dS_len 0 _
    have hp : (ck4 L s).2.length ≤ 8 := by have : (ck4 L s).2.length ≤ 0 + (ck3 L s).2 := h4.1; omega
    unfold rd
    rw [if_pos rfl]
    split
    · exact ⟨hn, hp, h4.2, dL_len _ _ _ _, dL_len _ _ _ _⟩
    · exact ⟨hn, hp, h4.2, dL_len _ _ _ _, by show (0 : Nat) ≤ _; omega⟩
  · exact ⟨f.name, f.protos, f.each, f.params, f.ticket⟩
  · have h4 := dPs_len (L := L) 1 s [] (fun S hS => (by cases hS))
    exact ⟨f.name, by have : (dPs L 1 s []).2.length ≤ 0 + 1 := h4.1; show (dPs L 1 s []).2.length ≤ 8; omega, h4.2, dL_len _ _ _ _, f.ticket⟩
  · exact ⟨dS_len 0 _, f.protos, f.each, f.params, f.ticket⟩
  · exact ⟨f.name, f.protos, f.each, f.params, f.ticket⟩
  · exact ⟨f.name, f.protos, f.each, f.params, f.ticket⟩
  · exact ⟨f.name, f.protos, f.each, f.params, dL_len _ _ _ _⟩
theorem own_nms {B : Nat} {w : World} {o : Option Addr} {c : Nat} {Ns : List ByteArray} (h : w.ownsRow B 9 1 (.slice o Ns.length c) Ns.length (Ns.map .string)) : Nms w o Ns := by
  obtain ⟨h0, ⟨h1, h2⟩ | ⟨g, cap, cur, e, h1, h2, h3, h4, h5, h6⟩⟩ := h
  · intro j hj; omega
  · injection e with e1 e2 e3
    subst e1
    intro j hj
    refine ⟨g, 0, rfl, ?_⟩
    unfold World.cell?
    rw [h2]
    simp only [Nat.zero_add]
    have : (cur.toList.take (Ns.length * 1))[j]? = (Ns.map Value.string)[j]? := by rw [h6]
    rw [List.getElem?_take_of_lt (by omega)] at this
    rw [← Array.getElem?_toList, this]
    simp [hj]
/-- What was read can be put. -/
theorem ReadM.ok {B : Nat} {M : Msg} {w' : World} (h : ReadM m B M w') (hf : Fit M) : m.ok w' := by
  have f : Fit m.pl := by rw [h.pl]; exact hf
  have f1 : m.name.size ≤ 255 := f.name
  have f2 : m.protos.length ≤ 8 := f.protos
  have f4 : m.params.length ≤ 900000 := f.params
  have f5 : m.ticket.length ≤ 900000 := f.ticket
  exact ⟨h.len, own_nms h.nm, (By.sl h.pa).1, (By.sl h.ti).1, (By.sl h.pa).2, (By.sl h.ti).2, by omega, by omega, fun S hS => by have := f.each S hS; omega, by omega, by omega⟩
theorem m20_ok (w : World) : (m0 20).ok w := ⟨m0_len 20, fun j hj => (by cases hj), fun j hj => (by cases hj), fun j hj => (by cases hj), fun _ => ⟨rfl, rfl⟩, fun _ => ⟨rfl, rfl⟩, by decide, by decide, fun S hS => (by cases hS), by decide, by decide⟩
theorem m20_put : putE (m0 20) = 0 ∧ (putL (m0 20)).length = 20 := by
  have h : putE (m0 20) = 0 := by decide
  refine ⟨h, ?_⟩
  unfold putL
  rw [if_pos h]
  decide
end
end Go.Proofs.Ytcchlicokglmnaa
