/- hello.Bare. -/
import Derived.Test.YtcchlicokglmnaaPt
namespace Go.Proofs.Ytcchlicokglmnaa
open Go.ChangeShapes Go.WideShapes Go.ChangeAt Go.RowKit Go.Lib
set_option linter.unusedVariables false

theorem u27s : Try.prog.underlying 27 = some (.struct (Try.prog.fieldsOf 27)) := by kernel_rfl
theorem i27s : (Try.prog.info? 27).map (·.size) = some 72 := by kernel_rfl
def isB (m : Msg) : Bool := decide (m.kind = 1) && decide (m.ticket.length ≠ 0)
def bareE (m : Msg) : Int := if isB m then putE m else 2
def bareL (m : Msg) : List UInt8 := if bareE m = 0 then (putL m).take ((putL m).length - 16) else []
/-- Bytes that a call hands out. -/
def Out (w : World) (v : Value) (l : List UInt8) : Prop := ∃ o c, v = .slice o l.length c ∧ Sl w o l ∧ (o = none → l.length = 0 ∧ c = 0)
def BareR (m : Msg) (w : World) (e : Ending) (w' : World) : Prop := ∃ v, e = .returned (.tuple #[v, .int .i64 (bareE m)]) ∧ Out w' v (bareL m) ∧ Below w.heap.size w w'
theorem Out.nil (w : World) : Out w (.slice none 0 0) [] := ⟨none, 0, rfl, fun j hj => absurd hj (by simp), fun _ => ⟨rfl, rfl⟩⟩
theorem By.out {B : Nat} {w : World} {v : Value} {X : List UInt8} (h : By B w v X) : Out w v X := by
  obtain ⟨o, c, rfl⟩ := own_val h
  exact ⟨o, c, rfl, h.sl.1, h.sl.2⟩
theorem Out.bel {w w' : World} {v : Value} {l : List UInt8} (h : Out w v l) (hb : Below w.heap.size w w') : Out w' v l := by
  obtain ⟨o, c, e, h1, h2⟩ := h
  exact ⟨o, c, e, Sl_bel h1 hb, h2⟩
theorem client_body (m : Msg) (hln : m.len) (hB : isB m = true) : 16 ≤ (bodyS m).1.length := by
  simp only [isB, Bool.and_eq_true, decide_eq_true_eq] at hB
  have hp : 0 < m.ticket.length := by omega
  unfold bodyS
  rw [if_pos hB.1]
  simp only [hp, if_true]
  rw [aH_len _ (by intro x hx; simp at hx; subst hx; exact hln.b)]
  simp
set_option maxRecDepth 100000 in
set_option maxHeartbeats 1000000 in
theorem bare_c (m : Msg) (w : World) (hok : m.ok w) : Calls Try.prog 8 #[.agg m.cells.toArray] w (BareR m w) := by
  have hrow := heap_alloc_new w (.cells m.cells.toArray 27)
  have hb1 := bl1 w (.cells m.cells.toArray 27)
  have cell : ∀ j v, m.cells[j]? = some v → (w.alloc (.cells m.cells.toArray 27)).cell? ⟨w.heap.size, j, none⟩ = some v := fun j v h => by unfold World.cell?; rw [hrow]; simpa using h
  have c0 := cell _ _ (Msg.get hok.ln).1
  have c36 := cell _ _ (Msg.get hok.ln).2.2.2.2.1
  have HP : Hid _ := put_c m _ (hok.bel hb1)
  have HROW : Hid _ := hrow
  have m72 : (Try.prog.info? 27).map (·.size) = some m.cells.toArray.toList.length := i27s.trans (by simp [cells_len hok.ln])
  have hu := u27s
  have HB : Hid (Below w.heap.size w (w.alloc (.cells m.cells.toArray 27))) := hb1
  have HCB : Hid (isB m = true → 16 ≤ (bodyS m).1.length) := client_body m hok.ln
  have HLN : Hid _ := bodyS_len m hok.ln
  clear cell hrow hb1 hok
  generalize m.cells.toArray = A at *
  obtain ⟨TN, hTN⟩ : ∃ TN, m.ticket.length = TN := ⟨_, rfl⟩
  rw [hTN] at c36
  by_cases k1 : m.kind = 1
  · rw [k1] at c0
    by_cases t0 : TN = 0
    · subst t0
      have HF : Hid (BareR m w (.returned (.tuple #[.slice none 0 0, .int .i64 2])) (w.alloc (.cells A 27))) := by
        have hE : bareE m = 2 := by simp [bareE, isB, hTN]
        exact ⟨_, by rw [hE], by unfold bareL; rw [hE]; exact Out.nil _, HB.out⟩
      clear HP HCB HLN HROW hTN k1
      as_aux_lemma =>
      go_enter Try.func8, Try.ntmps8
      go_wp2_with fail
      go_ret2
      exact HF.out
    · have hBm : isB m = true := by simp [isB, k1, hTN, t0]
      have hcb := HCB.out hBm
      have t0' : ((TN : Int) == 0) = false := by simp; exact t0
      have t0d : decide ((TN : Int) = 0) = false := by simp; exact t0
      have t0n : (TN == 0) = false := by simpa using t0
      have HEB : Hid (bareE m = putE m) := by show _ = _; simp [bareE, hBm]
      have HOK : Hid (putE m = 0 → (putL m).length = 4 + (bodyS m).1.length) := fun h => by unfold putL putB; rw [if_pos h]; simp [be_length]; omega
      have HLN2 := HLN.out
      clear hTN k1 hBm HCB
      as_aux_lemma =>
      go_enter Try.func8, Try.ntmps8
      go_wp2_with (refine wpList_load_row rfl 27 (.tmp 1) rfl w.heap.size rfl 27 _ (0, 0) _ HROW.out hu rfl m72 (Hid.out ?_))
      generalize w.alloc (.cells A 27) = W1 at *
      refine mkHid ?_
      go_wp2_with fail
      refine Calls.mono HP.out ?_
      rintro e W2 ⟨v, rfl, hy, hb2⟩
      obtain ⟨o, c, rfl⟩ := own_val hy
      have HY : Hid _ := hy
      have HB2 : Hid (Below w.heap.size w W2) := HB.out.trans (hb2.mono HB.out.size)
      clear hb2 hy HP HROW
      by_cases e0 : putE m = 0
      · have hl := HOK.out e0
        obtain ⟨N, hN⟩ : ∃ N, (putL m).length = N := ⟨_, rfl⟩
        rw [hN] at hl ⊢
        have n16 : 16 ≤ N := by omega
        have nw : IntKind.i64.wrap ((N : Int) - 16) = ((N - 16 : Nat) : Int) := by rw [IntKind.wrap_i64]; omega
        obtain ⟨g, cap, rfl, hcap⟩ : ∃ g cap, o = some ⟨g, 0, none⟩ ∧ N ≤ c := by
          obtain ⟨_, ⟨h1, h2⟩ | ⟨g, cap, cur, e, _, _, h3, _⟩⟩ := HY.out
          · omega
          · injection e with e1 e2 e3
            exact ⟨g, cap, e1, by omega⟩
        have hc63 : c ≤ 9223372036854775807 := by
          obtain ⟨_, ⟨h1, h2⟩ | ⟨g, cap, cur, e, _, _, h3, h4, _⟩⟩ := HY.out
          · omega
          · injection e with e1 e2 e3
            unfold maxLen at h4
            omega
        have HF : Hid (BareR m w (.returned (.tuple #[.slice (some ⟨g, 0, none⟩) (N - 16) (N - 16), .int .i64 0])) W2) := by
          have hE : bareE m = 0 := by rw [HEB.out, e0]
          have hL : bareL m = (putL m).take (N - 16) := by unfold bareL; rw [if_pos hE, hN]
          have hs := (By.sl HY.out).1
          refine ⟨_, by rw [hE], ⟨some ⟨g, 0, none⟩, N - 16, by rw [hL, List.length_take, hN]; congr 1; omega, ?_, fun h => by cases h⟩, HB2.out⟩
          intro j hj
          rw [hL, List.length_take, hN] at hj
          obtain ⟨b, off, e, hc⟩ := hs j (by omega)
          refine ⟨b, off, e, ?_⟩
          rw [hc]
          simp [hL, List.getElem_take]
        rw [e0]
        clear hN hl HOK HLN HLN2 HEB HY e0
        as_aux_lemma =>
        go_wp2_with fail
        go_ret2
        exact HF.out
      · have e0b : (putE m == 0) = false := by simpa using e0
        have e0n : (putE m != 0) = true := by simpa using e0
        have HF : Hid (BareR m w (.returned (.tuple #[.slice none 0 0, .int .i64 (putE m)])) W2) := by
          exact ⟨_, by rw [HEB.out], by unfold bareL; rw [if_neg (by rw [HEB.out]; exact e0)]; exact Out.nil _, HB2.out⟩
        generalize putE m = E at *
        clear HOK HLN HLN2 HEB HY
        as_aux_lemma =>
        go_wp2_with fail
        go_ret2
        exact HF.out
  · have k1b : (m.kind == 1) = false := by simpa using k1
    have k1n : (m.kind != 1) = true := by simpa using k1
    have k1d : decide (m.kind = 1) = false := by simpa using k1
    have HF : Hid (BareR m w (.returned (.tuple #[.slice none 0 0, .int .i64 2])) (w.alloc (.cells A 27))) := by
      have hE : bareE m = 2 := by simp [bareE, isB, k1]
      exact ⟨_, by rw [hE], by unfold bareL; rw [hE]; exact Out.nil _, HB.out⟩
    clear HP HCB HLN HROW hTN
    as_aux_lemma =>
    go_enter Try.func8, Try.ntmps8
    go_wp2_with fail
    go_ret2
    exact HF.out
end Go.Proofs.Ytcchlicokglmnaa
