/- append of bytes up to what a row may have. hello.Read of what was put, and of any bytes: what HelloBack wants of it. -/
import Derived.Test.YtcchlicokglmnaaBf
import Derived.Test.YtcchlicokglmnaaBr
import Derived.Deep.DeepAppendWide
namespace Go.Proofs.Ytcchlicokglmnaa
open Go.ChangeShapes Go.WideShapes Go.ChangeAt Go.RowKit Go.Lib
set_option linter.unusedVariables false

theorem rowB' {w w' : World} {M t : Nat} {A : Array Value} (h : w.heap[M]? = some (.cells A t (0, 0))) (hb : Below w.heap.size w w') : w'.heap[M]? = some (.cells A t (0, 0)) := (hb.block M (lt_block h)).trans h
theorem app_g {n : Nat} {X : World} {o : Option Addr} {c : Nat} {l : List UInt8} (h : By n X (.slice o l.length c) l) (hn : n ≤ X.heap.size) (o2 : Option Addr) (c2 : Nat) (l2 : List UInt8) (hs : Sl X o2 l2) (hnil : o2 = none → l2.length = 0 ∧ c2 = 0) (hl : l.length + l2.length ≤ 200000000000000) :
    ∃ o' c' X', (Builtin.append_ #[25, 25] 25 #[.slice o l.length c, .slice o2 l2.length c2]).run Try.prog X = .ok (.slice o' (l ++ l2).length c') X' ∧ By n X' (.slice o' (l ++ l2).length c') (l ++ l2) ∧ Gq n X X' := by
  obtain ⟨i0, hi, hz0, hz1, hz2⟩ := info_parts info5
  cases o2 with
  | none =>
    obtain ⟨e1, e2⟩ := hnil rfl
    obtain rfl : l2 = [] := List.eq_nil_of_length_eq_zero e1
    subst e2
    have hrun := run_append_owned_none (P := Try.prog) (w := X) n 25 25 5 i0 1 Try.underlying25 hi (.slice o l.length c) l.length (bc l) h
    refine ⟨o, c, X, by simpa using hrun, by simpa using h, Gq.refl _ _⟩
  | some ad =>
    obtain ⟨v', w', hrun, hown', hgr, _⟩ := run_append_own_wide (P := Try.prog) X n 25 25 5 i0 (.int .u8 0) 1 1 Try.underlying25 hi hz0 hz1 hz2 rfl (by decide) _ _ _ h ad l2.length c2 (bc l2) (by rw [bc_length]; omega) (Sl_cells hs) (bc_one l2) (by unfold maxLen; omega) (by omega) hn
    obtain ⟨o', c', rfl⟩ := own_val hown'
    refine ⟨o', c', w', by rw [List.length_append]; exact hrun, ?_, Gq.of_grown h hgr⟩
    unfold By
    rw [List.length_append, bc_append]
    exact hown'
end Go.Proofs.Ytcchlicokglmnaa
namespace Go.Proofs.Ytcchlicokglmnaa
open Go.ChangeShapes Go.WideShapes Go.ChangeAt Go.RowKit Go.Lib
set_option linter.unusedVariables false

theorem By.cap {B : Nat} {w : World} {o : Option Addr} {c : Nat} {X : List UInt8} (h : By B w (.slice o X.length c) X) : X.length ≤ c ∧ c ≤ 9223372036854775807 := by
  obtain ⟨_, ⟨h1, h2⟩ | ⟨g, cap, cur, e, _, _, h3, h4, _⟩⟩ := h
  · injection h1 with _ _ h1
    omega
  · injection e with _ _ e
    subst e
    unfold maxLen at h4
    omega
theorem readE_isK {L : List UInt8} {a : Int} (h : readE L a = 0) : isK (getV L a 1) = true := by
  unfold readE at h
  split at h
  · rename_i h1; exact absurd h h1
  · split at h
    · cases h
    · rename_i h2; simpa using h2
theorem putL_len {m : Msg} (h : putE m = 0) (hl : m.len) : (putL m).length = 4 + (bodyS m).1.length := by
  unfold putL
  rw [if_pos h]
  unfold putB
  simp only [List.length_append, List.length_cons, List.length_nil, be_length]
/-- What was read. -/
structure Rm (nm : Msg) (w' : World) : Prop where
  len : nm.len
  ok : nm.ok w'
  pe : putE nm = 0
theorem back1 {m : Msg} {n : Nat} {X : World} {o : Option Addr} {c : Nat} {L : List UInt8} (hE : putE m = 0) (hm : m.len) (h : By n X (.slice o (putL m ++ L).length c) (putL m ++ L)) (hL : (putL m ++ L).length ≤ 9223372036854000000) :
    Calls Try.prog 13 #[.slice o (putL m ++ L).length c, .int .i64 0] X fun e w' => Below X.heap.size X w' ∧ ∃ nm : Msg, e = .returned (.tuple #[.agg nm.cells.toArray, .int .i64 ((putL m).length : Int), .int .i64 0]) ∧ Rm nm w' ∧ nm.kind = m.kind ∧ putL nm = putL m := by
  obtain ⟨hs, _⟩ := By.sl h
  obtain ⟨hc1, hc2⟩ := h.cap
  have hr := read_put [] L hE hm
  rw [List.nil_append] at hr
  simp only [List.length_nil, Int.ofNat_zero] at hr
  have hr' : readE (putL m ++ L) 0 = 0 ∧ getV (putL m ++ L) 0 1 = m.kind ∧ cutN (putL m ++ L) 0 = (bodyS m).1.length ∧ rdAt (putL m ++ L) 0 = rd m.kind (bodyS m).1 (false, 0) := hr
  obtain ⟨r1, r2, r3, r4⟩ := hr'
  refine Calls.mono (read_c (a := 0) hs hL hc1 hc2) ?_
  rintro e w' ⟨hb, _, h2⟩
  obtain ⟨nm, rfl, hm2⟩ := h2 r1
  have hk := readE_isK r1
  have hpr := put_read (m := nm) r1 hm2.pl (by omega)
  refine ⟨hb, nm, ?_, ⟨hm2.len, hm2.ok (by rw [r4]; exact rd_fit (by rw [← r2]; exact hk) _ _), hpr.2.2.1⟩, ?_, ?_⟩
  · rw [r3, putL_len hE hm]
    congr 4
  · have e1 : nm.kind = (rdAt (putL m ++ L) 0).2.kind := by rw [← hm2.pl]; rfl
    rw [e1, r4, rd_kind (by rw [← r2]; exact hk)]
  · rw [hpr.2.2.2, r3]
    unfold sub
    rw [← putL_len hE hm]
    simp
theorem back2 {X : World} {o : Option Addr} {c : Nat} {L : List UInt8} (hs : Sl X o L) (hL : L.length ≤ 9223372036854000000) (hc : L.length ≤ c) (hc63 : c ≤ 9223372036854775807) :
    Calls Try.prog 13 #[.slice o L.length c, .int .i64 0] X fun e w' => Below X.heap.size X w' ∧ ((∃ E : Int, E ≠ 0 ∧ e = .returned (.tuple #[.agg (m0 0).cells.toArray, .int .i64 0, .int .i64 E])) ∨ ∃ (nm : Msg) (N : Nat), e = .returned (.tuple #[.agg nm.cells.toArray, .int .i64 (N : Int), .int .i64 0]) ∧ Rm nm w' ∧ N ≤ L.length ∧ putL nm = L.take N) := by
  refine Calls.mono (read_c (a := 0) hs hL hc hc63) ?_
  rintro e w' ⟨hb, h1, h2⟩
  refine ⟨hb, ?_⟩
  by_cases r1 : readE L 0 = 0
  · obtain ⟨nm, rfl, hm2⟩ := h2 r1
    have hk := readE_isK r1
    have hpr := put_read (m := nm) r1 hm2.pl (by omega)
    refine .inr ⟨nm, 4 + cutN L 0, ?_, ⟨hm2.len, hm2.ok (by unfold rdAt; exact rd_fit hk _ _), hpr.2.2.1⟩, by have := hpr.2.1; simpa using this, ?_⟩
    · congr 4
    · rw [hpr.2.2.2]
      unfold sub
      simp
  · exact .inl ⟨_, r1, h1 r1⟩
end Go.Proofs.Ytcchlicokglmnaa
