/- The putter's handles. -/
import Derived.Test.YtcchlicokglmnaaHs
import Derived.LoopN
namespace Go.Proofs.Ytcchlicokglmnaa
open Go.ChangeShapes Go.WideShapes Go.ChangeAt Go.RowKit Go.Lib
set_option linter.unusedVariables false

section
variable {w : World} {p B : Nat} {v : Value} {X : List UInt8} {r : Bool}
/-- Pointers to handles. -/
def hps (Hs : List (Nat × Nat × List UInt8)) : List Value := Hs.map fun x => .pointer (some ⟨x.1, x.2.1, none⟩)
/-- The handles' bytes. -/
def hbs (Hs : List (Nat × Nat × List UInt8)) : List UInt8 := Hs.flatMap (·.2.2)
set_option maxRecDepth 10000 in
set_option maxHeartbeats 1000000 in
theorem handles_c (h : Pu w p B v X r) (hB : B ≤ w.heap.size) (k : Nat) (Hs : List (Nat × Nat × List UInt8)) (hX : X.length + 16 * Hs.length ≤ 900000) (hk : w.heap[k]? = some (.cells (hps Hs).toArray 82 (0, 0))) (hkp : k ≠ p)
    (hH : ∀ x ∈ Hs, Sl w (some ⟨x.1, x.2.1, none⟩) x.2.2 ∧ x.2.2.length = 16 ∧ x.1 < B ∧ x.1 ≠ p) :
    Calls Try.prog 56 #[.pointer (some ⟨p, 0, none⟩), .slice (some ⟨k, 0, none⟩) Hs.length Hs.length] w (PuR p B (X ++ hbs Hs) r w) := by
  obtain ⟨i0, hi, hz0, hz1, hz2⟩ := info_parts info5
  have HP : Hid (∃ v, Pu w p B v X r) := ⟨v, h⟩
  have HK : Hid _ := hk
  have HH : Hid _ := hH
  have HB : Hid _ := hB
  have hX' : 16 * Hs.length ≤ 900000 - X.length ∧ X.length ≤ 900000 := by omega
  clear h hk hH hB
  obtain ⟨N, hN⟩ : ∃ N, Hs.length = N := ⟨_, rfl⟩
  rw [hN]
  rw [hN] at hX'
  have HN : Hid _ := hN
  clear hN hX
  go_enter Try.func56, Try.ntmps56
  go_wp2_with fail
  go_loopg [8] (N + 1) (fun kx s8 wr => ∃ i : Nat, s8 = .int .i64 (i : Int) ∧ i ≤ N ∧ N - i ≤ kx ∧ Hid ((∃ v, Pu wr p B v (X ++ hbs (Hs.take i)) r) ∧ Gr p B w wr))
  case atStart => exact ⟨0, rfl, by omega, by omega, by simpa [hbs] using HP.out, Gr.refl _ _ _⟩
  case round =>
    obtain ⟨i, rfl, hi1, hg, HQ⟩ := hrel
    clear HP
    by_cases hlt : i < N
    · have i1 : (i : Int) < (N : Int) := by omega
      have i1' : decide ((i : Int) < (N : Int)) = true := by simpa using i1
      have i0' : (0 : Int) ≤ (i : Int) := by omega
      have iw : IntKind.i64.wrap ((i : Int) + 1) = ((i + 1 : Nat) : Int) := by rw [IntKind.wrap_i64]; omega
      have hl : i < Hs.length := by rw [HN.out]; exact hlt
      obtain ⟨⟨q, j, H⟩, hx⟩ : ∃ x, Hs[i] = x := ⟨_, rfl⟩
      obtain ⟨hs1, hs2, hs3, hs4⟩ := HH.out (q, j, H) (by rw [← hx]; exact List.getElem_mem _)
      simp only at hs1 hs2 hs3 hs4
      have hkc : wr.cell? ⟨k, i, none⟩ = some (.pointer (some ⟨q, j, none⟩)) := by
        have := HQ.out.2.heap HK.out hkp (by decide)
        unfold World.cell?
        rw [this]
        simp [hps, List.getElem?_eq_getElem hl, hx]
      obtain ⟨⟨v1, hp1⟩, hg1⟩ := HQ.out
      have HSL : Hid (Sl wr.drew (some ⟨q, j, none⟩) H) := hg1.drew.sl hs1 (fun a e => by cases e; exact ⟨hs3, hs4⟩)
      have hxl : (X ++ hbs (Hs.take i)).length ≤ 900000 := by
        have : ∀ L : List (Nat × Nat × List UInt8), (∀ x ∈ L, x.2.2.length = 16) → (hbs L).length = 16 * L.length := by
          intro L
          induction L with
          | nil => intro _; rfl
          | cons a t ih => intro hh; simp only [hbs, List.flatMap_cons, List.length_append, List.length_cons]; have := ih (fun x hx => hh x (by simp [hx])); simp only [hbs] at this; rw [this, hh a (by simp)]; omega
        rw [List.length_append, this _ (fun x hx => (HH.out x (List.mem_of_mem_take hx)).2.1), List.length_take]
        have := HN.out
        omega
      have hnext : hbs (Hs.take (i + 1)) = hbs (Hs.take i) ++ H := by
        rw [List.take_succ_eq_append_getElem hl, hx]; simp [hbs]
      have HNX : Hid (X ++ hbs (Hs.take (i + 1)) = (X ++ hbs (Hs.take i)) ++ H) := by show _ = _; rw [hnext]; simp
      obtain ⟨o, c, rfl⟩ := own_val hp1.own
      have HP1 : Hid _ := hp1
      have HG1 : Hid (Gr p B w wr) := hg1
      have c0 := hp1.c0
      have f1 := hp1.fr 1
      have HBw : Hid (B ≤ wr.heap.size) := Nat.le_trans HB.out hg1.size
      have hHl : H.length ≤ 16 := by omega
      have H16 : Hid (H.length = 16) := hs2
      clear hs1 hs2 hp1 hg1 HQ hnext hx hl
      generalize X ++ hbs (Hs.take i) = Y at *
      go_wp2_with fail
      go_region_law ((refine step_append_bytes rfl (.tmp 16) (.tmp 19) rfl B i0 Try.underlying25 hi hz0 hz1 hz2 (.slice o Y.length c) Y.length (bc Y) rfl HP1.out.drew.own (some ⟨q, j, none⟩) 16 16 H rfl H16.out (fun h => by cases h) HSL.out (by omega) HBw.out ?_; intro v' w3 hown hgrow; rw [← H16.out] at hown; obtain ⟨o', cc', rfl, m0, mf, HQQ⟩ := pu_after (Y := H) (HG1.out.drew) HP1.out.drew hown hgrow; clear hown hgrow))
      all_goals
        go_wp2
        go_roundg (N - (i + 1))
        case measure => omega
        case rel => exact ⟨i + 1, rfl, by omega, Nat.le_refl _, by show (∃ v, _) ∧ _; rw [HNX.out]; exact ⟨⟨_, HQQ.out.1⟩, HQQ.out.2⟩⟩
    · have i1 : ¬ (i : Int) < (N : Int) := by omega
      have i1' : decide ((i : Int) < (N : Int)) = false := by simpa using i1
      go_wp2_with fail
      go_end0
      have hi' : i = Hs.length := by rw [HN.out]; omega
      have := HQ.out
      rw [hi', List.take_length] at this
      exact ⟨rfl, this.1, this.2⟩
end
end Go.Proofs.Ytcchlicokglmnaa
