/- VaultSeals: what is spied, what is hidden. -/
import Derived.Test.YthhoknkdmmldbaaSl
namespace Go.Proofs.Ythhoknkdmmldbaa
open Go.RowKit Go.Shelf Go.Lib
set_option linter.unusedVariables false

section
variable {W0 w w' : World} {V B8 B9 g cg N : Nat} {n : Int} {la lp : List UInt8}
theorem seen_no (N : Nat) (S : List (List UInt8)) (hS : ∀ b ∈ S, b = zn N 3 ∨ b = nameL 2) : ∀ b ∈ S, ∀ x ∈ wins b, x = 2 ∨ x = 3 := by
  intro b hb x hx
  rcases hS b hb with rfl | rfl
  · exact .inr ((wins_zn N 3 (by omega) x).1 hx)
  · rw [wins_name 2 (by omega)] at hx
    exact .inl (by simpa using hx)
theorem Sg.spied_no (h : Sg W0 w V B8 B9 g cg N (L4s n la lp)) (hN : lp.length = N) (hN6 : N ≤ 65536) (k : Nat) (hk : w.heap[k]? = some (.cells #[.slice (some ⟨g, 0, none⟩) (N + 16) cg, .slice (some ⟨B9, 0, none⟩) 16 16] 38 (0, 0))) :
    Calls Try.prog 23 #[.pointer (some ⟨V, 0, none⟩), .slice (some ⟨k, 0, none⟩) 2 2] w fun e w' => (∃ o c, e = .returned (.slice o 0 c)) ∧ Below w.heap.size w w' := by
  obtain ⟨G, c, M, hv⟩ := h.ag.va
  have hse := se_list2 (k := k) h.sb (by_box (n₀ := W0.heap.size) h.b9) (by rw [zn_len, nameL_len]; exact hk)
  refine (spied_c W0.heap.size V G c M 2 (L4s n la lp) (some ⟨k, 0, none⟩) _ w hv hse (small4 (by omega)) (by simp) (by simp) ?_).mono ?_
  · simp only [tot, List.map_cons, List.map_nil, List.sum_cons, List.sum_nil, nameL_len, zn_len, List.length_cons, List.length_nil]; omega
  · rintro e w' ⟨o, n', c', T, rfl, hsd, htx, hln, hb⟩
    have e1 := spd4_no (seen_no N _ (by simp [vs])) hsd
    have e2 : T = [] := by simpa using e1
    subst e2
    simp at hln
    subst hln
    exact ⟨⟨o, c', rfl⟩, hb⟩
theorem Sg.spied_yes (h : Sg W0 w V B8 B9 g cg N (L4s n la lp)) (hN : lp.length = N) (hN6 : N ≤ 65536) (k : Nat) (hk : w.heap[k]? = some (.cells #[.slice (some ⟨g, 0, none⟩) (N + 16) cg, .slice (some ⟨B8, 0, none⟩) 16 16] 38 (0, 0))) :
    Calls Try.prog 23 #[.pointer (some ⟨V, 0, none⟩), .slice (some ⟨k, 0, none⟩) 2 2] w fun e w' => (∃ go co gb cb, e = .returned (.slice (some ⟨go, 0, none⟩) 1 co) ∧ w'.cell? ⟨go, 0, none⟩ = some (.slice (some ⟨gb, 0, none⟩) N cb) ∧ Sl w' (some ⟨gb, 0, none⟩) lp) ∧ Below w.heap.size w w' := by
  obtain ⟨G, c, M, hv⟩ := h.ag.va
  have hse := se_list2 (k := k) h.sb (by_box (n₀ := W0.heap.size) h.b8) (by rw [zn_len, nameL_len]; exact hk)
  refine (spied_c W0.heap.size V G c M 2 (L4s n la lp) (some ⟨k, 0, none⟩) _ w hv hse (small4 (by omega)) (by simp) (by simp) ?_).mono ?_
  · simp only [tot, List.map_cons, List.map_nil, List.sum_cons, List.sum_nil, nameL_len, zn_len, List.length_cons, List.length_nil]; omega
  · rintro e w' ⟨o, n', c', T, rfl, hsd, htx, hln, hb⟩
    have e1 := spd4_yes (Kn.seen (b := nameL 1) (by simp [vs]) (by rw [wins_name 1 (by omega)]; simp) (by simp)) (Kn.seen (b := zn N 3) (by simp [vs]) ((wins_zn N 3 (by omega) 3).2 rfl) (by simp)) hsd
    obtain ⟨x, rfl, ex⟩ : ∃ x, T = [x] ∧ x.2.2 = ⟨lp.toArray⟩ := by
      rcases T with _ | ⟨x, _ | ⟨y, T⟩⟩
      · simp at e1
      · simp at e1; exact ⟨x, rfl, e1⟩
      · simp at e1
    have hln' : n' = 1 := hln
    subst hln'
    obtain ⟨_, h1 | ⟨go, cap, cur, e2, h1, h2, h3, h4, h5, h6⟩⟩ := htx.own
    · omega
    · injection e2 with e2 _ e3
      subst e2
      subst e3
      have hx := htx.by' x (by simp)
      rw [ex] at hx
      refine ⟨⟨go, c', x.1, x.2.1, rfl, ?_, by simpa using hx.sl⟩, hb⟩
      simp only [World.cell?, h2]
      have h7 := congrArg (fun l => l[0]?) h6
      simp only [List.map_cons, List.map_nil, List.getElem?_cons_zero] at h7
      rw [List.getElem?_take_of_lt (by omega)] at h7
      simp only [sv, ex, ba_size, hN] at h7
      simpa using h7
theorem Sg.hid_yes (h : Sg W0 w V B8 B9 g cg N (L4s n la lp)) (hN : lp.length = N) (hN6 : N ≤ 65536) (k : Nat) (hk : w.heap[k]? = some (.cells #[.slice (some ⟨g, 0, none⟩) (N + 16) cg] 38 (0, 0))) :
    Calls Try.prog 24 #[.pointer (some ⟨V, 0, none⟩), .slice (some ⟨B8, 0, none⟩) 16 16, .slice (some ⟨k, 0, none⟩) 1 1] w fun e w' => e = .returned (.bool true) ∧ Below w.heap.size w w' := by
  obtain ⟨G, c, M, hv⟩ := h.ag.va
  have hse := se_list1 (k := k) h.sb (by rw [zn_len]; exact hk)
  have := hidden_c W0.heap.size V G c M 16 1 (L4s n la lp) (some ⟨B8, 0, none⟩) (some ⟨k, 0, none⟩) (nameL 1) _ w hv (by_box h.b8) hse (small4 (by omega)) (by simp) (by simp) (by simp only [tot, List.map_cons, List.map_nil, List.sum_cons, List.sum_nil, zn_len, List.length_cons, List.length_nil]; omega)
  rw [nameL_len] at this
  refine this.mono ?_
  rintro e w' ⟨b, rfl, hb, hbe⟩
  have : b = true := hb.2 ⟨1, by rw [wins_name 1 (by omega)]; simp, fun h1 => kn4_no (seen_no N _ (by simp [vs])) h1.2⟩
  subst this
  exact ⟨rfl, hbe⟩
theorem Sg.hid_no (h : Sg W0 w V B8 B9 g cg N (L4s n la lp)) (hN : lp.length = N) (hN6 : N ≤ 65536) (k : Nat) (hk : w.heap[k]? = some (.cells #[.slice (some ⟨g, 0, none⟩) (N + 16) cg] 38 (0, 0))) :
    Calls Try.prog 24 #[.pointer (some ⟨V, 0, none⟩), .slice (some ⟨g, 0, none⟩) (N + 16) cg, .slice (some ⟨k, 0, none⟩) 1 1] w fun e w' => e = .returned (.bool false) ∧ Below w.heap.size w w' := by
  obtain ⟨G, c, M, hv⟩ := h.ag.va
  have hse := se_list1 (k := k) h.sb (by rw [zn_len]; exact hk)
  have := hidden_c W0.heap.size V G c M cg 1 (L4s n la lp) (some ⟨g, 0, none⟩) (some ⟨k, 0, none⟩) (zn N 3) _ w hv h.sb hse (small4 (by omega)) (by simp) (by simp) (by simp only [tot, List.map_cons, List.map_nil, List.sum_cons, List.sum_nil, zn_len, List.length_cons, List.length_nil]; omega)
  rw [zn_len] at this
  refine this.mono ?_
  rintro e w' ⟨b, rfl, hb, hbe⟩
  have : b = false := by
    cases b with
    | false => rfl
    | true =>
      obtain ⟨x, hx, hn⟩ := hb.1 rfl
      obtain rfl := (wins_zn N 3 (by omega) x).1 hx
      exact absurd ⟨by simp, Kn.seen (b := zn N 3) (by simp [vs]) hx (by simp)⟩ hn
  subst this
  exact ⟨rfl, hbe⟩
end
end Go.Proofs.Ythhoknkdmmldbaa
