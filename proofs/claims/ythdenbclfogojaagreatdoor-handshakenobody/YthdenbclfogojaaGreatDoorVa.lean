/- vault: a vault as it lies; New, add. -/
import Derived.Test.YthdenbclfogojaaGreatDoorVt
namespace Go.Proofs.YthdenbclfogojaaGreatDoor
open Go.RowKit
set_option linter.unusedVariables false

/-- The cells of terms. -/
def tl : List Tm → List Value
  | [] => []
  | t :: r => tc t ++ tl r
theorem tc_len (t : Tm) : (tc t).length = 5 := rfl
@[simp] theorem tl_len (L : List Tm) : (tl L).length = L.length * 5 := by
  induction L with
  | nil => rfl
  | cons t r ih => rw [tl, List.length_append, tc_len, ih, List.length_cons]; omega
theorem tl_append (L M : List Tm) : tl (L ++ M) = tl L ++ tl M := by
  induction L with
  | nil => rfl
  | cons t r ih => simp only [List.cons_append, tl, ih, List.append_assoc]
theorem tl_one (t : Tm) : tl [t] = tc t := by simp [tl]
theorem tc_1 (t : Tm) : ∀ v ∈ tc t, v.oneCell' = true := by
  intro v hv
  simp only [tc, List.mem_cons, List.not_mem_nil, or_false] at hv
  rcases hv with rfl | rfl | rfl | rfl | rfl <;> rfl
theorem tl_at {L : List Tm} {i j : Nat} {t : Tm} (h : L[i]? = some t) (hj : j < 5) : (tl L)[i * 5 + j]? = (tc t)[j]? := by
  induction L generalizing i with
  | nil => simp at h
  | cons s r ih =>
    cases i with
    | zero =>
      simp at h
      subst h
      rw [tl, Nat.zero_mul, Nat.zero_add, List.getElem?_append_left (by rw [tc_len]; exact hj)]
    | succ i =>
      rw [tl, List.getElem?_append_right (by rw [tc_len]; omega), tc_len, show (i + 1) * 5 + j - 5 = i * 5 + j by omega]
      exact ih (by simpa using h)
/-- A vault as it lies: its block V, the row G of its terms with room for c, its map M. -/
structure Va (n₀ : Nat) (w : World) (V G c M : Nat) (L : List Tm) : Prop where
  hV : w.heap[V]? = some (.cells #[.slice (some ⟨G, 0, none⟩) L.length c, .map (some M)] 112 (0, 0))
  hG : ∃ R, w.heap[G]? = some (.cells (tl L ++ R).toArray 108 (0, 0)) ∧ L.length * 5 + R.length = c * 5 ∧ c ≤ maxLen
  hM : ∃ es ck, w.heap[M]? = some (.map es ck) ∧ Mo es.toList L
  bV : n₀ ≤ V
  bG : n₀ ≤ G
  bM : n₀ ≤ M
  root : ∃ r, L = ⟨0, 0, 0, ⟨#[]⟩, ⟨#[]⟩⟩ :: r
  good : ∀ (i : Nat) (t : Tm), L[i]? = some t → 0 < i → 0 < t.kd ∧ t.kd < 7 ∧ (2 ≤ t.kd → t.of' < i) ∧ (t.kd = 4 → 0 ≤ t.wi ∧ t.wi < (i : Int))

section
variable {n₀ : Nat} {w w' : World} {V G c M : Nat} {L : List Tm}
theorem Va.pos (h : Va n₀ w V G c M L) : 0 < L.length := by obtain ⟨r, hr⟩ := h.root; rw [hr]; simp
theorem Va.vg (h : Va n₀ w V G c M L) : V ≠ G := by
  rintro rfl
  obtain ⟨R, hR, _⟩ := h.hG
  have := h.hV.symm.trans hR
  simp at this
theorem Va.vm (h : Va n₀ w V G c M L) : V ≠ M := by
  rintro rfl
  obtain ⟨es, ck, hm, _⟩ := h.hM
  have := h.hV.symm.trans hm
  simp at this
theorem Va.gm (h : Va n₀ w V G c M L) : G ≠ M := by
  rintro rfl
  obtain ⟨R, hR, _⟩ := h.hG
  obtain ⟨es, ck, hm, _⟩ := h.hM
  have := hR.symm.trans hm
  simp at this
theorem Va.lV (h : Va n₀ w V G c M L) : V < w.heap.size := (Array.getElem?_eq_some_iff.1 h.hV).1
theorem Va.lG (h : Va n₀ w V G c M L) : G < w.heap.size := by obtain ⟨R, hR, _⟩ := h.hG; exact (Array.getElem?_eq_some_iff.1 hR).1
theorem Va.lM (h : Va n₀ w V G c M L) : M < w.heap.size := by obtain ⟨es, ck, hm, _⟩ := h.hM; exact (Array.getElem?_eq_some_iff.1 hm).1
theorem Va.keep (h : Va n₀ w V G c M L) (kV : w'.heap[V]? = w.heap[V]?) (kG : w'.heap[G]? = w.heap[G]?) (kM : w'.heap[M]? = w.heap[M]?) : Va n₀ w' V G c M L := by
  obtain ⟨R, hR, hl⟩ := h.hG
  obtain ⟨es, ck, hm, ho⟩ := h.hM
  exact ⟨kV.trans h.hV, ⟨R, kG.trans hR, hl⟩, ⟨es, ck, kM.trans hm, ho⟩, h.bV, h.bG, h.bM, h.root, h.good⟩
theorem Va.bel (h : Va n₀ w V G c M L) (hb : Below w.heap.size w w') : Va n₀ w' V G c M L :=
  h.keep (hb.block V h.lV) (hb.block G h.lG) (hb.block M h.lM)
theorem Va.cV0 (h : Va n₀ w V G c M L) : w.cell? ⟨V, 0, none⟩ = some (.slice (some ⟨G, 0, none⟩) L.length c) := by simp [World.cell?, h.hV]
theorem Va.cV1 (h : Va n₀ w V G c M L) : w.cell? ⟨V, 1, none⟩ = some (.map (some M)) := by simp [World.cell?, h.hV]
theorem Va.fV0 (h : Va n₀ w V G c M L) : w.frozen? ⟨V, 0, none⟩ = false := by simp [World.frozen?, h.hV]
theorem Va.cT (h : Va n₀ w V G c M L) {i j : Nat} {t : Tm} (ht : L[i]? = some t) (hj : j < 5) : w.cell? ⟨G, i * 5 + j, none⟩ = (tc t)[j]? := by
  obtain ⟨R, hR, _⟩ := h.hG
  have hi := (List.getElem?_eq_some_iff.1 ht).1
  have : (tl L ++ R)[i * 5 + j]? = (tc t)[j]? := by
    rw [List.getElem?_append_left (by rw [tl_len]; omega), tl_at ht hj]
  simp only [World.cell?, hR]
  simpa using this
theorem Va.len (h : Va n₀ w V G c M L) : L.length ≤ c := by obtain ⟨R, _, hl, _⟩ := h.hG; omega
end

theorem mk_map (W : World) : (Instr.makeMap 110 none).run Tryz.prog W = .ok (.map (some W.heap.size)) (W.alloc (.map #[] 0)) := by
  simp [Instr.makeMap, go_sem]
abbrev rt : Tm := ⟨0, 0, 0, ⟨#[]⟩, ⟨#[]⟩⟩
set_option maxRecDepth 100000 in
theorem new_c (w : World) : Calls Tryz.prog 11 #[] w fun e w' => ∃ V G c M, e = .returned (.pointer (some ⟨V, 0, none⟩)) ∧ Va w.heap.size w' V G c M [rt] ∧ Below w.heap.size w w' := by
  have hmk := mk_map
  go_enter Tryz.func11, Tryz.ntmps11
  go_wp2
  go_ret
  refine ⟨w.heap.size + 1 + 1, w.heap.size, 1, w.heap.size + 1, rfl, ?_, ((bel1 w _).alloc (by simp) _).alloc (by simp; omega) _⟩
  refine ⟨?_, ⟨[], ?_, rfl, by decide⟩, ⟨#[], 0, ?_, ⟨fun e he => (by cases he), fun i t hi h2 => ?_, fun i j t hi hj h2 => ?_⟩⟩, by omega, by omega, by omega, ⟨[], rfl⟩, fun i t hi h0 => ?_⟩
  · have := heap_alloc_new ((w.alloc (.cells #[.int .i64 0, .int .i64 0, .int .i64 0, .string ⟨#[]⟩, .string ⟨#[]⟩] 108)).alloc (.map #[] 0)) (.cells #[.slice (some ⟨w.heap.size, 0, none⟩) 1 1, .map (some (w.heap.size + 1))] 112)
    rwa [World.size_alloc, World.size_alloc] at this
  · rw [Below.heap_alloc _ _ _ (by simp; omega), Below.heap_alloc _ _ _ (by simp)]
    exact heap_alloc_new w _
  · rw [Below.heap_alloc _ _ _ (by simp)]
    have := heap_alloc_new (w.alloc (.cells #[.int .i64 0, .int .i64 0, .int .i64 0, .string ⟨#[]⟩, .string ⟨#[]⟩] 108)) (.map #[] 0)
    rwa [World.size_alloc] at this
  · rcases i with _ | i <;> simp at hi
    subst hi
    exact absurd h2 (by decide)
  · rcases i with _ | i <;> simp at hi
    subst hi
    exact absurd h2 (by decide)
  · rcases i with _ | i
    · omega
    · simp at hi
/-- What is left alone by who turns V, G and M. -/
def Vc (V G M : Nat) (w w' : World) : Prop := Chg (fun k => k = V ∨ k = G ∨ k = M) w w'
theorem Vc.bel {n₀ V G c M : Nat} {w w' : World} {L : List Tm} (h : Vc V G M w w') (hv : Va n₀ w V G c M L) : Below n₀ w w' :=
  ⟨h.1, h.2.1, h.2.2.1, h.2.2.2.1, fun k hk => h.2.2.2.2 k (by have := hv.lV; have := hv.bV; omega) (by have := hv.bV; have := hv.bG; have := hv.bM; omega)⟩
theorem inf64 : ∃ i, Tryz.prog.info? 108 = some i ∧ i.zero = some (tv rt) ∧ i.size = 5 ∧ i.bytes = 56 := by
  have : (Tryz.prog.info? 108).map (fun i => (i.zero, i.size, i.bytes)) = some (some (tv rt), 5, 56) := by kernel_rfl
  cases h : Tryz.prog.info? 108 with
  | none => rw [h] at this; cases this
  | some i =>
    rw [h] at this
    simp only [Option.map_some, Option.some.injEq, Prod.mk.injEq] at this
    exact ⟨i, rfl, this.1, this.2.1, this.2.2⟩
/-- append of one term to the row. -/
theorem app_c {n₀ : Nat} {w : World} {V G c M g : Nat} {L : List Tm} (h : Va n₀ w V G c M L) (t : Tm) (hg : w.heap[g]? = some (.cells (tc t).toArray 108 (0, 0))) (hl : L.length ≤ 1000000) :
    ∃ G' c' w', (Builtin.append_ #[109, 109] 109 #[.slice (some ⟨G, 0, none⟩) L.length c, .slice (some ⟨g, 0, none⟩) 1 1]).run Tryz.prog w = .ok (.slice (some ⟨G', 0, none⟩) (L.length + 1) c') w' ∧
      (∃ R, w'.heap[G']? = some (.cells (tl (L ++ [t]) ++ R).toArray 108 (0, 0)) ∧ (L.length + 1) * 5 + R.length = c' * 5 ∧ c' ≤ maxLen) ∧ (G' = G ∨ G' = w.heap.size) ∧ Chg (fun k => k = G) w w' := by
  obtain ⟨i, hi, hz, hs, hb⟩ := inf64
  obtain ⟨R, hR, hlen, hc⟩ := h.hG
  have hown : w.ownsRow n₀ 108 5 (.slice (some ⟨G, 0, none⟩) L.length c) L.length (tl L) := by
    refine ⟨tl_len L, .inr ⟨G, c, _, rfl, h.bG, hR, h.len, hc, ?_, ?_⟩⟩
    · simp only [List.size_toArray, List.length_append, tl_len]; omega
    · show ((tl L ++ R).toArray.toList).take (L.length * 5) = tl L
      simp [← tl_len]
  have hcell : ∀ j u, (tc t)[j]? = some u → w.cell? ((⟨g, 0, none⟩ : Addr).add j) = some u := by
    intro j u hu
    rw [Addr.add_mid]
    simp only [World.cell?, hg, Nat.zero_add]
    simpa using hu
  obtain ⟨v', w', hrun, hown', hgr, hnil, hat⟩ := run_append_own_at (P := Tryz.prog) w n₀ 109 109 108 i (tv rt) 5 56 Tryz.underlying109 hi hz hs hb rfl (by decide) _ _ _ hown ⟨g, 0, none⟩ 1 1 (tc t) rfl hcell (tc_1 t) (by unfold maxLen; omega) (by omega) (by have := h.lV; have := h.bV; omega)
  obtain ⟨hl2, hcase⟩ := hown'
  rcases hcase with ⟨_, e⟩ | ⟨G', c', cur, rfl, k1, k2, k3, k4, k5, k6⟩
  · omega
  · refine ⟨G', c', w', hrun, ⟨cur.toList.drop ((L.length + 1) * 5), ?_, ?_, k4⟩, ?_, ⟨hgr.os, hgr.tape, hgr.output, hgr.size, fun k hk hx => hgr.block k hk (by simp only [Value.ownBlock]; intro e; exact hx (by simpa using e))⟩⟩
    · rw [tl_append, tl_one, ← k6, List.take_append_drop, k2]
    · have e : cur.toList.length = c' * 5 := by rw [Array.length_toList]; exact k5
      rw [List.length_drop, e]; omega
    · simpa [Value.ownBlock] using hat
end Go.Proofs.YthdenbclfogojaaGreatDoor
