/- SecretsKept: the calls of the law. -/
import Derived.Test.YtpjoaimbaboleaaKt
namespace Go.Proofs.Ytpjoaimbaboleaa
open Go.RowKit Go.Shelf Go.Lib
set_option linter.unusedVariables false

section
variable {W0 w w' : World} {V : Nat} {L : List Tm}
theorem Ag.frs (h : Ag W0 w V L) (hle : L.length ≤ 1000000) : Calls Try.prog 10 #[.pointer (some ⟨V, 0, none⟩)] w fun e w' => e = .returned (hv (nameL L.length)) ∧ Ag W0 w' V (L ++ [fr]) ∧ Kc w w' := by
  obtain ⟨G, c, M, hv⟩ := h.va
  refine (fresh_c hv hle).mono ?_
  rintro e w' ⟨rfl, G', c', h1, h2, h3⟩
  exact ⟨rfl, ⟨h.bel.trans (h2.bel hv), G', c', M, h1⟩, Kc.of_vc h2 hv⟩
theorem agr_1 (h : Ag W0 w V [rt, fr, fr, tP 1, tP 2]) : Calls Try.prog 25 #[.pointer (some ⟨V, 0, none⟩), hv (nameL 1), hv (nameL 4)] w fun e w' => e = .returned (.tuple #[hv (nameL 5), .int .i64 0]) ∧ Ag W0 w' V LK6 ∧ Kc w w' := by
  obtain ⟨G, c, M, hv⟩ := h.va
  refine (agree_yes hv (by simp) 1 4 (by simp) (tP 2) rfl rfl 1 2 (.inl ⟨rfl, rfl, by simp⟩)).mono ?_
  rintro e w' ⟨i, rfl, _, hm⟩
  have hm' := hm
  obtain ⟨rfl, h1, _⟩ := h.made_new (by simp) hv hm
  obtain ⟨G', c', L', a1, a2, _⟩ := hm'
  exact ⟨rfl, h1, Kc.of_vc a2 hv⟩
theorem agr_2 (h : Ag W0 w V LK6) : Calls Try.prog 25 #[.pointer (some ⟨V, 0, none⟩), hv (nameL 2), hv (nameL 3)] w fun e w' => e = .returned (.tuple #[hv (nameL 5), .int .i64 0]) ∧ Ag W0 w' V LK6 ∧ Kc w w' := by
  obtain ⟨G, c, M, hv⟩ := h.va
  refine (agree_yes hv (by simp) 2 3 (by simp) (tP 1) rfl rfl 1 2 (.inr ⟨rfl, rfl, by simp⟩)).mono ?_
  rintro e w' ⟨i, rfl, _, hm⟩
  have hm' := hm
  obtain ⟨h0, h1, _⟩ := h.made_old (by simp) hv hm
  obtain ⟨G', c', L', a1, a2, _⟩ := hm'
  obtain rfl : i = 5 := h.once h0 (j := 5) rfl (by simp)
  exact ⟨rfl, h1, Kc.of_vc a2 hv⟩
/-- Hidden, in the law. -/
theorem hid_k {sd : List UInt8} (h : Ag W0 w V (LK sd)) {o : Option Addr} {cb : Nat} {l : List UInt8} (hB : By W0.heap.size w o cb l) {so : Option Addr} {S : List (Option Addr × Nat × List UInt8)} (hS : Se W0.heap.size w so S) (sc : Nat) (hSl : S.length ≤ 1000) (hn : (sn 15 S).length ≤ 25000000000000) :
    Calls Try.prog 26 #[.pointer (some ⟨V, 0, none⟩), .slice o l.length cb, .slice so S.length sc] w fun e w' => ∃ b : Bool, e = .returned (.bool b) ∧ (b = true ↔ ∃ x ∈ wins l, ¬ (x < 15 ∧ Kn (LK sd) (vs S) x)) ∧ Below w.heap.size w w' := by
  obtain ⟨G, c, M, hv⟩ := h.va
  have e15 : (LK sd).length = 15 := rfl
  have := hidden_c W0.heap.size V G c M cb sc (LK sd) o so l S w hv hB hS (small_LK sd) (by simp) (by omega) (by rw [e15]; omega)
  exact this
theorem hid_nil {sd : List UInt8} (h : Ag W0 w V (LK sd)) {o : Option Addr} {cb : Nat} {l : List UInt8} (hB : By W0.heap.size w o cb l) :
    Calls Try.prog 26 #[.pointer (some ⟨V, 0, none⟩), .slice o l.length cb, .slice none 0 0] w fun e w' => ∃ b : Bool, e = .returned (.bool b) ∧ (b = false → ∀ x ∈ wins l, x ∈ K4) ∧ ((∀ x ∈ wins l, x = 6) → b = false) ∧ Below w.heap.size w w' := by
  refine (hid_k h hB (so := none) (S := []) ⟨fun x hx => absurd hx (by simp), fun j x hx => by simp at hx⟩ 0 (by simp) (by simp [sn])).mono ?_
  rintro e w' ⟨b, rfl, hb, hbel⟩
  refine ⟨b, rfl, ?_, ?_, hbel⟩
  · intro hf x hx
    by_cases hk : x < 15 ∧ Kn (LK sd) (vs []) x
    · exact kn_nil hk.2
    · rw [hf] at hb
      exact absurd (hb.2 ⟨x, hx, hk⟩) (by simp)
  · intro h6
    cases b with
    | false => rfl
    | true =>
      obtain ⟨x, hx, hk⟩ := hb.1 rfl
      have := h6 x hx
      subst this
      exact absurd ⟨by omega, kn_6⟩ hk
theorem by_old {o : Option Addr} {c : Nat} {l : List UInt8} (hS : Sl W0 o l) (h1 : l.length ≤ 140737488351232) (h2 : l.length ≤ c) (h3 : c ≤ 9223372036854775807) (hb : Below W0.heap.size W0 w) : By W0.heap.size w o c l := by
  refine ⟨hS.bel hb, by omega, h2, h3, fun hl => ?_⟩
  obtain ⟨b, off, e, hc⟩ := hS 0 (by cases l with | nil => exact absurd rfl hl | cons x t => simp)
  exact ⟨b, off, e, .inl (World.block_lt_of_cell? _ _ hc)⟩
end
/-- What somebody saw. -/
def sees (D8 D10 D18 D16 D23 : Nat) (oa ob : Option Addr) (ca cb : Nat) (la lb : List UInt8) : List (Option Addr × Nat × List UInt8) := [(some ⟨D8, 0, none⟩, 16, nameL 3), (some ⟨D10, 0, none⟩, 16, nameL 4), (oa, ca, la), (ob, cb, lb), (some ⟨D18, 0, none⟩, 16, nameL 8), (some ⟨D16, 0, none⟩, 16, nameL 6), (some ⟨D23, 0, none⟩, 16, nameL 14)]
/-- Its cells. -/
def seesC (D8 D10 D18 D16 D23 : Nat) (oa ob : Option Addr) (ca cb na nb : Nat) : List Value := [.slice (some ⟨D8, 0, none⟩) 16 16, .slice (some ⟨D10, 0, none⟩) 16 16, .slice oa na ca, .slice ob nb cb, .slice (some ⟨D18, 0, none⟩) 16 16, .slice (some ⟨D16, 0, none⟩) 16 16, .slice (some ⟨D23, 0, none⟩) 16 16]
/-- The boxes of the law, and the bytes that it was handed. -/
structure Kb (W0 : World) (D6 D8 D10 D18 D16 D23 : Nat) (oa ob : Option Addr) (ca cb : Nat) (la lb : List UInt8) (w : World) : Prop where
  b6 : w.heap[D6]? = some (.cells (hl (nameL 1)).toArray 29 (0, 0))
  b8 : w.heap[D8]? = some (.cells (hl (nameL 3)).toArray 29 (0, 0))
  b10 : w.heap[D10]? = some (.cells (hl (nameL 4)).toArray 29 (0, 0))
  b18 : w.heap[D18]? = some (.cells (hl (nameL 8)).toArray 29 (0, 0))
  b16 : w.heap[D16]? = some (.cells (hl (nameL 6)).toArray 29 (0, 0))
  b23 : w.heap[D23]? = some (.cells (hl (nameL 14)).toArray 29 (0, 0))
  ya : By W0.heap.size w oa ca la
  yb : By W0.heap.size w ob cb lb
  ka : ∀ x ∈ wins la, x ∈ K4
  kb : ∀ x ∈ wins lb, x ∈ K4
section
variable {W0 w w' : World} {D6 D8 D10 D18 D16 D23 : Nat} {oa ob : Option Addr} {ca cb : Nat} {la lb : List UInt8}
theorem Kb.go (h : Kb W0 D6 D8 D10 D18 D16 D23 oa ob ca cb la lb w) (hb : Below w.heap.size w w') : Kb W0 D6 D8 D10 D18 D16 D23 oa ob ca cb la lb w' :=
  ⟨heap_bel h.b6 hb, heap_bel h.b8 hb, heap_bel h.b10 hb, heap_bel h.b18 hb, heap_bel h.b16 hb, heap_bel h.b23 hb, h.ya.bel hb, h.yb.bel hb, h.ka, h.kb⟩
theorem Kb.se7 (h : Kb W0 D6 D8 D10 D18 D16 D23 oa ob ca cb la lb w) : ∀ x ∈ sees D8 D10 D18 D16 D23 oa ob ca cb la lb, By W0.heap.size w x.1 x.2.1 x.2.2 := by
  intro x hx
  simp only [sees, List.mem_cons, List.not_mem_nil, or_false] at hx
  rcases hx with rfl | rfl | rfl | rfl | rfl | rfl | rfl
  · exact by_box h.b8
  · exact by_box h.b10
  · exact h.ya
  · exact h.yb
  · exact by_box h.b18
  · exact by_box h.b16
  · exact by_box h.b23
theorem sees_at (j : Nat) (x : Option Addr × Nat × List UInt8) (hx : (sees D8 D10 D18 D16 D23 oa ob ca cb la lb)[j]? = some x) : (seesC D8 D10 D18 D16 D23 oa ob ca cb la.length lb.length)[j]? = some (.slice x.1 x.2.2.length x.2.1) := by
  have hj : j < 7 := (List.getElem?_eq_some_iff.1 hx).1
  rcases (show j = 0 ∨ j = 1 ∨ j = 2 ∨ j = 3 ∨ j = 4 ∨ j = 5 ∨ j = 6 by omega) with rfl | rfl | rfl | rfl | rfl | rfl | rfl <;> (simp [sees] at hx; subst hx; simp [seesC, nameL_len])
theorem Kb.cnt7 (h : Kb W0 D6 D8 D10 D18 D16 D23 oa ob ca cb la lb w) : (sn 15 (sees D8 D10 D18 D16 D23 oa ob ca cb la lb)).length ≤ 24000000000000 := by
  have h1 := cnt_wins la h.ka
  have h2 := cnt_wins lb h.kb
  have h3 := fN_le 15 (wins la)
  have h4 := fN_le 15 (wins lb)
  have h5 := h.ya.len
  have h6 := h.yb.len
  have q : ∀ k, k < 100 → (fN 15 (wins (nameL k))).length ≤ 1 := fun k hk => by have := fN_le 15 (wins (nameL k)); rw [nw k hk] at this ⊢; simpa using this
  have q1 := q 3 (by omega)
  have q2 := q 4 (by omega)
  have q3 := q 8 (by omega)
  have q4 := q 6 (by omega)
  have q5 := q 14 (by omega)
  simp only [sees, sn, List.flatMap_cons, List.flatMap_nil, List.length_append, List.length_nil]
  omega
/-- Who saw all that was said does not know them. -/
theorem hid_seen {V B D m sc : Nat} {cs : Array Value} (h : Kb W0 D6 D8 D10 D18 D16 D23 oa ob ca cb la lb w) (hA : Ag W0 w V (LK la)) (hB : w.heap[B]? = some (.cells cs 33 (0, 0))) (hcs : ∀ (j : Nat) (v : Value), (seesC D8 D10 D18 D16 D23 oa ob ca cb la.length lb.length)[j]? = some v → cs[j]? = some v) (hD : w.heap[D]? = some (.cells (hl (nameL m)).toArray 29 (0, 0))) (hm : m = 10 ∨ m = 11 ∨ m = 12 ∨ m = 5) :
    Calls Try.prog 26 #[.pointer (some ⟨V, 0, none⟩), .slice (some ⟨D, 0, none⟩) 16 16, .slice (some ⟨B, 0, none⟩) 7 sc] w fun e w' => e = .returned (.bool true) ∧ Below w.heap.size w w' := by
  have hse : Se W0.heap.size w (some ⟨B, 0, none⟩) (sees D8 D10 D18 D16 D23 oa ob ca cb la lb) := ⟨h.se7, fun j x hx => ⟨B, 0, cs, rfl, hB, by rw [Nat.zero_add]; exact hcs j _ (sees_at j x hx)⟩⟩
  have := hid_k hA (by_box hD) hse sc (by simp [sees]) (by have := h.cnt7; omega)
  rw [nameL_len] at this
  refine this.mono ?_
  rintro e w' ⟨b, rfl, hb, hbel⟩
  have : b = true := by
    refine hb.2 ⟨m, by rw [nw m (by omega)]; simp, fun hk => ?_⟩
    have := kn_seen h.ka h.kb hk.2
    rcases hm with rfl | rfl | rfl | rfl <;> exact absurd this (by decide)
  rw [this]
  exact ⟨rfl, hbel⟩
theorem hid_with {V B D m sc : Nat} {cs : Array Value} (h : Kb W0 D6 D8 D10 D18 D16 D23 oa ob ca cb la lb w) (hA : Ag W0 w V (LK la)) (hB : w.heap[B]? = some (.cells cs 33 (0, 0))) (hcs : ∀ (j : Nat) (v : Value), (seesC D8 D10 D18 D16 D23 oa ob ca cb la.length lb.length ++ [Value.slice (some ⟨D6, 0, none⟩) 16 16])[j]? = some v → cs[j]? = some v) (hD : w.heap[D]? = some (.cells (hl (nameL m)).toArray 29 (0, 0))) (hm : m = 10 ∨ m = 11 ∨ m = 12 ∨ m = 5) :
    Calls Try.prog 26 #[.pointer (some ⟨V, 0, none⟩), .slice (some ⟨D, 0, none⟩) 16 16, .slice (some ⟨B, 0, none⟩) 8 sc] w fun e w' => e = .returned (.bool false) ∧ Below w.heap.size w w' := by
  have hm100 : m < 100 := by omega
  have hse : Se W0.heap.size w (some ⟨B, 0, none⟩) (sees D8 D10 D18 D16 D23 oa ob ca cb la lb ++ [(some ⟨D6, 0, none⟩, 16, nameL 1)]) := by
    refine ⟨fun x hx => ?_, fun j x hx => ⟨B, 0, cs, rfl, hB, ?_⟩⟩
    · rcases List.mem_append.1 hx with hx | hx
      · exact h.se7 x hx
      · simp at hx; subst hx; exact by_box h.b6
    · rw [Nat.zero_add]
      refine hcs j _ ?_
      by_cases hj : j < 7
      · rw [List.getElem?_append_left (by simpa [sees] using hj)] at hx
        rw [List.getElem?_append_left (by simpa [seesC] using hj)]
        exact sees_at j x hx
      · have hl := (List.getElem?_eq_some_iff.1 hx).1
        simp [sees] at hl
        obtain rfl : j = 7 := by omega
        simp [sees] at hx
        subst hx
        simp [seesC, nameL_len]
  have hcn : (sn 15 (sees D8 D10 D18 D16 D23 oa ob ca cb la lb ++ [(some ⟨D6, 0, none⟩, 16, nameL 1)])).length ≤ 25000000000000 := by
    have h1 := h.cnt7
    have q : (fN 15 (wins (nameL 1))).length ≤ 1 := by have := fN_le 15 (wins (nameL 1)); rw [nw 1 (by omega)] at this ⊢; simpa using this
    have e : sn 15 (sees D8 D10 D18 D16 D23 oa ob ca cb la lb ++ [(some ⟨D6, 0, none⟩, 16, nameL 1)]) = sn 15 (sees D8 D10 D18 D16 D23 oa ob ca cb la lb) ++ fN 15 (wins (nameL 1)) := by simp [sn]
    rw [e, List.length_append]
    omega
  have := hid_k hA (by_box hD) hse sc (by simp [sees]) hcn
  rw [nameL_len] at this
  refine this.mono ?_
  rintro e w' ⟨b, rfl, hb, hbel⟩
  have : b = false := by
    cases b with
    | false => rfl
    | true =>
      obtain ⟨x, hx, hk⟩ := hb.1 rfl
      rw [nw m hm100] at hx
      have hxm : x = m := by simpa using hx
      rw [hxm] at hk
      obtain ⟨k1, k2, k3, k4⟩ := kn_a (sd := la) (S := vs (sees D8 D10 D18 D16 D23 oa ob ca cb la lb ++ [(some ⟨D6, 0, none⟩, 16, nameL 1)])) (by simp [vs, sees])
      exfalso
      apply hk
      rcases hm with rfl | rfl | rfl | rfl
      · exact ⟨by omega, k2⟩
      · exact ⟨by omega, k3⟩
      · exact ⟨by omega, k4⟩
      · exact ⟨by omega, k1⟩
  rw [this]
  exact ⟨rfl, hbel⟩
end
theorem inf33 : ∃ i, Try.prog.info? 33 = some i ∧ i.zero = some (.slice none 0 0) ∧ i.size = 1 ∧ i.bytes = 24 := by
  have : (Try.prog.info? 33).map (fun i => (i.zero, i.size, i.bytes)) = some (some (.slice none 0 0), 1, 24) := by kernel_rfl
  cases h : Try.prog.info? 33 with
  | none => rw [h] at this; cases this
  | some i =>
    rw [h] at this
    simp only [Option.map_some, Option.some.injEq, Prod.mk.injEq] at this
    exact ⟨i, rfl, this.1, this.2.1, this.2.2⟩
theorem fill7 (o0 o1 o2 o3 o4 o5 o6 : Option Addr) (n0 n1 n2 n3 n4 n5 n6 c0 c1 c2 c3 c4 c5 c6 : Nat) : Instr.fill (fun i => some (i * 1, 1)) ((Array.range (7 * 1)).map ((Value.slice none 0 0).cells[· % (Value.slice none 0 0).cells.size]!)) [(0, .slice o0 n0 c0), (1, .slice o1 n1 c1), (2, .slice o2 n2 c2), (3, .slice o3 n3 c3), (4, .slice o4 n4 c4), (5, .slice o5 n5 c5), (6, .slice o6 n6 c6)] = some (List.toArray [.slice o0 n0 c0, .slice o1 n1 c1, .slice o2 n2 c2, .slice o3 n3 c3, .slice o4 n4 c4, .slice o5 n5 c5, .slice o6 n6 c6]) := by kernel_rfl
theorem wp_bs7 {o : Oper} {a : Act} {w : World} {K : Act → World → Prop} {Q : Exit → Act → World → Prop} (x0 x1 x2 x3 x4 x5 x6 : Operand) (ho : o.op = .buildSlice 58 7 #[(0, x0), (1, x1), (2, x2), (3, x3), (4, x4), (5, x5), (6, x6)]) (o0 o1 o2 o3 o4 o5 o6 : Option Addr) (n0 n1 n2 n3 n4 n5 n6 c0 c1 c2 c3 c4 c5 c6 : Nat)
    (h0 : a.eval x0 = .slice o0 n0 c0) (h1 : a.eval x1 = .slice o1 n1 c1) (h2 : a.eval x2 = .slice o2 n2 c2) (h3 : a.eval x3 = .slice o3 n3 c3) (h4 : a.eval x4 = .slice o4 n4 c4) (h5 : a.eval x5 = .slice o5 n5 c5) (h6 : a.eval x6 = .slice o6 n6 c6)
    (h : K (a.put o.dst (.slice (some ⟨w.heap.size, 0, none⟩) 7 7)) (w.alloc (.cells (List.toArray [.slice o0 n0 c0, .slice o1 n1 c1, .slice o2 n2 c2, .slice o3 n3 c3, .slice o4 n4 c4, .slice o5 n5 c5, .slice o6 n6 c6]) 33))) : o.wp Try.prog a w K Q := by
  obtain ⟨i, hi, hz, hs, hby⟩ := inf33
  refine wp_buildSlice 58 33 7 _ ho _ i (.slice none 0 0) Try.underlying58 hi hz (by rw [hs]; omega) (by rw [hs]; omega) ?_ h
  rw [hs]
  simp only [List.map_toArray, List.map_cons, List.map_nil, h0, h1, h2, h3, h4, h5, h6]
  exact fill7 _ _ _ _ _ _ _ _ _ _ _ _ _ _ _ _ _ _ _ _ _
/-- One more that is seen. -/
theorem app_see {w : World} {B k : Nat} {Z : List Value} {v : Value} (hZ : Z.length = 7) (hB : w.heap[B]? = some (.cells Z.toArray 33 (0, 0))) (hk : w.heap[k]? = some (.cells #[v] 33 (0, 0))) :
    ∃ c' w' cs, (Builtin.append_ #[58, 58] 58 #[.slice (some ⟨B, 0, none⟩) 7 7, .slice (some ⟨k, 0, none⟩) 1 1]).run Try.prog w = .ok (.slice (some ⟨w.heap.size, 0, none⟩) 8 c') w' ∧ Below w.heap.size w w' ∧ w'.heap[w.heap.size]? = some (.cells cs 33 (0, 0)) ∧ ∀ (j : Nat) (u : Value), (Z ++ [v])[j]? = some u → cs[j]? = some u := by
  obtain ⟨i, hi, hz, hs, hby⟩ := inf33
  have hr := run_append_grow (P := Try.prog) w 58 58 33 i (.slice none 0 0) Try.underlying58 hi hz ⟨B, 0, none⟩ 7 7 Z (by rw [hs, hZ]) (fun j u hu => by
    rw [Addr.add_mid]
    simp only [World.cell?, hB, Nat.zero_add]
    simpa using hu) ⟨k, 0, none⟩ 1 1 [v] (by rw [hs]; rfl) (fun j u hu => by
    rw [Addr.add_mid]
    simp only [World.cell?, hk, Nat.zero_add]
    simpa using hu) (by omega) (by omega) (growslice_fits (by omega) (by rw [hby]; omega))
  refine ⟨_, _, _, hr, (bel_drew w).trans ((bel1 w.drew _).mono (Nat.le_refl _)), heap_alloc_new w.drew _, fun j u hu => ?_⟩
  have hj : j < 8 := by have := (List.getElem?_eq_some_iff.1 hu).1; simp [hZ] at this; omega
  rw [Array.getElem?_append_left (by simp [hZ]; omega)]
  simpa using hu
theorem fill4 {A B C D : List UInt8} (hA : A.length = 16) (hB : B.length = 16) (hC : C.length = 16) (hD : D.length = 16) : Instr.fill (fun i => some (i * 16, 16)) ((Array.range (4 * 16)).map ((hv z16).cells[· % (hv z16).cells.size]!)) [(0, hv A), (1, hv B), (2, hv C), (3, hv D)] = some (hrow [A, B, C, D]).toArray := by
  obtain ⟨a0, a1, a2, a3, a4, a5, a6, a7, a8, a9, a10, a11, a12, a13, a14, a15, rfl⟩ := ls16 hA
  obtain ⟨b0, b1, b2, b3, b4, b5, b6, b7, b8, b9, b10, b11, b12, b13, b14, b15, rfl⟩ := ls16 hB
  obtain ⟨c0, c1, c2, c3, c4, c5, c6, c7, c8, c9, c10, c11, c12, c13, c14, c15, rfl⟩ := ls16 hC
  obtain ⟨d0, d1, d2, d3, d4, d5, d6, d7, d8, d9, d10, d11, d12, d13, d14, d15, rfl⟩ := ls16 hD
  kernel_rfl
theorem wbs4 {ops : Array Oper} {rest : List Oper} {o : Oper} {a : Act} {w : World} {Q : Exit → Act → World → Prop} (hg : o.guard = none) (x y z u : Operand) (ho : o.op = .buildSlice 31 4 #[(0, x), (1, y), (2, z), (3, u)]) (A B C D : List UInt8) (hx : a.eval x = hv A) (hy : a.eval y = hv B) (hz' : a.eval z = hv C) (hu : a.eval u = hv D) (hA : A.length = 16) (hB : B.length = 16) (hC : C.length = 16) (hD : D.length = 16)
    (h : wpList Try.prog ops Q rest (a.put o.dst (.slice (some ⟨w.heap.size, 0, none⟩) 4 4)) (w.alloc (.cells (hrow [A, B, C, D]).toArray 29))) : wpList Try.prog ops Q (o :: rest) a w := by
  obtain ⟨i, hi, hz, hs, hby⟩ := inf29
  refine wpList_buildSlice hg 31 29 4 _ ho _ i (hv z16) Try.underlying31 hi hz (by rw [hs]; omega) (by rw [hs]; omega) ?_ h
  rw [hs]
  simp only [List.map_toArray, List.map_cons, List.map_nil, hx, hy, hz', hu]
  exact fill4 hA hB hC hD
theorem arr_k {w : World} {C i : Nat} {Hs : List (List UInt8)} {H : List UInt8} (h16 : H16 Hs) (h : w.heap[C]? = some (.cells (hrow Hs).toArray 29 (0, 0))) (hi : Hs[i]? = some H) : w.rangeAt C (i * 16) (hl H) := by
  intro j v hv
  have hj : j < 16 := by have := (List.getElem?_eq_some_iff.1 hv).1; rw [hl_len, h16 H (List.mem_of_getElem? hi)] at this; exact this
  have e : (hrow Hs)[i * 16 + j]? = some v := (hrow_at h16 hi hj).trans hv
  unfold World.cell?
  simp only [h]
  simpa using e
theorem hl_inj : ∀ {a b : List UInt8}, hl a = hl b → a = b
  | [], [], _ => rfl
  | [], y :: b, h => by simp [hl] at h
  | x :: a, [], h => by simp [hl] at h
  | x :: a, y :: b, h => by
    simp only [hl, List.map_cons, List.cons.injEq, Value.int.injEq, true_and] at h
    obtain ⟨h1, h2⟩ := h
    have e : x = y := UInt8.toNat_inj.1 (by omega)
    rw [e, hl_inj h2]
theorem box_inj {i j : Nat} (hi : i < 1000) (hj : j < 1000) (h : (some (Obj.cells (hl (nameL i)).toArray 29 (0, 0)) : Option Obj) = some (.cells (hl (nameL j)).toArray 29 (0, 0))) : i = j := by
  injection h with h
  injection h with h _ _
  have := congrArg Array.toList h
  exact name_inj (by omega) (by omega) (hl_inj this)
/-- The four that are looked at. -/
def four (j : Nat) : Nat := match j with
  | 0 => 10
  | 1 => 11
  | 2 => 12
  | _ => 5
theorem four_at (j : Nat) (hj : j < 4) : ([nameL 10, nameL 11, nameL 12, nameL 5] : List (List UInt8))[j]? = some (nameL (four j)) := by
  rcases (show j = 0 ∨ j = 1 ∨ j = 2 ∨ j = 3 by omega) with rfl | rfl | rfl | rfl <;> rfl
theorem four_in (j : Nat) : four j = 10 ∨ four j = 11 ∨ four j = 12 ∨ four j = 5 := by
  unfold four
  split <;> simp
theorem four16 : H16 [nameL 10, nameL 11, nameL 12, nameL 5] := fun H hH => by
  simp only [List.mem_cons, List.not_mem_nil, or_false] at hH
  rcases hH with rfl | rfl | rfl | rfl <;> exact nameL_len _
end Go.Proofs.Ytpjoaimbaboleaa
