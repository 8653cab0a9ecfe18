/- Rows of handles. -/
import Derived.Test.YtpjoaimbaboleaaDv
import Derived.Great.BuildSlice
namespace Go.Proofs.Ytpjoaimbaboleaa
open Go.RowKit Go.Shelf Go.Lib
set_option linter.unusedVariables false

/-- The cells of handles. -/
def hrow (Hs : List (List UInt8)) : List Value := Hs.flatMap hl
/-- Handles all. -/
def H16 (Hs : List (List UInt8)) : Prop := ∀ H ∈ Hs, H.length = 16
theorem hrow_app (A B : List (List UInt8)) : hrow (A ++ B) = hrow A ++ hrow B := by simp [hrow]
theorem hrow_one (H : List UInt8) : hrow [H] = hl H := by simp [hrow]
theorem hrow_len {Hs : List (List UInt8)} (h : H16 Hs) : (hrow Hs).length = Hs.length * 16 := by
  induction Hs with
  | nil => rfl
  | cons H t ih =>
    have e : hrow (H :: t) = hl H ++ hrow t := by simp [hrow]
    rw [e, List.length_append, hl_len, h H (by simp), ih fun x hx => h x (by simp [hx]), List.length_cons]
    omega
theorem hrow_at {Hs : List (List UInt8)} (h : H16 Hs) {i j : Nat} {H : List UInt8} (hi : Hs[i]? = some H) (hj : j < 16) : (hrow Hs)[i * 16 + j]? = (hl H)[j]? := by
  induction Hs generalizing i with
  | nil => simp at hi
  | cons G t ih =>
    have e : hrow (G :: t) = hl G ++ hrow t := by simp [hrow]
    have hG := h G (by simp)
    rw [e]
    cases i with
    | zero =>
      simp at hi
      subst hi
      rw [Nat.zero_mul, Nat.zero_add, List.getElem?_append_left (by rw [hl_len, hG]; exact hj)]
    | succ i =>
      rw [List.getElem?_append_right (by rw [hl_len, hG]; omega), hl_len, hG, show (i + 1) * 16 + j - 16 = i * 16 + j by omega]
      exact ih (fun x hx => h x (by simp [hx])) (by simpa using hi)
theorem H16.app {A : List (List UInt8)} {H : List UInt8} (h : H16 A) (hH : H.length = 16) : H16 (A ++ [H]) := fun x hx => by
  simp only [List.mem_append, List.mem_singleton] at hx
  rcases hx with hx | rfl
  · exact h x hx
  · exact hH
/-- A row of handles as it lies. -/
theorem hr_at {w : World} {n₀ g c i : Nat} {Hs : List (List UInt8)} {H : List UInt8} (h16 : H16 Hs) (h : w.ownsRow n₀ 29 16 (.slice (some ⟨g, 0, none⟩) Hs.length c) Hs.length (hrow Hs)) (hi : Hs[i]? = some H) : w.rangeAt g (i * 16) (hl H) := by
  have hl16 := h16 H (List.mem_of_getElem? hi)
  have hlt := (List.getElem?_eq_some_iff.1 hi).1
  obtain ⟨_, h | ⟨g', cap, cur, e, h1, h2, h3, h4, h5, h6⟩⟩ := h
  · cases h.1
  · injection e with e1 e2 e3
    injection e1 with e1
    injection e1 with e1
    subst e1
    subst e3
    intro j v hv
    have hj : j < 16 := by have := (List.getElem?_eq_some_iff.1 hv).1; rw [hl_len, hl16] at this; exact this
    have e : (hrow Hs)[i * 16 + j]? = some v := (hrow_at h16 hi hj).trans hv
    rw [← h6, List.getElem?_take_of_lt (by omega)] at e
    unfold World.cell?
    simp only [h2]
    simpa using e
theorem hr_own {w : World} {n₀ g c : Nat} {n : Nat} {xs : List Value} (h : w.ownsRow n₀ 29 16 (.slice (some ⟨g, 0, none⟩) n c) n xs) : n ≤ c ∧ c ≤ maxLen ∧ n₀ ≤ g ∧ ∃ cs, w.heap[g]? = some (.cells cs 29 (0, 0)) := by
  obtain ⟨_, h | ⟨g', cap, cur, e, h1, h2, h3, h4, h5, h6⟩⟩ := h
  · cases h.1
  · injection e with e1 e2 e3
    injection e1 with e1
    injection e1 with e1
    subst e1
    subst e3
    exact ⟨h3, h4, h1, cur, h2⟩
theorem inf29 : ∃ i, Try.prog.info? 29 = some i ∧ i.zero = some (hv z16) ∧ i.size = 16 ∧ i.bytes = 16 := by
  have : (Try.prog.info? 29).map (fun i => (i.zero, i.size, i.bytes)) = some (some (hv z16), 16, 16) := by kernel_rfl
  cases h : Try.prog.info? 29 with
  | none => rw [h] at this; cases this
  | some i =>
    rw [h] at this
    simp only [Option.map_some, Option.some.injEq, Prod.mk.injEq] at this
    exact ⟨i, rfl, this.1, this.2.1, this.2.2⟩
/-- append of one handle. -/
theorem hr_app {w : World} {n₀ c b : Nat} {o : Option Addr} {Hs : List (List UInt8)} {H : List UInt8} (h : w.ownsRow n₀ 29 16 (.slice o Hs.length c) Hs.length (hrow Hs)) (hH : H.length = 16) (hb : w.heap[b]? = some (.cells (hl H).toArray 29 (0, 0))) (hn : n₀ ≤ w.heap.size) (hle : Hs.length ≤ 1000000) :
    ∃ g c' w', (Builtin.append_ #[31, 31] 31 #[.slice o Hs.length c, .slice (some ⟨b, 0, none⟩) 1 1]).run Try.prog w = .ok (.slice (some ⟨g, 0, none⟩) (Hs.length + 1) c') w' ∧ w'.ownsRow n₀ 29 16 (.slice (some ⟨g, 0, none⟩) (Hs.length + 1) c') (Hs.length + 1) (hrow (Hs ++ [H])) ∧ Kp 29 w w' ∧ Below n₀ w w' ∧ (∀ k, k < w.heap.size → (∀ x, o = some x → x.block ≠ k) → w'.heap[k]? = w.heap[k]?) ∧ ((∃ x, o = some x ∧ x.block = g) ∨ g = w.heap.size) := by
  obtain ⟨i, hi, hz, hs, hby⟩ := inf29
  have hcell : ∀ j u, (hl H)[j]? = some u → w.cell? ((⟨b, 0, none⟩ : Addr).add j) = some u := by
    intro j u hu
    rw [Addr.add_mid]
    simp only [World.cell?, hb, Nat.zero_add]
    simpa using hu
  obtain ⟨v', w', hr, h2, h3, h4, h5⟩ := run_append_own_at (P := Try.prog) w n₀ 31 31 29 i (hv z16) 16 16 Try.underlying31 hi hz hs hby rfl (by decide) _ _ _ h ⟨b, 0, none⟩ 1 1 (hl H) (by simp [hH]) hcell (hl_oc H) (by unfold maxLen; omega) (by omega) hn
  obtain ⟨k1, k2⟩ := kp_grown h h3
  have hcopy := h2
  obtain ⟨_, hx | ⟨g', cap', cur', rfl, p1, p2, p3, p4, p5, p6⟩⟩ := hcopy
  · omega
  · refine ⟨g', cap', w', hr, by rw [hrow_app, hrow_one]; exact h2, k1, k2 hn, fun k hk hx => h3.block k hk ?_, ?_⟩
    · intro e
      cases o with
      | none => simp [Value.ownBlock] at e
      | some x => simp [Value.ownBlock] at e; exact hx x rfl (by omega)
    · cases o with
      | none => right; simpa [Value.ownBlock] using h5
      | some x =>
        rcases h5 with h5 | h5
        · left; exact ⟨x, rfl, by simpa [Value.ownBlock] using h5.symm⟩
        · right; simpa [Value.ownBlock] using h5
theorem fill1 {A : List UInt8} (hA : A.length = 16) : Instr.fill (fun i => some (i * 16, 16)) ((Array.range (1 * 16)).map ((hv z16).cells[· % (hv z16).cells.size]!)) [(0, hv A)] = some (hl A).toArray := by
  obtain ⟨a0, a1, a2, a3, a4, a5, a6, a7, a8, a9, a10, a11, a12, a13, a14, a15, rfl⟩ := ls16 hA
  kernel_rfl
theorem fill3 {A B C : List UInt8} (hA : A.length = 16) (hB : B.length = 16) (hC : C.length = 16) : Instr.fill (fun i => some (i * 16, 16)) ((Array.range (3 * 16)).map ((hv z16).cells[· % (hv z16).cells.size]!)) [(0, hv A), (1, hv B), (2, hv C)] = some (hrow [A, B, C]).toArray := by
  obtain ⟨a0, a1, a2, a3, a4, a5, a6, a7, a8, a9, a10, a11, a12, a13, a14, a15, rfl⟩ := ls16 hA
  obtain ⟨b0, b1, b2, b3, b4, b5, b6, b7, b8, b9, b10, b11, b12, b13, b14, b15, rfl⟩ := ls16 hB
  obtain ⟨c0, c1, c2, c3, c4, c5, c6, c7, c8, c9, c10, c11, c12, c13, c14, c15, rfl⟩ := ls16 hC
  kernel_rfl
section
variable {ops : Array Oper} {rest : List Oper} {o : Oper} {a : Act} {w : World} {Q : Exit → Act → World → Prop}
theorem wbs1 (hg : o.guard = none) (x : Operand) (ho : o.op = .buildSlice 31 1 #[(0, x)]) (A : List UInt8) (hx : a.eval x = hv A) (hA : A.length = 16)
    (h : wpList Try.prog ops Q rest (a.put o.dst (.slice (some ⟨w.heap.size, 0, none⟩) 1 1)) (w.alloc (.cells (hl A).toArray 29))) : wpList Try.prog ops Q (o :: rest) a w := by
  obtain ⟨i, hi, hz, hs, hby⟩ := inf29
  refine wpList_buildSlice hg 31 29 1 _ ho _ i (hv z16) Try.underlying31 hi hz (by rw [hs]; omega) (by rw [hs]; omega) ?_ h
  rw [hs]
  simp only [List.map_toArray, List.map_cons, List.map_nil, hx]
  exact fill1 hA
theorem wbs3 (hg : o.guard = none) (x y z : Operand) (ho : o.op = .buildSlice 31 3 #[(0, x), (1, y), (2, z)]) (A B C : List UInt8) (hx : a.eval x = hv A) (hy : a.eval y = hv B) (hz' : a.eval z = hv C) (hA : A.length = 16) (hB : B.length = 16) (hC : C.length = 16)
    (h : wpList Try.prog ops Q rest (a.put o.dst (.slice (some ⟨w.heap.size, 0, none⟩) 3 3)) (w.alloc (.cells (hrow [A, B, C]).toArray 29))) : wpList Try.prog ops Q (o :: rest) a w := by
  obtain ⟨i, hi, hz, hs, hby⟩ := inf29
  refine wpList_buildSlice hg 31 29 3 _ ho _ i (hv z16) Try.underlying31 hi hz (by rw [hs]; omega) (by rw [hs]; omega) ?_ h
  rw [hs]
  simp only [List.map_toArray, List.map_cons, List.map_nil, hx, hy, hz']
  exact fill3 hA hB hC
end
/-- A term that is new, derived. -/
theorem dv_new {L : List Tm} (hL : L.length ≤ 1000000) {k : Nat} (hk : k < L.length) {S : ByteArray} {l : List UInt8} (hn : (⟨2, k, 0, S, ⟨l.toArray⟩⟩ : Tm) ∉ L) : dv L (nameL k) S l = (nameL L.length, 0, L ++ [⟨2, k, 0, S, ⟨l.toArray⟩⟩]) := by
  rw [dv_name hL hk, ix_new hn, ad_new hn]
end Go.Proofs.Ytpjoaimbaboleaa
