/- ProtectSteps: what stands there while the law goes on. -/
import Derived.Test.YtdklkofnekacdaaPs
namespace Go.Proofs.Ytdklkofnekacdaa
open Go.RowKit Go.Shelf Go.Lib
set_option linter.unusedVariables false

/-- The keys behind i steps. -/
def kk (i : Nat) : List UInt8 := nameL (8 + 3 * i) ++ nameL (9 + 3 * i) ++ nameL 10
theorem kk_len (i : Nat) : (kk i).length = 48 := by simp [kk, nameL_len]
def kr (i : Nat) : List Value := (List.range i).flatMap fun j => hl (kk j)
theorem kr_succ (i : Nat) : kr (i + 1) = kr i ++ hl (kk i) := by simp [kr, List.range_succ]
theorem kr_len (i : Nat) : (kr i).length = i * 48 := by
  induction i with
  | zero => rfl
  | succ i ih => rw [kr_succ, List.length_append, ih, hl_len, kk_len]; omega
theorem kr_at {i j x : Nat} (hj : j < i) (hx : x < 48) : (kr i)[j * 48 + x]? = (hl (kk j))[x]? := by
  induction i with
  | zero => omega
  | succ i ih =>
    rw [kr_succ]
    by_cases e : j < i
    · rw [List.getElem?_append_left (by rw [kr_len]; omega)]; exact ih e
    · obtain rfl : j = i := by omega
      rw [List.getElem?_append_right (by rw [kr_len]; omega), kr_len, show j * 48 + x - j * 48 = x by omega]
theorem range_split {w : World} {b o : Nat} {X Y : List Value} (h : w.rangeAt b o (X ++ Y)) : w.rangeAt b o X ∧ w.rangeAt b (o + X.length) Y := by
  constructor
  · intro j v hv
    exact h j v (by rw [List.getElem?_append_left (List.getElem?_eq_some_iff.1 hv).1]; exact hv)
  · intro j v hv
    have := h (X.length + j) v (by rw [List.getElem?_append_right (by omega), show X.length + j - X.length = j by omega]; exact hv)
    rw [← Nat.add_assoc] at this
    exact this
theorem split48 {w : World} {b o : Nat} {A B C : List UInt8} (hA : A.length = 16) (hB : B.length = 16) (h : w.rangeAt b o (hl (A ++ B ++ C))) : w.rangeAt b o (hl A) ∧ w.rangeAt b (o + 16) (hl B) ∧ w.rangeAt b (o + 32) (hl C) := by
  rw [hl_app, hl_app] at h
  obtain ⟨h1, h2⟩ := range_split h
  obtain ⟨h3, h4⟩ := range_split h1
  rw [hl_len, hA] at h4
  rw [List.length_append, hl_len, hl_len, hA, hB] at h2
  exact ⟨h3, h4, h2⟩
theorem box48 {w : World} {g : Nat} {K : List UInt8} (h : w.heap[g]? = some (.cells (hl K).toArray 33 (0, 0))) : w.rangeAt g 0 (hl K) := by
  intro j v hv
  unfold World.cell?
  simp only [h, Nat.zero_add]
  simpa using hv
theorem row33 {w : World} {n₀ g k c j : Nat} (h : w.ownsRow n₀ 33 48 (.slice (some ⟨g, 0, none⟩) k c) k (kr k)) (hj : j < k) : w.rangeAt g (j * 48) (hl (kk j)) := by
  obtain ⟨_, h | ⟨g', cap, cur, e, h1, h2, h3, h4, h5, h6⟩⟩ := h
  · cases h.1
  · injection e with e1 e2 e3
    injection e1 with e1
    injection e1 with e1
    subst e1
    intro x v hv
    have hx : x < 48 := by have := (List.getElem?_eq_some_iff.1 hv).1; rw [hl_len, kk_len] at this; exact this
    have e : (kr k)[j * 48 + x]? = some v := (kr_at hj hx).trans hv
    rw [← h6, List.getElem?_take_of_lt (by omega)] at e
    unfold World.cell?
    simp only [h2]
    simpa using e
theorem inf33 : ∃ i, Try.prog.info? 33 = some i ∧ i.zero = some (hv z48) ∧ i.size = 48 ∧ i.bytes = 48 := by
  have : (Try.prog.info? 33).map (fun i => (i.zero, i.size, i.bytes)) = some (some (hv z48), 48, 48) := by kernel_rfl
  cases h : Try.prog.info? 33 with
  | none => rw [h] at this; cases this
  | some i =>
    rw [h] at this
    simp only [Option.map_some, Option.some.injEq, Prod.mk.injEq] at this
    exact ⟨i, rfl, this.1, this.2.1, this.2.2⟩
/-- The vault, the keys, and those before. -/
structure Pq (W0 w : World) (V B i : Nat) (l : List UInt8) (o : Option Addr) (c n : Nat) : Prop where
  ag : Ag W0 w V (LL l i)
  bx : w.heap[B]? = some (.cells (hl (kk i)).toArray 33 (0, 0))
  row : w.ownsRow W0.heap.size 33 48 (.slice o n c) n (kr n)
section
variable {W0 w w' : World} {V B i n c : Nat} {l : List UInt8} {o : Option Addr}
theorem Pq.bel (h : Pq W0 w V B i l o c n) (hb : Below w.heap.size w w') : Pq W0 w' V B i l o c n :=
  ⟨h.ag.go hb, heap_bel h.bx hb, own_stay h.row fun g cs hg => heap_bel hg hb⟩
theorem Pq.by1 (h : Pq W0 w V B i l o c n) : By W0.heap.size w (some ⟨B, 16, none⟩) 16 (nameL (9 + 3 * i)) ∧ By W0.heap.size w (some ⟨B, 0, none⟩) 16 (nameL (8 + 3 * i)) := by
  have hr := split48 (nameL_len _) (nameL_len _) (box48 h.bx)
  constructor
  · refine ⟨fun j hj => ⟨B, 16, rfl, ?_⟩, by rw [nameL_len]; omega, by rw [nameL_len]; omega, by omega, fun _ => ⟨B, 16, rfl, .inr ⟨_, 33, _, h.bx, .inr (.inr rfl)⟩⟩⟩
    exact hr.2.1 j _ (hl_get hj)
  · refine ⟨fun j hj => ⟨B, 0, rfl, ?_⟩, by rw [nameL_len]; omega, by rw [nameL_len]; omega, by omega, fun _ => ⟨B, 0, rfl, .inr ⟨_, 33, _, h.bx, .inr (.inr rfl)⟩⟩⟩
    exact hr.1 j _ (hl_get hj)
theorem bdLL (l : List UInt8) {i a : Nat} (hi : i ≤ 20) (ha : a ≤ 2000000) : a + 1 + (LL l i).length * (200000 + 2 * (LL l i).length * 65537) ≤ 4398046511104 := by
  have hl : (LL l i).length ≤ 80 := by rw [LL_len]; omega
  have := Nat.mul_le_mul hl (show 200000 + 2 * (LL l i).length * 65537 ≤ 200000 + 2 * 80 * 65537 by omega)
  omega
theorem Pq.hidA (h : Pq W0 w V B i l o c n) (hi : i ≤ 20) : Calls Try.prog 19 #[.pointer (some ⟨V, 0, none⟩), .slice (some ⟨B, 16, none⟩) 16 16, .slice none 0 0] w fun e w' => e = .returned (.bool true) ∧ Below w.heap.size w w' := by
  obtain ⟨G, c', M, hv⟩ := h.ag.va
  have := hidden_c W0.heap.size V G c' M 16 0 (LL l i) (some ⟨B, 16, none⟩) none (nameL (9 + 3 * i)) [] w hv h.by1.1 ⟨fun x hx => (by cases hx), fun j x hx => (by simp at hx)⟩ (LL_small l i) (by rw [LL_len]; omega) (by simp) (bdLL l hi (by simp [tot]))
  rw [nameL_len] at this
  refine this.mono ?_
  rintro e w' ⟨b, rfl, hb, hbe⟩
  have : b = true := hb.2 ⟨9 + 3 * i, by rw [wins_name _ (by omega)]; simp, fun h1 => ks_no l i h1.2⟩
  subst this
  exact ⟨rfl, hbe⟩
theorem Pq.hidB (h : Pq W0 w V B i l o c n) (hi : i ≤ 20) (k : Nat) (hk : w.heap[k]? = some (.cells #[.slice (some ⟨B, 0, none⟩) 16 16] 22 (0, 0))) : Calls Try.prog 19 #[.pointer (some ⟨V, 0, none⟩), .slice (some ⟨B, 16, none⟩) 16 16, .slice (some ⟨k, 0, none⟩) 1 1] w fun e w' => e = .returned (.bool false) ∧ Below w.heap.size w w' := by
  obtain ⟨G, c', M, hv⟩ := h.ag.va
  have hse : Se W0.heap.size w (some ⟨k, 0, none⟩) [(some ⟨B, 0, none⟩, 16, nameL (8 + 3 * i))] := by
    constructor
    · intro x hx
      simp only [List.mem_cons, List.not_mem_nil, or_false] at hx
      subst hx
      exact h.by1.2
    · intro jj x hx
      have hl := (List.getElem?_eq_some_iff.1 hx).1
      simp at hl
      subst hl
      simp at hx; subst hx; exact ⟨k, 0, _, rfl, hk, by simp [nameL_len]⟩
  have := hidden_c W0.heap.size V G c' M 16 1 (LL l i) (some ⟨B, 16, none⟩) (some ⟨k, 0, none⟩) (nameL (9 + 3 * i)) _ w hv h.by1.1 hse (LL_small l i) (by rw [LL_len]; omega) (by simp) (bdLL l hi (by simp [tot, nameL_len]))
  rw [nameL_len] at this
  refine this.mono ?_
  rintro e w' ⟨b, rfl, hb, hbe⟩
  have : b = false := by
    cases b with
    | false => rfl
    | true =>
      obtain ⟨x, hx, hn⟩ := hb.1 rfl
      rw [wins_name _ (by omega)] at hx
      simp at hx
      subst hx
      exact absurd ⟨by rw [LL_len]; omega, ks_yes l i (by omega)⟩ hn
  subst this
  exact ⟨rfl, hbe⟩
theorem Pq.next (h : Pq W0 w V B i l o c n) (hi : i ≤ 20) : Calls Try.prog 11 #[.pointer (some ⟨V, 0, none⟩), hv (kk i)] w fun e w' => e = .returned (.tuple #[hv (kk (i + 1)), .int .i64 0]) ∧ Ag W0 w' V (LL l (i + 1)) ∧ Kc w w' := by
  have hl1 : (LL l i ++ [dt (8 + 3 * i) bNext]).length = 12 + 3 * i := by rw [List.length_append, LL_len]; simp; omega
  have e1 : LL l i ++ [dt (8 + 3 * i) bNext] ++ [dt (11 + 3 * i) bKey, dt (11 + 3 * i) bMask] = LL l (i + 1) := by rw [LL_succ]; simp [Lq]
  have := next_c (L1 := LL l i ++ [dt (8 + 3 * i) bNext]) (L2 := LL l (i + 1)) h.ag (8 + 3 * i) (11 + 3 * i) (nameL (9 + 3 * i)) (nameL 10) (nameL (11 + 3 * i)) (nameL (12 + 3 * i)) (nameL (13 + 3 * i)) (nameL_len _) (nameL_len _) (nameL_len _) (nameL_len _) (nameL_len _) (fun X hX => by
    have := hX.der (by rw [LL_len]; omega) (8 + 3 * i) (by rw [LL_len]; omega) bNext (by decide) (by decide) none 0 [] (fun j hj => absurd hj (by simp)) (ni_next l i)
    rw [LL_len] at this
    exact this) (fun X hX => by
    have := make_c hX (by omega) (11 + 3 * i) (by omega) (ni_of l i bKey lb2) (ni_of l i bMask lb3)
    rw [hl1, e1, show 12 + 3 * i + 1 = 13 + 3 * i by omega] at this
    exact this)
  unfold kk
  rw [show 8 + 3 * (i + 1) = 11 + 3 * i by omega, show 9 + 3 * (i + 1) = 12 + 3 * i by omega]
  exact this
theorem Pq.push {b : Nat} (h : Pq W0 w V B i l o c n) (hn : n ≤ 100) (he : n = i) (hb : w.heap[b]? = some (.cells (hl (kk i)).toArray 33 (0, 0))) (hne : ∀ g, o = some ⟨g, 0, none⟩ → g ≠ B) (hnB : B < w.heap.size) :
    ∃ g c' w', (Builtin.append_ #[53, 53] 53 #[.slice o n c, .slice (some ⟨b, 0, none⟩) 1 1]).run Try.prog w = .ok (.slice (some ⟨g, 0, none⟩) (n + 1) c') w' ∧ Pq W0 w' V B i l (some ⟨g, 0, none⟩) c' (n + 1) ∧ (g ≠ B) := by
  obtain ⟨ii, hi, hz, hs, hby⟩ := inf33
  have hcell : ∀ j u, (hl (kk i))[j]? = some u → w.cell? ((⟨b, 0, none⟩ : Addr).add j) = some u := by
    intro j u hu
    rw [Addr.add_mid]
    simp only [World.cell?, hb, Nat.zero_add]
    simpa using hu
  obtain ⟨v', w', hr, h1, h2, h4, h5⟩ := run_append_own_at (P := Try.prog) w W0.heap.size 53 53 33 ii (hv z48) 48 48 (by kernel_rfl) hi hz hs hby (by simp [Value.cells, z48_len]) (by omega) _ n (kr n) h.row ⟨b, 0, none⟩ 1 1 (hl (kk i)) (by rw [hl_len, kk_len]) hcell (hl_oc _) (by unfold maxLen; omega) (by omega) h.ag.bel.size
  obtain ⟨k1, k2⟩ := kp_grown h.row h2
  have hcopy := h1
  obtain ⟨_, hx | ⟨g, cap, cur, rfl, p1, p2, p3⟩⟩ := hcopy
  · omega
  · have e1 : kr n ++ hl (kk i) = kr (n + 1) := by rw [he, kr_succ]
    rw [e1] at h1
    have hgB : g ≠ B := by
      rcases h5 with h5 | h5
      · simp only [Value.ownBlock] at h5
        cases o with
        | none => cases h5
        | some a =>
          simp at h5
          intro e
          obtain ⟨_, hx | ⟨g2, cap2, cur2, e2, _⟩⟩ := h.row
          · simp at hx
          · injection e2 with e2
            injection e2 with e2
            exact hne g2 (by rw [e2]) (by rw [e2] at h5; simp at h5; omega)
      · simp [Value.ownBlock] at h5; omega
    refine ⟨g, cap, w', hr, ⟨h.ag.kp (k2 h.ag.bel.size) k1 (by decide) (by decide), ?_, h1⟩, hgB⟩
    refine (h2.block B hnB ?_).trans h.bx
    intro e
    cases o with
    | none => cases e
    | some a =>
      obtain ⟨_, hx | ⟨g2, cap2, cur2, e2, _⟩⟩ := h.row
      · simp at hx
      · injection e2 with e2
        injection e2 with e2
        exact hne g2 (by rw [e2]) (by rw [e2] at e; simp [Value.ownBlock] at e; omega)
end
end Go.Proofs.Ytdklkofnekacdaa
