/- vault: mind.learn: its steps. -/
import Derived.Test.YtpjoaimbaboleaaAl
namespace Go.Proofs.Ytpjoaimbaboleaa
open Go.RowKit Go.Shelf Go.Lib
set_option linter.unusedVariables false

section
variable {n₀ : Nat} {w w' : World} {Mb V La Be Kb Xb xc N : Nat} {A B : List Nat} {K : List Bool} {X : List Nat}
theorem Mi.cx (h : Mi n₀ w Mb V La Be Kb Xb xc N A B K X) {i n : Nat} (hi : X[i]? = some n) : w.cell? ⟨Xb, i, none⟩ = some (.int .i64 (n : Int)) := by
  obtain ⟨R, r1, _⟩ := h.hX
  have hl := (List.getElem?_eq_some_iff.1 hi).1
  have : (il X ++ R)[i]? = some (.int .i64 (n : Int)) := by rw [List.getElem?_append_left (by simpa using hl)]; exact il_at hi
  simp only [World.cell?, r1]
  simpa using this
theorem Mi.fr4 (h : Mi n₀ w Mb V La Be Kb Xb xc N A B K X) : w.frozen? ⟨Mb, 4, none⟩ = false := by simp [World.frozen?, h.hM]
/-- The last one is taken. -/
theorem Mi.pop {n : Nat} (h : Mi n₀ w Mb V La Be Kb Xb xc N A B K (X ++ [n])) : Mi n₀ (w.setCell ⟨Mb, 4, none⟩ (.slice (some ⟨Xb, 0, none⟩) X.length xc)) Mb V La Be Kb Xb xc N A B K X ∧ Mc Mb Kb Xb w Xb (w.setCell ⟨Mb, 4, none⟩ (.slice (some ⟨Xb, 0, none⟩) X.length xc)) := by
  rw [setCell_eq_setRow w Mb 4 _ 106 (0, 0) _ h.hM]
  obtain ⟨R, r1, r2, r3⟩ := h.hX
  have o : ∀ k, k ≠ Mb → (w.setRow Mb (#[.pointer (some ⟨V, 0, none⟩), .slice (some ⟨La, 0, none⟩) N N, .slice (some ⟨Be, 0, none⟩) (2 * N) (2 * N), .slice (some ⟨Kb, 0, none⟩) N N, .slice (some ⟨Xb, 0, none⟩) (X ++ [n]).length xc].setIfInBounds 4 (.slice (some ⟨Xb, 0, none⟩) X.length xc))).heap[k]? = w.heap[k]? := fun k h1 => setRow_other _ _ _ _ h1
  refine ⟨⟨?_, (o La h.ma.symm).trans h.hA, h.lA, (o Be h.mb.symm).trans h.hB, h.lB, (o Kb h.mk'.symm).trans h.hK, h.lK, ⟨[.int .i64 (n : Int)] ++ R, ?_, ?_, r3⟩, h.ax, h.bx, h.nM, h.nK, h.nX⟩, ⟨⟨rfl, rfl, rfl, by simp, fun k hk hx => o k (fun e => hx (.inl e))⟩, .inl rfl⟩⟩
  · rw [setRow_heap w Mb _ _ 106 (0, 0) h.hM]; simp
  · rw [o Xb h.mx.symm, r1, il_append, List.append_assoc]; rfl
  · simp at r2 ⊢; omega
/-- One becomes known. -/
theorem Mi.know {n : Nat} (h : Mi n₀ w Mb V La Be Kb Xb xc N A B K X) : Mi n₀ (w.setCell ⟨Kb, n, none⟩ (.bool true)) Mb V La Be Kb Xb xc N A B (K.set n true) X ∧ Mc Mb Kb Xb w Xb (w.setCell ⟨Kb, n, none⟩ (.bool true)) := by
  rw [setCell_eq_setRow w Kb n _ 4 (0, 0) _ h.hK]
  obtain ⟨R, r1, r2, r3⟩ := h.hX
  have o : ∀ k, k ≠ Kb → (w.setRow Kb ((bl K).toArray.setIfInBounds n (.bool true))).heap[k]? = w.heap[k]? := fun k h1 => setRow_other _ _ _ _ h1
  refine ⟨⟨(o Mb h.mk').trans h.hM, (o La h.ka.symm).trans h.hA, h.lA, (o Be h.kb.symm).trans h.hB, h.lB, ?_, by simp [h.lK], ⟨R, (o Xb h.kx.symm).trans r1, r2, r3⟩, h.ax, h.bx, h.nM, h.nK, h.nX⟩, ⟨⟨rfl, rfl, rfl, by simp, fun k hk hx => o k (fun e => hx (.inr (.inl e)))⟩, .inl rfl⟩⟩
  rw [setRow_heap w Kb _ _ 4 (0, 0) h.hK]
  simp [bl, List.map_set]
end
/-- A vault is none of a mind's blocks. -/
theorem Va.mc {n₀ V G c M Mb La Be Kb Xb Xb' xc N : Nat} {A B X : List Nat} {K : List Bool} {L : List Tm} {w w' : World} (h : Va n₀ w V G c M L) (hm : Mi n₀ w Mb V La Be Kb Xb xc N A B K X) (hc : Mc Mb Kb Xb w Xb' w') : Va n₀ w' V G c M L := by
  obtain ⟨R, r1, _⟩ := h.hG
  obtain ⟨es, ck, m1, _⟩ := h.hM
  have q1 := hc.other hm h.hV (by decide) (by decide) (by decide)
  have q2 := hc.other hm r1 (by decide) (by decide) (by decide)
  have q3 := hc.rec' hm m1 rfl
  exact h.keep (q1.trans h.hV.symm) (q2.trans r1.symm) (q3.trans m1.symm)
/-- '[]byte(s)'. -/
theorem conv_string (n₀ : Nat) (s : ByteArray) (hs : s.size ≤ 1000000) (W : World) : ∃ cp W', (convert 9 33 (.string s)).run Try.prog W = .ok (.slice (some ⟨W.heap.size, 0, none⟩) s.size cp) W' ∧ Below W.heap.size W W' ∧ By n₀ W' (some ⟨W.heap.size, 0, none⟩) cp s.data.toList := by
  have hlen : s.data.toList.length = s.size := by simp
  refine ⟨_, _, Go.Lib.run_convert_string_bytes W 9 33 5 s Try.underlying9 Try.underlying33 Try.underlying5, ?_, ?_⟩
  · exact ⟨rfl, rfl, rfl, by rw [bytesWorld_size]; omega, fun k hk => bytesWorld_at_old W 5 s k hk⟩
  · have hge := grownCap_ge W s.size 0 5
    have hle := grownCap_le_maxLen W s.size 0 5 (by unfold maxLen; omega)
    refine ⟨fun j hj => ⟨W.heap.size, 0, rfl, ?_⟩, by omega, by omega, by unfold maxLen at hle; omega, fun _ => ⟨W.heap.size, 0, rfl, .inr ⟨_, 5, _, bytesWorld_at_new W 5 s, .inl rfl⟩⟩⟩
    rw [Nat.zero_add, bytesWorld_cell W 5 s j (by omega)]
    simp only [List.getD_eq_getElem?_getD, List.getElem?_eq_getElem hj, Option.getD_some]
theorem cell1_of {w : World} {b : Nat} {v : Value} {t : Nat} {fr : Nat × Nat} (h : w.heap[b]? = some (.cells #[v] t fr)) : w.cell? ⟨b, 0, none⟩ = some v := by
  unfold World.cell?
  simp only [h]
  rfl
/-- What one link puts aside. -/
def psh (L : List Tm) (K : List Bool) (N l : Nat) : List Nat :=
  match L[l / 2]? with
  | some s => if s.kd = 6 then (if K[l / 2]? = some true then fN N (wins s.by'.data.toList) else []) else [l / 2]
  | none => []
/-- What the term itself puts aside. -/
def own (K : List Bool) (N : Nat) (t : Tm) : List Nat := if t.kd = 6 ∧ K[t.of']? = some true then fN N (wins t.by'.data.toList) else []
def Small (L : List Tm) : Prop := ∀ (i : Nat) (t : Tm), L[i]? = some t → t.kd = 6 → t.by'.size ≤ 65536
theorem fw_le (N : Nat) (s : ByteArray) (h : s.size ≤ 65536) : (fN N (wins s.data.toList)).length ≤ 65536 := by
  have h1 := fN_le N (wins s.data.toList)
  have h2 := wins_le s.data.toList
  have h3 : s.data.toList.length = s.size := by simp
  omega
theorem psh_le {L : List Tm} (hS : Small L) (K : List Bool) (N l : Nat) : (psh L K N l).length ≤ 65537 := by
  unfold psh
  split
  · rename_i s hs
    split
    · rename_i h6
      split
      · have := fw_le N s.by' (hS _ s hs h6); omega
      · simp
    · simp
  · simp
theorem flat_le {L : List Tm} (hS : Small L) (K : List Bool) (N : Nat) (C : List Nat) : (C.flatMap (psh L K N)).length ≤ C.length * 65537 := by
  induction C with
  | nil => simp
  | cons x C ih =>
    have := psh_le hS K N x
    rw [List.flatMap_cons, List.length_append, List.length_cons]
    omega
theorem own_le {L : List Tm} (hS : Small L) (K : List Bool) (N : Nat) {i : Nat} {t : Tm} (ht : L[i]? = some t) : (own K N t).length ≤ 65536 := by
  unfold own
  split
  · rename_i h
    exact fw_le N t.by' (hS i t ht h.1)
  · simp
theorem flat_take (L : List Tm) (K : List Bool) (N : Nat) (C : List Nat) {k l : Nat} (h : C[k]? = some l) : (C.take (k + 1)).flatMap (psh L K N) = (C.take k).flatMap (psh L K N) ++ psh L K N l := by
  have hl := (List.getElem?_eq_some_iff.1 h).1
  have e : C[k] = l := (List.getElem?_eq_some_iff.1 h).2
  rw [List.take_succ_eq_append_getElem hl, List.flatMap_append, e]
  simp
set_option maxRecDepth 100000 in
set_option maxHeartbeats 2000000 in
/-- learn of one that is known. -/
theorem learn_skip (n₀ Mb V La Be Kb Xb xc N n : Nat) (A B : List Nat) (K : List Bool) (X : List Nat) (w : World) (h : Mi n₀ w Mb V La Be Kb Xb xc N A B K (X ++ [n])) (hk : K[n]? = some true) (hX : X.length ≤ 28000000000000) (hN : N ≤ 1000000) :
    Calls Try.prog 60 #[.pointer (some ⟨Mb, 0, none⟩)] w fun e w' => e = .returned (.tuple #[]) ∧ Mi n₀ w' Mb V La Be Kb Xb xc N A B K X ∧ Mc Mb Kb Xb w Xb w' := by
  have hb0 := bel1 w (.cells #[.pointer (some ⟨Mb, 0, none⟩)] 110)
  have hBx := heap_alloc_new w (.cells #[.pointer (some ⟨Mb, 0, none⟩)] 110)
  have h0 := h.bel hb0
  have lM := h.lM
  have hnN : n < N := by rw [← h.lK]; exact (List.getElem?_eq_some_iff.1 hk).1
  have e1 : IntKind.i64.wrap (((X ++ [n]).length : Int) - 1) = (X.length : Int) := by rw [IntKind.wrap_i64]; simp; omega
  have HBX : Aside _ := hBx
  have HM0 : Aside (Mc Mb Kb Xb w Xb (w.alloc (.cells #[.pointer (some ⟨Mb, 0, none⟩)] 110))) := Mc.of_bel hb0
  have HI0 : Aside _ := h0
  have hlx : ((X ++ [n]).length : Int) = (X.length : Int) + 1 := by simp
  have hle1 : (X.length : Int) < ((X ++ [n]).length : Int) := by omega
  have hle2 : (X.length : Int) ≤ (xc : Int) := by obtain ⟨R, _, r2, _⟩ := h.hX; simp at r2; omega
  have hle0 : (0 : Int) ≤ (X.length : Int) := by omega
  obtain ⟨N1, hN1⟩ : ∃ N1, (X ++ [n]).length = N1 := ⟨_, rfl⟩
  rw [hN1] at e1 hle1
  obtain ⟨NX, hNX⟩ : ∃ NX, X.length = NX := ⟨_, rfl⟩
  have HNX : Aside _ := hNX
  have HN1 : Aside _ := hN1
  rw [hNX] at e1 hle1 hle2 hle0
  have i0 : (0 : Int) ≤ (n : Int) := by omega
  have i1 : (n : Int) < (N : Int) := by omega
  have mixed : Try.prog.follows Departure.mixedOrders = true := by kernel_rfl
  clear h0 hb0 hBx hlx hN1 hNX
  clear h
  go_enter Try.func60, Try.ntmps60
  go_wp2_with fail
  generalize w.alloc (.cells #[.pointer (some ⟨Mb, 0, none⟩)] 110) = W1 at *
  go_cut [2] from 6 to 17 (fun s2 wx => s2 = .int .i64 (n : Int) ∧ Aside (Mi n₀ wx Mb V La Be Kb Xb xc N A B K (X ++ [n]) ∧ Mc Mb Kb Xb W1 Xb wx))
  case first =>
    have HSS : Aside (W1.drew.cell? ⟨w.heap.size, 0, none⟩ = some (.pointer (some ⟨Mb, 0, none⟩)) ∧ W1.drew.cell? ⟨Mb, 4, none⟩ = some (.slice (some ⟨Xb, 0, none⟩) N1 xc) ∧ W1.drew.cell? ⟨Xb, NX, none⟩ = some (.int .i64 (n : Int))) := ⟨cell1_of (show W1.drew.heap[w.heap.size]? = _ from HBX.out), by rw [← HN1.out]; exact HI0.out.c4, HI0.out.cx (by rw [← HNX.out]; simp)⟩
    go_region_held3 (fun w' => w'.cell? ⟨w.heap.size, 0, none⟩ = some (.pointer (some ⟨Mb, 0, none⟩)) ∧ w'.cell? ⟨Mb, 4, none⟩ = some (.slice (some ⟨Xb, 0, none⟩) N1 xc) ∧ w'.cell? ⟨Xb, NX, none⟩ = some (.int .i64 (n : Int))) (exact HSS.out) (fail)
    go_wp2_with fail
    go_meet
    exact ⟨rfl, HI0.out.bel (bel_drew W1), Mc.of_bel (bel_drew W1)⟩
  case rest =>
  obtain ⟨rfl, HWC⟩ := hcut
  obtain ⟨a1, a2⟩ := HWC.out
  have b1 := a2.other HI0.out HBX.out (by decide) (by decide) (by decide)
  have s1 := cell1_of b1
  have s2 := a1.c4
  rw [HN1.out] at s2
  have f4 := a1.fr4
  have HP : Aside (Mi n₀ (wc.setCell ⟨Mb, 4, none⟩ (.slice (some ⟨Xb, 0, none⟩) NX xc)) Mb V La Be Kb Xb xc N A B K X ∧ Mc Mb Kb Xb W1 Xb (wc.setCell ⟨Mb, 4, none⟩ (.slice (some ⟨Xb, 0, none⟩) NX xc))) := by
    obtain ⟨p1, p2⟩ := a1.pop
    rw [HNX.out] at p1 p2
    exact ⟨p1, a2.trans p2⟩
  clear HWC a1 a2 b1
  go_wp2_with fail
  go_cut [] from 18 to 31 (fun wx => Aside (Mi n₀ wx Mb V La Be Kb Xb xc N A B K X ∧ Mc Mb Kb Xb W1 Xb wx))
  case first =>
    go_region
    all_goals go_wp2_with fail
    all_goals go_meet
    all_goals exact ⟨HP.out.1.bel (bel_drew _), HP.out.2.trans (Mc.of_bel (bel_drew _))⟩
  case rest =>
  rename_i wc0
  clear s1 s2 f4 HP
  obtain ⟨a1, a2⟩ := hcut.out
  have b1 := a2.other HI0.out HBX.out (by decide) (by decide) (by decide)
  have s1 := cell1_of b1
  have s3 := a1.c3
  have sk := a1.kn hk
  have HE : Aside _ := And.intro a1 (HM0.out.trans a2)
  clear a1 a2 b1 hcut
  go_wp2
  refine bodyPost_ret (results_none rfl _ _ _) rfl ?_
  exact ⟨rfl, HE.out⟩
end Go.Proofs.Ytpjoaimbaboleaa
