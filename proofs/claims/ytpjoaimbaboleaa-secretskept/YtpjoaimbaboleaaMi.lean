/- vault: a mind as it lies; a number put aside. -/
import Derived.Test.YtpjoaimbaboleaaIt
import Derived.Deep.DeepAppendWide
namespace Go.Proofs.Ytpjoaimbaboleaa
open Go.RowKit Go.Shelf Go.Lib
set_option linter.unusedVariables false

/-- Numbers as cells. -/
def il (X : List Nat) : List Value := X.map fun (n : Nat) => Value.int .i64 (n : Int)
def bl (K : List Bool) : List Value := K.map .bool
@[simp] theorem il_len (X : List Nat) : (il X).length = X.length := by simp [il]
@[simp] theorem bl_len (X : List Bool) : (bl X).length = X.length := by simp [bl]
theorem il_append (X Y : List Nat) : il (X ++ Y) = il X ++ il Y := by simp [il]
theorem il_at {X : List Nat} {i n : Nat} (h : X[i]? = some n) : (il X)[i]? = some (.int .i64 (n : Int)) := by simp [il, h]
theorem bl_at {X : List Bool} {i : Nat} {n : Bool} (h : X[i]? = some n) : (bl X)[i]? = some (.bool n) := by simp [bl, h]

/-- A mind as it lies. -/
structure Mi (n₀ : Nat) (w : World) (Mb V La Be Kb Xb xc N : Nat) (A B : List Nat) (K : List Bool) (X : List Nat) : Prop where
  hM : w.heap[Mb]? = some (.cells #[.pointer (some ⟨V, 0, none⟩), .slice (some ⟨La, 0, none⟩) N N, .slice (some ⟨Be, 0, none⟩) (2 * N) (2 * N), .slice (some ⟨Kb, 0, none⟩) N N, .slice (some ⟨Xb, 0, none⟩) X.length xc] 106 (0, 0))
  hA : w.heap[La]? = some (.cells (il A).toArray 3 (0, 0))
  lA : A.length = N
  hB : w.heap[Be]? = some (.cells (il B).toArray 3 (0, 0))
  lB : B.length = 2 * N
  hK : w.heap[Kb]? = some (.cells (bl K).toArray 4 (0, 0))
  lK : K.length = N
  hX : ∃ R, w.heap[Xb]? = some (.cells (il X ++ R).toArray 3 (0, 0)) ∧ X.length + R.length = xc ∧ xc ≤ maxLen
  ax : Xb ≠ La
  bx : Xb ≠ Be
  nM : n₀ ≤ Mb
  nK : n₀ ≤ Kb
  nX : n₀ ≤ Xb
/-- What a mind leaves alone. -/
def Mc (Mb Kb Xb : Nat) (w : World) (Xb' : Nat) (w' : World) : Prop := Chg (fun k => k = Mb ∨ k = Kb ∨ k = Xb) w w' ∧ (Xb' = Xb ∨ w.heap.size ≤ Xb')
theorem Mc.trans {Mb Kb X0 X1 X2 : Nat} {a b c : World} (h : Mc Mb Kb X0 a X1 b) (k : Mc Mb Kb X1 b X2 c) : Mc Mb Kb X0 a X2 c := by
  obtain ⟨h1, h2⟩ := h
  obtain ⟨k1, k2⟩ := k
  have hs := h1.2.2.2.1
  refine ⟨⟨k1.1.trans h1.1, k1.2.1.trans h1.2.1, k1.2.2.1.trans h1.2.2.1, Nat.le_trans hs k1.2.2.2.1, fun j hj hx => ?_⟩, ?_⟩
  · refine (k1.2.2.2.2 j (by omega) ?_).trans (h1.2.2.2.2 j hj hx)
    rintro (e | e | e)
    · exact hx (.inl e)
    · exact hx (.inr (.inl e))
    · rcases h2 with h2 | h2
      · exact hx (.inr (.inr (e.trans h2)))
      · omega
  · rcases k2 with k2 | k2
    · rw [k2]; exact h2
    · exact .inr (by omega)
theorem Mc.of_bel {Mb Kb Xb : Nat} {w w' : World} (h : Below w.heap.size w w') : Mc Mb Kb Xb w Xb w' := ⟨⟨h.os, h.tape, h.output, h.size, fun k hk _ => h.block k hk⟩, .inl rfl⟩
section
variable {n₀ : Nat} {w w' : World} {Mb V La Be Kb Xb xc N : Nat} {A B : List Nat} {K : List Bool} {X : List Nat}
theorem Mi.keep (h : Mi n₀ w Mb V La Be Kb Xb xc N A B K X) (k : ∀ (j : Nat) (o : Obj), w.heap[j]? = some o → o.isCells = true → w'.heap[j]? = some o) : Mi n₀ w' Mb V La Be Kb Xb xc N A B K X := by
  obtain ⟨R, r1, r2⟩ := h.hX
  exact ⟨k _ _ h.hM rfl, k _ _ h.hA rfl, h.lA, k _ _ h.hB rfl, h.lB, k _ _ h.hK rfl, h.lK, ⟨R, k _ _ r1 rfl, r2⟩, h.ax, h.bx, h.nM, h.nK, h.nX⟩
theorem Mi.bel (h : Mi n₀ w Mb V La Be Kb Xb xc N A B K X) (hb : Below w.heap.size w w') : Mi n₀ w' Mb V La Be Kb Xb xc N A B K X := h.keep fun j o hj _ => heap_bel hj hb
theorem Mi.put (h : Mi n₀ w Mb V La Be Kb Xb xc N A B K X) {l : Nat} {o o' : Obj} (hl : w.heap[l]? = some o) (ho : o.isCells = false) : Mi n₀ (w.putObj l o') Mb V La Be Kb Xb xc N A B K X := h.keep fun j o2 hj hc => (World.putObj_heap_other (by rintro rfl; rw [hl] at hj; injection hj with hj; subst hj; rw [ho] at hc; cases hc)).trans hj
theorem Mi.lM (h : Mi n₀ w Mb V La Be Kb Xb xc N A B K X) : Mb < w.heap.size := (Array.getElem?_eq_some_iff.1 h.hM).1
theorem Mi.lK' (h : Mi n₀ w Mb V La Be Kb Xb xc N A B K X) : Kb < w.heap.size := (Array.getElem?_eq_some_iff.1 h.hK).1
theorem Mi.lA' (h : Mi n₀ w Mb V La Be Kb Xb xc N A B K X) : La < w.heap.size := (Array.getElem?_eq_some_iff.1 h.hA).1
theorem Mi.lB' (h : Mi n₀ w Mb V La Be Kb Xb xc N A B K X) : Be < w.heap.size := (Array.getElem?_eq_some_iff.1 h.hB).1
theorem Mi.lX' (h : Mi n₀ w Mb V La Be Kb Xb xc N A B K X) : Xb < w.heap.size := by obtain ⟨R, r1, _⟩ := h.hX; exact (Array.getElem?_eq_some_iff.1 r1).1
theorem Mi.mx (h : Mi n₀ w Mb V La Be Kb Xb xc N A B K X) : Mb ≠ Xb := by rintro rfl; obtain ⟨R, r1, _⟩ := h.hX; have := h.hM.symm.trans r1; simp at this
theorem Mi.kx (h : Mi n₀ w Mb V La Be Kb Xb xc N A B K X) : Kb ≠ Xb := by rintro rfl; obtain ⟨R, r1, _⟩ := h.hX; have := h.hK.symm.trans r1; simp at this
theorem Mi.ma (h : Mi n₀ w Mb V La Be Kb Xb xc N A B K X) : Mb ≠ La := by rintro rfl; have := h.hM.symm.trans h.hA; simp at this
theorem Mi.mb (h : Mi n₀ w Mb V La Be Kb Xb xc N A B K X) : Mb ≠ Be := by rintro rfl; have := h.hM.symm.trans h.hB; simp at this
theorem Mi.mk' (h : Mi n₀ w Mb V La Be Kb Xb xc N A B K X) : Mb ≠ Kb := by rintro rfl; have := h.hM.symm.trans h.hK; simp at this
theorem Mi.ka (h : Mi n₀ w Mb V La Be Kb Xb xc N A B K X) : Kb ≠ La := by rintro rfl; have := h.hK.symm.trans h.hA; simp at this
theorem Mi.kb (h : Mi n₀ w Mb V La Be Kb Xb xc N A B K X) : Kb ≠ Be := by rintro rfl; have := h.hK.symm.trans h.hB; simp at this
theorem Mi.c0 (h : Mi n₀ w Mb V La Be Kb Xb xc N A B K X) : w.cell? ⟨Mb, 0, none⟩ = some (.pointer (some ⟨V, 0, none⟩)) := by simp [World.cell?, h.hM]
theorem Mi.c1 (h : Mi n₀ w Mb V La Be Kb Xb xc N A B K X) : w.cell? ⟨Mb, 1, none⟩ = some (.slice (some ⟨La, 0, none⟩) N N) := by simp [World.cell?, h.hM]
theorem Mi.c2 (h : Mi n₀ w Mb V La Be Kb Xb xc N A B K X) : w.cell? ⟨Mb, 2, none⟩ = some (.slice (some ⟨Be, 0, none⟩) (2 * N) (2 * N)) := by simp [World.cell?, h.hM]
theorem Mi.c3 (h : Mi n₀ w Mb V La Be Kb Xb xc N A B K X) : w.cell? ⟨Mb, 3, none⟩ = some (.slice (some ⟨Kb, 0, none⟩) N N) := by simp [World.cell?, h.hM]
theorem Mi.c4 (h : Mi n₀ w Mb V La Be Kb Xb xc N A B K X) : w.cell? ⟨Mb, 4, none⟩ = some (.slice (some ⟨Xb, 0, none⟩) X.length xc) := by simp [World.cell?, h.hM]
theorem Mi.kn (h : Mi n₀ w Mb V La Be Kb Xb xc N A B K X) {i : Nat} {b : Bool} (hi : K[i]? = some b) : w.cell? ⟨Kb, i, none⟩ = some (.bool b) := by
  simp only [World.cell?, h.hK]
  simpa using bl_at hi
theorem inf3 : ∃ i, Try.prog.info? 3 = some i ∧ i.zero = some (.int .i64 0) ∧ i.size = 1 ∧ i.bytes = 8 := by
  have : (Try.prog.info? 3).map (fun i => (i.zero, i.size, i.bytes)) = some (some (.int .i64 0), 1, 8) := by kernel_rfl
  cases h : Try.prog.info? 3 with
  | none => rw [h] at this; cases this
  | some i =>
    rw [h] at this
    simp only [Option.map_some, Option.some.injEq, Prod.mk.injEq] at this
    exact ⟨i, rfl, this.1, this.2.1, this.2.2⟩
/-- append to a row that lies there, as far as a slice can grow. -/
theorem run_at_wide {w : World} {base t ty e : TypeId} {i : TypeInfo} {z : Value} {size bytes : Nat} (ht : Try.prog.underlying t = some (.slice e)) (hi : Try.prog.info? e = some i) (hz : i.zero = some z)
    (hsize : i.size = size) (hby : i.bytes = bytes) (hzs : z.cells.size = size) (hsz : 0 < size) {g n cap : Nat} {xs : List Value} (hown : w.ownsRow base e size (.slice (some ⟨g, 0, none⟩) n cap) n xs)
    (a : Addr) (m c : Nat) (news : List Value) (hl : news.length = m * size) (hnews : ∀ j u, news[j]? = some u → w.cell? (a.add j) = some u) (h1 : ∀ u ∈ news, u.oneCell' = true)
    (h63 : n + m ≤ maxLen) (hbytes : ((n + m) + (n + m) / 4 + 192) * bytes ≤ 281474976710656) (hbase : base ≤ w.heap.size) :
    ∃ v' w', (Builtin.append_ #[t, t] ty #[.slice (some ⟨g, 0, none⟩) n cap, .slice (some a) m c]).run Try.prog w = .ok v' w' ∧ w'.ownsRow base e size v' (n + m) (xs ++ news) ∧ w.grownBy w' (some g) ∧ True ∧ (v'.ownBlock = some g ∨ v'.ownBlock = some w.heap.size) := by
  obtain ⟨v', w', hr, h2, h3, h4⟩ := run_append_own_wide (P := Try.prog) w base t ty e i z size bytes ht hi hz hsize hby hzs hsz _ n xs hown a m c news hl hnews h1 h63 hbytes hbase
  refine ⟨v', w', hr, h2, h3, trivial, ?_⟩
  have hown' := hown
  obtain ⟨hx, h | ⟨g', cap2, cur, e1, q1, q2, q3, q4, q5, q6⟩⟩ := hown
  · cases h.1
  · injection e1 with e1 _ e2
    injection e1 with e1
    injection e1 with e1
    subst e1
    subst e2
    by_cases hroom : n + m ≤ cap
    · rw [← hsize] at hl q5
      have hr2 := run_append_room (P := Try.prog) w t ty e i ht hi g n cap cur q2 a m c news hl hnews h1 hroom (by rw [hl, q5, ← Nat.add_mul]; exact Nat.mul_le_mul_right _ hroom)
      rw [hr2] at hr
      injection hr with hr1 _
      left
      rw [← hr1]
      rfl
    · have holds : ∀ j u, xs[j]? = some u → w.cell? ((⟨g, 0, none⟩ : Addr).add j) = some u := World.ownsRow.cells (g := g) (v := .slice (some ⟨g, 0, none⟩) n cap) hown' rfl
      have hr2 := run_append_grow (P := Try.prog) w t ty e i z ht hi hz ⟨g, 0, none⟩ n cap xs (by rw [hsize]; exact hx) holds a m c news (by rw [hsize]; exact hl) hnews (by omega) (by simp only [maxLen] at h63; omega) (growslice_fits_wide (by omega) (by rw [hby]; exact hbytes))
      rw [hr2] at hr
      injection hr with hr1 _
      right
      rw [← hr1]
      rfl
/-- A number put aside. -/
theorem Mi.push (h : Mi n₀ w Mb V La Be Kb Xb xc N A B K X) (n : Nat) (hl : X.length ≤ 28000000000000) :
    ∃ Xb' xc' w3, (Builtin.append_ #[101, 101] 101 #[.slice (some ⟨Xb, 0, none⟩) X.length xc, .slice (some ⟨w.heap.size, 0, none⟩) 1 1]).run Try.prog (w.alloc (.cells #[.int .i64 (n : Int)] 3)) = .ok (.slice (some ⟨Xb', 0, none⟩) (X.length + 1) xc') w3 ∧
      w3.cell? ⟨Mb, 4, none⟩ = some (.slice (some ⟨Xb, 0, none⟩) X.length xc) ∧ w3.frozen? ⟨Mb, 4, none⟩ = false ∧ (∀ k, k < w.heap.size → k ≠ Xb → w3.heap[k]? = w.heap[k]?) ∧
      Mi n₀ (w3.setCell ⟨Mb, 4, none⟩ (.slice (some ⟨Xb', 0, none⟩) (X.length + 1) xc')) Mb V La Be Kb Xb' xc' N A B K (X ++ [n]) ∧ Mc Mb Kb Xb w Xb' (w3.setCell ⟨Mb, 4, none⟩ (.slice (some ⟨Xb', 0, none⟩) (X.length + 1) xc')) := by
  obtain ⟨i, hi, hz, hs, hb⟩ := inf3
  have hb1 := bel1 w (.cells #[.int .i64 (n : Int)] 3)
  have h1 := h.bel hb1
  obtain ⟨R, hR, hlen, hc⟩ := h1.hX
  have hown : (w.alloc (.cells #[.int .i64 (n : Int)] 3)).ownsRow 0 3 1 (.slice (some ⟨Xb, 0, none⟩) X.length xc) X.length (il X) := by
    refine ⟨by simp, .inr ⟨Xb, xc, _, rfl, Nat.zero_le _, hR, by omega, hc, ?_, ?_⟩⟩
    · simp only [List.size_toArray, List.length_append, il_len]; omega
    · show ((il X ++ R).toArray.toList).take (X.length * 1) = il X
      rw [Nat.mul_one, ← il_len X]
      exact List.take_left
  have hcell : ∀ j u, [Value.int .i64 (n : Int)][j]? = some u → (w.alloc (.cells #[.int .i64 (n : Int)] 3)).cell? ((⟨w.heap.size, 0, none⟩ : Addr).add j) = some u := by
    intro j u hu
    rw [Addr.add_mid]
    simp only [World.cell?, heap_alloc_new w (.cells #[.int .i64 (n : Int)] 3), Nat.zero_add]
    simpa using hu
  obtain ⟨v', w3, hrun, hown', hgr, hnil, hat⟩ := run_at_wide (w := w.alloc (.cells #[.int .i64 (n : Int)] 3)) (base := 0) (t := 101) (ty := 101) Try.underlying101 hi hz hs hb rfl (by decide) hown ⟨w.heap.size, 0, none⟩ 1 1 [.int .i64 (n : Int)] rfl hcell (by simp [Value.oneCell']) (by unfold maxLen; omega) (by omega) (Nat.zero_le _)
  obtain ⟨hl2, hcase⟩ := hown'
  rcases hcase with ⟨_, e⟩ | ⟨Xb', xc', cur, rfl, k1, k2, k3, k4, k5, k6⟩
  · omega
  · have hat' : Xb' = Xb ∨ Xb' = w.heap.size + 1 := by
      rcases hat with e | e
      · simp [Value.ownBlock] at e; exact .inl e
      · simp [Value.ownBlock] at e; exact .inr e
    have hge : Xb' = Xb ∨ w.heap.size ≤ Xb' := by rcases hat' with e | e; exact .inl e; exact .inr (by omega)
    have lM := h.lM
    have lA := h.lA'
    have lB := h.lB'
    have lK := h.lK'
    have keep3 : ∀ k, k < w.heap.size → k ≠ Xb → w3.heap[k]? = w.heap[k]? := fun k hk hx => (hgr.block k (by simp; omega) (by intro e; exact hx (by simpa using e))).trans (hb1.block k hk)
    have hM3 := (keep3 Mb lM h.mx).trans h.hM
    have nm : Xb' ≠ Mb := by rcases hat' with e | e; rw [e]; exact h.mx.symm; omega
    refine ⟨Xb', xc', w3, hrun, by simp [World.cell?, hM3], by simp [World.frozen?, hM3], keep3, ?_, ?_⟩
    · rw [setCell_eq_setRow w3 Mb 4 _ 106 (0, 0) _ hM3]
      have o : ∀ k, k < w.heap.size → k ≠ Mb → k ≠ Xb → (w3.setRow Mb (#[.pointer (some ⟨V, 0, none⟩), .slice (some ⟨La, 0, none⟩) N N, .slice (some ⟨Be, 0, none⟩) (2 * N) (2 * N), .slice (some ⟨Kb, 0, none⟩) N N, .slice (some ⟨Xb, 0, none⟩) X.length xc].setIfInBounds 4 (.slice (some ⟨Xb', 0, none⟩) (X.length + 1) xc'))).heap[k]? = w.heap[k]? := fun k hk h1 h2 => (setRow_other _ _ _ _ h1).trans (keep3 k hk h2)
      refine ⟨?_, (o La lA h.ma.symm h.ax.symm).trans h.hA, h.lA, (o Be lB h.mb.symm h.bx.symm).trans h.hB, h.lB, (o Kb lK h.mk'.symm h.kx).trans h.hK, h.lK, ⟨cur.toList.drop (X.length + 1), ?_, ?_, k4⟩, ?_, ?_, h.nM, h.nK, by have := h.nX; have := h.nM; omega⟩
      · rw [setRow_heap w3 Mb _ _ 106 (0, 0) hM3]; simp
      · rw [setRow_other _ _ _ _ nm, k2]
        have k6' : cur.toList.take (X.length + 1) = il X ++ [.int .i64 (n : Int)] := by rw [Nat.mul_one] at k6; exact k6
        rw [show il (X ++ [n]) = cur.toList.take (X.length + 1) by rw [k6', il_append]; rfl, List.take_append_drop]
      · have e : cur.toList.length = xc' := by rw [Array.length_toList, k5, Nat.mul_one]
        rw [List.length_drop, e]
        simp
        omega
      · rcases hat' with e | e
        · rw [e]; exact h.ax
        · omega
      · rcases hat' with e | e
        · rw [e]; exact h.bx
        · omega
    · rw [setCell_eq_setRow w3 Mb 4 _ 106 (0, 0) _ hM3]
      refine ⟨⟨hgr.os.trans hb1.os, hgr.tape.trans hb1.tape, hgr.output.trans hb1.output, ?_, fun k hk hx => ?_⟩, hge⟩
      · have := hgr.size; simp at this ⊢; omega
      · rw [setRow_other _ _ _ _ (fun e => hx (.inl e))]
        exact keep3 k hk (fun e => hx (.inr (.inr e)))
end
end Go.Proofs.Ytpjoaimbaboleaa
