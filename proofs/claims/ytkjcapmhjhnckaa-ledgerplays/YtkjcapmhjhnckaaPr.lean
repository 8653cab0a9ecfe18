/- Rows of packets; marks; what is on its way, counted. -/
import Derived.Test.YtkjcapmhjhnckaaLg
namespace Go.Proofs.Ytkjcapmhjhnckaa
open Go.RowKit Go.Maps
set_option linter.unusedVariables false
set_option maxRecDepth 100000

def pks (ps : List Pk) : List Value := ps.flatMap Pk.cs
theorem pks_app (a b : List Pk) : pks (a ++ b) = pks a ++ pks b := by simp [pks]
theorem pks_len (ps : List Pk) : (pks ps).length = ps.length * 4 := by
  induction ps with
  | nil => rfl
  | cons x t ih => simp only [pks, List.flatMap_cons, List.length_append, List.length_cons, Pk.cs, List.length_nil] at ih ⊢; omega
theorem pks_at {ps : List Pk} {i j : Nat} (h : i < ps.length) (hj : j < 4) : (pks ps)[i * 4 + j]? = (ps[i].cs)[j]? := by
  induction ps generalizing i with
  | nil => simp at h
  | cons x t ih =>
    have e : pks (x :: t) = x.cs ++ pks t := by simp [pks]
    rw [e]
    cases i with
    | zero =>
      rw [Nat.zero_mul, Nat.zero_add, List.getElem?_append_left (by simpa [Pk.cs] using hj)]
      rfl
    | succ i =>
      rw [List.getElem?_append_right (by simp [Pk.cs]; omega)]
      have := ih (i := i) (by simpa using h)
      simp only [List.getElem_cons_succ]
      rw [← this]
      congr 1
      simp [Pk.cs]
      omega
theorem pks_one (p : Pk) : ∀ v ∈ p.cs, v.oneCell' = true := by
  intro v hv
  simp only [Pk.cs, List.mem_cons, List.not_mem_nil, or_false] at hv
  rcases hv with rfl | rfl | rfl | rfl <;> rfl
theorem pks_ones (ps : List Pk) : ∀ v ∈ pks ps, v.oneCell' = true := by
  intro v hv
  simp only [pks, List.mem_flatMap] at hv
  obtain ⟨p, _, h⟩ := hv
  exact pks_one p v h
theorem info_parts {e : TypeId} {z : Option Value} {a b : Nat} (h : (Try.prog.info? e).map (fun i => (i.zero, i.size, i.bytes)) = some (z, a, b)) : ∃ i, Try.prog.info? e = some i ∧ i.zero = z ∧ i.size = a ∧ i.bytes = b := by
  cases hi : Try.prog.info? e with
  | none => rw [hi] at h; cases h
  | some i =>
    rw [hi] at h
    simp only [Option.map_some, Option.some.injEq, Prod.mk.injEq] at h
    exact ⟨i, rfl, h.1, h.2.1, h.2.2⟩
theorem info29 : (Try.prog.info? 29).map (fun i => (i.zero, i.size, i.bytes)) = some (some pk0, 4, 32) := by kernel_rfl
theorem info3 : (Try.prog.info? 3).map (fun i => (i.zero, i.size, i.bytes)) = some (some (.int .i64 0), 1, 8) := by kernel_rfl
theorem info50 : (Try.prog.info? 50).map (fun i => (i.zero, i.size, i.bytes)) = some (some (.agg #[.int .i64 0, .int .i64 0]), 2, 16) := by kernel_rfl

/-- A slice of packets as it lies. -/
def Pr (w : World) (o : Option Addr) (c : Nat) (ps : List Pk) : Prop := Rw 29 4 w o ps.length c (pks ps)
theorem Pr.nil (w : World) : Pr w none 0 [] := Rw.nil _ _ _
section
variable {W X : World} {A : Ad} {L : Ls} {o : Option Addr} {c : Nat} {ps : List Pk}
theorem Pr.bel (h : Pr W o c ps) (hb : Below W.heap.size W X) : Pr X o c ps := Rw.bel h hb
theorem Pr.off (h : Pr W o c ps) (hl : Lg W A L) {j : Nat} (hj : Blk o j) : ¬ A.own j := by
  obtain ⟨Y, hy⟩ := Rw.ty h hj
  rintro (e | e | e | e)
  · rw [e, hl.hb] at hy; simp at hy
  · obtain ⟨es, cl, h2⟩ := hl.mp.isMap; rw [e, h2] at hy; cases hy
  · obtain ⟨Z, hz⟩ := hl.ord.ty e; rw [hz] at hy; simp at hy
  · obtain ⟨Z, hz⟩ := hl.snt.ty e; rw [hz] at hy; simp at hy
theorem Pr.stp (h : Pr W o c ps) (hl : Lg W A L) {A' : Ad} (hs : Stp A A' W X) : Pr X o c ps := Rw.chg h hs.chg fun j hj => h.off hl hj
theorem Pr.cells (h : Pr W o c ps) {i : Nat} (hi : i < ps.length) : ∃ g off, o = some ⟨g, off, none⟩ ∧ W.cell? ⟨g, off + i * 4, none⟩ = some (.int .i64 ps[i].n) ∧ W.cell? ⟨g, off + i * 4 + 1, none⟩ = some (.int .i64 ps[i].a) ∧ W.cell? ⟨g, off + i * 4 + 2, none⟩ = some (.int .i64 ps[i].s) ∧ W.cell? ⟨g, off + i * 4 + 3, none⟩ = some (.bool ps[i].e) := by
  obtain ⟨g, off, rfl, c0, _⟩ := Rw.cell h (j := i * 4) (v := .int .i64 ps[i].n) (by have := pks_at hi (j := 0) (by omega); simpa [Pk.cs] using this)
  obtain ⟨g1, off1, e1, c1, _⟩ := Rw.cell h (j := i * 4 + 1) (v := .int .i64 ps[i].a) (by have := pks_at hi (j := 1) (by omega); simpa [Pk.cs] using this)
  obtain ⟨g2, off2, e2, c2, _⟩ := Rw.cell h (j := i * 4 + 2) (v := .int .i64 ps[i].s) (by have := pks_at hi (j := 2) (by omega); simpa [Pk.cs] using this)
  obtain ⟨g3, off3, e3, c3, _⟩ := Rw.cell h (j := i * 4 + 3) (v := .bool ps[i].e) (by have := pks_at hi (j := 3) (by omega); simpa [Pk.cs] using this)
  injection e1 with e1; injection e1 with e1 e1'
  injection e2 with e2; injection e2 with e2 e2'
  injection e3 with e3; injection e3 with e3 e3'
  subst e1 e1' e2 e2' e3 e3'
  exact ⟨g, off, rfl, c0, by simpa [Nat.add_assoc] using c1, by simpa [Nat.add_assoc] using c2, by simpa [Nat.add_assoc] using c3⟩
/-- One packet more. -/
theorem Pr.push (h : Pr W o c ps) (p : Pk) (hl : ps.length ≤ 4000000000000) :
    ∃ g off c' w3, (∀ ty, (Builtin.append_ #[38, 38] ty #[.slice o ps.length c, .slice (some ⟨W.heap.size, 0, none⟩) 1 1]).run Try.prog (W.alloc (.cells #[.int .i64 p.n, .int .i64 p.a, .int .i64 p.s, .bool p.e] 29)) = .ok (.slice (some ⟨g, off, none⟩) (ps.length + 1) c') w3) ∧
      Pr w3 (some ⟨g, off, none⟩) c' (ps ++ [p]) ∧ Chg (Blk o) W w3 ∧ (Blk o g ∨ W.heap.size ≤ g) := by
  obtain ⟨i, hq, hz, hi, hby⟩ := info_parts info29
  have hT := heap_alloc_new W (.cells #[.int .i64 p.n, .int .i64 p.a, .int .i64 p.s, .bool p.e] 29)
  have hs : Src Try.prog 4 38 (.slice (some ⟨W.heap.size, 0, none⟩) 1 1) 1 p.cs (W.alloc (.cells #[.int .i64 p.n, .int .i64 p.a, .int .i64 p.s, .bool p.e] 29)) := Src.ofSlice _ Try.underlying38 ⟨W.heap.size, 0, none⟩ _ 1 p.cs (by simp [Pk.cs]) (fun j u hu => by
    rw [Addr.add_lit]
    simp only [World.cell?, hT, Nat.zero_add]
    rw [if_neg (by simp)]
    simpa [Pk.cs] using hu) (pks_one p)
  obtain ⟨g, off, c', w3, h1, h2, h3, h4, h5⟩ := Rw.append Try.underlying38 hq hz hi hby rfl (Rw.bel h (bel1 W _)) hs (by omega) (by omega) (by omega)
  refine ⟨g, off, c', w3, h1, ?_, (((Chg.refl (Blk o) W).alloc _).trans h3), ?_⟩
  · unfold Pr
    rw [pks_app, List.length_append]
    have : pks [p] = p.cs := by simp [pks]
    rw [this]
    exact h2
  · rcases h4 with h4 | h4
    · exact .inl h4
    · right
      rw [h4]
      simp
end

/-- Σ of Size, and how many eliciting, on their way. -/
def zs : List (Pk × Bool) → Int
  | [] => 0
  | x :: t => (if x.2 = true then x.1.s else 0) + zs t
def ce : List (Pk × Bool) → Int
  | [] => 0
  | x :: t => (if x.2 = true ∧ x.1.e = true then 1 else 0) + ce t
theorem zs_app (a b : List (Pk × Bool)) : zs (a ++ b) = zs a + zs b := by
  induction a with
  | nil => simp [zs]
  | cons x t ih => simp only [List.cons_append, zs, ih]; omega
theorem ce_app (a b : List (Pk × Bool)) : ce (a ++ b) = ce a + ce b := by
  induction a with
  | nil => simp [ce]
  | cons x t ih => simp only [List.cons_append, ce, ih]; omega
theorem zs_bound {O : List (Pk × Bool)} (h : ∀ x ∈ O, x.1.ok) : 0 ≤ zs O ∧ zs O ≤ 65535 * O.length := by
  induction O with
  | nil => simp [zs]
  | cons x t ih =>
    have h1 := ih fun y hy => h y (by simp [hy])
    have h2 := h x (by simp)
    have h3 := h2.s0
    have h4 := h2.s1
    simp only [zs, List.length_cons]
    split <;> omega
theorem ce_bound (O : List (Pk × Bool)) : 0 ≤ ce O ∧ ce O ≤ O.length := by
  induction O with
  | nil => simp [ce]
  | cons x t ih =>
    simp only [ce, List.length_cons]
    split <;> omega
/-- Numbers rise. -/
def Rise (O : List (Pk × Bool)) : Prop := O.Pairwise fun x y => x.1.n < y.1.n
theorem un_none {q : Pk → Bool} {O : List (Pk × Bool)} (h : ∀ x ∈ O, x.2 = true → q x.1 = false) : un q O = O := by
  induction O with
  | nil => rfl
  | cons x t ih =>
    have h1 := h x (by simp)
    have h2 := ih fun y hy => h y (by simp [hy])
    have : un q (x :: t) = (x.1, x.2 && !q x.1) :: un q t := rfl
    rw [this, h2]
    congr 1
    obtain ⟨p, b⟩ := x
    cases b with
    | false => rfl
    | true => rw [h1 rfl]; rfl
theorem un_ok {q : Pk → Bool} {O : List (Pk × Bool)} (h : ∀ x ∈ O, x.1.ok) : ∀ x ∈ un q O, x.1.ok := by
  intro x hx
  simp only [un, List.mem_map] at hx
  obtain ⟨y, hy, rfl⟩ := hx
  exact h y hy
theorem un_rise {q : Pk → Bool} {O : List (Pk × Bool)} (h : Rise O) : Rise (un q O) := by
  unfold Rise un
  rw [List.pairwise_map]
  exact h
/-- A mark off: one that is there. -/
theorem un_split {a b : List (Pk × Bool)} {p : Pk} (h : Rise (a ++ (p, true) :: b)) : un (fun y => decide (y.n = p.n)) (a ++ (p, true) :: b) = a ++ (p, false) :: b := by
  have h1 : un (fun y => decide (y.n = p.n)) (a ++ (p, true) :: b) = un (fun y => decide (y.n = p.n)) a ++ (p, true && !decide (p.n = p.n)) :: un (fun y => decide (y.n = p.n)) b := by simp [un]
  rw [h1]
  obtain ⟨_, h3, h4⟩ := List.pairwise_append.1 h
  have h5 := List.pairwise_cons.1 h3
  rw [un_none (O := a) (fun x hx _ => by have := h4 x hx (p, true) (by simp); simp at this ⊢; omega), un_none (O := b) (fun x hx _ => by have := h5.1 x hx; simp at this ⊢; omega)]
  simp
theorem zs_off {a b : List (Pk × Bool)} {p : Pk} : zs (a ++ (p, false) :: b) = zs (a ++ (p, true) :: b) - p.s := by
  rw [zs_app, zs_app]; simp only [zs]; simp; omega
theorem ce_off {a b : List (Pk × Bool)} {p : Pk} : ce (a ++ (p, false) :: b) = ce (a ++ (p, true) :: b) - (if p.e = true then 1 else 0) := by
  rw [ce_app, ce_app]; simp only [ce]; simp; omega
end Go.Proofs.Ytkjcapmhjhnckaa
