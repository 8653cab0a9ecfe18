/- vault: Spied. -/
import Derived.Test.YthhoknkdmmldbaaAp
namespace Go.Proofs.Ythhoknkdmmldbaa
open Go.RowKit Go.Shelf Go.Lib
set_option linter.unusedVariables false

/-- What is told of the first k terms. -/
inductive Spd (L : List Tm) (S : List (List UInt8)) : Nat → List ByteArray → Prop
  | nil : Spd L S 0 []
  | yes {k : Nat} {R : List ByteArray} {t : Tm} : Spd L S k R → L[k]? = some t → t.kd = 6 → Kn L S k → Kn L S t.of' → Spd L S (k + 1) (R ++ [t.by'])
  | no {k : Nat} {R : List ByteArray} {t : Tm} : Spd L S k R → L[k]? = some t → ¬ (t.kd = 6 ∧ Kn L S k ∧ Kn L S t.of') → Spd L S (k + 1) R
theorem Spd.le {L : List Tm} {S : List (List UInt8)} {k : Nat} {R : List ByteArray} (h : Spd L S k R) : R.length ≤ k := by
  induction h with
  | nil => simp
  | yes _ _ _ _ _ ih => simp; omega
  | no _ _ _ ih => omega
/-- A slice of bytes as a value. -/
def sv (x : Nat × Nat × ByteArray) : Value := .slice (some ⟨x.1, 0, none⟩) x.2.2.size x.2.1
/-- Bytes that stay. -/
theorem By.stay {n₀ c : Nat} {o : Option Addr} {l : List UInt8} {w w' : World} (h : By n₀ w o c l) (hk : ∀ b, b < w.heap.size → (b < n₀ ∨ ∃ cs t fr, w.heap[b]? = some (.cells cs t fr) ∧ (t = 5 ∨ t = 28)) → w'.heap[b]? = w.heap[b]?) : By n₀ w' o c l := by
  have key : ∀ b off, l ≠ [] → o = some ⟨b, off, none⟩ → b < w.heap.size → w'.heap[b]? = w.heap[b]? := by
    intro b off hl ho hb
    obtain ⟨b2, off2, e, h1⟩ := h.at' hl
    rw [ho] at e
    have e1 := congrArg (Option.map Addr.block) e
    simp only [Option.map_some, Option.some.injEq] at e1
    subst e1
    exact hk b hb h1
  refine ⟨fun j hj => ?_, h.len, h.cap, h.c64, fun hl => ?_⟩
  · obtain ⟨b, off, e, hcell⟩ := h.sl j hj
    have hb : b < w.heap.size := by
      cases hh : w.heap[b]? with
      | none => simp [World.cell?, hh] at hcell
      | some o => exact (Array.getElem?_eq_some_iff.1 hh).1
    exact ⟨b, off, e, (World.cell?_of_block (a := ⟨b, off + j, none⟩) (key b off (by rintro rfl; simp at hj) e hb)).trans hcell⟩
  · obtain ⟨b, off, e, h1 | ⟨cs2, t, fr, h2, h3⟩⟩ := h.at' hl
    · exact ⟨b, off, e, .inl h1⟩
    · exact ⟨b, off, e, .inr ⟨cs2, t, fr, (key b off hl e (Array.getElem?_eq_some_iff.1 h2).1).trans h2, h3⟩⟩
/-- Texts as they lie: a row of slices, each of bytes. -/
structure Tx (n₀ n₁ : Nat) (w : World) (o : Option Addr) (n c : Nat) (T : List (Nat × Nat × ByteArray)) : Prop where
  own : w.ownsRow n₁ 38 1 (.slice o n c) n (T.map sv)
  by' : ∀ x ∈ T, By n₀ w (some ⟨x.1, 0, none⟩) x.2.1 x.2.2.data.toList
theorem own_keep {w w' : World} {n₁ n e : Nat} {v : Value} {xs : List Value} (h : w.ownsRow n₁ e 1 v n xs) (hk : ∀ g, n₁ ≤ g → g < w.heap.size → w'.heap[g]? = w.heap[g]?) : w'.ownsRow n₁ e 1 v n xs := by
  obtain ⟨h0, h | ⟨g, cap, cur, e, h1, h2, h3⟩⟩ := h
  · exact ⟨h0, .inl h⟩
  · exact ⟨h0, .inr ⟨g, cap, cur, e, h1, (hk g h1 (Array.getElem?_eq_some_iff.1 h2).1).trans h2, h3⟩⟩
section
variable {n₀ n₁ n c : Nat} {o : Option Addr} {w w' : World} {T : List (Nat × Nat × ByteArray)}
theorem Tx.nil (n₀ n₁ : Nat) (w : World) : Tx n₀ n₁ w none 0 0 [] := ⟨⟨rfl, .inl ⟨rfl, rfl⟩⟩, fun x hx => by cases hx⟩
theorem Tx.bel (h : Tx n₀ n₁ w o n c T) (hb : Below w.heap.size w w') : Tx n₀ n₁ w' o n c T :=
  ⟨own_keep h.own fun g _ hg => hb.block g hg, fun x hx => (h.by' x hx).bel hb⟩
theorem Tx.chg {Mb : Nat} {cs : Array Value} (h : Tx n₀ n₁ w o n c T) (hn : n₀ ≤ Mb) (hn1 : Mb < n₁) (hM : w.heap[Mb]? = some (.cells cs 113 (0, 0))) (hc : Chg (fun k => k = Mb) w w') : Tx n₀ n₁ w' o n c T :=
  ⟨own_keep h.own fun g h1 hg => hc.2.2.2.2 g hg (by omega), fun x hx => (h.by' x hx).chg hn hM hc⟩
end
theorem inf38 : ∃ i, Try.prog.info? 38 = some i ∧ i.zero = some (.slice none 0 0) ∧ i.size = 1 ∧ i.bytes = 24 := by
  have : (Try.prog.info? 38).map (fun i => (i.zero, i.size, i.bytes)) = some (some (.slice none 0 0), 1, 24) := by kernel_rfl
  cases h : Try.prog.info? 38 with
  | none => rw [h] at this; cases this
  | some i =>
    rw [h] at this
    simp only [Option.map_some, Option.some.injEq, Prod.mk.injEq] at this
    exact ⟨i, rfl, this.1, this.2.1, this.2.2⟩
/-- One more text. -/
theorem Tx.app {n₀ n₁ n c k : Nat} {o : Option Addr} {X : World} {T : List (Nat × Nat × ByteArray)} {x : Nat × Nat × ByteArray} (h : Tx n₀ n₁ X o n c T) (hx : By n₀ X (some ⟨x.1, 0, none⟩) x.2.1 x.2.2.data.toList) (hk : X.heap[k]? = some (.cells #[sv x] 38 (0, 0))) (h01 : n₀ ≤ n₁) (hn : n₁ ≤ X.heap.size) (hle : n ≤ 1000000) :
    ∃ g c' X', (Builtin.append_ #[34, 34] 34 #[.slice o n c, .slice (some ⟨k, 0, none⟩) 1 1]).run Try.prog X = .ok (.slice (some ⟨g, 0, none⟩) (n + 1) c') X' ∧ Tx n₀ n₁ X' (some ⟨g, 0, none⟩) (n + 1) c' (T ++ [x]) ∧ Below n₁ X X' ∧ ∀ (b : Nat) (cs : Array Value) (t : Nat), X.heap[b]? = some (Obj.cells cs t (0, 0)) → t ≠ 38 → X'.heap[b]? = some (Obj.cells cs t (0, 0)) := by
  obtain ⟨i, hi, hz, hs, hb⟩ := inf38
  have hcell : ∀ j u, [sv x][j]? = some u → X.cell? ((⟨k, 0, none⟩ : Addr).add j) = some u := by
    intro j u hu
    rw [Addr.add_mid]
    simp only [World.cell?, hk, Nat.zero_add]
    simpa using hu
  obtain ⟨v', w', hrun, hown', hgr, _, _⟩ := run_append_own_at (P := Try.prog) X n₁ 34 34 38 i (.slice none 0 0) 1 24 Try.underlying34 hi hz hs hb rfl (by decide) _ _ _ h.own ⟨k, 0, none⟩ 1 1 [sv x] rfl hcell (by simp [sv, Value.oneCell']) (by unfold maxLen; omega) (by omega) hn
  have e : T.map sv ++ [sv x] = (T ++ [x]).map sv := by simp
  rw [e] at hown'
  have hown := h.own
  have keep : ∀ b, b < X.heap.size → (∀ cs t fr, X.heap[b]? = some (.cells cs t fr) → n₁ ≤ b → t ≠ 38) → w'.heap[b]? = X.heap[b]? := by
    intro b hbs hne
    refine hgr.block b hbs ?_
    intro e
    obtain ⟨_, h1 | ⟨g, cap, cur, e1, k1, k2, k3⟩⟩ := hown
    · obtain ⟨h1, _⟩ := h1
      injection h1 with h1
      subst h1
      simp [Value.ownBlock] at e
    · injection e1 with e1
      subst e1
      simp [Value.ownBlock] at e
      subst e
      exact hne _ _ _ k2 k1 rfl
  have stay : ∀ b, b < X.heap.size → (b < n₀ ∨ ∃ cs t fr, X.heap[b]? = some (.cells cs t fr) ∧ (t = 5 ∨ t = 28)) → w'.heap[b]? = X.heap[b]? := by
    intro b hbs hor
    refine keep b hbs ?_
    intro cs t fr h1 h2
    rcases hor with h3 | ⟨cs2, t2, fr2, h3, h4⟩
    · omega
    · rw [h1] at h3
      injection h3 with h3
      injection h3 with _ h3 _
      subst h3
      intro e
      rw [e] at h4
      rcases h4 with h4 | h4 <;> cases h4
  have hcopy := hown'
  obtain ⟨_, h1 | ⟨g, cap, cur, rfl, k1, k2, k3⟩⟩ := hcopy
  · omega
  · refine ⟨g, cap, w', hrun, ⟨hown', fun y hy => ?_⟩, ⟨hgr.os, hgr.tape, hgr.output, hgr.size, fun b hb => keep b (by omega) (fun _ _ _ _ h2 => by omega)⟩, ?_⟩
    · rcases List.mem_append.1 hy with hy | hy
      · exact (h.by' y hy).stay stay
      · obtain rfl := List.mem_singleton.1 hy
        exact hx.stay stay
    · intro b cs t h1 h2
      refine (keep b (Array.getElem?_eq_some_iff.1 h1).1 ?_).trans h1
      intro cs2 t2 fr2 h3 _
      rw [h1] at h3
      injection h3 with h3
      injection h3 with _ h3 _
      subst h3
      exact h2
end Go.Proofs.Ythhoknkdmmldbaa
