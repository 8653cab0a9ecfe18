/- VaultAgrees: bytes and one more; what is hidden. -/
import Derived.Test.YtpjoaimbaboleaaAg
import Derived.Deep.Upon
namespace Go.Proofs.Ytpjoaimbaboleaa
open Go.RowKit Go.Shelf Go.Lib
set_option linter.unusedVariables false

theorem inf5 : ∃ i, Try.prog.info? 5 = some i ∧ i.zero = some (.int .u8 0) ∧ i.size = 1 ∧ i.bytes = 1 := by
  have : (Try.prog.info? 5).map (fun i => (i.zero, i.size, i.bytes)) = some (some (.int .u8 0), 1, 1) := by kernel_rfl
  cases h : Try.prog.info? 5 with
  | none => rw [h] at this; cases this
  | some i =>
    rw [h] at this
    simp only [Option.map_some, Option.some.injEq, Prod.mk.injEq] at this
    exact ⟨i, rfl, this.1, this.2.1, this.2.2⟩
/-- A row of bytes grew. -/
def Gw (w w' : World) (n₀ : Nat) : Prop := ∃ row : Option Nat, w.grownBy w' row ∧ ∀ k, row = some k → n₀ ≤ k ∧ ∃ cs, w.heap[k]? = some (.cells cs 5 (0, 0))
theorem Gw.keep {w w' : World} {n₀ k t : Nat} {cs : Array Value} (h : Gw w w' n₀) (hk : w.heap[k]? = some (.cells cs t (0, 0))) (ht : t ≠ 5) : w'.heap[k]? = some (.cells cs t (0, 0)) := by
  obtain ⟨row, hg, hr⟩ := h
  refine (hg.block k (Array.getElem?_eq_some_iff.1 hk).1 ?_).trans hk
  intro e
  obtain ⟨_, cs', h2⟩ := hr k e.symm
  exact ht (cells_ty hk h2)
theorem Ag.grown {W0 w w' : World} {V : Nat} {L : List Tm} (h : Ag W0 w V L) (hg : Gw w w' W0.heap.size) : Ag W0 w' V L := by
  obtain ⟨G, c, M, hv⟩ := h.va
  obtain ⟨R, r1, _⟩ := hv.hG
  obtain ⟨es, ck, m1, _⟩ := hv.hM
  refine ⟨?_, G, c, M, hv.keep ((hg.keep hv.hV (by decide)).trans hv.hV.symm) ((hg.keep r1 (by decide)).trans r1.symm) ?_⟩
  · obtain ⟨row, hg, hr⟩ := hg
    have hs := h.bel.size
    exact ⟨hg.os.trans h.bel.os, hg.tape.trans h.bel.tape, hg.output.trans h.bel.output, Nat.le_trans hs hg.size, fun k hk => (hg.block k (by omega) (by intro e; have := (hr k e.symm).1; omega)).trans (h.bel.block k hk)⟩
  · obtain ⟨row, hg, hr⟩ := hg
    refine hg.block M hv.lM ?_
    intro e
    obtain ⟨_, cs', h2⟩ := hr M e.symm
    rw [m1] at h2
    cases h2
/-- What stands there at the law's last line. -/
structure Fs (W0 : World) (V : Nat) (L : List Tm) (B5 B7 B9 B11 B13 B15 B17 : Nat) (Z2 Z4 Z5 Z6 Z7 Z8 : List Value) (w : World) : Prop where
  ag : Ag W0 w V L
  b5 : w.heap[B5]? = some (.cells Z2.toArray 29 (0, 0))
  b7 : w.heap[B7]? = some (.cells Z4.toArray 29 (0, 0))
  b9 : w.heap[B9]? = some (.cells Z5.toArray 29 (0, 0))
  b11 : w.heap[B11]? = some (.cells Z6.toArray 29 (0, 0))
  b13 : w.heap[B13]? = some (.cells Z6.toArray 29 (0, 0))
  b15 : w.heap[B15]? = some (.cells Z7.toArray 29 (0, 0))
  b17 : w.heap[B17]? = some (.cells Z8.toArray 29 (0, 0))
section
variable {W0 w w' : World} {V : Nat} {L : List Tm} {B5 B7 B9 B11 B13 B15 B17 : Nat} {Z2 Z4 Z5 Z6 Z7 Z8 : List Value}
theorem Fs.bel (h : Fs W0 V L B5 B7 B9 B11 B13 B15 B17 Z2 Z4 Z5 Z6 Z7 Z8 w) (hb : Below w.heap.size w w') : Fs W0 V L B5 B7 B9 B11 B13 B15 B17 Z2 Z4 Z5 Z6 Z7 Z8 w' :=
  ⟨h.ag.go hb, heap_bel h.b5 hb, heap_bel h.b7 hb, heap_bel h.b9 hb, heap_bel h.b11 hb, heap_bel h.b13 hb, heap_bel h.b15 hb, heap_bel h.b17 hb⟩
theorem Fs.grown (h : Fs W0 V L B5 B7 B9 B11 B13 B15 B17 Z2 Z4 Z5 Z6 Z7 Z8 w) (hg : Gw w w' W0.heap.size) : Fs W0 V L B5 B7 B9 B11 B13 B15 B17 Z2 Z4 Z5 Z6 Z7 Z8 w' :=
  ⟨h.ag.grown hg, hg.keep h.b5 (by decide), hg.keep h.b7 (by decide), hg.keep h.b9 (by decide), hg.keep h.b11 (by decide), hg.keep h.b13 (by decide), hg.keep h.b15 (by decide), hg.keep h.b17 (by decide)⟩
end
theorem range_of' {w : World} {g : Nat} {Z : List Value} (hg : w.heap[g]? = some (.cells Z.toArray 29 (0, 0))) : w.rangeAt g 0 Z := by
  intro j v hv
  unfold World.cell?
  simp only [hg]
  simpa using hv
theorem hl_app (a b : List UInt8) : hl (a ++ b) = hl a ++ hl b := by simp [hl]
theorem hl_oc (l : List UInt8) : ∀ u ∈ hl l, u.oneCell' = true := by
  intro u hu
  simp [hl] at hu
  obtain ⟨b, _, rfl⟩ := hu
  rfl
theorem own_sl {w : World} {n₀ g n c : Nat} {l : List UInt8} (h : w.ownsRow n₀ 5 1 (.slice (some ⟨g, 0, none⟩) n c) n (hl l)) (hn : l.length = n) : Sl w (some ⟨g, 0, none⟩) l := by
  obtain ⟨_, h | ⟨g', cap, cur, e, h1, h2, h3, h4, h5, h6⟩⟩ := h
  · cases h.1
  · injection e with e1 e2 e3
    injection e1 with e1
    injection e1 with e1
    subst e1
    intro j hj
    refine ⟨g, 0, rfl, ?_⟩
    have e : (hl l)[j]? = some (.int .u8 (l[j].toNat : Int)) := hl_get hj
    rw [← h6, Nat.mul_one, List.getElem?_take_of_lt (by omega)] at e
    simp only [World.cell?, h2, Nat.zero_add]
    simpa using e
theorem own_bel {w w' : World} {n₀ n : Nat} {v : Value} {xs : List Value} (h : w.ownsRow n₀ 5 1 v n xs) (hb : Below w.heap.size w w') : w'.ownsRow n₀ 5 1 v n xs := by
  obtain ⟨h0, h | ⟨g, cap, cur, e, h1, h2, h3⟩⟩ := h
  · exact ⟨h0, .inl h⟩
  · exact ⟨h0, .inr ⟨g, cap, cur, e, h1, heap_bel h2 hb, h3⟩⟩
theorem own_gw {w w' : World} {n₀ n : Nat} {v : Value} {xs : List Value} (h : w.ownsRow n₀ 5 1 v n xs) (hg : w.grownBy w' v.ownBlock) : Gw w w' n₀ := by
  refine ⟨_, hg, fun k hk => ?_⟩
  obtain ⟨h0, h | ⟨g, cap, cur, rfl, h1, h2, h3⟩⟩ := h
  · rw [h.1] at hk; cases hk
  · simp [Value.ownBlock] at hk
    subst hk
    exact ⟨h1, cur, h2⟩
/-- 'append([]byte{}, b...)'. -/
theorem ap1 {X : World} {n₀ k cp : Nat} {o : Option Addr} {l : List UInt8} (hk : X.heap[k]? = some (.cells #[] 5 (0, 0))) (hnk : n₀ ≤ k) (hn : n₀ ≤ X.heap.size) (hS : Sl X o l) (hll : l.length ≤ 140737488351232) :
    ∃ v X', (Builtin.append_ #[33, 33] 33 #[.slice (some ⟨k, 0, none⟩) 0 0, .slice o l.length cp]).run Try.prog X = .ok v X' ∧ X'.ownsRow n₀ 5 1 v l.length (hl l) ∧ Gw X X' n₀ ∧ (∀ j, j < X.heap.size → j ≠ k → X'.heap[j]? = X.heap[j]?) := by
  obtain ⟨i, hi, hz, hs, hb⟩ := inf5
  have hown : X.ownsRow n₀ 5 1 (.slice (some ⟨k, 0, none⟩) 0 0) 0 [] := ⟨rfl, .inr ⟨k, 0, #[], rfl, hnk, hk, Nat.le_refl _, by unfold maxLen; omega, rfl, rfl⟩⟩
  cases o with
  | none =>
    have hl0 : l = [] := by
      cases l with
      | nil => rfl
      | cons x t => obtain ⟨b, off, e, _⟩ := hS 0 (by simp); cases e
    subst hl0
    refine ⟨.slice (some ⟨k, 0, none⟩) 0 0, X, ?_, hown, ⟨none, ⟨rfl, rfl, rfl, Nat.le_refl _, fun _ _ _ => rfl⟩, fun _ h => by cases h⟩, fun _ _ _ => rfl⟩
    exact run_append_nothing X 33 33 33 5 i Try.underlying33 hi _ 0 0 (Nat.le_refl _) _ ⟨.inl ⟨5, Try.underlying33⟩, fun _ => rfl, by simp [Builtin.firstCells], by simp [Builtin.firstCells], by simp, fun _ h => by cases h⟩
  | some a =>
    have hcell : ∀ j u, (hl l)[j]? = some u → X.cell? (a.add j) = some u := by
      intro j u hu
      have hj : j < l.length := by have := (List.getElem?_eq_some_iff.1 hu).1; simpa using this
      obtain ⟨b, off, e, hc⟩ := hS j hj
      rw [Option.some.inj e, Addr.add_mid, hc, ← hu, hl_get hj]
    obtain ⟨v', w', hrun, hown', hgr, _, _⟩ := run_append_own_at (P := Try.prog) X n₀ 33 33 5 i (.int .u8 0) 1 1 Try.underlying33 hi hz hs hb rfl (by decide) _ _ _ hown a l.length cp (hl l) (by simp) hcell (hl_oc l) (by unfold maxLen; omega) (by omega) hn
    rw [Nat.zero_add, List.nil_append] at hown'
    exact ⟨v', w', hrun, hown', own_gw hown hgr, fun j hj hne => hgr.block j hj (by simp only [Value.ownBlock]; intro e; injection e with e; exact hne e)⟩
/-- One more. -/
theorem ap2 {X : World} {n₀ k : Nat} {v : Value} {l : List UInt8} (hk : X.heap[k]? = some (.cells #[.int .u8 0] 5 (0, 0))) (hn : n₀ ≤ X.heap.size) (hown : X.ownsRow n₀ 5 1 v l.length (hl l)) (hll : l.length ≤ 140737488351232) :
    ∃ g c X', (Builtin.append_ #[33, 33] 33 #[v, .slice (some ⟨k, 0, none⟩) 1 1]).run Try.prog X = .ok (.slice (some ⟨g, 0, none⟩) (l.length + 1) c) X' ∧ Sl X' (some ⟨g, 0, none⟩) (l ++ [0]) ∧ Gw X X' n₀ := by
  obtain ⟨i, hi, hz, hs, hb⟩ := inf5
  have hcell : ∀ j u, [Value.int .u8 0][j]? = some u → X.cell? ((⟨k, 0, none⟩ : Addr).add j) = some u := by
    intro j u hu
    rw [Addr.add_mid]
    simp only [World.cell?, hk, Nat.zero_add]
    simpa using hu
  obtain ⟨v', w', hrun, hown', hgr, _, _⟩ := run_append_own_at (P := Try.prog) X n₀ 33 33 5 i (.int .u8 0) 1 1 Try.underlying33 hi hz hs hb rfl (by decide) _ _ _ hown ⟨k, 0, none⟩ 1 1 [.int .u8 0] rfl hcell (by simp [Value.oneCell']) (by unfold maxLen; omega) (by omega) hn
  have e : hl l ++ [.int .u8 0] = hl (l ++ [0]) := by rw [hl_app]; rfl
  rw [e] at hown'
  have hg2 := own_gw hown hgr
  have hcopy := hown'
  obtain ⟨_, h | ⟨g, cap, cur, rfl, _⟩⟩ := hcopy
  · omega
  · exact ⟨g, cap, w', hrun, own_sl hown' (by simp), hg2⟩
theorem wins_name (k : Nat) (h : k < 9223372036854775808) : wins (nameL k) = [k] := by
  have e : win (nameL k) 0 = nameL k := by
    unfold win
    rw [List.drop_zero, List.take_of_length_le (by rw [nameL_len]; exact Nat.le_refl _)]
  unfold wins winsTo
  rw [nameL_len]
  simp [e, num_name h]
theorem by_box {n₀ B k : Nat} {w : World} (h : w.heap[B]? = some (.cells (hl (nameL k)).toArray 29 (0, 0))) : By n₀ w (some ⟨B, 0, none⟩) 16 (nameL k) := by
  refine ⟨fun j hj => ⟨B, 0, rfl, ?_⟩, by rw [nameL_len]; omega, by rw [nameL_len]; omega, by omega, fun _ => ⟨B, 0, rfl, .inr ⟨_, 29, _, h, .inr (.inl rfl)⟩⟩⟩
  simp only [World.cell?, h, Nat.zero_add]
  simpa using hl_get hj
theorem se_two {n₀ k B C i j : Nat} {w : World} (hB : w.heap[B]? = some (.cells (hl (nameL i)).toArray 29 (0, 0))) (hC : w.heap[C]? = some (.cells (hl (nameL j)).toArray 29 (0, 0))) (hk : w.heap[k]? = some (.cells #[.slice (some ⟨B, 0, none⟩) 16 16, .slice (some ⟨C, 0, none⟩) 16 16] 33 (0, 0))) :
    Se n₀ w (some ⟨k, 0, none⟩) [(some ⟨B, 0, none⟩, 16, nameL i), (some ⟨C, 0, none⟩, 16, nameL j)] := by
  constructor
  · intro x hx
    simp only [List.mem_cons, List.not_mem_nil, or_false] at hx
    rcases hx with rfl | rfl
    · exact by_box hB
    · exact by_box hC
  · intro jj x hx
    have hl := (List.getElem?_eq_some_iff.1 hx).1
    simp at hl
    rcases (show jj = 0 ∨ jj = 1 by omega) with rfl | rfl
    · simp at hx; subst hx; exact ⟨k, 0, _, rfl, hk, by simp [nameL_len]⟩
    · simp at hx; subst hx; exact ⟨k, 0, _, rfl, hk, by simp [nameL_len]⟩
/-- Hidden, of a handle, before one who sees two. -/
theorem Ag.hid {W0 w : World} {V : Nat} {L : List Tm} (h : Ag W0 w V L) (hSm : Small L) (hL : L.length ≤ 1000) {k B C D i j m : Nat} (hm : m < L.length) (hB : w.heap[B]? = some (.cells (hl (nameL i)).toArray 29 (0, 0))) (hC : w.heap[C]? = some (.cells (hl (nameL j)).toArray 29 (0, 0))) (hD : w.heap[D]? = some (.cells (hl (nameL m)).toArray 29 (0, 0))) (hk : w.heap[k]? = some (.cells #[.slice (some ⟨B, 0, none⟩) 16 16, .slice (some ⟨C, 0, none⟩) 16 16] 33 (0, 0))) :
    Calls Try.prog 26 #[.pointer (some ⟨V, 0, none⟩), .slice (some ⟨D, 0, none⟩) 16 16, .slice (some ⟨k, 0, none⟩) 2 2] w fun e w' => (∃ b : Bool, e = .returned (.bool b) ∧ (b = true ↔ ¬ Kn L [nameL i, nameL j] m)) ∧ Below w.heap.size w w' := by
  obtain ⟨G, c, M, hv⟩ := h.va
  have hb : L.length * (200000 + 2 * L.length * 65537) ≤ 1000 * (200000 + 2 * 1000 * 65537) := Nat.mul_le_mul hL (by omega)
  have := hidden_c W0.heap.size V G c M 16 2 L (some ⟨D, 0, none⟩) (some ⟨k, 0, none⟩) (nameL m) _ w hv (by_box hD) (se_two hB hC hk) hSm (by omega) (by simp) (by have hs := sn_le L.length [(some (⟨B, 0, none⟩ : Addr), 16, nameL i), (some ⟨C, 0, none⟩, 16, nameL j)]; simp only [tot, List.map_cons, List.map_nil, List.sum_cons, List.sum_nil, nameL_len] at hs; omega)
  rw [nameL_len] at this
  refine this.mono ?_
  rintro e w' ⟨b, rfl, h1, h2⟩
  refine ⟨⟨b, rfl, h1.trans ?_⟩, h2⟩
  rw [wins_name m (by omega)]
  simp only [List.mem_singleton, exists_eq_left, vs, List.map_cons, List.map_nil]
  simp [hm]
end Go.Proofs.Ytpjoaimbaboleaa
