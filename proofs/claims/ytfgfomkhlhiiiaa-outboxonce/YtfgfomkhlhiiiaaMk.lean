/- outbox: marks: a set of offsets, by blocks of 1024, as it lies. -/
import Derived.Test.YtfgfomkhlhiiiaaCut
import Derived.Maps.Own
import Derived.Maps.OwnOps
import Derived.Maps.OwnSet
import Derived.Maps.Views
namespace Go.Proofs.YtfgfomkhlhiiiaaR
open Go.RowKit Go.Shelf Go.Lib Go.Maps
set_option linter.unusedVariables false

def ptrO : Option Nat → Value
  | none => .pointer none
  | some s => .pointer (some ⟨s, 0, none⟩)
theorem zero81 (w : World) : (zeroValue 81).run Try.prog w = .ok (.pointer none) w := by kernel_rfl
theorem law3 : Keyed Try.prog 3 := int_keyed Try.underlying3
abbrev Rv : Value → Option (DataW Value × List MemPlace) := fun v => some (.held v, [])
theorem wfn {n : Nat} (h : n ≤ 4503599627370495) : (Lit.int .i64 (n : Int)).wf = true := by
  simp only [Lit.wf, IntKind.min, IntKind.max, IntKind.signed, IntKind.bits, Bool.and_eq_true, decide_eq_true_eq, if_true]
  omega

def blk (n : Nat) (j : Int) : Prop := 1024 * (n : Int) ≤ j ∧ j < 1024 * (n : Int) + 1024
/-- Marks as they lie, on the way: the tag of each of its blocks is of t; F: the numbers that are said to be filled. -/
structure Mq (φ : Nat → Nat × Nat) (t : Nat) (w : World) (M mb fs c : Nat) (S : Nat → Option Nat) (F : Nat → Prop) (V : Int → Prop) : Prop where
  hM : w.heap[M]? = some (.cells #[.map (some mb), .pointer (some ⟨fs, 0, none⟩)] 84 (0, 0))
  hD : ∃ (D : DataW Value) (ks : List Nat), w.ownsMap Try.prog 3 Rv mb c D ∧ Tidy D ∧ Maps.size D = ks.length ∧ ks.Nodup ∧ (∀ n, n ∈ ks ↔ (S n).isSome = true) ∧
    ∀ n : Nat, n ≤ 4503599627370495 → has D (.int .i64 (n : Int)) = (S n).isSome ∧ D.atKey (.int .i64 (n : Int)) (.held (.pointer none)) = .held (ptrO (S n))
  hs : ∀ n s, S n = some s → ∃ o L, My 0 w s o L ∧ (∀ j, In j L ↔ V j ∧ blk n j) ∧ φ s = (t, n + 3) ∧ ∀ g, o = some ⟨g, 0, none⟩ → φ g = (t, n + 3)
  hv : ∀ j, V j → 0 ≤ j ∧ j ≤ 4611686018427387903 ∧ (S (j / 1024).toNat).isSome = true
  hf : ∃ o L, My 0 w fs o L ∧ (∀ j, In j L ↔ 0 ≤ j ∧ F j.toNat) ∧ φ fs = (t, 2) ∧ ∀ g, o = some ⟨g, 0, none⟩ → φ g = (t, 2)
  hφ : φ M = (t, 0) ∧ φ mb = (t, 1)
/-- Marks as they lie. -/
def Mk (φ : Nat → Nat × Nat) (t : Nat) (w : World) (M mb fs c : Nat) (S : Nat → Option Nat) (V : Int → Prop) : Prop :=
  Mq φ t w M mb fs c S (fun n => (S n).isSome = true) V ∧ ∀ n s, S n = some s → ∃ j, V j ∧ blk n j

theorem My.same {w w' : World} {s : Nat} {o : Option Addr} {L : List (Int × Int)} (h : My 0 w s o L) (hS : w'.heap[s]? = w.heap[s]?) (hg : ∀ g, o = some ⟨g, 0, none⟩ → w'.heap[g]? = w.heap[g]?) : My 0 w' s o L := by
  obtain ⟨⟨c, h1⟩, h2⟩ := h
  refine ⟨⟨c, hS.trans h1.1, ?_, h1.2.2⟩, h2⟩
  rcases h1.2.1 with h' | ⟨q, R, h', hA, hR⟩
  · exact .inl h'
  · exact .inr ⟨q, R, h', (hg q h').trans hA, hR⟩
theorem My.cells {w : World} {s : Nat} {o : Option Addr} {L : List (Int × Int)} (h : My 0 w s o L) : (∃ X, w.heap[s]? = some (.cells X 95 (0, 0))) ∧ ∀ g, o = some ⟨g, 0, none⟩ → ∃ X, w.heap[g]? = some (.cells X 77 (0, 0)) := by
  obtain ⟨⟨c, h1⟩, h2⟩ := h
  refine ⟨⟨_, h1.1⟩, fun g hg => ?_⟩
  rcases h1.2.1 with ⟨h', _⟩ | ⟨q, R, h', hA, hR⟩
  · rw [h'] at hg; cases hg
  · rw [h'] at hg
    injection hg with hg
    injection hg with hg
    subst hg
    exact ⟨_, hA⟩
theorem ownsMap_same {w w' : World} {mb c : Nat} {D : DataW Value} (h : w.ownsMap Try.prog 3 Rv mb c D) (hb : w'.heap[mb]? = w.heap[mb]?) : w'.ownsMap Try.prog 3 Rv mb c D := by
  obtain ⟨es, clock, h1, h2, h3, h4⟩ := h
  exact ⟨es, clock, hb.trans h1, h2, h3, h4⟩

variable {φ : Nat → Nat × Nat} {t : Nat} {w : World} {M mb fs c : Nat} {S : Nat → Option Nat} {F : Nat → Prop} {V : Int → Prop}

theorem Mq.mb_lt (h : Mq φ t w M mb fs c S F V) : mb < w.heap.size := by
  obtain ⟨D, ks, h, _⟩ := h.hD
  exact h.lt
/-- What stays as it lies stays marks. -/
theorem Mq.keep (h : Mq φ t w M mb fs c S F V) {w' : World} (hk : ∀ k, k < w.heap.size → (φ k).1 = t → (k = mb ∨ ∃ X t', w.heap[k]? = some (.cells X t' (0, 0))) → w'.heap[k]? = w.heap[k]?) : Mq φ t w' M mb fs c S F V := by
  have hc : ∀ k X t', (φ k).1 = t → w.heap[k]? = some (.cells X t' (0, 0)) → w'.heap[k]? = w.heap[k]? := fun k X t' ht hX => hk k (Array.getElem?_eq_some_iff.1 hX).1 ht (.inr ⟨X, t', hX⟩)
  refine ⟨(hc M _ _ (by rw [h.hφ.1]) h.hM).trans h.hM, ?_, ?_, h.hv, ?_, h.hφ⟩
  · obtain ⟨D, ks, h1, h2⟩ := h.hD
    exact ⟨D, ks, ownsMap_same h1 (hk mb h1.lt (by rw [h.hφ.2]) (.inl rfl)), h2⟩
  · intro n s hs
    obtain ⟨o, L, h1, h2, h3, h4⟩ := h.hs n s hs
    refine ⟨o, L, h1.same ?_ ?_, h2, h3, h4⟩
    · obtain ⟨X, hX⟩ := h1.cells.1
      exact hc s _ _ (by rw [h3]) hX
    · intro g hg
      obtain ⟨X, hX⟩ := h1.cells.2 g hg
      exact hc g _ _ (by rw [h4 g hg]) hX
  · obtain ⟨o, L, h1, h2, h3, h4⟩ := h.hf
    refine ⟨o, L, h1.same ?_ ?_, h2, h3, h4⟩
    · obtain ⟨X, hX⟩ := h1.cells.1
      exact hc fs _ _ (by rw [h3]) hX
    · intro g hg
      obtain ⟨X, hX⟩ := h1.cells.2 g hg
      exact hc g _ _ (by rw [h4 g hg]) hX
theorem Mq.chg (h : Mq φ t w M mb fs c S F V) {X : Nat → Prop} {w' : World} (hc : Chg X w w') (hX : ∀ k, k < w.heap.size → X k → (φ k).1 ≠ t) : Mq φ t w' M mb fs c S F V :=
  h.keep (fun k hk ht _ => hc.2.2.2.2 k hk (fun hx => hX k hk hx ht))
/-- Tags of what is not there yet may turn. -/
theorem Mq.retag (h : Mq φ t w M mb fs c S F V) {φ' : Nat → Nat × Nat} (hφ : ∀ k, k < w.heap.size → φ' k = φ k) : Mq φ' t w M mb fs c S F V := by
  refine ⟨h.hM, h.hD, ?_, h.hv, ?_, ?_⟩
  · intro n s hs
    obtain ⟨o, L, h1, h2, h3, h4⟩ := h.hs n s hs
    exact ⟨o, L, h1, h2, (hφ _ h1.lt.1).trans h3, fun g hg => (hφ _ (h1.lt.2 g hg)).trans (h4 g hg)⟩
  · obtain ⟨o, L, h1, h2, h3, h4⟩ := h.hf
    exact ⟨o, L, h1, h2, (hφ _ h1.lt.1).trans h3, fun g hg => (hφ _ (h1.lt.2 g hg)).trans (h4 g hg)⟩
  · exact ⟨(hφ _ (Array.getElem?_eq_some_iff.1 h.hM).1).trans h.hφ.1, (hφ _ h.mb_lt).trans h.hφ.2⟩
theorem Mq.vext (h : Mq φ t w M mb fs c S F V) {V' : Int → Prop} (e : ∀ j, V' j ↔ V j) : Mq φ t w M mb fs c S F V' := by
  have : V' = V := funext fun j => propext (e j)
  rw [this]; exact h
theorem Mq.look (h : Mq φ t w M mb fs c S F V) {n : Nat} (hn : n ≤ 4503599627370495) : (Instr.lookup 80 (.map (some mb)) (.int .i64 (n : Int)) false).run Try.prog w = .ok (ptrO (S n)) w := by
  obtain ⟨D, ks, hD, _, _, _, _, hat⟩ := h.hD
  obtain ⟨v, ps, hrun, hv⟩ := hD.lookup law3 Try.underlying80 (zero81 w) (zd := .held (.pointer none)) (zp := []) rfl (keyOf_int_mk Try.underlying3 (wfn hn))
  rw [(hat n hn).2] at hv
  simp only [Rv, Option.some.injEq, Prod.mk.injEq, DataW.held.injEq] at hv
  rw [hrun, hv.1]
theorem Mk.low (h : Mk φ t w M mb fs c S V) {n s : Nat} (hs : S n = some s) : n ≤ 4503599627370495 := by
  obtain ⟨j, h1, h2, h3⟩ := h.2 n s hs
  have := (h.1.hv j h1).2.1
  omega
/-- len of the map. -/
theorem Mk.len (h : Mk φ t w M mb fs c S V) (ty : TypeId) : ∃ z : Nat, (Builtin.len_ #[80] ty #[.map (some mb)]).run Try.prog w = .ok (.int .i64 z) w ∧ (0 < z ↔ ∃ j, V j) := by
  obtain ⟨D, ks, hD, _, hz, _, hks, hat⟩ := h.1.hD
  refine ⟨_, hD.len Try.underlying80 ty, ?_⟩
  rw [hz]
  constructor
  · intro hk
    obtain ⟨n, hn⟩ := List.exists_mem_of_length_pos hk
    obtain ⟨s, hs⟩ := Option.isSome_iff_exists.1 ((hks n).1 hn)
    obtain ⟨j, hj, _⟩ := h.2 n s hs
    exact ⟨j, hj⟩
  · rintro ⟨j, hj⟩
    exact List.length_pos_of_mem ((hks _).2 (h.1.hv j hj).2.2)

/-- Spans that lie within so many numbers are no more than these. -/
theorem Ok_len : ∀ (L : List (Int × Int)) (lo : Int) (k : Nat), Ok L → (∀ j, In j L → lo ≤ j ∧ j < lo + k) → L.length ≤ k
  | [], _, _, _, _ => Nat.zero_le _
  | p :: L, lo, k, hO, hw => by
    obtain ⟨h1, h2, h3⟩ := Ok_cons.1 hO
    have hp := hw p.1 ⟨p, List.mem_cons_self .., Int.le_refl _, h1.2.1⟩
    have ih := Ok_len L (p.1 + 1) (lo + k - (p.1 + 1)).toNat h3 (fun j hj => by
      obtain ⟨q, hq, h4, h5⟩ := id hj
      have := h2 q hq
      have := hw j ⟨q, List.mem_cons_of_mem _ hq, h4, h5⟩
      omega)
    rw [List.length_cons]
    omega

/-- One block's set has turned. -/
theorem Mq.turnB (h : Mq φ t w M mb fs c S F V) {w' : World} {n s : Nat} {o o' : Option Addr} {L' : List (Int × Int)} {V' : Int → Prop} (hs : S n = some s) (h3 : φ s = (t, n + 3)) (h4 : ∀ g, o = some ⟨g, 0, none⟩ → φ g = (t, n + 3))
    (ht : Turn 0 w w' s o o' L') (hV' : ∀ j, In j L' ↔ V' j ∧ blk n j) (hout : ∀ j, ¬ blk n j → (V' j ↔ V j)) : Mq (fun k => if k < w.heap.size then φ k else (t, n + 3)) t w' M mb fs c S F V' := by
  obtain ⟨hm, hc, ho⟩ := ht
  have hX : ∀ k, (k = s ∨ o = some ⟨k, 0, none⟩) → φ k = (t, n + 3) := by
    rintro k (rfl | e)
    · exact h3
    · exact h4 k e
  have hsame : ∀ k, k < w.heap.size → φ k ≠ (t, n + 3) → w'.heap[k]? = w.heap[k]? := fun k hk hn => hc.2.2.2.2 k hk (fun hx => hn (hX k hx))
  have hlM := (Array.getElem?_eq_some_iff.1 h.hM).1
  have hφlt : ∀ k, k < w.heap.size → (fun k => if k < w.heap.size then φ k else (t, n + 3)) k = φ k := fun k hk => if_pos hk
  refine ⟨(hsame M hlM (by rw [h.hφ.1]; simp)).trans h.hM, ?_, ?_, ?_, ?_, (hφlt M hlM).trans h.hφ.1, (hφlt mb h.mb_lt).trans h.hφ.2⟩
  · obtain ⟨D, ks, h1, h2⟩ := h.hD
    exact ⟨D, ks, ownsMap_same h1 (hsame mb h1.lt (by rw [h.hφ.2]; simp)), h2⟩
  · intro n' s' hs'
    by_cases e : n' = n
    · subst e
      obtain rfl : s' = s := by rw [hs'] at hs; exact Option.some.inj hs
      obtain ⟨o1, L1, k1, _⟩ := h.hs n' s' hs'
      refine ⟨o', L', hm, hV', (hφlt _ k1.lt.1).trans h3, fun g hg => ?_⟩
      rcases ho with rfl | ⟨g', hg', hl⟩
      · by_cases hgl : g < w.heap.size
        · exact (hφlt _ hgl).trans (h4 g hg)
        · exact if_neg hgl
      · rw [hg'] at hg
        obtain rfl : g' = g := by simpa using hg
        exact if_neg (by omega)
    · obtain ⟨o1, L1, k1, k2, k3, k4⟩ := h.hs n' s' hs'
      have hne : (t, n' + 3) ≠ (t, n + 3) := by simp; exact e
      refine ⟨o1, L1, k1.same (hsame s' k1.lt.1 (by rw [k3]; exact hne)) (fun g hg => hsame g (k1.lt.2 g hg) (by rw [k4 g hg]; exact hne)), fun j => ?_, (hφlt _ k1.lt.1).trans k3, fun g hg => (hφlt _ (k1.lt.2 g hg)).trans (k4 g hg)⟩
      rw [k2 j]
      constructor
      · rintro ⟨a, b⟩; exact ⟨(hout j (fun b' => by unfold blk at b b'; omega)).2 a, b⟩
      · rintro ⟨a, b⟩; exact ⟨(hout j (fun b' => by unfold blk at b b'; omega)).1 a, b⟩
  · intro j hj
    by_cases e : blk n j
    · obtain ⟨p, hp, q1, q2⟩ := (hV' j).2 ⟨hj, e⟩
      have hk := hm.2.1.2 p hp
      refine ⟨by omega, by omega, ?_⟩
      rw [show (j / 1024).toNat = n by unfold blk at e; omega, hs]
      rfl
    · exact h.hv j ((hout j e).1 hj)
  · obtain ⟨o1, L1, k1, k2, k3, k4⟩ := h.hf
    have hne : (t, 2) ≠ (t, n + 3) := by simp
    exact ⟨o1, L1, k1.same (hsame fs k1.lt.1 (by rw [k3]; exact hne)) (fun g hg => hsame g (k1.lt.2 g hg) (by rw [k4 g hg]; exact hne)), k2, (hφlt _ k1.lt.1).trans k3, fun g hg => (hφlt _ (k1.lt.2 g hg)).trans (k4 g hg)⟩

/-- The set of the filled has turned. -/
theorem Mq.turnF (h : Mq φ t w M mb fs c S F V) {w' : World} {o o' : Option Addr} {L' : List (Int × Int)} {F' : Nat → Prop} (h3 : φ fs = (t, 2)) (h4 : ∀ g, o = some ⟨g, 0, none⟩ → φ g = (t, 2))
    (ht : Turn 0 w w' fs o o' L') (hF' : ∀ j, In j L' ↔ 0 ≤ j ∧ F' j.toNat) : Mq (fun k => if k < w.heap.size then φ k else (t, 2)) t w' M mb fs c S F' V := by
  obtain ⟨hm, hc, ho⟩ := ht
  have hX : ∀ k, (k = fs ∨ o = some ⟨k, 0, none⟩) → φ k = (t, 2) := by
    rintro k (rfl | e)
    · exact h3
    · exact h4 k e
  have hsame : ∀ k, k < w.heap.size → φ k ≠ (t, 2) → w'.heap[k]? = w.heap[k]? := fun k hk hn => hc.2.2.2.2 k hk (fun hx => hn (hX k hx))
  have hlM := (Array.getElem?_eq_some_iff.1 h.hM).1
  have hφlt : ∀ k, k < w.heap.size → (fun k => if k < w.heap.size then φ k else (t, 2)) k = φ k := fun k hk => if_pos hk
  refine ⟨(hsame M hlM (by rw [h.hφ.1]; simp)).trans h.hM, ?_, ?_, h.hv, ?_, (hφlt M hlM).trans h.hφ.1, (hφlt mb h.mb_lt).trans h.hφ.2⟩
  · obtain ⟨D, ks, h1, h2⟩ := h.hD
    exact ⟨D, ks, ownsMap_same h1 (hsame mb h1.lt (by rw [h.hφ.2]; simp)), h2⟩
  · intro n' s' hs'
    obtain ⟨o1, L1, k1, k2, k3, k4⟩ := h.hs n' s' hs'
    have hne : (t, n' + 3) ≠ (t, 2) := by simp
    exact ⟨o1, L1, k1.same (hsame s' k1.lt.1 (by rw [k3]; exact hne)) (fun g hg => hsame g (k1.lt.2 g hg) (by rw [k4 g hg]; exact hne)), k2, (hφlt _ k1.lt.1).trans k3, fun g hg => (hφlt _ (k1.lt.2 g hg)).trans (k4 g hg)⟩
  · obtain ⟨o1, L1, k1, _⟩ := h.hf
    refine ⟨o', L', hm, hF', (hφlt _ k1.lt.1).trans h3, fun g hg => ?_⟩
    rcases ho with rfl | ⟨g', hg', hl⟩
    · by_cases hgl : g < w.heap.size
      · exact (hφlt _ hgl).trans (h4 g hg)
      · exact if_neg hgl
    · rw [hg'] at hg
      obtain rfl : g' = g := by simpa using hg
      exact if_neg (by omega)

/-- A block that was not there. -/
theorem Mq.put (h : Mq φ t w M mb fs c S F V) {n s : Nat} (hn : n ≤ 4503599627370495) (hc : c < 9000000000000000000) (hs : S n = none) (hm : My 0 w s none []) (h3 : φ s = (t, n + 3)) :
    ∃ w', (Instr.mapUpdate 80 (.map (some mb)) (.int .i64 (n : Int)) (.pointer (some ⟨s, 0, none⟩))).run Try.prog w = .ok () w' ∧ Mq φ t w' M mb fs (c + 1) (fun k => if k = n then some s else S k) F V ∧ Chg (fun k => k = mb) w w' := by
  obtain ⟨D, ks, hD, hT, hz, hnd, hks, hat⟩ := h.hD
  obtain ⟨w', hrun, h1, h2⟩ := hD.update law3 Try.underlying80 (by unfold maxLen; omega) (keyOf_int_mk Try.underlying3 (wfn hn)) (show Rv (.pointer (some ⟨s, 0, none⟩)) = some (.held (.pointer (some ⟨s, 0, none⟩)), []) from rfl)
  have hch : Chg (fun k => k = mb) w w' := ⟨h2.os, h2.tape, h2.output, h2.size, fun k hk hx => h2.block k hk (by simpa using hx)⟩
  have hsame : ∀ (k : Nat) (X : Array Value) (t' : TypeId), w.heap[k]? = some (.cells X t' (0, 0)) → w'.heap[k]? = w.heap[k]? := fun k X t' hX => hch.2.2.2.2 k (Array.getElem?_eq_some_iff.1 hX).1 (by
    intro e0
    obtain ⟨es, clock, e, _⟩ := hD
    rw [e0, e] at hX; cases hX)
  have hMy : ∀ s o L, My 0 w s o L → My 0 w' s o L := fun s o L hm => hm.same (by obtain ⟨X, hX⟩ := hm.cells.1; exact hsame s _ _ hX) (fun g hg => by obtain ⟨X, hX⟩ := hm.cells.2 g hg; exact hsame g _ _ hX)
  refine ⟨w', hrun, ⟨(hsame M _ _ h.hM).trans h.hM, ⟨_, n :: ks, h1, hT.put (show WideAt.IsKeyLit (.int .i64 _) from trivial) _, ?_, ?_, ?_, ?_⟩, ?_, ?_, ?_, h.hφ⟩, hch⟩
  · rw [size_put hT, (hat n hn).1, hs]
    simp [hz]
  · refine List.nodup_cons.2 ⟨fun hm => ?_, hnd⟩
    have := (hks n).1 hm
    rw [hs] at this; cases this
  · intro k
    rw [List.mem_cons, hks k]
    by_cases e : k = n
    · simp [e]
    · simp [e]
  · intro k hk
    by_cases e : k = n
    · subst e
      rw [if_pos rfl]
      exact ⟨has_put_same hT.isMap (show WideAt.IsKeyLit (.int .i64 _) from trivial) _, atKey_put_same hT.isMap (show WideAt.IsKeyLit (.int .i64 _) from trivial) _ _⟩
    · have hne : (Lit.int .i64 (k : Int)) ≠ Lit.int .i64 (n : Int) := by intro e'; injection e' with _ e'; omega
      rw [has_put_other hne, atKey_put_other hne, if_neg e]
      exact hat k hk
  · intro n' s' hs'
    by_cases e : n' = n
    · subst e
      simp only [if_pos] at hs'
      obtain rfl : s = s' := by simpa using hs'
      refine ⟨none, [], hMy _ _ _ hm, fun j => ?_, h3, fun g hg => nomatch hg⟩
      constructor
      · intro hh; exact absurd hh (In_nil j)
      · rintro ⟨a, b⟩
        have := (h.hv j a).2.2
        rw [show (j / 1024).toNat = n' by unfold blk at b; omega, hs] at this
        cases this
    · simp only [if_neg e] at hs'
      obtain ⟨o1, L1, k1, k2⟩ := h.hs n' s' hs'
      exact ⟨o1, L1, hMy _ _ _ k1, k2⟩
  · intro j hj
    obtain ⟨a, b, c⟩ := h.hv j hj
    refine ⟨a, b, ?_⟩
    split
    · rfl
    · exact c
  · obtain ⟨o1, L1, k1, k2⟩ := h.hf
    exact ⟨o1, L1, hMy _ _ _ k1, k2⟩

end Go.Proofs.YtfgfomkhlhiiiaaR
