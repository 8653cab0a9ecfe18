/- ledger: arrive, on lists. -/
import Derived.Test.YtkjcapmhjhnckaaHa
import Derived.Test.YtkjcapmhjhnckaaLoW
import Derived.RangeFuncNested
import Derived.RangeFuncBound
import Derived.RangeFuncCalls
import Derived.RangeFuncLeaves
import Derived.RangeFuncFrom
import Derived.RangeFuncWrites
import Derived.OwnWalkIn
import Derived.TacticsInMore
import Derived.LoopNIn
import Derived.LoopIn
import Derived.OrdersHeld
import Derived.OrdersIn
import Derived.Sort.LoopGhostIn
namespace Go.Proofs.Ytkjcapmhjhnckaa
open Go.RowKit Go.Maps Go.Shelf
set_option linter.unusedVariables false
set_option maxRecDepth 100000

/-- Is a packet's number in one of the spans? -/
def inS (S : List (Int × Int)) (p : Pk) : Bool := S.any fun s => decide (s.1 ≤ p.n) && decide (p.n ≤ s.2)
/-- The first i looked through for the spans. -/
def arO (S : List (Int × Int)) (i : Nat) (O : List (Pk × Bool)) : List (Pk × Bool) := un (inS S) (O.take i) ++ O.drop i
/-- Those that arrived, of the first i. -/
def ak (S : List (Int × Int)) (i : Nat) (O : List (Pk × Bool)) : List Pk := ons ((O.take i).filter fun x => inS S x.1)
def gq (g : Int) (ps : List Pk) : Int := ps.foldl (fun g p => max g p.n) g
def Ls.ar (L : Ls) (S : List (Int × Int)) (i : Nat) : Ls := { L with O := arO S i L.O, z := zs (arO S i L.O), c := ce (arO S i L.O), g := gq L.g (ak S i L.O) }
theorem arO_zero (S : List (Int × Int)) (O : List (Pk × Bool)) : arO S 0 O = O := by simp [arO, un]
theorem arO_len (S : List (Int × Int)) (i : Nat) (O : List (Pk × Bool)) : (arO S i O).length = O.length := by simp [arO, un]; omega
theorem arO_fst (S : List (Int × Int)) (i : Nat) (O : List (Pk × Bool)) : (arO S i O).map (fun x => x.1) = O.map fun x => x.1 := by
  unfold arO un
  rw [List.map_append, List.map_map, show ((fun x : Pk × Bool => x.1) ∘ fun x => (x.1, x.2 && !inS S x.1)) = (fun x : Pk × Bool => x.1) from rfl, ← List.map_append, List.take_append_drop]
theorem ns_fst {O O' : List (Pk × Bool)} (h : O.map (fun x => x.1) = O'.map fun x => x.1) : ns O = ns O' := by
  have e : ∀ O : List (Pk × Bool), ns O = (O.map fun x => x.1).map fun p => .int .i64 p.n := fun O => by simp [ns, List.map_map, Function.comp_def]
  rw [e, e, h]
theorem rise_fst {O O' : List (Pk × Bool)} (h : O.map (fun x => x.1) = O'.map fun x => x.1) (hr : Rise O') : Rise O := by
  have e : ∀ O : List (Pk × Bool), Rise O ↔ (O.map fun x => x.1).Pairwise fun x y => x.n < y.n := fun O => by unfold Rise; rw [List.pairwise_map]
  rw [e, h, ← e]; exact hr
theorem ok_fst {O O' : List (Pk × Bool)} (h : O.map (fun x => x.1) = O'.map fun x => x.1) (hr : ∀ x ∈ O', x.1.ok) : ∀ x ∈ O, x.1.ok := by
  intro x hx
  have : x.1 ∈ O.map fun x => x.1 := List.mem_map_of_mem hx
  rw [h] at this
  obtain ⟨y, hy, e⟩ := List.mem_map.1 this
  rw [← e]; exact hr y hy
theorem arO_at {S : List (Int × Int)} {O : List (Pk × Bool)} {i : Nat} (h : i < O.length) : arO S i O = un (inS S) (O.take i) ++ O[i] :: O.drop (i + 1) := by
  unfold arO
  rw [List.drop_eq_getElem_cons h]
theorem arO_succ {S : List (Int × Int)} {O : List (Pk × Bool)} {i : Nat} (h : i < O.length) : arO S (i + 1) O = un (inS S) (O.take i) ++ (O[i].1, O[i].2 && !inS S O[i].1) :: O.drop (i + 1) := by
  unfold arO
  rw [List.take_succ_eq_append_getElem h]
  unfold un
  rw [List.map_append, List.append_assoc]
  rfl
theorem arO_mem {S : List (Int × Int)} {O : List (Pk × Bool)} {i : Nat} (h : i < O.length) : O[i] ∈ arO S i O := by
  rw [arO_at h]; exact List.mem_append_right _ List.mem_cons_self
theorem ak_succ {S : List (Int × Int)} {O : List (Pk × Bool)} {i : Nat} (h : i < O.length) : ak S (i + 1) O = ak S i O ++ (if O[i].2 = true ∧ inS S O[i].1 = true then [O[i].1] else []) := by
  unfold ak
  rw [List.take_succ_eq_append_getElem h, List.filter_append]
  cases h1 : inS S O[i].1 with
  | false => simp [h1, ons]
  | true =>
    have : List.filter (fun x => inS S x.1) [O[i]] = [O[i]] := by simp [h1]
    rw [this, ons_snoc]
    simp
theorem ak_len (S : List (Int × Int)) (i : Nat) (O : List (Pk × Bool)) : (ak S i O).length ≤ O.length := by
  unfold ak
  refine Nat.le_trans (ons_len _) (Nat.le_trans (List.length_filter_le _ _) ?_)
  rw [List.length_take]; omega
/-- One that no span has, or that is not on its way, is passed over. -/
theorem Ls.ar_skip {L : Ls} {S : List (Int × Int)} {i : Nat} (h : i < L.O.length) (hs : L.O[i].2 = false ∨ inS S L.O[i].1 = false) : L.ar S i = L.ar S (i + 1) := by
  have e1 : arO S i L.O = arO S (i + 1) L.O := by
    rw [arO_at h, arO_succ h]
    congr 2
    generalize L.O[i] = x at hs ⊢
    obtain ⟨p, b⟩ := x
    rcases hs with hs | hs
    · have hs' : b = false := hs
      subst hs'
      rfl
    · have hs' : inS S p = false := hs
      simp [hs']
  have e2 : ak S i L.O = ak S (i + 1) L.O := by
    rw [ak_succ h, if_neg (by rcases hs with hs | hs <;> simp [hs])]; simp
  unfold Ls.ar
  rw [e1, e2]
theorem Ls.ar_skips {L : Ls} {S : List (Int × Int)} {i j : Nat} (hij : i ≤ j) (hj : j ≤ L.O.length) (hs : ∀ k (hk : k < L.O.length), i ≤ k → k < j → inS S L.O[k].1 = false) : L.ar S i = L.ar S j := by
  induction j with
  | zero => rw [show i = 0 by omega]
  | succ j ih =>
    by_cases e : i = j + 1
    · rw [e]
    · rw [ih (by omega) (by omega) (fun k hk h1 h2 => hs k hk h1 (by omega))]
      exact Ls.ar_skip (by omega) (.inr (hs j (by omega) (by omega) (by omega)))
/-- One that is on its way, and that a span has, is taken. -/
theorem Ls.ar_take {L : Ls} {S : List (Int × Int)} {i : Nat} (h : i < L.O.length) (hr : Rise L.O) (h1 : L.O[i].2 = true) (h2 : inS S L.O[i].1 = true) : (L.ar S i).take L.O[i].1 = { L.ar S (i + 1) with g := gq L.g (ak S i L.O) } := by
  have e : L.O[i] = (L.O[i].1, true) := by rw [← h1]
  have e1 := arO_at (S := S) h
  rw [e] at e1
  have e2 := arO_succ (S := S) h
  rw [h1, h2] at e2
  simp only [Bool.not_true, Bool.and_false] at e2
  have hr' := rise_fst (arO_fst S i L.O) hr
  rw [e1] at hr'
  have e3 := un_split hr'
  unfold Ls.take Ls.ar
  congr 1
  · simp only
    rw [e1, e3, e2]
  · simp only
    rw [e1, e2, zs_off]
  · simp only
    rw [e1, e2, ce_off]
theorem Ls.ar_g {L : Ls} {S : List (Int × Int)} {i : Nat} (h : i < L.O.length) (h1 : L.O[i].2 = true) (h2 : inS S L.O[i].1 = true) : ak S (i + 1) L.O = ak S i L.O ++ [L.O[i].1] ∧ gq L.g (ak S (i + 1) L.O) = max (gq L.g (ak S i L.O)) L.O[i].1.n := by
  have e := ak_succ (S := S) h
  rw [if_pos ⟨h1, h2⟩] at e
  refine ⟨e, ?_⟩
  rw [e]
  simp [gq, List.foldl_append]
/-- How many numbers lie below a number. -/
def nb (O : List (Pk × Bool)) (n : Int) : Nat := (O.takeWhile fun x => decide (x.1.n < n)).length
theorem nb_lo {O : List (Pk × Bool)} {n : Int} {k : Nat} (h : k < O.length) (hk : k < nb O n) : O[k].1.n < n := by
  have := (tw_iff (P := fun x : Pk × Bool => decide (x.1.n < n)) (O := O) (k := k) (by unfold nb at hk; omega) h).2 hk
  simpa using this
theorem nb_hi {O : List (Pk × Bool)} {n : Int} (hr : Rise O) {k : Nat} (h : k < O.length) (hk : nb O n ≤ k) : n ≤ O[k].1.n := by
  have h1 : nb O n < O.length := by omega
  have h2 : ¬ (O[nb O n].1.n < n) := by
    intro hh
    have := (tw_iff (P := fun x : Pk × Bool => decide (x.1.n < n)) (O := O) (k := nb O n) (Nat.le_refl _) h1).1 (by simpa using hh)
    unfold nb at this
    omega
  rcases Nat.lt_or_eq_of_le hk with h3 | h3
  · have := List.pairwise_iff_getElem.1 hr (nb O n) k h1 h h3
    omega
  · simp only [← h3]
    omega
theorem gq_bound {g : Int} {ps : List Pk} (h0 : -1 ≤ g) (h1 : g ≤ 4611686018427387903) (h : ∀ p ∈ ps, p.ok) : -1 ≤ gq g ps ∧ gq g ps ≤ 4611686018427387903 := by
  unfold gq
  induction ps generalizing g with
  | nil => exact ⟨h0, h1⟩
  | cons p t ih =>
    have hp := h p (by simp)
    have := hp.n0
    have := hp.n1
    exact ih (g := max g p.n) (by omega) (by omega) fun q hq => h q (by simp [hq])
theorem ak_ok {S : List (Int × Int)} {i : Nat} {O : List (Pk × Bool)} (h : ∀ x ∈ O, x.1.ok) : ∀ p ∈ ak S i O, p.ok := by
  intro p hp
  unfold ak ons at hp
  obtain ⟨x, hx, rfl⟩ := List.mem_map.1 hp
  exact h x (List.mem_of_mem_take (List.mem_filter.1 (List.mem_filter.1 hx).1).1)

/-- Where arrive stands when it has looked through the first i: its boxes p (the ledger), q (what arrived), Bs (the spans), dd (what is deferred). -/
structure ArI (W : World) (A : Ad) (L : Ls) (la : Option Addr) (cap : Nat) (S : List (Int × Int)) (p q Bs dd i : Nat) (X : World) : Prop where
  lg : Lg X A (L.ar S i)
  st : Stp A A W X
  hp : X.heap[p]? = some (.cells #[.pointer (some ⟨A.b, 0, none⟩)] 23 (0, 0))
  hq : ∃ o c, X.heap[q]? = some (.cells #[.slice o (ak S i L.O).length c] 38 (0, 0)) ∧ Pr X o c (ak S i L.O) ∧ ∀ j, Blk o j → W.heap.size ≤ j
  hB : X.heap[Bs]? = some (.cells #[.slice la S.length cap] 30 (0, 0))
  hd : X.heap[dd]? = some (.deferred (some []))
section
variable {W X Y : World} {A : Ad} {L : Ls} {la : Option Addr} {cap : Nat} {S : List (Int × Int)} {p q Bs dd i : Nat}
/-- What is none of these may turn. -/
theorem ArI.keep (h : ArI W A L la cap S p q Bs dd i X) {Z : Nat → Prop} (hc : Chg Z X Y) (hz : ∀ j, Z j → W.heap.size ≤ j) (hA : ∀ j, A.own j → ¬ Z j) (h1 : ¬ Z p) (h2 : ¬ Z q) (h3 : ¬ Z Bs) (h4 : ¬ Z dd) (h5 : ∀ j X', X.heap[j]? = some (.cells X' 29 (0, 0)) → ¬ Z j) : ArI W A L la cap S p q Bs dd i Y := by
  obtain ⟨o, c, k1, k2, k3⟩ := h.hq
  refine ⟨h.lg.chg hc hA, ⟨rfl, h.st.chg.andThen hc (fun j hj hb => by have := hz j hb; omega), fun k hk => .inl hk⟩, hc.blk h.hp h1, ⟨o, c, hc.blk k1 h2, Rw.chg k2 hc (fun j hj => ?_), k3⟩, hc.blk h.hB h3, hc.blk h.hd h4⟩
  obtain ⟨X', hx⟩ := Rw.ty k2 hj
  exact h5 j X' hx
theorem ArI.put (h : ArI W A L la cap S p q Bs dd i X) {l : Nat} {r : Loop} (hl : X.heap[l]? = some (.loop r)) (hlW : W.heap.size ≤ l) (o' : Obj) : ArI W A L la cap S p q Bs dd i (X.putObj l o') := by
  have hc : Chg (fun j => j = l) X (X.putObj l o') := ⟨rfl, rfl, rfl, by simp [World.putObj], fun j hj hx => World.putObj_heap_other (fun e => hx e)⟩
  refine h.keep hc (fun j hj => by rw [hj]; exact hlW) (fun j hj e => ?_) (fun e => ?_) (fun e => ?_) (fun e => ?_) (fun e => ?_) (fun j X' hx e => ?_)
  · rw [e] at hj
    rcases hj with e1 | e1 | e1 | e1
    · rw [e1, h.lg.hb] at hl; cases hl
    · obtain ⟨es, cl, h2⟩ := h.lg.mp.isMap; rw [e1, h2] at hl; cases hl
    · obtain ⟨Z, hz⟩ := h.lg.ord.ty e1; rw [hz] at hl; cases hl
    · obtain ⟨Z, hz⟩ := h.lg.snt.ty e1; rw [hz] at hl; cases hl
  · rw [← e, h.hp] at hl; cases hl
  · obtain ⟨o, c, k1, _⟩ := h.hq; rw [← e, k1] at hl; cases hl
  · rw [← e, h.hB] at hl; cases hl
  · rw [← e, h.hd] at hl; cases hl
  · rw [e] at hx; rw [hx] at hl; cases hl
theorem ArI.bel (h : ArI W A L la cap S p q Bs dd i X) (hb : Below X.heap.size X Y) : ArI W A L la cap S p q Bs dd i Y :=
  h.keep (Z := fun _ => False) ((Chg.refl _ X).below hb) (fun _ h => h.elim) (fun _ _ h => h) id id id id (fun _ _ _ h => h)
end
end Go.Proofs.Ytkjcapmhjhnckaa
