/- inbox: InboxBack, the walk. -/
import Derived.Test.YtpbiokcelglaaaaDoorBk
import Derived.Laws.AppendOwn
import Derived.Deep.RegionHeld3
import Derived.BigQuiet
namespace Go.Proofs.YtpbiokcelglaaaaDoor
open Go.RowKit Go.Maps
set_option linter.unusedVariables false

/-- Pairs of numbers as they lie. -/
def Ar (w : World) (la : Option Addr) (l : List (Int × Int)) : Prop := ∀ i (h : i < l.length), ∃ b off, la = some ⟨b, off, none⟩ ∧ w.cell? ⟨b, off + i * 2, none⟩ = some (.int .i64 l[i].1) ∧ w.cell? ⟨b, off + i * 2 + 1, none⟩ = some (.int .i64 l[i].2)
/-- Numbers as they lie. -/
def Ai (w : World) (la : Option Addr) (l : List Int) : Prop := ∀ i (h : i < l.length), ∃ b off, la = some ⟨b, off, none⟩ ∧ w.cell? ⟨b, off + i, none⟩ = some (.int .i64 l[i])

/-- What the law's loop keeps. -/
structure Lw (W : World) (b mb : Nat) (T : List UInt8) (np i : Nat) (ao : Option Addr) (c p R nn rc : Nat) (V : Nat → Option UInt8) (kn : Bool) (w : World) : Prop where
  bk : Bk b mb T p R nn rc V kn w
  own : w.ownsRow W.heap.size 5 1 (.slice ao p c) p (bs (T.take p))
  bel : Below W.heap.size W w
  hb : W.heap.size ≤ b
  hm : W.heap.size ≤ mb
  hnn : nn ≤ 20000 * i
  late : np < i → kn = true
  lateV : ∀ j, p ≤ j → j < T.length → T.length + np + 1 ≤ j + i → V j ≠ none
theorem Sl.below {W w : World} {la : Option Addr} {l : List UInt8} (h : Sl W la l) (hb : Below W.heap.size W w) : Sl w la l := by
  intro j hj
  obtain ⟨g, off, e, hx⟩ := h j hj
  exact ⟨g, off, e, by rw [hb.cell (p := ⟨g, off + j, none⟩) (World.block_lt_of_cell? _ _ hx)]; exact hx⟩
theorem Tb.below {W w : World} (h : Tb W) (hb : Below W.heap.size W w) : Tb w := by
  intro i hi
  have hx := h i hi
  rw [hb.cell (p := ⟨0, i, none⟩) (World.block_lt_of_cell? _ _ hx)]
  exact hx
theorem Sl.part {w : World} {la : Option Addr} {T : List UInt8} (h : Sl w la T) (a k : Nat) (hk : a + k ≤ T.length) {la' : Option Addr} (hla : ∀ b off, la = some ⟨b, off, none⟩ → 0 < k → la' = some ⟨b, off + a, none⟩) : Sl w la' ((T.drop a).take k) := by
  intro j hj
  have hj2 : j < k := by simp at hj; omega
  obtain ⟨b, off, e, hx⟩ := h (a + j) (by omega)
  refine ⟨b, off + a, hla b off e (by omega), ?_⟩
  rw [Nat.add_assoc, hx]
  simp [List.getElem_take, List.getElem_drop]
theorem own_kept {base : Nat} {v : Value} {n : Nat} {xs : List Value} {w w' : World} {X : Nat → Prop} (h : w.ownsRow base 5 1 v n xs) (hc : Chg X w w') (hx : ∀ g cur, w.heap[g]? = some (.cells cur 5 (0, 0)) → ¬ X g) : w'.ownsRow base 5 1 v n xs := by
  obtain ⟨h1, h2⟩ := h
  refine ⟨h1, ?_⟩
  rcases h2 with h0 | ⟨g, cap, cur, hv, hb, hg, h3⟩
  · exact .inl h0
  · exact .inr ⟨g, cap, cur, hv, hb, (hc.2.2.2.2 g (Array.getElem?_eq_some_iff.1 hg).1 (hx g cur hg)).trans hg, h3⟩
theorem Bk.not5 {b mb : Nat} {T : List UInt8} {p R nn rc : Nat} {V : Nat → Option UInt8} {kn : Bool} {w : World} (h : Bk b mb T p R nn rc V kn w) {g : Nat} {cur : Array Value} (hg : w.heap[g]? = some (.cells cur 5 (0, 0))) : ¬ (g = b ∨ g = mb) := by
  rintro (rfl | rfl)
  · rw [h.ib.1] at hg
    simp at hg
  · obtain ⟨_, D, ⟨es, ck, h2, _⟩, _⟩ := h.ib
    rw [h2] at hg
    simp at hg
theorem chg_bel {b mb : Nat} {W w w' : World} (h : Below W.heap.size W w) (hc : Chg (fun j => j = b ∨ j = mb) w w') (hb : W.heap.size ≤ b) (hm : W.heap.size ≤ mb) : Below W.heap.size W w' :=
  h.trans ⟨hc.1, hc.2.1, hc.2.2.1, hc.2.2.2.1, fun j hj => hc.2.2.2.2 j (Nat.lt_of_lt_of_le hj h.size) (by omega)⟩
/-- A put of the law. -/
theorem Lw.put {W : World} {b mb : Nat} {T : List UInt8} {np i : Nat} {ao : Option Addr} {c p R nn rc : Nat} {V : Nat → Option UInt8} {kn : Bool} {w : World} (h : Lw W b mb T np i ao c p R nn rc V kn w) (hT : Tb W) {la la' : Option Addr} (hs : Sl W la T) (at' k cap : Nat) (fin : Bool) (hla : ∀ b off, la = some ⟨b, off, none⟩ → 0 < k → la' = some ⟨b, off + at', none⟩) (hk : at' + k ≤ T.length) (hcap : k ≤ cap) (hTl : T.length ≤ 1048576) (hnp : np ≤ 10000000000000) (hi : i ≤ np + T.length) (hf : fin = true ↔ at' + k = T.length) (hl : np ≤ i → at' = T.length - (i - np) ∧ k = min 1 (T.length - at')) :
    Calls Tryd.prog 10 #[.pointer (some ⟨b, 0, none⟩), .int .i64 at', .slice la' k cap, .bool fin] w fun e w' => e = .returned (.int .i64 0) ∧ ∃ R' nn' rc' V' kn', Lw W b mb T np (i + 1) ao c p R' nn' rc' V' kn' w' := by
  have hnn := h.hnn
  refine (h.bk.put (hT.below h.bel) at' k cap fin la' ((hs.below h.bel).part at' k hk hla) hk hcap hTl (by omega) hf).mono ?_
  rintro e w' ⟨rfl, R', nn', rc', V', kn', h1, h2, h3, h4, h5, h6, h7⟩
  refine ⟨rfl, R', nn', rc', V', kn', h1, own_kept h.own h7 (fun g cur hg => h.bk.not5 hg), chg_bel h.bel h7 h.hb h.hm, h.hb, h.hm, by omega, fun hlt => ?_, fun j j1 j2 j3 => ?_⟩
  · by_cases e : np = i
    · obtain ⟨e1, e2⟩ := hl (by omega)
      exact h3 (by omega)
    · exact h4 (h.late (by omega))
  · by_cases e : T.length + np + 1 ≤ j + i
    · exact h5 j j1 (h.lateV j j1 j2 e)
    · obtain ⟨e1, e2⟩ := hl (by omega)
      exact h6 j j1 (by omega) (by omega)
/-- A read of the law. -/
theorem Lw.read {W : World} {b mb : Nat} {T : List UInt8} {np i : Nat} {ao : Option Addr} {c p R nn rc : Nat} {V : Nat → Option UInt8} {kn : Bool} {w : World} (h : Lw W b mb T np i ao c p R nn rc V kn w) (x : Int) (hTl : T.length ≤ 1048576) :
    Calls Tryd.prog 12 #[.pointer (some ⟨b, 0, none⟩), .int .i64 x] w fun e w' => ∃ g m V' dn, e = .returned (.tuple #[.slice (some ⟨g, 0, none⟩) m m, .bool dn]) ∧ (m : Int) = min (max x 0) ((R : Int) - p) ∧ p + m ≤ T.length ∧ (dn = true → p + m = T.length) ∧ dn = (kn && decide (((p + m : Nat) : Int) = rc)) ∧ W.heap.size ≤ g ∧
      w'.ownsRow W.heap.size 5 1 (.slice ao p c) p (bs (T.take p)) ∧ w'.ownsRow g 5 1 (.slice (some ⟨g, 0, none⟩) m m) m (bs ((T.drop p).take m)) ∧ Bk b mb T (p + m) R nn rc V' kn w' ∧ (∀ j, p + m ≤ j → V' j = V j) ∧ Below W.heap.size W w' := by
  refine (h.bk.read x hTl).mono ?_
  rintro e w' ⟨g, m, V', dn, rfl, h1, h2, h3, h4, h5, h6, h7, h8⟩
  refine ⟨g, m, V', dn, rfl, h1, h3, fun e => ?_, h4, Nat.le_trans h.bel.size h2, own_kept h.own h8 (fun g cur hg => h.bk.not5 hg), h5, h6, h7, chg_bel h.bel h8 h.hb h.hm⟩
  rw [e] at h4
  have h9 := (Bool.and_eq_true _ _).mp h4.symm
  have := h.bk.hkn h9.1
  have := of_decide_eq_true h9.2
  omega
/-- What was read is put behind what was. -/
theorem Lw.got {W : World} {b mb : Nat} {T : List UInt8} {np i : Nat} {ao : Option Addr} {c p R nn rc : Nat} {V : Nat → Option UInt8} {kn : Bool} {w w1 w2 : World} (h : Lw W b mb T np i ao c p R nn rc V kn w) {m : Nat} {V' : Nat → Option UInt8} {ao' : Option Addr} {c' : Nat}
    (h1 : Bk b mb T (p + m) R nn rc V' kn w1) (hV : ∀ j, p + m ≤ j → V' j = V j) (hbel : Below W.heap.size W w1) (hown : w1.ownsRow W.heap.size 5 1 (.slice ao p c) p (bs (T.take p)))
    (h2 : w2.ownsRow W.heap.size 5 1 (.slice ao' (p + m) c') (p + m) (bs (T.take p) ++ bs ((T.drop p).take m))) (hg : w1.grownBy w2 (Value.slice ao p c).ownBlock) : Lw W b mb T np i ao' c' (p + m) R nn rc V' kn w2 := by
  have hch : Chg (fun j => some j = (Value.slice ao p c).ownBlock) w1 w2 := ⟨hg.os, hg.tape, hg.output, hg.size, fun j hj hx => hg.block j hj hx⟩
  have hnx : ∀ j, some j = (Value.slice ao p c).ownBlock → W.heap.size ≤ j ∧ ¬ (j = b ∨ j = mb) := by
    intro j hj
    refine ⟨(hown.lt j hj.symm).1, ?_⟩
    rcases hown.2 with ⟨h0, _⟩ | ⟨g, cap, cur, hv, hb, hgg, h3⟩
    · rw [h0] at hj; cases hj
    · rw [hv] at hj
      simp only [Value.ownBlock, Option.some.injEq] at hj
      subst hj
      exact h1.not5 hgg
  rw [← bs_append, ← List.take_add] at h2
  refine ⟨h1.kept hch (fun e => (hnx b e).2 (.inl rfl)) (fun e => (hnx mb e).2 (.inr rfl)), h2, ?_, h.hb, h.hm, h.hnn, h.late, fun j j1 j2 j3 => ?_⟩
  · refine hbel.trans ⟨hg.os, hg.tape, hg.output, hg.size, fun j hj => hch.2.2.2.2 j (Nat.lt_of_lt_of_le hj hbel.size) (fun e => ?_)⟩
    have := (hnx j e).1
    omega
  · rw [hV j j1]
    exact h.lateV j (by omega) j2 j3
/-- A slice of bytes as a string. -/
theorem str_any {w : World} {ao : Option Addr} {l : List UInt8} {m cap : Nat} (hs : Sl w ao l) (hm : l.length = m) (hnil : ao = none → m = 0 ∧ cap = 0) :
    (convert 31 9 (.slice ao m cap)).run Tryd.prog w = .ok (.string ⟨l.toArray⟩) w := by
  cases ao with
  | none =>
    obtain ⟨rfl, rfl⟩ := hnil rfl
    obtain rfl : l = [] := List.eq_nil_of_length_eq_zero hm
    rw [run_convert_bytes_string w 31 9 5 none 0 0 Tryd.underlying31 Tryd.underlying5 Tryd.underlying9]
    simp [Conv.bytesToString]
    rfl
  | some ad =>
    subst hm
    refine run_convert_bytes_back w 31 9 5 ad cap l Tryd.underlying31 Tryd.underlying5 Tryd.underlying9 fun j hj => ?_
    obtain ⟨b, off, e, hx⟩ := hs j hj
    injection e with e
    subst e
    rw [Addr.add_lit]
    exact hx
theorem str_add {w : World} (l m : List UInt8) (hl : l.length + m.length ≤ 9223372036854775807) :
    (Op.stringOp .add ⟨l.toArray⟩ ⟨m.toArray⟩).run Tryd.prog w = .ok (.string ⟨(l ++ m).toArray⟩) w := by
  refine (run_string_add_sum (P := Tryd.prog) (w := w) ⟨l.toArray⟩ ⟨m.toArray⟩ (by simpa [ByteArray.size] using hl)).trans ?_
  have e : (⟨l.toArray⟩ : ByteArray) ++ ⟨m.toArray⟩ = ⟨(l ++ m).toArray⟩ := by
    apply ByteArray.ext
    rw [ByteArray.data_append]
    simp
  rw [e]
/-- An owned row of bytes, as bytes. -/
theorem own_sl {w : World} {base : Nat} {ao : Option Addr} {n c : Nat} {l : List UInt8} (h : w.ownsRow base 5 1 (.slice ao n c) n (bs l)) : Sl w ao l ∧ l.length = n ∧ (ao = none → n = 0 ∧ c = 0) ∧ n ≤ c := by
  obtain ⟨h1, h2⟩ := h
  have hl : l.length = n := by simpa using h1
  rcases h2 with ⟨h0, rfl⟩ | ⟨g, cap, cur, hv, hb, hg, h3, h4, h5, h6⟩
  · injection h0 with e1 e2 e3
    subst e1 e3
    exact ⟨fun j hj => absurd hj (by omega), hl, fun _ => ⟨rfl, rfl⟩, Nat.le_refl _⟩
  · injection hv with e1 e2 e3
    subst e1 e3
    refine ⟨fun j hj => ⟨g, 0, rfl, ?_⟩, hl, (fun e => by cases e), h3⟩
    have hj' : (bs l)[j]? = some (.int .u8 (l[j].toNat : Int)) := by simp [bs, hj]
    rw [← h6, List.getElem?_take, if_pos (by omega)] at hj'
    simp only [World.cell?, hg, Nat.zero_add]
    simpa using hj'
theorem mod_fact (A : Int) (n : Nat) : ∃ (a1 : Int) (at' : Nat), A.tmod ((n : Int) + 1) = a1 ∧ (a1 + n + 1).tmod ((n : Int) + 1) = (at' : Int) ∧ at' ≤ n ∧ -(n : Int) ≤ a1 ∧ a1 ≤ n := by
  have hpos : (0 : Int) < (n : Int) + 1 := by omega
  have h1 : A.tmod ((n : Int) + 1) < (n : Int) + 1 := Int.tmod_lt_of_pos A hpos
  have h2 : -((n : Int) + 1) < A.tmod ((n : Int) + 1) := by
    have := Int.tmod_lt_of_pos (-A) hpos
    rw [Int.neg_tmod] at this
    omega
  have h3 : 0 ≤ A.tmod ((n : Int) + 1) + n + 1 := by omega
  have h4 := Int.tmod_lt_of_pos (A.tmod ((n : Int) + 1) + n + 1) hpos
  have h5 := Int.tmod_nonneg ((n : Int) + 1) h3
  exact ⟨_, ((A.tmod ((n : Int) + 1) + n + 1).tmod ((n : Int) + 1)).toNat, rfl, by omega, by omega, by omega, by omega⟩
theorem mod_fact2 (A : Int) (n a : Nat) (h : a ≤ n) : ∃ (a1 : Int) (k : Nat), A.tmod ((n : Int) - a + 1) = a1 ∧ (a1 + n - a + 1).tmod ((n : Int) - a + 1) = (k : Int) ∧ a + k ≤ n ∧ -(n : Int) ≤ a1 ∧ a1 ≤ n ∧ (a : Int) - n ≤ a1 := by
  obtain ⟨a1, k, h1, h2, h3, h4, h5⟩ := mod_fact A (n - a)
  have e : (((n - a : Nat) : Int)) = (n : Int) - a := by omega
  rw [e] at h1 h2
  exact ⟨a1, k, h1, by rw [show a1 + (n : Int) - a + 1 = a1 + ((n : Int) - a) + 1 by omega]; exact h2, by omega, by omega, by omega, by omega⟩
end Go.Proofs.YtpbiokcelglaaaaDoor
