/- OutboxOnce: what the law's loop keeps. -/
import Derived.Test.YtfgfomkhlhiiiaaWr
import Derived.Test.YtfgfomkhlhiiiaaDn
namespace Go.Proofs.YtfgfomkhlhiiiaaR
open Go.RowKit Go.Shelf Go.Lib Go.Maps
set_option linter.unusedVariables false

/-- The law's outbox, of which the first a bytes were sent. -/
def Lo (W : World) (b A A2 : Nat) (o : Option Addr) (cp : Nat) (T : List UInt8) (a : Int) (w : World) : Prop :=
  ∃ φ, Ob φ w b A A2 a.toNat o T.length cp 1048576 0 a 0 (fun j => 0 ≤ j ∧ j < a) (fun _ => False) ∧ w.ownsRow 0 5 1 (.slice o T.length cp) T.length (bs T) ∧ Below W.heap.size W w ∧ W.heap.size ≤ b ∧ ∀ k, k < W.heap.size → (φ k).1 = 0

variable {W w : World} {b A A2 cp : Nat} {o : Option Addr} {T : List UInt8} {a : Int}

theorem Lo.below (h : Lo W b A A2 o cp T a w) {w' : World} (hb : Below w.heap.size w w') : Lo W b A A2 o cp T a w' := by
  obtain ⟨φ, h1, ⟨e1, e2⟩, h3, h4, h5⟩ := h
  refine ⟨φ, h1.below hb, ⟨e1, ?_⟩, h3.trans (hb.mono h3.size), h4, h5⟩
  rcases e2 with e2 | ⟨g', cap, cur, k1, k2, k3, k4⟩
  · exact .inl e2
  · exact .inr ⟨g', cap, cur, k1, k2, (hb.block g' (Array.getElem?_eq_some_iff.1 k3).1).trans k3, k4⟩

/-- A Next that hands bytes over. -/
theorem Lo.next (h : Lo W b A A2 o cp T a w) (most limit q : Int) (ha : 0 ≤ a) (hT : T.length ≤ 1048576) (hm0 : 0 < most) (hm1 : most ≤ 256) (hs : a < min limit T.length) (hq : q = a + min most (min limit T.length - a)) :
    Calls Try.prog 13 #[.pointer (some ⟨b, 0, none⟩), .int .i64 most, .int .i64 limit] w fun e w' => ∃ g m cap, e = .returned (.tuple #[.agg #[.int .i64 a, .slice (some ⟨g, 0, none⟩) m cap, .bool false], .bool true]) ∧ (m : Int) = q - a ∧ m ≤ cap ∧
      (∀ j u, (bs ((T.drop a.toNat).take m))[j]? = some u → w'.cell? ((⟨g, 0, none⟩ : Addr).add j) = some u) ∧ Lo W b A A2 o cp T q w' := by
  obtain ⟨φ, h1, h2, h3, h4, h5⟩ := h
  obtain ⟨g, rfl⟩ : ∃ g, o = some ⟨g, 0, none⟩ := by
    rcases h2.2 with ⟨_, e⟩ | ⟨g, cap, cur, e, _⟩
    · omega
    · cases e; exact ⟨g, rfl⟩
  have hE : EndQ q (0 + T.length) 0 = false := by simp [EndQ]
  refine (next_new (lo := 0) T most limit q h1 h2 (by omega) (by omega) (by omega) (by omega) hm0 (by omega) (by omega) (by omega) hE (fun j hj => by omega) (by omega)).mono ?_
  rintro e w' ⟨φ', v', rfl, hown, hob, hg, hch, hφ⟩
  have hml : 0 < (q - a).toNat := by omega
  obtain ⟨g', cap, cur, rfl, hg1, hg2, hg3, hg4⟩ : ∃ g' cap cur, v' = .slice (some ⟨g', 0, none⟩) (q - a).toNat cap ∧ w.heap.size ≤ g' ∧ w'.heap[g']? = some (.cells cur 5 (0, 0)) ∧ (q - a).toNat ≤ cap ∧ (cap ≤ maxLen ∧ cur.size = cap * 1 ∧ cur.toList.take ((q - a).toNat * 1) = bs ((T.drop (a - 0).toNat).take (q - a).toNat)) := by
    rcases hown.2 with ⟨_, e⟩ | ⟨g', cap, cur, k1, k2, k3, k4, k5⟩
    · omega
    · exact ⟨g', cap, cur, k1, k2, k3, k4, k5⟩
  refine ⟨g', (q - a).toNat, cap, rfl, by omega, hg3, ?_, φ', ?_, ?_, ?_, h4, fun k hk => ?_⟩
  · have := hown.cells (g := g') rfl
    rw [Int.sub_zero] at this
    exact this
  · have e1 : (fun j => (0 ≤ j ∧ j < a) ∨ (a ≤ j ∧ j < q)) = (fun j => 0 ≤ j ∧ j < q) := funext fun j => propext (by omega)
    rw [e1, show a.toNat + (q - a).toNat = q.toNat by omega] at hob
    exact hob
  · obtain ⟨e1, e2⟩ := h2
    refine ⟨e1, ?_⟩
    rcases e2 with e2 | ⟨g1, cap1, cur1, k1, k2, k3, k4⟩
    · exact .inl e2
    · cases k1
      exact .inr ⟨g, _, cur1, rfl, k2, hg.trans k3, k4⟩
  · exact h3.trans ⟨hch.1, hch.2.1, hch.2.2.1, hch.2.2.2.1, fun k hk => hch.2.2.2.2 k (Nat.lt_of_lt_of_le hk h3.size) (by
      rintro (e | e)
      · omega
      · have := h5 k hk; omega)⟩
  · rw [hφ k (Nat.lt_of_lt_of_le hk h3.size)]
    exact h5 k hk
theorem Lo.next_none (h : Lo W b A A2 o cp T a w) (most limit : Int) (hT : T.length ≤ 1048576) (hm0 : 0 ≤ most) (hs : ¬ a < min limit T.length) :
    Calls Try.prog 13 #[.pointer (some ⟨b, 0, none⟩), .int .i64 most, .int .i64 limit] w fun e w' => e = .returned (.tuple #[.agg #[.int .i64 0, .slice none 0 0, .bool false], .bool false]) ∧ Lo W b A A2 o cp T a w' := by
  obtain ⟨φ, h1, h2⟩ := id h
  refine (YtfgfomkhlhiiiaaR.next_none most limit h1 (by omega) (by omega) hm0 (by omega) (by simp [EndQ])).mono ?_
  rintro e w' ⟨rfl, hb⟩
  exact ⟨rfl, h.below hb⟩
theorem Lo.waits (h : Lo W b A A2 o cp T a w) (limit : Int) (hT : T.length ≤ 1048576) (hs : ¬ a < min limit T.length) :
    Calls Try.prog 23 #[.pointer (some ⟨b, 0, none⟩), .int .i64 limit] w fun e w' => e = .returned (.bool false) ∧ Lo W b A A2 o cp T a w' := by
  obtain ⟨φ, h1, h2⟩ := id h
  refine (waits_no limit h1 (by omega) (by omega) (by omega) (by simp [EndQ])).mono ?_
  rintro e w' ⟨rfl, hb⟩
  exact ⟨rfl, h.below hb⟩
theorem Lo.fst (ha : 0 ≤ a) : Fst (fun j => 0 ≤ j ∧ j < a) a 0 := by
  by_cases h : 0 < a
  · exact .inl ⟨⟨Int.le_refl _, h⟩, fun j hj => hj.1⟩
  · exact .inr ⟨fun j hj => by omega, by omega⟩
theorem Lo.sizes (h : Lo W b A A2 o cp T a w) (ha : 0 ≤ a) (hT : T.length ≤ 1048576) :
    Calls Try.prog 21 #[.pointer (some ⟨b, 0, none⟩)] w fun e w' => e = .returned (.tuple #[.int .i64 T.length, .int .i64 a, .int .i64 T.length]) ∧ Lo W b A A2 o cp T a w' := by
  obtain ⟨φ, h1, h2⟩ := id h
  refine (sizes_ob h1 (Lo.fst ha) (by omega) (by omega) (by omega) (by omega)).mono ?_
  rintro e w' ⟨rfl, hb⟩
  exact ⟨by simp, h.below hb⟩
theorem Lo.done (h : Lo W b A A2 o cp T a w) (ha : 0 ≤ a) (hT : T.length ≤ 1048576) :
    Calls Try.prog 22 #[.pointer (some ⟨b, 0, none⟩)] w fun e w' => e = .returned (.bool false) ∧ Lo W b A A2 o cp T a w' := by
  obtain ⟨φ, h1, h2⟩ := id h
  refine (done_no h1 (Lo.fst ha) (by omega) (by omega) (by omega) (by omega) (by decide)).mono ?_
  rintro e w' ⟨rfl, hb⟩
  exact ⟨rfl, h.below hb⟩
/-- New and Write of a text that is not empty. -/
theorem Lo.write {φ : Nat → Nat × Nat} (ad : Addr) (c : Nat) (h : Ob φ w b A A2 0 none 0 0 1048576 0 0 0 (fun _ => False) (fun _ => False)) (hW : Below W.heap.size W w) (hb : W.heap.size ≤ b) (hφ : ∀ k, k < W.heap.size → φ k = (0, 0)) (hT : Sl w ad T) (h0 : 0 < T.length) (h1 : T.length ≤ 1048576) (hc : T.length ≤ c) :
    Calls Try.prog 9 #[.pointer (some ⟨b, 0, none⟩), .slice (some ad) T.length c] w fun e w' => ∃ o cp, e = .returned (.tuple #[.int .i64 T.length, .int .i64 0]) ∧ Lo W b A A2 o cp T 0 w' := by
  refine (write_first T ad c h hT h0 (by omega) (by omega) hc).mono ?_
  rintro e w' ⟨φ', g, cp, rfl, h2, h3, h4, h5⟩
  refine ⟨_, cp, rfl, φ', ?_, h3, ?_, hb, fun k hk => ?_⟩
  · have e1 : (fun j : Int => 0 ≤ j ∧ j < 0) = (fun _ => False) := funext fun j => propext ⟨fun h => by omega, fun h => False.elim h⟩
    rw [e1]
    exact h2
  · exact hW.trans ⟨h4.1, h4.2.1, h4.2.2.1, h4.2.2.2.1, fun k hk => h4.2.2.2.2 k (Nat.lt_of_lt_of_le hk hW.size) (show ¬ k = b by omega)⟩
  · rw [h5 k (Nat.lt_of_lt_of_le hk hW.size), hφ k hk]

end Go.Proofs.YtfgfomkhlhiiiaaR
