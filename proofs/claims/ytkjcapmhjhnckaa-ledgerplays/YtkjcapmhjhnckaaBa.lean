/- ledger: what turns and what stays; spans as they lie; isTime, areAcks, and a ledger that is nil, or that no call made. -/
import Derived.Test.YtkjcapmhjhnckaaRows
import Derived.WalkKit
import Derived.ProofKit
import Derived.OpenShut
import Derived.WalkSmall
import Derived.Deep.LoopGhost
import Derived.Laws.StructEq
import Derived.Laws.Rows
import Derived.Laws.Tables
import Derived.Laws.ResultCell
import Derived.Deep.QuietTactic
import Derived.Deep.RegionHeld3
namespace Go.Proofs.Ytkjcapmhjhnckaa
open Go.RowKit
set_option linter.unusedVariables false

/-- Nothing but the blocks X and what is new has turned. -/
def Chg (X : Nat → Prop) (w w' : World) : Prop := w'.os = w.os ∧ w'.tape = w.tape ∧ w'.output = w.output ∧ w.heap.size ≤ w'.heap.size ∧ ∀ k, k < w.heap.size → ¬ X k → w'.heap[k]? = w.heap[k]?
theorem Chg.refl (X : Nat → Prop) (w : World) : Chg X w w := ⟨rfl, rfl, rfl, Nat.le_refl _, fun _ _ _ => rfl⟩
theorem Chg.trans {X : Nat → Prop} {a b c : World} (h : Chg X a b) (k : Chg X b c) : Chg X a c :=
  ⟨k.1.trans h.1, k.2.1.trans h.2.1, k.2.2.1.trans h.2.2.1, Nat.le_trans h.2.2.2.1 k.2.2.2.1, fun j hj hx => (k.2.2.2.2 j (Nat.lt_of_lt_of_le hj h.2.2.2.1) hx).trans (h.2.2.2.2 j hj hx)⟩
theorem Chg.alloc {X : Nat → Prop} {a b : World} (h : Chg X a b) (o : Obj) : Chg X a (b.alloc o) :=
  ⟨h.1, h.2.1, h.2.2.1, by have := h.2.2.2.1; simp; omega, fun j hj hx => (Below.heap_alloc b o j (Nat.lt_of_lt_of_le hj h.2.2.2.1)).trans (h.2.2.2.2 j hj hx)⟩
theorem Chg.below {X : Nat → Prop} {a b c : World} (h : Chg X a b) (k : Below b.heap.size b c) : Chg X a c :=
  ⟨k.os.trans h.1, k.tape.trans h.2.1, k.output.trans h.2.2.1, Nat.le_trans h.2.2.2.1 k.size, fun j hj hx => (k.block j (Nat.lt_of_lt_of_le hj h.2.2.2.1)).trans (h.2.2.2.2 j hj hx)⟩
theorem Chg.of_below {X : Nat → Prop} {a b : World} (k : Below a.heap.size a b) : Chg X a b := (Chg.refl X a).below k
theorem Chg.mono {X Y : Nat → Prop} {a b : World} (h : Chg X a b) (hxy : ∀ k, k < a.heap.size → X k → Y k) : Chg Y a b :=
  ⟨h.1, h.2.1, h.2.2.1, h.2.2.2.1, fun j hj hx => h.2.2.2.2 j hj (fun q => hx (hxy j hj q))⟩
theorem Chg.toBelow {X : Nat → Prop} {n : Nat} {a b : World} (h : Chg X a b) (hn : n ≤ a.heap.size) (hx : ∀ k, k < n → ¬ X k) : Below n a b :=
  ⟨h.1, h.2.1, h.2.2.1, h.2.2.2.1, fun k hk => h.2.2.2.2 k (by omega) (hx k hk)⟩
theorem Chg.blk {X : Nat → Prop} {a b : World} (h : Chg X a b) {k : Nat} {o : Obj} (hk : a.heap[k]? = some o) (hx : ¬ X k) : b.heap[k]? = some o :=
  (h.2.2.2.2 k (Array.getElem?_eq_some_iff.1 hk).1 hx).trans hk
/-- One change behind another: what is new to the first is none of the first's. -/
theorem Chg.andThen {X Y : Nat → Prop} {a b c : World} (h : Chg X a b) (k : Chg Y b c) (hxy : ∀ j, j < a.heap.size → Y j → X j) : Chg X a c :=
  ⟨k.1.trans h.1, k.2.1.trans h.2.1, k.2.2.1.trans h.2.2.1, Nat.le_trans h.2.2.2.1 k.2.2.2.1, fun j hj hx => (k.2.2.2.2 j (Nat.lt_of_lt_of_le hj h.2.2.2.1) (fun q => hx (hxy j hj q))).trans (h.2.2.2.2 j hj hx)⟩
theorem Chg.setRow {X : Nat → Prop} {a : World} (g : Nat) (cs : Array Value) (hg : X g) : Chg X a (a.setRow g cs) :=
  ⟨rfl, rfl, rfl, by simp, fun j hj hx => setRow_other a g j cs (fun e => hx (e ▸ hg))⟩
theorem cell_bel {w w' : World} {b j : Nat} {v : Value} (h : w.cell? ⟨b, j, none⟩ = some v) (hb : Below w.heap.size w w') : w'.cell? ⟨b, j, none⟩ = some v := by
  rw [hb.cell (p := ⟨b, j, none⟩) (World.block_lt_of_cell? _ _ h)]; exact h
theorem bel1 (w : World) (o : Obj) : Below w.heap.size w (w.alloc o) := (Below.refl _ w).alloc (Nat.le_refl _) o
theorem bel_trans {a b c : World} (h : Below a.heap.size a b) (k : Below b.heap.size b c) : Below a.heap.size a c := h.trans (k.mono h.size)
theorem wrp (n : Int) (h : -9223372036854775808 ≤ n) (h2 : n ≤ 9223372036854775807) : IntKind.i64.wrap n = n := by
  rw [IntKind.wrap_i64]; omega
theorem max_if (a b : Int) : (if a < b then b else a) = max a b := by split <;> omega

/-- Spans as they lie. -/
def Sr (W : World) (la : Option Addr) (S : List (Int × Int)) : Prop :=
  ∀ i (h : i < S.length), ∃ b off, la = some ⟨b, off, none⟩ ∧ W.cell? ⟨b, off + i * 2, none⟩ = some (.int .i64 S[i].1) ∧ W.cell? ⟨b, off + i * 2 + 1, none⟩ = some (.int .i64 S[i].2)
theorem Sr.bel {w w' : World} {la : Option Addr} {S : List (Int × Int)} (h : Sr w la S) (hb : Below w.heap.size w w') : Sr w' la S := fun i hi => by
  obtain ⟨b, off, e, h1, h2⟩ := h i hi
  exact ⟨b, off, e, cell_bel h1 hb, cell_bel h2 hb⟩

/-- Spans such as an acknowledgement has them, below a bound. -/
def okS (m : Int) : List (Int × Int) → Bool
  | [] => true
  | s :: t => if s.1 < 0 ∨ s.2 < s.1 ∨ m < s.2 then false else okS (s.1 - 2) t
def aa (S : List (Int × Int)) : Bool := decide (1 ≤ S.length) && decide (S.length ≤ 256) && okS 4611686018427387903 S

theorem isTime_c (n : Int) (w : World) : Calls Try.prog 26 #[.int .i64 n] w fun e w' => e = .returned (.bool (decide (0 ≤ n ∧ n ≤ 1125899906842624))) ∧ w' = w := by
  by_cases h1 : 0 ≤ n <;> by_cases h2 : n ≤ 1125899906842624
  all_goals
    go_enter Try.func26, Try.ntmps26
    go_wp2
    go_ret
    exact ⟨by simp [h1, h2], rfl⟩

set_option maxRecDepth 100000 in
set_option maxHeartbeats 1000000 in
theorem areAcks_c (la : Option Addr) (cap : Nat) (S : List (Int × Int)) (w : World) (h : Sr w la S) (hS : S.length ≤ 9223372036854775807) : Calls Try.prog 31 #[.slice la S.length cap] w fun e w' => e = .returned (.bool (aa S)) ∧ Below w.heap.size w w' := by
  obtain ⟨N, hN⟩ : ∃ N, S.length = N := ⟨_, rfl⟩
  have HR : Aside (aa S = (decide (1 ≤ N) && decide (N ≤ 256) && okS 4611686018427387903 S)) := by subst hN; rfl
  rw [hN]
  have HS : Aside _ := h
  clear h
  rw [hN] at hS
  by_cases h1 : N < 1
  · have e1 : (N : Int) < 1 := by omega
    go_enter Try.func31, Try.ntmps31
    go_wp2
    go_ret
    refine ⟨?_, Below.refl _ _⟩
    rw [HR.out]
    have : ¬ 1 ≤ N := by omega
    simp [this]
  by_cases h2 : 256 < N
  · have e1 : ¬ (N : Int) < 1 := by omega
    have e2 : (256 : Int) < N := by omega
    go_enter Try.func31, Try.ntmps31
    go_wp2
    go_ret
    refine ⟨?_, Below.refl _ _⟩
    rw [HR.out]
    have : ¬ N ≤ 256 := by omega
    simp [this]
  have e1 : ¬ (N : Int) < 1 := by omega
  have e2 : ¬ (256 : Int) < N := by omega
  have HN : Aside _ := hN
  clear hN
  go_enter Try.func31, Try.ntmps31
  go_wp2
  go_loopg [3, 16] N (fun kx s3 s16 wr => ∃ (k : Nat) (m : Int), s3 = .int .i64 m ∧ s16 = .int .i64 k ∧ k ≤ N ∧ N - k ≤ kx ∧ m ≤ 4611686018427387903 ∧ Aside (Below w.heap.size w wr ∧ okS 4611686018427387903 S = okS m (S.drop k)))
  case atStart => exact ⟨0, _, rfl, rfl, Nat.zero_le _, by omega, Int.le_refl _, Below.refl _ _, by simp⟩
  case round =>
    obtain ⟨k, m, rfl, rfl, hk, hg, hm, HB⟩ := hrel
    by_cases hlt : k < N
    · have hi : k < S.length := by rw [HN.out]; exact hlt
      obtain ⟨b, off, rfl, c0, c1⟩ := (Sr.bel HS.out HB.out.1) k hi
      have HD : Aside (S.drop k = S[k] :: S.drop (k + 1)) := List.drop_eq_getElem_cons hi
      generalize S[k] = s at c0 c1 HD
      obtain ⟨f, l⟩ := s
      clear hi
      have hkI : (k : Int) < N := by omega
      by_cases h3 : f < 0 ∨ l < f ∨ m < l
      · have HF : Aside (okS 4611686018427387903 S = false) := by
          show _ = _
          rw [HB.out.2, HD.out]; simp only [okS]; rw [if_pos h3]
        by_cases p1 : f < 0 <;> by_cases p2 : l < f <;> by_cases p3 : m < l
        all_goals first
          | (exfalso; omega)
          | (clear h3
             go_wp2
             go_ret
             refine ⟨?_, ?_⟩
             · rw [HR.out, HF.out]; simp
             · exact HB.out.1.trans ((bel1 wr _).mono HB.out.1.size))
      · have p1 : ¬ f < 0 := by omega
        have p2 : ¬ l < f := by omega
        have p3 : ¬ m < l := by omega
        have H3 : Aside _ := h3
        clear h3
        go_wp2
        go_roundg (N - (k + 1))
        case measure => omega
        case rel =>
          refine ⟨k + 1, f - 2, ?_, ?_, by omega, Nat.le_refl _, by omega, HB.out.1.trans ((bel1 wr _).mono HB.out.1.size), ?_⟩
          · rfl
          · rfl
          · rw [HB.out.2, HD.out]; simp only [okS]; rw [if_neg H3.out]
    · obtain rfl : k = N := by omega
      have hkI : ¬ (k : Int) < k := by omega
      go_wp2
      go_ret
      refine ⟨?_, HB.out.1⟩
      have : S.drop k = [] := by rw [← HN.out]; simp
      rw [HR.out, HB.out.2, this]
      have q1 : 1 ≤ k := by omega
      have q2 : k ≤ 256 := by omega
      simp [okS, q1, q2]
end Go.Proofs.Ytkjcapmhjhnckaa
