/- outbox: cut's iterator: the parts of offsets, block by block. -/
import Derived.Test.YtfgfomkhlhiiiaaRSet
namespace Go.Proofs.YtfgfomkhlhiiiaaR
open Go.RowKit Go.Shelf Go.Lib
set_option linter.unusedVariables false

attribute [local go_sem] Oper.semAt_some

/-- A part that lies in one block of offsets. -/
structure Part (f t : Int) where
  a : Int
  e : Int
  h0 : 0 ≤ a
  h1 : a < e
  h2 : e ≤ (a / 1024 + 1) * 1024
  h3 : e ≤ 4611686018427387903
  h4 : f ≤ a
  h5 : e ≤ t
def encP {f t : Int} (x : Part f t) : Array Value := #[.int .i64 (x.a / 1024), .agg #[.int .i64 x.a, .int .i64 (x.e - 1)]]
/-- An offset lies in one of the parts. -/
def Cov {f t : Int} (xs : List (Part f t)) (j : Int) : Prop := ∃ x ∈ xs, x.a ≤ j ∧ j < x.e
theorem Cov_nil {f t : Int} (j : Int) : ¬ Cov ([] : List (Part f t)) j := by rintro ⟨x, h, _⟩; cases h
theorem Cov_snoc {f t : Int} (xs : List (Part f t)) (x : Part f t) (j : Int) : Cov (xs ++ [x]) j ↔ Cov xs j ∨ (x.a ≤ j ∧ j < x.e) := by
  unfold Cov
  constructor
  · rintro ⟨y, hy, h⟩
    rcases List.mem_append.1 hy with hy | hy
    · exact .inl ⟨y, hy, h⟩
    · rw [List.mem_singleton.1 hy] at h; exact .inr h
  · rintro (⟨y, hy, h⟩ | h)
    · exact ⟨y, List.mem_append_left _ hy, h⟩
    · exact ⟨x, List.mem_append_right _ (List.mem_singleton.2 rfl), h⟩
/-- What a round keeps: the box of the parts' end. -/
def Kt (Bt : Nat) (W W' : World) : Prop := W'.cell? ⟨Bt, 0, none⟩ = W.cell? ⟨Bt, 0, none⟩
theorem Kt.trans {Bt : Nat} {A B C : World} (h : Kt Bt A B) (k : Kt Bt B C) : Kt Bt A C := Eq.trans k h
theorem Kt.put {Bt : Nat} {w : World} (hb : Bt < w.heap.size) (W : World) (l : Nat) (o o' : Obj) (hl : w.heap.size ≤ l) (_ : W.heap[l]? = some o) (_ : o.isCells = false) (_ : o.isWalk = false) : Kt Bt W (W.putObj l o') :=
  cell?_putObj_other (a := ⟨Bt, 0, none⟩) o' (by show Bt ≠ l; omega)

set_option maxRecDepth 100000 in
set_option maxHeartbeats 2000000 in
theorem cut_in (l Bf Bt : Nat) (f t : Int) (J Jx : List (Part f t) → World → Prop) (W : World) (h0 : 0 ≤ f) (ht : t ≤ 4611686018427387903) (hft : f ≤ t)
    (hY : ∀ pre x W1, J pre W1 → pre.length < (t - f).toNat → YieldAt Fence.wide 3 Try.prog l (encP x) W1 fun e W' => (e = .returned (.bool true) ∧ J (pre ++ [x]) W' ∧ Kt Bt W1 W') ∨ (e = .returned (.bool false) ∧ Jx (pre ++ [x]) W'))
    (hBf : W.cell? ⟨Bf, 0, none⟩ = some (.int .i64 f)) (hBt : W.cell? ⟨Bt, 0, none⟩ = some (.int .i64 t)) (hJ0 : J [] W) :
    CallsIn Fence.wide 4 Try.prog 58 #[.func (.yield l) #[] #[], .pointer (some ⟨Bf, 0, none⟩), .pointer (some ⟨Bt, 0, none⟩)] W fun e W' => (∃ v, e = .returned v) ∧
      ((∃ ys, ((∀ j, Cov ys j ↔ f ≤ j ∧ j < t) ∧ ys.length ≤ (t - f).toNat) ∧ J ys W') ∨ (∃ pre, True ∧ Jx pre W')) := by
  have HY : Aside _ := hY
  have HJ0 : Aside _ := hJ0
  clear hY hJ0
  refine callsIn_of_wp Try.func58 rfl trivial ?_ rfl
  simp only [Try.ntmps58, List.size_toArray, List.length_cons, List.length_nil, Nat.reduceAdd, Nat.reduceSub, Array.replicate_succ, Array.replicate_zero, List.push_toArray, List.append_toArray, List.nil_append, List.cons_append]
  refine wpIn_wide.2 ?_
  go_wp2
  refine (wpIn_wide (n := 4)).1 ?_
  gi_loopg [4] (t - f).toNat (fun kx s4 wr => ∃ (at_ : Int) (pre : List (Part f t)), s4 = .int .i64 at_ ∧ f ≤ at_ ∧ at_ ≤ t ∧ (t - at_).toNat ≤ kx ∧ Aside (pre.length ≤ (at_ - f).toNat) ∧ Aside (∀ j, Cov pre j ↔ f ≤ j ∧ j < at_) ∧ Aside (J pre wr) ∧ wr.cell? ⟨Bt, 0, none⟩ = some (.int .i64 t))
  case atStart =>
    refine ⟨f, [], rfl, Int.le_refl _, hft, Nat.le_refl _, by show 0 ≤ _; exact Nat.zero_le _, ?_, HJ0.out, hBt⟩
    intro j
    constructor
    · intro h; exact absurd h (Cov_nil j)
    · intro h; omega
  case round =>
    obtain ⟨at_, pre, rfl, g1, g2, g3, HL, HC, HJ, hBr⟩ := hrel
    by_cases hlt : at_ < t
    · obtain ⟨e, he⟩ : ∃ e, min t ((at_ / 1024 + 1) * 1024) = e := ⟨_, rfl⟩
      have he1 : at_ < e := by omega
      have he2 : e ≤ (at_ / 1024 + 1) * 1024 := by omega
      have he3 : e ≤ t := by omega
      obtain ⟨fn, tmps, assign, body, hy, hR'⟩ := HY.out pre ⟨at_, e, by omega, he1, he2, by omega, g1, he3⟩ wr HJ.out (by have := HL.out; omega)
      simp only [encP] at hy
      gi_wp2
      refine hR'.mono ?_
      rintro ee W3 (⟨rfl, hJ3, hk3⟩ | ⟨rfl, hJx3⟩)
      · have HJ3 : Aside _ := hJ3
        have hB3 : W3.cell? ⟨Bt, 0, none⟩ = some (.int .i64 t) := Eq.trans hk3 hBr
        clear hJ3 hk3 hR' hy
        gi_wp2
        gi_roundg (t - e).toNat
        case measure => omega
        case rel =>
          refine ⟨e, _, rfl, by omega, he3, Nat.le_refl _, ?_, ?_, HJ3.out, hB3⟩
          · have := HL.out
            show (pre ++ [_]).length ≤ _
            rw [List.length_append]
            simp only [List.length_cons, List.length_nil]
            omega
          · intro j
            rw [Cov_snoc, HC.out j]
            simp only []
            constructor
            · rintro (h | h) <;> omega
            · intro h
              by_cases hj : j < at_
              · exact .inl ⟨h.1, hj⟩
              · exact .inr ⟨by omega, h.2⟩
      · have HJx : Aside _ := hJx3
        clear hJx3 hR' hy
        gi_wp2
        refine bodyPost_ret (results_none rfl _ _ _) rfl ?_
        exact ⟨⟨_, rfl⟩, .inr ⟨_, trivial, HJx.out⟩⟩
    · have hend : at_ = t := by omega
      have HC' : Aside (∀ j, Cov pre j ↔ f ≤ j ∧ j < t) := hend ▸ HC
      gi_wp2
      go_end0
      exact ⟨⟨_, rfl⟩, .inl ⟨_, ⟨HC'.out, by have := HL.out; omega⟩, HJ.out⟩⟩

theorem cut_stops (Bf Bt : Nat) (f t : Int) (w : World) (h0 : 0 ≤ f) (ht : t ≤ 4611686018427387903) (hft : f ≤ t)
    (hBf : w.cell? ⟨Bf, 0, none⟩ = some (.int .i64 f)) (hBt : w.cell? ⟨Bt, 0, none⟩ = some (.int .i64 t)) :
    SeqStopsK (α := Part f t) Fence.wide 4 Try.prog 58 #[.pointer (some ⟨Bf, 0, none⟩), .pointer (some ⟨Bt, 0, none⟩)] encP (Kt Bt) (fun xs => (∀ j, Cov xs j ↔ f ≤ j ∧ j < t) ∧ xs.length ≤ (t - f).toNat) (fun _ => True) (t - f).toNat w := fun l J Jx W hW hJ _ hY hJ0 =>
  cut_in l Bf Bt f t J Jx W h0 ht hft hY ((hW.cell (p := ⟨Bf, 0, none⟩) (World.block_lt_of_cell? _ _ hBf)).trans hBf) ((hW.cell (p := ⟨Bt, 0, none⟩) (World.block_lt_of_cell? _ _ hBt)).trans hBt) hJ0

/-- cut itself: two boxes and the iterator. -/
theorem cut_c (f t : Int) (w : World) : Calls Try.prog 49 #[.int .i64 f, .int .i64 t] w fun e w' => e = .returned (.func (.func 58) #[] #[.pointer (some ⟨w.heap.size, 0, none⟩), .pointer (some ⟨w.heap.size + 1, 0, none⟩)]) ∧
    w' = (w.alloc (.cells #[.int .i64 f] 3)).alloc (.cells #[.int .i64 t] 3) := by
  go_enter Try.func49, Try.ntmps49
  go_wp2
  go_ret
  exact ⟨rfl, rfl⟩

end Go.Proofs.YtfgfomkhlhiiiaaR
