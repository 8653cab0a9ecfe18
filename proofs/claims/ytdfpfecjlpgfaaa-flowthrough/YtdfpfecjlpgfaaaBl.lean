/- FlowBlocks: the walk. -/
import Derived.Test.YtdfpfecjlpgfaaaWn
namespace Go.Proofs.Ytdfpfecjlpgfaaa
open Go.RowKit
set_option linter.unusedVariables false

theorem and8 (n : Int) : bits .and .i64 n 255 = n % 256 := by
  have h127 : (BitVec.ofInt 64 255).toNat = 2 ^ 8 - 1 := by decide
  have key : (BitVec.ofInt 64 n &&& BitVec.ofInt 64 255).toNat = (n % ((2 ^ 64 : Nat) : Int)).toNat % 2 ^ 8 := by
    rw [BitVec.toNat_and, BitVec.toNat_ofInt, h127, Nat.and_two_pow_sub_one_eq_mod]
  show IntKind.i64.wrap ((BitVec.ofInt 64 n &&& BitVec.ofInt 64 255).toNat : Nat) = n % 256
  rw [key, IntKind.wrap_i64]
  omega
/-- A Give of one's own, and nothing older turned. -/
structure Bk (w : World) (s : Nat) (v : Gv) (W : World) : Prop where
  p : Rt 53 v.p W s
  o : v.ok
  s0 : w.heap.size ≤ s
  b : Below w.heap.size w W
section
variable {w : World} {s : Nat} {v v' : Gv} {W W' : World}
theorem Bk.bl (h : Bk w s v W) (hb : Below W.heap.size W W') : Bk w s v W' := ⟨h.p.below hb, h.o, h.s0, h.b.trans (hb.mono h.b.size)⟩
theorem Bk.tn (h : Bk w s v W) (ht : Tn s W W') (hr : Rt 53 v'.p W' s) (ho : v'.ok) : Bk w s v' W' := ⟨hr, ho, h.s0, h.b.trans (ht.toBelow h.b.size h.s0)⟩
theorem Bk.left (h : Bk w s v W) : Calls Try.prog 17 #[.pointer (some ⟨s, 0, none⟩)] W fun e w' => e = .returned (.tuple #[.int .i64 (IntKind.i64.wrap (v.l - v.s)), .int .i64 v.l]) ∧ Bk w s v w' :=
  (left_c s v W h.p).mono (by rintro e w' ⟨rfl, rfl⟩; exact ⟨rfl, h.bl (Below.refl _ _).drew⟩)
theorem Bk.raise (h : Bk w s v W) (n : Int) : Calls Try.prog 11 #[.pointer (some ⟨s, 0, none⟩), .int .i64 n] W fun e w' => e = .returned (.int .i64 (v.rai n).1) ∧ Bk w s (v.rai n).2 w' :=
  (raise_c s v n W h.p h.o).mono (by rintro e w' ⟨rfl, hr, ht⟩; exact ⟨rfl, h.tn ht hr (v.rai_ok n h.o)⟩)
theorem Bk.spend (h : Bk w s v W) (n : Int) : Calls Try.prog 13 #[.pointer (some ⟨s, 0, none⟩), .int .i64 n] W fun e w' => e = .returned (.int .i64 (v.spe n).1) ∧ Bk w s (v.spe n).2 w' :=
  (spend_c s v n W h.p).mono (by rintro e w' ⟨rfl, hr, ht⟩; exact ⟨rfl, h.tn ht hr (v.spe_ok n h.o)⟩)
theorem Bk.blocked (h : Bk w s v W) : Calls Try.prog 15 #[.pointer (some ⟨s, 0, none⟩)] W fun e w' => e = .returned (.tuple #[.int .i64 v.blk.1, .bool v.blk.2.1]) ∧ Bk w s v.blk.2.2 w' :=
  (blocked_c s v W h.p).mono (by rintro e w' ⟨rfl, hr, ht⟩; exact ⟨rfl, h.tn ht hr (v.blk_ok h.o)⟩)
end
/-- What a round does where the limit is raised. -/
theorem up_rai {a t x : Int} (h0 : 0 ≤ a) (h : a < x) (hx : x < 256) : (Gv.mk a a t).rai x = (0, ⟨x, a, t⟩) := by
  unfold Gv.rai
  rw [if_neg (by omega), if_pos (show a < x from h)]
theorem no_rai {a t x : Int} (h0 : 0 ≤ x) (h : ¬ a < x) (ha : a < 256) : (Gv.mk a a t).rai x = (0, ⟨a, a, t⟩) := by
  unfold Gv.rai
  rw [if_neg (by omega), if_neg (show ¬ a < x from h)]
theorem lt_blk {a t x : Int} (h : a < x) : (Gv.mk x a t).blk = (0, false, ⟨x, a, t⟩) := by
  unfold Gv.blk
  rw [if_pos (.inl h)]
theorem eq_blk {a : Int} : (Gv.mk a a a).blk = (0, false, ⟨a, a, a⟩) := by
  unfold Gv.blk
  rw [if_pos (.inr rfl)]
theorem ne_blk {a t : Int} (h : ¬ a = t) : (Gv.mk a a t).blk = (a, true, ⟨a, a, a⟩) := by
  unfold Gv.blk
  rw [if_neg (by simp only; omega)]
theorem hi_spe {l s t n : Int} (hw : IntKind.i64.wrap (l - s) = l - s) (h0 : 0 ≤ n) (h : l - s < n) : (Gv.mk l s t).spe n = (30, ⟨l, s, t⟩) := by
  unfold Gv.spe
  rw [if_neg (by omega)]
  simp only
  rw [hw, if_pos h]
theorem lo_spe {l s t n : Int} (hw : IntKind.i64.wrap (l - s) = l - s) (hw2 : IntKind.i64.wrap (s + n) = s + n) (h0 : 0 ≤ n) (h : n ≤ l - s) : (Gv.mk l s t).spe n = (0, ⟨l, s + n, t⟩) := by
  unfold Gv.spe
  rw [if_neg (by omega)]
  simp only
  rw [hw, if_neg (by omega), hw2]

set_option maxRecDepth 100000 in
set_option maxHeartbeats 2000000 in
theorem blocks_walk (la : Option Addr) (n c : Nat) (Z : Nat → Int) (w : World) (hZ : ∀ i, i < n → ∃ ad, la = some ad ∧ w.cell? (ad.add i) = some (.int .i64 (Z i))) (hn : n ≤ 20000000000000) :
    Calls Try.prog 7 #[.slice la n c] w fun e w' => e = .returned (.bool true) ∧ Below w.heap.size w w' := by
  have HZ : Aside (∀ i, i < n → ∃ ad, la = some ad ∧ w.cell? (ad.add i) = some (.int .i64 (Z i))) := hZ
  clear hZ
  have hnew := newg_c 0 w rfl
  go_enter Try.func7, Try.ntmps7
  go_wp2_with fail
  refine hnew.mono ?_
  rintro e w1 ⟨rfl, hr1, hb1⟩
  have HH : Aside (Bk w w.heap.size ⟨0, 0, -1⟩ w1) := ⟨hr1, gv0_ok rfl, Nat.le_refl _, hb1⟩
  clear hnew hr1 hb1
  generalize hs : w.heap.size = s at HH ⊢
  go_wp2
  go_loopg [5, 6, 7] (n + 1) (fun kx s5 s6 s7 wr => ∃ (i : Nat) (a t : Int), s5 = .int .i64 a ∧ s6 = .int .i64 t ∧ s7 = .int .i64 (i : Int) ∧ i ≤ n ∧ n + 1 - i ≤ kx ∧ 0 ≤ a ∧ a < 256 ∧ -1 ≤ t ∧ t ≤ a ∧ Aside (Bk w s ⟨a, a, t⟩ wr))
  case atStart => exact ⟨0, 0, -1, rfl, rfl, rfl, by omega, by omega, by omega, by omega, by omega, by omega, HH.out⟩
  case round =>
    obtain ⟨i, a, t, rfl, rfl, rfl, hi, hk, a0, a1, t0, t1, HQ⟩ := hrel
    clear HH
    by_cases hlt : i < n
    rotate_left
    · obtain rfl : i = n := by omega
      have h1 := HQ.out.spend 1
      rw [hi_spe (wrp _ (by omega) (by omega)) (by omega) (by omega)] at h1
      dsimp only at h1
      have ha : ¬ a < 0 := by omega
      clear hlt HQ
      go_wp2_with fail
      refine h1.mono ?_
      rintro e w2 ⟨rfl, hp⟩
      have HB : Aside (Below w.heap.size w w2) := hp.b
      clear hp h1
      go_wp2
      go_ret
      exact ⟨rfl, HB.out⟩
    · have c2 : ¬ (i : Int) = (n : Int) := by omega
      have c3 : (i : Int) < (n : Int) := by omega
      have n7 : IntKind.i64.wrap ((i : Int) + 1) = (i : Int) + 1 := wrp _ (by omega) (by omega)
      obtain ⟨ad, hla, hcz⟩ := HZ.out i hlt
      subst hla
      have hz : wr.cell? (ad.add i) = some (.int .i64 (Z i)) := (HQ.out.b.cell (World.block_lt_of_cell? _ _ hcz)).trans hcz
      have hm := and8 (Z i)
      clear hcz
      generalize Z i = z at *
      have x0 : 0 ≤ z % 256 := by omega
      have x1 : z % 256 < 256 := by omega
      generalize z % 256 = x at *
      have im := max_if a x
      by_cases hx : a < x
      · rw [show max a x = x by omega] at im
        have i1 : IntKind.i64.wrap (x - a) = x - a := wrp _ (by omega) (by omega)
        have i2 : IntKind.i64.wrap (x - a + 1) = x - a + 1 := wrp _ (by omega) (by omega)
        have i3 : IntKind.i64.wrap (a + (x - a)) = a + (x - a) := wrp _ (by omega) (by omega)
        have i4 : a + (x - a) = x := by omega
        have j1 : 0 < x - a := by omega
        have j2 : (x != t) = true := by simp; omega
        have j3 : (x == t) = false := by simp; omega
        have j4 : ¬ x = t := by omega
        have hc := HQ.out.raise x
        rw [up_rai a0 hx x1] at hc
        dsimp only at hc
        go_wp2_with fail
        refine hc.mono ?_
        rintro e u1 ⟨rfl, hp⟩
        have Hu1 : Aside (Bk w s ⟨x, a, t⟩ u1) := hp
        clear hp hc
        clear hz
        have hc := Hu1.out.left
        dsimp only at hc
        rw [i1] at hc
        go_wp2_with fail
        refine hc.mono ?_
        rintro e u2 ⟨rfl, hp⟩
        have Hu2 : Aside (Bk w s ⟨x, a, t⟩ u2) := hp
        clear hp hc
        have hc := Hu2.out.blocked
        rw [lt_blk hx] at hc
        dsimp only at hc
        go_wp2_with fail
        refine hc.mono ?_
        rintro e u3 ⟨rfl, hp⟩
        have Hu3 : Aside (Bk w s ⟨x, a, t⟩ u3) := hp
        clear hp hc
        have hc := Hu3.out.spend (x - a + 1)
        rw [hi_spe i1 (by omega) (by omega)] at hc
        dsimp only at hc
        go_wp2_with fail
        refine hc.mono ?_
        rintro e u4 ⟨rfl, hp⟩
        have Hu4 : Aside (Bk w s ⟨x, a, t⟩ u4) := hp
        clear hp hc
        have hc := Hu4.out.spend (x - a)
        rw [lo_spe i1 i3 (by omega) (by omega), i4] at hc
        dsimp only at hc
        go_wp2_with fail
        refine hc.mono ?_
        rintro e u5 ⟨rfl, hp⟩
        have Hu5 : Aside (Bk w s ⟨x, x, t⟩ u5) := hp
        clear hp hc
        have hc := Hu5.out.blocked
        rw [ne_blk j4] at hc
        dsimp only at hc
        go_wp2_with fail
        refine hc.mono ?_
        rintro e u6 ⟨rfl, hp⟩
        have Hu6 : Aside (Bk w s ⟨x, x, x⟩ u6) := hp
        clear hp hc
        have hc := Hu6.out.blocked
        rw [eq_blk] at hc
        dsimp only at hc
        go_wp2_with fail
        refine hc.mono ?_
        rintro e u7 ⟨rfl, hp⟩
        have Hu7 : Aside (Bk w s ⟨x, x, x⟩ u7) := hp
        clear hp hc
        have HQ9 : Aside (Bk w s ⟨x, x, x⟩ u7) := Hu7.out
        go_wp2
        go_roundg (n + 1 - (i + 1))
        case measure => omega
        case rel => exact ⟨i + 1, x, x, rfl, rfl, rfl, by omega, Nat.le_refl _, by omega, by omega, by omega, by omega, HQ9.out⟩
      · rw [show max a x = a by omega] at im
        have i1 : IntKind.i64.wrap (a - a) = 0 := by rw [show a - a = 0 by omega]; rfl
        have hc := HQ.out.raise x
        rw [no_rai x0 hx a1] at hc
        dsimp only at hc
        go_wp2_with fail
        refine hc.mono ?_
        rintro e u1 ⟨rfl, hp⟩
        have Hu1 : Aside (Bk w s ⟨a, a, t⟩ u1) := hp
        clear hp hc
        clear hz
        have hc := Hu1.out.left
        dsimp only at hc
        rw [i1] at hc
        go_wp2_with fail
        refine hc.mono ?_
        rintro e u2 ⟨rfl, hp⟩
        have Hu2 : Aside (Bk w s ⟨a, a, t⟩ u2) := hp
        clear hp hc
        by_cases ht : a = t
        · subst ht
          have hc := Hu2.out.blocked
          rw [eq_blk] at hc
          dsimp only at hc
          go_wp2_with fail
          refine hc.mono ?_
          rintro e u6 ⟨rfl, hp⟩
          have Hu6 : Aside (Bk w s ⟨a, a, a⟩ u6) := hp
          clear hp hc
          have hc := Hu6.out.blocked
          rw [eq_blk] at hc
          dsimp only at hc
          go_wp2_with fail
          refine hc.mono ?_
          rintro e u7 ⟨rfl, hp⟩
          have Hu7 : Aside (Bk w s ⟨a, a, a⟩ u7) := hp
          clear hp hc
          have HQ9 : Aside (Bk w s ⟨a, a, a⟩ u7) := Hu7.out
          go_wp2
          go_roundg (n + 1 - (i + 1))
          case measure => omega
          case rel => exact ⟨i + 1, a, a, rfl, rfl, rfl, by omega, Nat.le_refl _, by omega, by omega, by omega, by omega, HQ9.out⟩
        · have j2 : (a != t) = true := by simp; omega
          have j3 : (a == t) = false := by simp; omega
          have hc := Hu2.out.blocked
          rw [ne_blk ht] at hc
          dsimp only at hc
          go_wp2_with fail
          refine hc.mono ?_
          rintro e u6 ⟨rfl, hp⟩
          have Hu6 : Aside (Bk w s ⟨a, a, a⟩ u6) := hp
          clear hp hc
          have hc := Hu6.out.blocked
          rw [eq_blk] at hc
          dsimp only at hc
          go_wp2_with fail
          refine hc.mono ?_
          rintro e u7 ⟨rfl, hp⟩
          have Hu7 : Aside (Bk w s ⟨a, a, a⟩ u7) := hp
          clear hp hc
          have HQ9 : Aside (Bk w s ⟨a, a, a⟩ u7) := Hu7.out
          go_wp2
          go_roundg (n + 1 - (i + 1))
          case measure => omega
          case rel => exact ⟨i + 1, a, a, rfl, rfl, rfl, by omega, Nat.le_refl _, by omega, by omega, by omega, by omega, HQ9.out⟩
end Go.Proofs.Ytdfpfecjlpgfaaa
