/- CubicBounds: the walk. -/
import Derived.Test.YtphkgijimbkgeaaBs
import Derived.Deep.CutRange
import Derived.Deep.Cut
namespace Go.Proofs.Ytphkgijimbkgeaa
open Go.RowKit
set_option linter.unusedVariables false

/-- Between two rounds. -/
def BoI (w : World) (b : Nat) (v : Wv) (W : World) : Prop := Rt 45 W b v ∧ v.ok ∧ w.heap.size ≤ b ∧ Below w.heap.size w W
theorem BoI.act {w : World} {b : Nat} {v : Wv} {W : World} (h : BoI w b v W) (a : Ac) : Bo w b W.heap.size v a (W.alloc (.cells a.cs.toArray 36)) := by
  obtain ⟨h1, h2, h3, h4⟩ := h
  exact ⟨h1.below (bel1 W _), h2, heap_alloc_new W _, by have := h1.lt; omega, h3, h4.size, h4.trans ((bel1 W _).mono h4.size)⟩

set_option maxRecDepth 100000 in
set_option maxHeartbeats 6000000 in
theorem bounds_walk (k z : Int) (la : Option Addr) (cap : Nat) (l : List Ac) (w : World) (hl : Acs w la l) (hsz : l.length ≤ 1000000000000000) :
    Calls Try.prog 6 #[.int .i64 k, .int .i64 z, .slice la l.length cap] w fun e w' => e = .returned (.bool true) ∧ Below w.heap.size w w' := by
  have HL : Aside (Acs w la l) := hl
  clear hl
  obtain ⟨N, hN⟩ : ∃ N, l.length = N := ⟨_, rfl⟩
  rw [hN] at hsz ⊢
  have HN : Aside _ := hN
  clear hN
  have e1 := and1 k
  have e2 := and12 z
  have hk : k % 2 = 0 ∨ k % 2 = 1 := by omega
  have hz0 : 0 ≤ z % 4096 := by omega
  have hz1 : z % 4096 < 4096 := by omega
  generalize k % 2 = K at *
  generalize z % 4096 = Z at *
  have i1 : IntKind.i64.wrap (1200 + Z) = 1200 + Z := wrp _ (by omega) (by omega)
  obtain ⟨S, hS⟩ : ∃ S, 1200 + Z = S := ⟨_, rfl⟩
  rw [hS] at i1
  have i2 : IntKind.i64.wrap (2 * S) = 2 * S := wrp _ (by omega) (by omega)
  have s0 : 1200 ≤ S := by omega
  have s1 : S ≤ 65535 := by omega
  have hnew := new_c K S w hk s0 s1
  have hok0 := wv0_ok K S hk s0 s1
  clear hz0 hz1 hk
  go_enter Try.func6, Try.ntmps6
  go_wp2_with fail
  refine hnew.mono ?_
  rintro e w1 ⟨rfl, hr1, hb1⟩
  have H0 : Aside (BoI w w.heap.size (wv0 K S) w1) := ⟨hr1, hok0, Nat.le_refl _, hb1⟩
  have hz : (wv0 K S).z = S := rfl
  generalize wv0 K S = v0 at *
  generalize hb : w.heap.size = b at H0 ⊢
  clear hr1 hb1 hnew hok0 hb
  go_wp2
  go_loopg [8, 10] N (fun kx s8 s10 wr => ∃ (i : Nat) (v : Wv) (E : Int), s8 = .int .i64 E ∧ s10 = .int .i64 (i : Int) ∧ i ≤ N ∧ N - i ≤ kx ∧ v.z = S ∧ Aside (BoI w b v wr))
  case atStart => exact ⟨0, v0, 0, rfl, rfl, by omega, by omega, hz, H0.out⟩
  case round =>
    obtain ⟨i, v, E0, rfl, rfl, hi, hk, hz, HI⟩ := hrel
    clear H0
    by_cases hlt : i < N
    · have c1 : (i : Int) < (N : Int) := by omega
      have n7 : IntKind.i64.wrap ((i : Int) + 1) = (i : Int) + 1 := wrp _ (by omega) (by omega)
      obtain ⟨ba, off, hla, qc, -⟩ := HL.out i (by rw [HN.out]; exact hlt)
      subst hla
      generalize (l[i]'(by rw [HN.out]; exact hlt)) = a at qc
      have hBw : Below w.heap.size w wr := HI.out.2.2.2
      have lb : ba < w.heap.size := World.block_lt_of_cell? _ _ (qc 0 (by omega))
      have q0 : wr.cell? ⟨ba, off + i * 6, none⟩ = some (.int .i64 a.k) := (hBw.cell (p := ⟨ba, off + i * 6, none⟩) lb).trans (qc 0 (by omega))
      have q1 : wr.cell? ⟨ba, off + i * 6 + 1, none⟩ = some (.int .i64 a.n) := (hBw.cell (p := ⟨ba, off + i * 6 + 1, none⟩) lb).trans (qc 1 (by omega))
      have q2 : wr.cell? ⟨ba, off + i * 6 + 2, none⟩ = some (.int .i64 a.s) := (hBw.cell (p := ⟨ba, off + i * 6 + 2, none⟩) lb).trans (qc 2 (by omega))
      have q3 : wr.cell? ⟨ba, off + i * 6 + 3, none⟩ = some (.int .i64 a.t) := (hBw.cell (p := ⟨ba, off + i * 6 + 3, none⟩) lb).trans (qc 3 (by omega))
      have q4 : wr.cell? ⟨ba, off + i * 6 + 4, none⟩ = some (.int .i64 a.r) := (hBw.cell (p := ⟨ba, off + i * 6 + 4, none⟩) lb).trans (qc 4 (by omega))
      have q5 : wr.cell? ⟨ba, off + i * 6 + 5, none⟩ = some (.bool a.f) := (hBw.cell (p := ⟨ba, off + i * 6 + 5, none⟩) lb).trans (qc 5 (by omega))
      have P0 : Aside (Bo w b wr.heap.size v a (wr.alloc (.cells a.cs.toArray 36))) := HI.out.act a
      obtain ⟨W0, hW0⟩ : ∃ W0, wr.alloc (.cells #[.int .i64 a.k, .int .i64 a.n, .int .i64 a.s, .int .i64 a.t, .int .i64 a.r, .bool a.f] 36) = W0 := ⟨_, rfl⟩
      have hW0' : wr.alloc (.cells a.cs.toArray 36) = W0 := hW0
      rw [hW0'] at P0
      clear hW0' qc hBw lb HI
      generalize hA : wr.heap.size = A at P0
      obtain ⟨kk, n, s, t, r, f⟩ := a
      dsimp only at q0 q1 q2 q3 q4 q5 hW0
      have hT := Bo.told P0.out
      go_wp2_with fail
      refine hT.mono ?_
      rintro e u1 ⟨rfl, hp⟩
      have P1 : Aside (Bo w b A v ⟨kk, n, s, t, r, f⟩ u1) := hp
      obtain ⟨x0, x1, x2, x3, x4, x5⟩ := hp.cells
      dsimp only at x0 x1 x2 x3 x4 x5
      have hvo := hp.o
      clear hp hT hW0 q0 q1 q2 q3 q4 q5 P0 hA
      by_cases k0 : kk = 0
      · subst k0
        have hcall := Bo.acked P1.out n s t r f
        obtain ⟨g1, g2, g3⟩ := v.acked_b n s t r f hvo
        generalize v.acked n s t r f = Q at hcall g1 g2 g3
        obtain ⟨E', v'⟩ := Q
        dsimp only at hcall g1 g2 g3
        go_wp2_with fail
        refine hcall.mono ?_
        rintro e u2 ⟨rfl, hp⟩
        have P2 : Aside (Bo w b A v' ⟨0, n, s, t, r, f⟩ u2) := hp
        clear hp hcall x0 x1 x2 x3 x4 x5
        have hT2 := Bo.told P2.out
        go_wp2_with fail
        refine hT2.mono ?_
        rintro e u3 ⟨rfl, hp⟩
        have P3 : Aside (Bo w b A v' ⟨0, n, s, t, r, f⟩ u3) := hp
        obtain ⟨x0, x1, x2, x3, x4, x5⟩ := hp.cells
        dsimp only at x0 x1 x2 x3 x4 x5
        have hvo' := hp.o
        clear hp hT2
        have zz : v'.z = S := by first | exact g2.trans hz | exact hz
        have n1 : ¬ v'.b < 2 * S := by have := hvo'.b0; omega
        have n2 : ¬ 1073741824 < v'.b := by have := hvo'.b1; omega
        have hs0 := hvo'.s0
        rw [zz] at hs0
        clear hvo' hvo
        have nb1 : decide (v'.b < 2 * S) = false := decide_eq_false n1
        have nb2 : decide (1073741824 < v'.b) = false := decide_eq_false n2
        go_upto_region 18 with fail
        go_cut [102] from 37 to 155 (fun s102 wx => s102 = .bool false ∧ Aside (wx = u3))
        case first =>
          rcases hs0 with se | sg
          · have sb1 : (v'.s == -1) = true := by simp [se]
            have sb2 : (v'.s != -1) = false := by simp [se]
            clear se
            go_wp2
            go_meet
            case rel => exact ⟨rfl, rfl⟩
          · have n3 : ¬ v'.s = -1 := by omega
            have n4 : ¬ v'.s < 2 * S := by omega
            have sb1 : (v'.s == -1) = false := by simp [n3]
            have sb2 : (v'.s != -1) = true := by simp [n3]
            have sb3 : decide (v'.s < 2 * S) = false := decide_eq_false n4
            go_wp2
            go_meet
            case rel => exact ⟨rfl, rfl⟩
        case rest =>
          obtain ⟨rfl, hcw⟩ := hcut
          have hcw' : wc = u3 := hcw.out
          subst hcw'
          clear hs0 n1 n2 nb1 nb2
          have m1 : ¬ v'.b < v.b := by omega
          by_cases h5 : s ≤ v.r
          · have m2 := g3 h5
            clear g1 g2 g3
            go_wp2
            go_roundg (N - (i + 1))
            case measure => omega
            case rel => exact ⟨i + 1, v', E', rfl, rfl, by omega, Nat.le_refl _, zz, ⟨P3.out.p, P3.out.o, P3.out.b0, P3.out.bel⟩⟩
          · clear g1 g2 g3
            go_wp2
            go_roundg (N - (i + 1))
            case measure => omega
            case rel => exact ⟨i + 1, v', E', rfl, rfl, by omega, Nat.le_refl _, zz, ⟨P3.out.p, P3.out.o, P3.out.b0, P3.out.bel⟩⟩
      by_cases k1 : kk = 1
      · subst k1
        have hcall := Bo.lost P1.out s t
        obtain ⟨g1, g2, g3⟩ := v.lost_b s t hvo
        generalize v.lost s t = Q at hcall g1 g2 g3
        obtain ⟨E', v'⟩ := Q
        dsimp only at hcall g1 g2 g3
        go_wp2_with fail
        refine hcall.mono ?_
        rintro e u2 ⟨rfl, hp⟩
        have P2 : Aside (Bo w b A v' ⟨1, n, s, t, r, f⟩ u2) := hp
        clear hp hcall x0 x1 x2 x3 x4 x5
        have hT2 := Bo.told P2.out
        go_wp2_with fail
        refine hT2.mono ?_
        rintro e u3 ⟨rfl, hp⟩
        have P3 : Aside (Bo w b A v' ⟨1, n, s, t, r, f⟩ u3) := hp
        obtain ⟨x0, x1, x2, x3, x4, x5⟩ := hp.cells
        dsimp only at x0 x1 x2 x3 x4 x5
        have hvo' := hp.o
        clear hp hT2
        have zz : v'.z = S := by first | exact g2.trans hz | exact hz
        have n1 : ¬ v'.b < 2 * S := by have := hvo'.b0; omega
        have n2 : ¬ 1073741824 < v'.b := by have := hvo'.b1; omega
        have hs0 := hvo'.s0
        rw [zz] at hs0
        clear hvo' hvo
        have nb1 : decide (v'.b < 2 * S) = false := decide_eq_false n1
        have nb2 : decide (1073741824 < v'.b) = false := decide_eq_false n2
        go_upto_region 18 with fail
        go_cut [102] from 37 to 155 (fun s102 wx => s102 = .bool false ∧ Aside (wx = u3))
        case first =>
          rcases hs0 with se | sg
          · have sb1 : (v'.s == -1) = true := by simp [se]
            have sb2 : (v'.s != -1) = false := by simp [se]
            clear se
            go_wp2
            go_meet
            case rel => exact ⟨rfl, rfl⟩
          · have n3 : ¬ v'.s = -1 := by omega
            have n4 : ¬ v'.s < 2 * S := by omega
            have sb1 : (v'.s == -1) = false := by simp [n3]
            have sb2 : (v'.s != -1) = true := by simp [n3]
            have sb3 : decide (v'.s < 2 * S) = false := decide_eq_false n4
            go_wp2
            go_meet
            case rel => exact ⟨rfl, rfl⟩
        case rest =>
          obtain ⟨rfl, hcw⟩ := hcut
          have hcw' : wc = u3 := hcw.out
          subst hcw'
          clear hs0 n1 n2 nb1 nb2
          have m1 : ¬ v.b < v'.b := by omega
          by_cases h5 : E' = 0
          · by_cases h6 : v.r < s
            · have m2 := g3 h5 h6
              clear g1 g2 g3
              go_wp2
              go_roundg (N - (i + 1))
              case measure => omega
              case rel => exact ⟨i + 1, v', 0, rfl, rfl, by omega, Nat.le_refl _, zz, ⟨P3.out.p, P3.out.o, P3.out.b0, P3.out.bel⟩⟩
            · clear g1 g2 g3
              go_wp2
              go_roundg (N - (i + 1))
              case measure => omega
              case rel => exact ⟨i + 1, v', 0, rfl, rfl, by omega, Nat.le_refl _, zz, ⟨P3.out.p, P3.out.o, P3.out.b0, P3.out.bel⟩⟩
          · clear g1 g2 g3
            go_wp2
            go_roundg (N - (i + 1))
            case measure => omega
            case rel => exact ⟨i + 1, v', E', rfl, rfl, by omega, Nat.le_refl _, zz, ⟨P3.out.p, P3.out.o, P3.out.b0, P3.out.bel⟩⟩
      by_cases k2 : kk = 2
      · subst k2
        have hcall := Bo.coll P1.out
        have g2 : v.coll.z = v.z := rfl
        generalize v.coll = v' at hcall g2
        go_wp2_with fail
        refine hcall.mono ?_
        rintro e u2 ⟨rfl, hp⟩
        have P2 : Aside (Bo w b A v' ⟨2, n, s, t, r, f⟩ u2) := hp
        clear hp hcall x0 x1 x2 x3 x4 x5
        have hT2 := Bo.told P2.out
        go_wp2_with fail
        refine hT2.mono ?_
        rintro e u3 ⟨rfl, hp⟩
        have P3 : Aside (Bo w b A v' ⟨2, n, s, t, r, f⟩ u3) := hp
        obtain ⟨x0, x1, x2, x3, x4, x5⟩ := hp.cells
        dsimp only at x0 x1 x2 x3 x4 x5
        have hvo' := hp.o
        clear hp hT2
        have zz : v'.z = S := by first | exact g2.trans hz | exact hz
        have n1 : ¬ v'.b < 2 * S := by have := hvo'.b0; omega
        have n2 : ¬ 1073741824 < v'.b := by have := hvo'.b1; omega
        have hs0 := hvo'.s0
        rw [zz] at hs0
        clear hvo' hvo
        have nb1 : decide (v'.b < 2 * S) = false := decide_eq_false n1
        have nb2 : decide (1073741824 < v'.b) = false := decide_eq_false n2
        go_upto_region 18 with fail
        go_cut [102] from 37 to 155 (fun s102 wx => s102 = .bool false ∧ Aside (wx = u3))
        case first =>
          rcases hs0 with se | sg
          · have sb1 : (v'.s == -1) = true := by simp [se]
            have sb2 : (v'.s != -1) = false := by simp [se]
            clear se
            go_wp2
            go_meet
            case rel => exact ⟨rfl, rfl⟩
          · have n3 : ¬ v'.s = -1 := by omega
            have n4 : ¬ v'.s < 2 * S := by omega
            have sb1 : (v'.s == -1) = false := by simp [n3]
            have sb2 : (v'.s != -1) = true := by simp [n3]
            have sb3 : decide (v'.s < 2 * S) = false := decide_eq_false n4
            go_wp2
            go_meet
            case rel => exact ⟨rfl, rfl⟩
        case rest =>
          obtain ⟨rfl, hcw⟩ := hcut
          have hcw' : wc = u3 := hcw.out
          subst hcw'
          clear hs0 n1 n2 nb1 nb2
          try clear g2
          go_wp2
          go_roundg (N - (i + 1))
          case measure => omega
          case rel => exact ⟨i + 1, v', E0, rfl, rfl, by omega, Nat.le_refl _, zz, ⟨P3.out.p, P3.out.o, P3.out.b0, P3.out.bel⟩⟩
      · have P2 : Aside (Bo w b A v ⟨kk, n, s, t, r, f⟩ u1) := P1.out
        have g2 : v.z = v.z := rfl
        have hT2 := Bo.told P2.out
        go_wp2_with fail
        refine hT2.mono ?_
        rintro e u3 ⟨rfl, hp⟩
        have P3 : Aside (Bo w b A v ⟨kk, n, s, t, r, f⟩ u3) := hp
        obtain ⟨x0, x1, x2, x3, x4, x5⟩ := hp.cells
        dsimp only at x0 x1 x2 x3 x4 x5
        have hvo' := hp.o
        clear hp hT2
        have zz : v.z = S := by first | exact g2.trans hz | exact hz
        have n1 : ¬ v.b < 2 * S := by have := hvo'.b0; omega
        have n2 : ¬ 1073741824 < v.b := by have := hvo'.b1; omega
        have hs0 := hvo'.s0
        rw [zz] at hs0
        clear hvo' hvo
        have nb1 : decide (v.b < 2 * S) = false := decide_eq_false n1
        have nb2 : decide (1073741824 < v.b) = false := decide_eq_false n2
        go_upto_region 18 with fail
        go_cut [102] from 37 to 155 (fun s102 wx => s102 = .bool false ∧ Aside (wx = u3))
        case first =>
          rcases hs0 with se | sg
          · have sb1 : (v.s == -1) = true := by simp [se]
            have sb2 : (v.s != -1) = false := by simp [se]
            clear se
            go_wp2
            go_meet
            case rel => exact ⟨rfl, rfl⟩
          · have n3 : ¬ v.s = -1 := by omega
            have n4 : ¬ v.s < 2 * S := by omega
            have sb1 : (v.s == -1) = false := by simp [n3]
            have sb2 : (v.s != -1) = true := by simp [n3]
            have sb3 : decide (v.s < 2 * S) = false := decide_eq_false n4
            go_wp2
            go_meet
            case rel => exact ⟨rfl, rfl⟩
        case rest =>
          obtain ⟨rfl, hcw⟩ := hcut
          have hcw' : wc = u3 := hcw.out
          subst hcw'
          clear hs0 n1 n2 nb1 nb2
          try clear g2
          go_wp2
          go_roundg (N - (i + 1))
          case measure => omega
          case rel => exact ⟨i + 1, v, E0, rfl, rfl, by omega, Nat.le_refl _, zz, ⟨P3.out.p, P3.out.o, P3.out.b0, P3.out.bel⟩⟩
    · obtain rfl : i = N := by omega
      have c1 : ¬ (i : Int) < (i : Int) := by omega
      have HB : Aside (Below w.heap.size w wr) := HI.out.2.2.2
      go_wp2
      go_ret
      exact ⟨rfl, HB.out⟩
end Go.Proofs.Ytphkgijimbkgeaa
