/- The reference of layer 5: Ends, Has, Gap. -/
import Derived.Test.YtgmhlmficnkhgaaRef3
namespace Go.Proofs.Ytgmhlmficnkhgaa
open Go.RowKit Go.Shelf Go.Lib
set_option linter.unusedVariables false

theorem EndV_cons (d : Int × Int) (t : List (Int × Int)) (k : Nat) (hk : k = t.length) (h : k < (d :: t).length) : EndV (d :: t) = (d.1, (d :: t)[k].2) := by
  subst hk
  simp [EndV, List.getLast_eq_getElem]

set_option maxRecDepth 100000 in
set_option maxHeartbeats 1000000 in
theorem rends_c (B : Nat → Prop) (r : Nat) (L : List (Int × Int)) (W : World) (h : Rf B W r L) (hn : L.length ≤ 65536) :
    Calls Try.prog 28 #[.pointer (some ⟨r, 0, none⟩)] W fun e w' => e = .returned (.tuple #[.int .i64 (EndV L).1, .int .i64 (EndV L).2]) ∧ Below W.heap.size W w' := by
  obtain ⟨o, c, hh, hm⟩ := h
  have c1 : W.cell? ⟨r, 0, none⟩ = some (.slice o L.length c) := by simp [World.cell?, hh]
  cases L with
  | nil =>
    go_enter Try.func28, Try.ntmps28
    go_wp2
    go_ret2
    exact ⟨rfl, Below.refl _ _⟩
  | cons d t =>
    obtain ⟨g, rfl, a0, a1⟩ := row_cells hm.1 0 (by simp)
    obtain ⟨g', e', b0, b1⟩ := row_cells hm.1 t.length (by simp)
    obtain rfl : g = g' := by simpa using e'
    rw [EndV_cons d t t.length rfl (by simp)]
    simp only [List.getElem_cons_zero] at a0 a1
    generalize hz : (d :: t)[t.length]'(by simp) = z at b1 b0 ⊢
    have hl : (d :: t).length = t.length + 1 := rfl
    rw [hl] at c1 hn
    clear hz hl
    clear hh hm e'
    generalize t.length = m at *
    obtain ⟨d1, d2⟩ := d
    obtain ⟨z1, z2⟩ := z
    dsimp only at *
    have n0 : ¬ ((m : Int) + 1 = 0) := by omega
    have i1 : (0 : Int) < ((m + 1 : Nat) : Int) := by omega
    have i2 : (m : Int) < ((m + 1 : Nat) : Int) := by omega
    go_enter Try.func28, Try.ntmps28
    go_wp2_with fail
    go_quiet (fail)
    go_wp2
    go_ret2
    exact ⟨rfl, ⟨rfl, rfl, rfl, Nat.le_refl _, fun _ _ => rfl⟩⟩

/-- What Has answers. -/
def HasV (n : Int) (L : List (Int × Int)) (e : Ending) : Prop := ∃ b, e = .returned (.bool b) ∧ (b = true ↔ In n L)

set_option maxRecDepth 100000 in
set_option maxHeartbeats 1000000 in
theorem rhas_c (B : Nat → Prop) (r : Nat) (n : Int) (L : List (Int × Int)) (W : World) (h : Rf B W r L) (hn : L.length ≤ 65536) :
    Calls Try.prog 29 #[.pointer (some ⟨r, 0, none⟩), .int .i64 n] W fun e w' => HasV n L e ∧ w' = W := by
  obtain ⟨o, c, hh, hm⟩ := h
  have c1 : W.cell? ⟨r, 0, none⟩ = some (.slice o L.length c) := by simp [World.cell?, hh]
  obtain ⟨N, hN⟩ : ∃ N, L.length = N := ⟨_, rfl⟩
  rw [hN] at c1 hn
  have HR : Aside _ := hm.1
  clear hh hm
  go_enter Try.func29, Try.ntmps29
  go_wp2
  go_loopg [5] N (fun kx s5 wr => ∃ k : Nat, s5 = .int .i64 k ∧ k ≤ N ∧ N - k ≤ kx ∧ wr = W ∧ Aside (¬ In n (L.take k)))
  case atStart => exact ⟨0, rfl, Nat.zero_le _, by omega, rfl, by show ¬ In n (L.take 0); simpa using In_nil n⟩
  case round =>
    obtain ⟨k, rfl, hk, hg, hwr, HI⟩ := hrel
    subst hwr
    by_cases hlt : k < N
    · have hkL : k < L.length := by omega
      obtain ⟨g, rfl, d0, d1⟩ := row_cells HR.out k hkL
      have hI : In n (L.take (k + 1)) ↔ L[k].1 ≤ n ∧ n ≤ L[k].2 := by
        rw [List.take_succ_eq_append_getElem hkL, In_append, In_cons]
        simp only [In_nil, or_false]
        constructor
        · rintro (h | h)
          · exact absurd h HI.out
          · exact h
        · exact .inr
      have hmem : L[k] ∈ L := List.getElem_mem hkL
      have HMEM : Aside _ := hmem
      have HI2 : Aside _ := hI
      have i1 : (k : Int) < (N : Int) := by omega
      generalize hx : L[k] = x at d0 d1 HI2 HMEM
      obtain ⟨x1, x2⟩ := x
      dsimp only at d0 d1
      clear hmem hI hx
      by_cases h1 : x1 ≤ n
      · by_cases h2 : n ≤ x2
        · go_wp2
          go_ret
          exact ⟨⟨true, rfl, ⟨fun _ => ⟨(x1, x2), HMEM.out, h1, h2⟩, fun _ => rfl⟩⟩, rfl⟩
        · go_wp2
          go_roundg (N - (k + 1))
          case measure => omega
          case rel => exact ⟨k + 1, by simp, by omega, Nat.le_refl _, rfl, fun h => by have := (HI2.out.1 h).2; omega⟩
      · go_wp2
        go_roundg (N - (k + 1))
        case measure => omega
        case rel => exact ⟨k + 1, by simp, by omega, Nat.le_refl _, rfl, fun h => by have := (HI2.out.1 h).1; omega⟩
    · obtain rfl : k = N := by omega
      have eL : L.take k = L := by rw [← hN]; exact List.take_length
      rw [eL] at HI
      go_wp2
      go_ret
      exact ⟨⟨false, rfl, ⟨fun h => (by cases h), fun h => absurd h HI.out⟩⟩, rfl⟩

/-- How far the search for a gap has come. -/
def GapAt (q : Int) (M : List (Int × Int)) (v : Int) : Prop := (∃ p ∈ M, p.1 ≤ q ∧ q ≤ p.2 ∧ v = p.2 + 1) ∨ (¬ In q M ∧ v = q)
theorem GapAt_step {q v : Int} {L : List (Int × Int)} {k : Nat} (hO : Ok L) (hk : k < L.length) (h : GapAt q (L.take k) v) : GapAt q (L.take (k + 1)) (if L[k].1 ≤ v ∧ v ≤ L[k].2 then L[k].2 + 1 else v) := by
  have e := List.take_succ_eq_append_getElem hk
  rcases h with ⟨p, hp, h1, h2, rfl⟩ | ⟨h1, rfl⟩
  · have hlt : p.2 + 2 ≤ L[k].1 := by
      have hO' := hO
      rw [← List.take_append_drop (k + 1) L, e] at hO'
      obtain ⟨a, _⟩ := Ok_append.1 hO'
      exact (Ok_append.1 a).2.2 p hp _ (by simp)
    rw [if_neg (by omega), e]
    exact .inl ⟨p, List.mem_append_left _ hp, h1, h2, rfl⟩
  · split
    · rename_i hc
      rw [e]
      exact .inl ⟨L[k], List.mem_append_right _ (List.mem_singleton_self _), hc.1, hc.2, rfl⟩
    · rename_i hc
      rw [e]
      refine .inr ⟨?_, rfl⟩
      rw [In_append, In_cons]
      simp only [In_nil, or_false]
      rintro (h | h)
      · exact h1 h
      · exact hc h
theorem GapV_unique {q v v' : Int} {L : List (Int × Int)} (hO : Ok L) (h : GapV q L v) (h' : GapV q L v') : v = v' := by
  obtain ⟨m, hm, rfl⟩ := h
  obtain ⟨m', hm', rfl⟩ := h'
  have : m = m' := by
    rcases hm with ⟨p, hp, h1, h2, rfl⟩ | ⟨h1, rfl⟩
    · rcases hm' with ⟨p', hp', h1', h2', rfl⟩ | ⟨h1', rfl⟩
      · obtain ⟨A, B, rfl⟩ := List.append_of_mem hp
        obtain ⟨h3, h4, h5⟩ := Ok_append.1 hO
        rcases List.mem_append.1 hp' with hp' | hp'
        · have := h5 p' hp' p (by simp); omega
        · rcases List.mem_cons.1 hp' with rfl | hp'
          · rfl
          · have := (Ok_cons.1 h4).2.1 p' hp'; omega
      · exact absurd ⟨p, hp, h1, h2⟩ h1'
    · rcases hm' with ⟨p', hp', h1', h2', rfl⟩ | ⟨h1', rfl⟩
      · exact absurd ⟨p', hp', h1', h2'⟩ h1
      · rfl
  rw [this]

set_option maxRecDepth 100000 in
set_option maxHeartbeats 1000000 in
theorem rgap_c (B : Nat → Prop) (r : Nat) (n : Int) (L : List (Int × Int)) (W : World) (h : Rf B W r L) (hn : L.length ≤ 65536) (hO : Ok L) :
    Calls Try.prog 30 #[.pointer (some ⟨r, 0, none⟩), .int .i64 n] W fun e w' => ∃ v, e = .returned (.int .i64 v) ∧ GapV (max n 0) L v ∧ w' = W := by
  obtain ⟨o, c, hh, hm⟩ := h
  have c1 : W.cell? ⟨r, 0, none⟩ = some (.slice o L.length c) := by simp [World.cell?, hh]
  obtain ⟨N, hN⟩ : ∃ N, L.length = N := ⟨_, rfl⟩
  rw [hN] at c1 hn
  have HR : Aside _ := hm.1
  have HO : Aside (Ok L) := hO
  clear hh hm hO
  obtain ⟨q, hq⟩ : ∃ q, max n 0 = q := ⟨_, rfl⟩
  rw [hq]
  by_cases hn0 : n < 0
  · obtain rfl : q = 0 := by omega
    clear hq
    go_enter Try.func30, Try.ntmps30
    go_wp2
    go_loopg [1, 5] N (fun kx s1 s5 wr => ∃ (k : Nat) (v : Int), s5 = .int .i64 k ∧ s1 = .int .i64 v ∧ k ≤ N ∧ N - k ≤ kx ∧ wr = W ∧ Aside (GapAt 0 (L.take k) v))
    case atStart => exact ⟨0, 0, rfl, rfl, Nat.zero_le _, by omega, rfl, .inr ⟨by simpa using In_nil 0, rfl⟩⟩
    case round =>
      obtain ⟨k, v, rfl, rfl, hk, hg, hwr, HG⟩ := hrel
      subst hwr
      by_cases hlt : k < N
      · have hkL : k < L.length := by omega
        obtain ⟨g, rfl, d0, d1⟩ := row_cells HR.out k hkL
        have HS : Aside _ := GapAt_step HO.out hkL HG.out
        have hb := HO.out.2 _ (List.getElem_mem hkL)
        have i1 : (k : Int) < (N : Int) := by omega
        generalize hx : L[k] = x at d0 d1 HS hb
        obtain ⟨x1, x2⟩ := x
        dsimp only at d0 d1 hb HS
        have w1 : IntKind.i64.wrap (x2 + 1) = x2 + 1 := by rw [IntKind.wrap_i64]; omega
        clear hx HG
        by_cases h1 : x1 ≤ v
        · by_cases h2 : v ≤ x2
          · rw [if_pos ⟨h1, h2⟩] at HS
            go_wp2
            go_roundg (N - (k + 1))
            case measure => omega
            case rel => exact ⟨k + 1, _, by simp, rfl, by omega, Nat.le_refl _, rfl, HS.out⟩
          · rw [if_neg (by omega)] at HS
            go_wp2
            go_roundg (N - (k + 1))
            case measure => omega
            case rel => exact ⟨k + 1, _, by simp, rfl, by omega, Nat.le_refl _, rfl, HS.out⟩
        · rw [if_neg (by omega)] at HS
          go_wp2
          go_roundg (N - (k + 1))
          case measure => omega
          case rel => exact ⟨k + 1, _, by simp, rfl, by omega, Nat.le_refl _, rfl, HS.out⟩
      · obtain rfl : k = N := by omega
        have eL : L.take k = L := by rw [← hN]; exact List.take_length
        rw [eL] at HG
        by_cases hb : 4611686018427387903 < v
        · go_wp2
          go_ret
          exact ⟨-1, rfl, ⟨v, HG.out, by rw [if_pos hb]⟩, rfl⟩
        · go_wp2
          go_ret
          exact ⟨v, rfl, ⟨v, HG.out, by rw [if_neg (by omega)]⟩, rfl⟩
  · obtain rfl : q = n := by omega
    clear hq
    go_enter Try.func30, Try.ntmps30
    go_wp2
    go_loopg [1, 5] N (fun kx s1 s5 wr => ∃ (k : Nat) (v : Int), s5 = .int .i64 k ∧ s1 = .int .i64 v ∧ k ≤ N ∧ N - k ≤ kx ∧ wr = W ∧ Aside (GapAt q (L.take k) v))
    case atStart => exact ⟨0, q, rfl, rfl, Nat.zero_le _, by omega, rfl, .inr ⟨by simpa using In_nil q, rfl⟩⟩
    case round =>
      obtain ⟨k, v, rfl, rfl, hk, hg, hwr, HG⟩ := hrel
      subst hwr
      by_cases hlt : k < N
      · have hkL : k < L.length := by omega
        obtain ⟨g, rfl, d0, d1⟩ := row_cells HR.out k hkL
        have HS : Aside _ := GapAt_step HO.out hkL HG.out
        have hb := HO.out.2 _ (List.getElem_mem hkL)
        have i1 : (k : Int) < (N : Int) := by omega
        generalize hx : L[k] = x at d0 d1 HS hb
        obtain ⟨x1, x2⟩ := x
        dsimp only at d0 d1 hb HS
        have w1 : IntKind.i64.wrap (x2 + 1) = x2 + 1 := by rw [IntKind.wrap_i64]; omega
        clear hx HG
        by_cases h1 : x1 ≤ v
        · by_cases h2 : v ≤ x2
          · rw [if_pos ⟨h1, h2⟩] at HS
            go_wp2
            go_roundg (N - (k + 1))
            case measure => omega
            case rel => exact ⟨k + 1, _, by simp, rfl, by omega, Nat.le_refl _, rfl, HS.out⟩
          · rw [if_neg (by omega)] at HS
            go_wp2
            go_roundg (N - (k + 1))
            case measure => omega
            case rel => exact ⟨k + 1, _, by simp, rfl, by omega, Nat.le_refl _, rfl, HS.out⟩
        · rw [if_neg (by omega)] at HS
          go_wp2
          go_roundg (N - (k + 1))
          case measure => omega
          case rel => exact ⟨k + 1, _, by simp, rfl, by omega, Nat.le_refl _, rfl, HS.out⟩
      · obtain rfl : k = N := by omega
        have eL : L.take k = L := by rw [← hN]; exact List.take_length
        rw [eL] at HG
        by_cases hb : 4611686018427387903 < v
        · go_wp2
          go_ret
          exact ⟨-1, rfl, ⟨v, HG.out, by rw [if_pos hb]⟩, rfl⟩
        · go_wp2
          go_ret
          exact ⟨v, rfl, ⟨v, HG.out, by rw [if_neg (by omega)]⟩, rfl⟩
end Go.Proofs.Ytgmhlmficnkhgaa
