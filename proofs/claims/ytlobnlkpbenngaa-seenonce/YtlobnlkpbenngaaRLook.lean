/- ranges: New, Spans, holder, Has, Gap and Ends of a set that was made. -/
import Derived.Test.YtlobnlkpbenngaaRRem
namespace Go.Proofs.YtlobnlkpbenngaaR
open Go.RowKit Go.Shelf Go.Lib
set_option linter.unusedVariables false

set_option maxRecDepth 100000 in
theorem new_c (w : World) : Calls Try.prog 33 #[] w fun e w' => e = .returned (.pointer (some ⟨w.heap.size, 0, none⟩)) ∧ w' = w.alloc (.cells #[.bool true, .slice none 0 0] 84) := by
  go_enter Try.func33, Try.ntmps33
  go_wp2
  go_ret
  exact ⟨rfl, rfl⟩
set_option maxRecDepth 100000 in
theorem Se_new (w : World) : Se (w.alloc (.cells #[.bool true, .slice none 0 0] 84)) w.heap.size none 0 [] :=
  ⟨World.alloc_heap_new w _, .inl ⟨rfl, rfl, rfl⟩, by unfold maxLen; omega⟩

set_option maxRecDepth 100000 in
theorem spans_c (S c : Nat) (o : Option Addr) (L : List (Int × Int)) (w : World) (h : Se w S o c L) : Calls Try.prog 38 #[.pointer (some ⟨S, 0, none⟩)] w fun e w' => e = .returned (.int .i64 L.length) ∧ w' = w := by
  have h0 := h.head.1
  have h1 := h.head.2
  clear h
  go_enter Try.func38, Try.ntmps38
  go_wp2_with fail
  refine (yes_none S w h0).mono ?_
  rintro e w' ⟨rfl, hh⟩
  subst w'
  go_wp2
  go_ret
  exact ⟨rfl, rfl⟩

set_option maxRecDepth 100000 in
theorem Look_end (w w1 : World) (x y : Int) (b : Bool) (hb : Below w.heap.size w w1) (hK : w1.heap[w.heap.size]? = some (.cells #[.int .i64 0, .int .i64 0] 53 (0, 0))) :
    (∀ tmps : Array Value, tmps.getD 4 undef = .pointer (some ⟨w.heap.size, 0, none⟩) → tmps.getD 5 undef = .bool b → (results Try.f52 tmps).run Try.prog ((w1.setCell ⟨w.heap.size, 0, none⟩ (.int .i64 x)).setCell ⟨w.heap.size, 1, none⟩ (.int .i64 y)) = .ok (.tuple #[.agg #[.int .i64 x, .int .i64 y], .bool b]) ((w1.setCell ⟨w.heap.size, 0, none⟩ (.int .i64 x)).setCell ⟨w.heap.size, 1, none⟩ (.int .i64 y))) ∧
    Below w.heap.size w ((w1.setCell ⟨w.heap.size, 0, none⟩ (.int .i64 x)).setCell ⟨w.heap.size, 1, none⟩ (.int .i64 y)) := by
  refine ⟨fun tmps h4 h5 => ?_, (hb.setCell (p := ⟨w.heap.size, 0, none⟩) (Nat.le_refl _) _).setCell (p := ⟨w.heap.size, 1, none⟩) (Nat.le_refl _) _⟩
  have c0 : ((w1.setCell ⟨w.heap.size, 0, none⟩ (.int .i64 x)).setCell ⟨w.heap.size, 1, none⟩ (.int .i64 y)).cell? ⟨w.heap.size, 0, none⟩ = some (.int .i64 x) := by
    rw [World.cell?_setCell_other _ _ _ _ (by simp)]; exact World.cell?_setCell_same' _ _ _ (by simp [World.cell?, hK])
  have c1 : ((w1.setCell ⟨w.heap.size, 0, none⟩ (.int .i64 x)).setCell ⟨w.heap.size, 1, none⟩ (.int .i64 y)).cell? ⟨w.heap.size, 1, none⟩ = some (.int .i64 y) := by
    refine World.cell?_setCell_same' _ _ _ ?_
    rw [World.cell?_setCell_other _ _ _ _ (by simp)]
    simp [World.cell?, hK]
  have h4' : tmps[4]?.getD undef = .pointer (some ⟨w.heap.size, 0, none⟩) := by simpa using h4
  have h5' : tmps[5]?.getD undef = .bool b := by simpa using h5
  simp [results, Try.f52, go_sem, h4', h5', c0, c1]

/-- The span that a number is in. -/
def Hold (n : Int) (L : List (Int × Int)) (p : Int × Int) (b : Bool) : Prop := (b = true ∧ p ∈ L ∧ p.1 ≤ n ∧ n ≤ p.2) ∨ (b = false ∧ ¬ In n L)

set_option maxRecDepth 100000 in
theorem holder_c (S c : Nat) (o : Option Addr) (n : Int) (L : List (Int × Int)) (w : World) (h : Se w S o c L) (hO : Ok L) (hsz : L.length ≤ 65536) :
    Calls Try.prog 52 #[.pointer (some ⟨S, 0, none⟩), .int .i64 n] w fun e w' => ∃ x y b, e = .returned (.tuple #[.agg #[.int .i64 x, .int .i64 y], .bool b]) ∧ Hold n L (x, y) b ∧ Below w.heap.size w w' := by
  obtain ⟨A, D, B, rfl, hA, hD, hB⟩ := parts L n n hO (by omega)
  have hhi : ∀ k (h : k < (A ++ D ++ B).length), A.length ≤ k → n ≤ (A ++ D ++ B)[k].2 := by
    intro k hk h1
    by_cases h2 : k < A.length + D.length
    · exact (hD _ (idx_D k hk h1 h2)).1
    · have a1 := hB _ (idx_B k hk (by omega))
      have a2 := (hO.2 _ (List.getElem_mem hk)).2.1
      omega
  have hb0 : Below w.heap.size w (w.alloc (.cells #[.int .i64 0, .int .i64 0] 53)) := (Below.refl _ w).alloc (Nat.le_refl _) _
  have hp := place_c S c A.length o n (A ++ D ++ B) (w.alloc (.cells #[.int .i64 0, .int .i64 0] 53)) (h.below hb0 (Nat.le_refl _)) (by simp) (by omega) (fun k hk h1 => hA _ (idx_A k hk h1)) hhi
  have hk0 : (w.alloc (.cells #[.int .i64 0, .int .i64 0] 53)).heap[w.heap.size]? = some (.cells #[.int .i64 0, .int .i64 0] 53 (0, 0)) := World.alloc_heap_new w _
  rw [World.size_alloc] at hp
  have lS := h.lt
  have h1 := h.head.2
  have hnot : D = [] → ¬ In n (A ++ D ++ B) := by
    rintro rfl ⟨p, hp, q1, q2⟩
    simp only [List.append_nil, List.mem_append] at hp
    rcases hp with hp | hp
    · have := hA p hp; omega
    · have := hB p hp; omega
  cases D with
  | nil =>
    have hH : Hold n (A ++ [] ++ B) (0, 0) false := .inr ⟨rfl, hnot rfl⟩
    rcases Nat.eq_zero_or_pos B.length with hBl | hBl
    · obtain rfl := List.length_eq_zero_iff.1 hBl
      have hlen : (A ++ [] ++ ([] : List (Int × Int))).length = A.length := by simp
      rw [hlen] at h1
      have HH : Aside (Hold n (A ++ [] ++ []) (0, 0) false) := hH
      clear hH hnot hhi h hO hA hD hB
      generalize A ++ [] ++ ([] : List (Int × Int)) = L at HH
      generalize A.length = I at *
      go_enter Try.func52, Try.ntmps52
      go_wp2_with fail
      refine hp.mono ?_
      rintro e w1 ⟨rfl, hb1⟩
      have hb : Below w.heap.size w w1 := hb0.trans (hb1.mono (by omega))
      have hK : w1.heap[w.heap.size]? = some (.cells #[.int .i64 0, .int .i64 0] 53 (0, 0)) := (hb1.block _ (by omega)).trans hk0
      have k0 : w1.cell? ⟨w.heap.size, 0, none⟩ = some (.int .i64 0) := by simp [World.cell?, hK]
      have k1 : w1.cell? ⟨w.heap.size, 1, none⟩ = some (.int .i64 0) := by simp [World.cell?, hK]
      have kf0 : w1.frozen? ⟨w.heap.size, 0, none⟩ = false := by simp [World.frozen?, hK]
      have kf1 : w1.frozen? ⟨w.heap.size, 1, none⟩ = false := by simp [World.frozen?, hK]
      have HR := Look_end w w1 0 0 false hb hK
      have d1 := (hb.cell (p := ⟨S, 1, none⟩) lS).trans h1
      clear hK hb1 hb0 hk0 hp
      go_wp2
      exact ⟨rfl, _, HR.1 _ rfl rfl, 0, 0, false, rfl, HH.out, HR.2⟩
    · obtain ⟨g, R, rfl, hAt, hR⟩ : ∃ g R, o = some ⟨g, 0, none⟩ ∧ At w g (fl (A ++ [] ++ B) ++ R) ∧ R.length + (A ++ [] ++ B).length * 2 = c * 2 := by
        rcases h.2.1 with ⟨_, hh, _⟩ | hh
        · simp at hh; rw [hh.2] at hBl; simp at hBl
        · exact hh
      have lk : A.length < (A ++ [] ++ B).length := by simp; omega
      obtain ⟨c0, c1⟩ := cells_at hAt _ lk
      have hgt : n < (A ++ [] ++ B)[A.length].1 := hB _ (idx_B _ lk (by simp))
      have lg := hAt.lt
      have HH : Aside (Hold n (A ++ [] ++ B) (0, 0) false) := hH
      clear hH hnot hhi h hO hA hD hB
      generalize (A ++ [] ++ B)[A.length] = y at c0 c1 hgt
      obtain ⟨ya, yb⟩ := y
      have hgt' : n < ya := hgt
      have hne : ¬ ((A.length : Int) = ((A ++ [] ++ B).length : Int)) := by omega
      generalize A ++ [] ++ B = L at *
      generalize hLl : L.length = N at *
      generalize A.length = I at *
      clear hAt
      go_enter Try.func52, Try.ntmps52
      go_wp2_with fail
      refine hp.mono ?_
      rintro e w1 ⟨rfl, hb1⟩
      have hb : Below w.heap.size w w1 := hb0.trans (hb1.mono (by omega))
      have hK : w1.heap[w.heap.size]? = some (.cells #[.int .i64 0, .int .i64 0] 53 (0, 0)) := (hb1.block _ (by omega)).trans hk0
      have k0 : w1.cell? ⟨w.heap.size, 0, none⟩ = some (.int .i64 0) := by simp [World.cell?, hK]
      have k1 : w1.cell? ⟨w.heap.size, 1, none⟩ = some (.int .i64 0) := by simp [World.cell?, hK]
      have kf0 : w1.frozen? ⟨w.heap.size, 0, none⟩ = false := by simp [World.frozen?, hK]
      have kf1 : w1.frozen? ⟨w.heap.size, 1, none⟩ = false := by simp [World.frozen?, hK]
      have HR := Look_end w w1 0 0 false hb hK
      have d1 := (hb.cell (p := ⟨S, 1, none⟩) lS).trans h1
      have e0 := (hb.cell (p := ⟨g, I * 2, none⟩) lg).trans c0
      have e1 := (hb.cell (p := ⟨g, I * 2 + 1, none⟩) lg).trans c1
      clear hK hb1 hb0 hk0 hp
      go_wp2
      exact ⟨rfl, _, HR.1 _ rfl rfl, 0, 0, false, rfl, HH.out, HR.2⟩
  | cons d D' =>
    have hdD := hD d (by simp)
    have hH : Hold n (A ++ d :: D' ++ B) (d.1, d.2) true := .inl ⟨rfl, by simp, hdD.2, hdD.1⟩
    obtain ⟨g, R, rfl, hAt, hR⟩ : ∃ g R, o = some ⟨g, 0, none⟩ ∧ At w g (fl (A ++ d :: D' ++ B) ++ R) ∧ R.length + (A ++ d :: D' ++ B).length * 2 = c * 2 := by
      rcases h.2.1 with ⟨_, hh, _⟩ | hh
      · simp at hh
      · exact hh
    have lk : A.length < (A ++ d :: D' ++ B).length := by simp
    obtain ⟨c0, c1⟩ := cells_at hAt _ lk
    have gI : (A ++ d :: D' ++ B)[A.length] = d := by simp
    rw [gI] at c0 c1
    have hle : ¬ n < d.1 := by omega
    have lg := hAt.lt
    have HH : Aside (Hold n (A ++ d :: D' ++ B) (d.1, d.2) true) := hH
    have hne : ¬ ((A.length : Int) = ((A ++ d :: D' ++ B).length : Int)) := by omega
    clear hH hnot hhi h hO hA hD hB gI
    obtain ⟨da, db⟩ := d
    dsimp only at c0 c1 hle HH
    generalize A ++ (da, db) :: D' ++ B = L at *
    generalize hLl : L.length = N at *
    generalize A.length = I at *
    clear hAt
    have hne2 : ((I : Int) == (N : Int)) = false := by simp; omega
    have hle2 : decide (n < da) = false := by simpa using hle
    go_enter Try.func52, Try.ntmps52
    go_wp2_with fail
    refine hp.mono ?_
    rintro e w1 ⟨rfl, hb1⟩
    have hb : Below w.heap.size w w1 := hb0.trans (hb1.mono (by omega))
    have hK : w1.heap[w.heap.size]? = some (.cells #[.int .i64 0, .int .i64 0] 53 (0, 0)) := (hb1.block _ (by omega)).trans hk0
    have k0 : w1.cell? ⟨w.heap.size, 0, none⟩ = some (.int .i64 0) := by simp [World.cell?, hK]
    have k1 : w1.cell? ⟨w.heap.size, 1, none⟩ = some (.int .i64 0) := by simp [World.cell?, hK]
    have kf0 : w1.frozen? ⟨w.heap.size, 0, none⟩ = false := by simp [World.frozen?, hK]
    have kf1 : w1.frozen? ⟨w.heap.size, 1, none⟩ = false := by simp [World.frozen?, hK]
    have HR := Look_end w w1 da db true hb hK
    have d1 := (hb.cell (p := ⟨S, 1, none⟩) lS).trans h1
    have e0 := (hb.cell (p := ⟨g, I * 2, none⟩) lg).trans c0
    have e1 := (hb.cell (p := ⟨g, I * 2 + 1, none⟩) lg).trans c1
    clear hK hb1 hb0 hk0 hp
    go_wp2
    exact ⟨rfl, _, HR.1 _ rfl rfl, da, db, true, rfl, HH.out, HR.2⟩

set_option maxRecDepth 100000 in
theorem has_c (S c : Nat) (o : Option Addr) (n : Int) (L : List (Int × Int)) (w : World) (h : Se w S o c L) (hO : Ok L) (hsz : L.length ≤ 65536) :
    Calls Try.prog 35 #[.pointer (some ⟨S, 0, none⟩), .int .i64 n] w fun e w' => ∃ b, e = .returned (.bool b) ∧ (b = true ↔ In n L) ∧ Below w.heap.size w w' := by
  have hh := holder_c S c o n L w h hO hsz
  have h0 := h.head.1
  clear h
  go_enter Try.func35, Try.ntmps35
  go_wp2_with fail
  refine (yes_none S w h0).mono ?_
  rintro e w' ⟨rfl, hq⟩
  subst w'
  go_wp2_with fail
  refine hh.mono ?_
  rintro e w1 ⟨x, y, b, rfl, hH, hb⟩
  have HH : Aside _ := hH
  clear hH
  go_wp2
  go_ret
  refine ⟨b, rfl, ?_, hb.alloc hb.size _⟩
  rcases HH.out with ⟨rfl, q1, q2⟩ | ⟨rfl, q⟩
  · simp only [true_iff]; exact ⟨_, q1, q2⟩
  · simp [q]

end Go.Proofs.YtlobnlkpbenngaaR
