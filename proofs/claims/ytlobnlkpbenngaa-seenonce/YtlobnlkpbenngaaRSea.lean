/- ranges: the search for a place. -/
import Derived.Test.YtlobnlkpbenngaaRLst
import Derived.Test.YtlobnlkpbenngaaRRep2
import Derived.Deep.LoopGhost
import Derived.LoopTactic
namespace Go.Proofs.YtlobnlkpbenngaaR
open Go.RowKit Go.Shelf Go.Lib
set_option linter.unusedVariables false

def cmpI (x y : Int) : Int := if x < y then -1 else if y < x then 1 else 0

set_option maxRecDepth 100000 in
theorem compare_any (x y : Int) (w : World) : Calls Try.prog 50 #[.int .i64 x, .int .i64 y] w fun e w' => e = .returned (.int .i64 (cmpI x y)) ∧ Below w.heap.size w w' := by
  rcases Int.lt_trichotomy x y with h | h | h
  · have e : cmpI x y = -1 := by simp [cmpI, h]
    rw [e]
    go_enter Try.func50, Try.ntmps50
    go_wp2
    all_goals (go_ret; exact ⟨by simp_all, Below.refl _ _⟩)
  · subst h
    have e : cmpI x x = 0 := by simp [cmpI]
    rw [e]
    go_enter Try.func50, Try.ntmps50
    go_wp2
    all_goals (go_ret; exact ⟨by simp_all, Below.refl _ _⟩)
  · have e : cmpI x y = 1 := by simp [cmpI, h]; omega
    have h2 : ¬ x < y := by omega
    rw [e]
    go_enter Try.func50, Try.ntmps50
    go_wp2
    all_goals (go_ret; exact ⟨by simp_all, Below.refl _ _⟩)

set_option maxRecDepth 100000 in
theorem closure_any (a b n : Int) (w : World) : Calls Try.prog 73 #[.agg #[.int .i64 a, .int .i64 b], .int .i64 n] w fun e w' => e = .returned (.int .i64 (cmpI b n)) ∧ Below w.heap.size w w' := by
  go_enter Try.func73, Try.ntmps73
  go_wp2_with fail
  refine (compare_any _ _ _).mono ?_
  rintro e w' ⟨rfl, h⟩
  go_wp2
  go_ret
  exact ⟨rfl, ((Below.refl _ w).alloc (Nat.le_refl _) _).trans (h.mono (by simp))⟩

set_option maxRecDepth 100000 in
theorem cells_at {w : World} {g : Nat} {L : List (Int × Int)} {R : List Value} (h : At w g (fl L ++ R)) (k : Nat) (hk : k < L.length) :
    w.cell? ⟨g, k * 2, none⟩ = some (.int .i64 L[k].1) ∧ w.cell? ⟨g, k * 2 + 1, none⟩ = some (.int .i64 L[k].2) := by
  have := fl_get L k hk
  rw [h.cell, h.cell, List.getElem?_append_left (by simp; omega), List.getElem?_append_left (by simp; omega)]
  exact this

set_option maxRecDepth 100000 in
theorem At.below {w W : World} {g : Nat} {X : List Value} {B : Nat} (h : At w g X) (hb : Below B w W) (hB : g < B) : At W g X := (hb.block g hB).trans h

set_option maxRecDepth 100000 in
theorem eg37 : ∀ args w, (callFunc 73 args).run Try.prog w = .ok (.enter 73 args) w := enters_of Try.func73 (by kernel_rfl) rfl

set_option maxHeartbeats 2000000 in
set_option maxRecDepth 100000 in
theorem search_some (g c i : Nat) (n : Int) (L : List (Int × Int)) (R : List Value) (w : World) (hA : At w g (fl L ++ R)) (hi : i ≤ L.length) (hsz : L.length ≤ 70000)
    (hlo : ∀ k (h : k < L.length), k < i → L[k].2 < n) (hhi : ∀ k (h : k < L.length), i ≤ k → n ≤ L[k].2) :
    Calls Try.prog 72 #[.slice (some ⟨g, 0, none⟩) L.length c, .int .i64 n, .func (.func 73) #[] #[]] w fun e w' => ∃ b, e = .returned (.tuple #[.int .i64 i, .bool b]) ∧ Below w.heap.size w w' := by
  have HA : Aside _ := hA
  have HLO : Aside _ := hlo
  have HHI : Aside _ := hhi
  have hgl := hA.lt
  have eg := eg37
  clear hA hlo hhi
  obtain ⟨N, hN⟩ : ∃ N, L.length = N := ⟨_, rfl⟩
  rw [hN]
  rw [hN] at hi hsz
  go_enter Try.func72, Try.ntmps72
  go_wp2
  go_loopg [9, 10] N (fun kx s9 s10 wr => ∃ lo hh : Nat, s9 = .int .i64 lo ∧ s10 = .int .i64 hh ∧ lo ≤ i ∧ i ≤ hh ∧ hh ≤ N ∧ hh - lo ≤ kx ∧ Aside (Below w.heap.size w wr))
  case atStart => exact ⟨0, N, rfl, rfl, Nat.zero_le _, hi, Nat.le_refl _, by omega, Below.refl _ _⟩
  case round =>
    obtain ⟨lo, hh, rfl, rfl, h1, h2, h3, hg, HB⟩ := hrel
    have hAr : At wr g (fl L ++ R) := At.below HA.out HB.out hgl
    by_cases hlt : lo < hh
    · have hk : (lo + hh) / 2 < L.length := by omega
      obtain ⟨cm, cm'⟩ := cells_at hAr ((lo + hh) / 2) hk
      have HLT : Aside ((lo + hh) / 2 < i → L[(lo + hh) / 2].2 < n) := HLO.out _ hk
      have HGE : Aside (i ≤ (lo + hh) / 2 → n ≤ L[(lo + hh) / 2].2) := HHI.out _ hk
      clear hAr
      generalize L[(lo + hh) / 2] = y at cm cm' HLT HGE
      obtain ⟨ya, yb⟩ := y
      have hc := closure_any ya yb n wr
      by_cases hyx : (lo + hh) / 2 < i
      · have e1 : cmpI yb n = -1 := by unfold cmpI; rw [if_pos (HLT.out hyx)]
        rw [e1] at hc
        go_wp2_with (go_at_fn 73; refine hc.mono ?_; rintro e w' ⟨rfl, hbw⟩)
        go_roundg (hh - ((lo + hh) / 2 + 1))
        case measure => omega
        case rel => exact ⟨(lo + hh) / 2 + 1, hh, by rw [show ((lo : Int) + (hh : Int)) / 2 + 1 = (((lo + hh) / 2 + 1 : Nat) : Int) by omega], rfl, by omega, h2, h3, Nat.le_refl _, HB.out.trans (hbw.mono HB.out.size)⟩
      · have e1 : ¬ cmpI yb n < 0 := by
          have := HGE.out (by omega)
          unfold cmpI
          rw [if_neg (by omega)]
          split <;> omega
        generalize cmpI yb n = q at hc e1
        go_wp2_with (go_at_fn 73; refine hc.mono ?_; rintro e w' ⟨rfl, hbw⟩)
        go_roundg ((lo + hh) / 2 - lo)
        case measure => omega
        case rel => exact ⟨lo, (lo + hh) / 2, rfl, by rw [show ((lo : Int) + (hh : Int)) / 2 = (((lo + hh) / 2 : Nat) : Int) by omega], h1, by omega, by omega, Nat.le_refl _, HB.out.trans (hbw.mono HB.out.size)⟩
    · obtain rfl : lo = i := by omega
      obtain rfl : hh = lo := by omega
      by_cases hn : hh < N
      · have hk : hh < L.length := by omega
        obtain ⟨cm, cm'⟩ := cells_at hAr hh hk
        clear hAr
        generalize L[hh] = y at cm cm'
        obtain ⟨ya, yb⟩ := y
        have hc := closure_any ya yb n wr
        generalize cmpI yb n = q at hc
        by_cases hq : q = 0
        · go_wp2_with (go_at_fn 73; refine hc.mono ?_; rintro e w' ⟨rfl, hbw⟩)
          go_ret2
          exact ⟨_, rfl, HB.out.trans (hbw.mono HB.out.size)⟩
        · go_wp2_with (go_at_fn 73; refine hc.mono ?_; rintro e w' ⟨rfl, hbw⟩)
          go_ret2
          exact ⟨_, rfl, HB.out.trans (hbw.mono HB.out.size)⟩
      · go_wp2
        go_ret2
        exact ⟨_, rfl, HB.out⟩

set_option maxRecDepth 100000 in
theorem search_none (c : Nat) (n : Int) (w : World) :
    Calls Try.prog 72 #[.slice none 0 c, .int .i64 n, .func (.func 73) #[] #[]] w fun e w' => ∃ b, e = .returned (.tuple #[.int .i64 0, .bool b]) ∧ Below w.heap.size w w' := by
  go_enter Try.func72, Try.ntmps72
  go_wp2
  refine wp_loop_rounds 1 ?_
  rw [rounds_succ]
  go_wp2
  go_ret2
  exact ⟨_, rfl, Below.refl _ _⟩

/-- A set as it lies: its head in block S, its row in the block of o. -/
def Se (w : World) (S : Nat) (o : Option Addr) (c : Nat) (L : List (Int × Int)) : Prop :=
  w.heap[S]? = some (.cells #[.bool true, .slice o L.length c] 84 (0, 0)) ∧ Rs w o c L ∧ c ≤ maxLen
set_option maxRecDepth 100000 in
theorem Se.head {w : World} {S : Nat} {o : Option Addr} {c : Nat} {L : List (Int × Int)} (h : Se w S o c L) : w.cell? ⟨S, 0, none⟩ = some (.bool true) ∧ w.cell? ⟨S, 1, none⟩ = some (.slice o L.length c) := by
  have := h.1
  constructor <;> simp [World.cell?, this]
set_option maxRecDepth 100000 in
theorem Se.lt {w : World} {S : Nat} {o : Option Addr} {c : Nat} {L : List (Int × Int)} (h : Se w S o c L) : S < w.heap.size := (Array.getElem?_eq_some_iff.1 h.1).1
set_option maxRecDepth 100000 in
theorem Rs.below {w W : World} {o : Option Addr} {c : Nat} {L : List (Int × Int)} {B : Nat} (h : Rs w o c L) (hb : Below B w W) (hB : w.heap.size ≤ B) : Rs W o c L := by
  rcases h with h | ⟨g, R, ho, hA, hR⟩
  · exact .inl h
  · exact .inr ⟨g, R, ho, At.below hA hb (by have := hA.lt; omega), hR⟩
set_option maxRecDepth 100000 in
theorem Se.below {w W : World} {S : Nat} {o : Option Addr} {c : Nat} {L : List (Int × Int)} {B : Nat} (h : Se w S o c L) (hb : Below B w W) (hB : w.heap.size ≤ B) : Se W S o c L :=
  ⟨(hb.block S (by have := h.lt; omega)).trans h.1, h.2.1.below hb hB, h.2.2⟩

set_option maxRecDepth 100000 in
theorem place_c (S c i : Nat) (o : Option Addr) (n : Int) (L : List (Int × Int)) (w : World) (h : Se w S o c L) (hi : i ≤ L.length) (hsz : L.length ≤ 70000)
    (hlo : ∀ k (h : k < L.length), k < i → L[k].2 < n) (hhi : ∀ k (h : k < L.length), i ≤ k → n ≤ L[k].2) :
    Calls Try.prog 63 #[.pointer (some ⟨S, 0, none⟩), .int .i64 n] w fun e w' => e = .returned (.int .i64 i) ∧ Below w.heap.size w w' := by
  have hc := h.head.2
  have hs : Calls Try.prog 72 #[.slice o L.length c, .int .i64 n, .func (.func 73) #[] #[]] w fun e w' => ∃ b, e = .returned (.tuple #[.int .i64 i, .bool b]) ∧ Below w.heap.size w w' := by
    rcases h.2.1 with ⟨rfl, rfl, rfl⟩ | ⟨g, R, rfl, hA, hR⟩
    · obtain rfl : i = 0 := by simpa using hi
      exact search_none 0 n w
    · exact search_some g c i n L R w hA hi hsz hlo hhi
  clear hlo hhi h
  go_enter Try.func63, Try.ntmps63
  go_wp2_with fail
  refine hs.mono ?_
  rintro e w' ⟨b, rfl, hb⟩
  go_wp2
  go_ret
  exact ⟨rfl, hb⟩

end Go.Proofs.YtlobnlkpbenngaaR
