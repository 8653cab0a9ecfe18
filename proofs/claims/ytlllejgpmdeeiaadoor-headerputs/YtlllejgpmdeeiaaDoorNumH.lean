/- What header.Number answers where the number's bytes are there: a contract. -/
import Derived.Test.YtlllejgpmdeeiaaDoorSpoken
namespace Go.Proofs.YtlllejgpmdeeiaaDoor
open Go.ChangeShapes Go.WideShapes Go.ChangeAt Go.RowKit
set_option linter.unusedVariables false

theorem ret_4 {a a' b b' d d' : Int} {c c' : Bool} (h : a = a') (h' : b = b') (h'' : c = c') (h3 : d = d') : Ending.returned (.tuple #[.int .u64 a, .int .i64 b, .bool c, .int .i64 d]) = .returned (.tuple #[.int .u64 a', .int .i64 b', .bool c', .int .i64 d']) := by rw [h, h', h'', h3]
theorem results_4 {P : Program} {fn : Func} {a b c d : Tmp} (h : fn.results = #[.tmp a, .tmp b, .tmp c, .tmp d]) (tmps : Array Value) (w : World) :
    (results fn tmps).run P w = .ok (.tuple #[tmps.getD a undef, tmps.getD b undef, tmps.getD c undef, tmps.getD d undef]) w := by
  simp [results, h]
/-- are the bits that must be 0 -/
def clr (x : Nat) : Bool := if x / 128 % 2 = 1 then x / 4 % 4 == 0 else x / 8 % 4 == 0

set_option maxRecDepth 10000 in
set_option maxHeartbeats 400000 in
theorem number_h (ao : Option Addr) (l : List UInt8) (cap : Nat) (a : Int) (w : World) (hs : Sl w ao l) (hl : l.length ≤ 9223372036854775000) (ha : 1 ≤ a) (hn : a + (((fb l % 4 : Nat) : Int) + 1) ≤ l.length) :
    Calls Tryd.prog 17 #[.slice ao l.length cap, .int .i64 a] w fun e w' => e = .returned (.tuple #[.int .u64 (gV l a (((fb l % 4 : Nat) : Int) + 1)), .int .i64 (((fb l % 4 : Nat) : Int) + 1), .bool (clr (fb l)), .int .i64 0]) ∧ ∃ k, w' = w.drewN k := by
  obtain ⟨b, off, rfl, hc⟩ := Sl_addr hs (by omega)
  have hp : 0 < l.length := by omega
  have hx := hc 0 hp
  obtain ⟨x, hxx⟩ : ∃ x : Nat, fb l = x := ⟨_, rfl⟩
  have hx8 : x < 256 := by rw [← hxx]; exact fb_lt l
  rw [show l[0].toNat = x by rw [← hxx]; unfold fb; simp [List.getD, hp], Nat.add_zero] at hx
  rw [hxx] at hn ⊢
  have e3 := and3 x hx8
  have e128 := and128 x hx8
  have e12 := and12 x hx8
  have e24 := and24 x hx8
  obtain ⟨m, hm⟩ : ∃ m : Nat, x % 4 = m := ⟨_, rfl⟩
  have hm4 : m < 4 := by omega
  rw [hm] at e3 hn ⊢
  have HG := mkHid (fun W (hW : Sl W (some ⟨b, off, none⟩) l) => get_any (some ⟨b, off, none⟩) l cap a ((m : Int) + 1) W hW hl)
  have hok : gOk l.length a ((m : Int) + 1) := by unfold gOk; omega
  have hE : gE l a ((m : Int) + 1) = 0 := (if_neg (by unfold gArg; omega)).trans (if_pos hok)
  rw [hE] at HG
  generalize gV l a ((m : Int) + 1) = V at *
  generalize gN l a ((m : Int) + 1) = N at *
  have HS := mkHid hs
  have hq : x / 128 % 2 = 0 ∨ x / 128 % 2 = 1 := by omega
  have HM := mkHid hm
  clear hs hc hE hok hm hxx
  rcases hq with hq | hq
  · have HC : Hid (clr x = (x / 8 % 4 == 0)) := if_neg (by omega)
    rw [hq] at e128
    obtain ⟨z, hz⟩ : ∃ z : Nat, x / 8 % 4 = z := ⟨_, rfl⟩
    rw [hz] at e24 HC
    clear hq hz e12
    go_enter Tryd.func17, Tryd.ntmps17
    go_wp2_with fail
    refine (HG.out _ HS.out).mono ?_
    rintro e w' ⟨rfl, rfl⟩
    go_wp2
    go_quiet (fail)
    go_wp2
    refine bodyPost_ret (v := .tuple #[.int .u64 V, .int .i64 ((m : Int) + 1), .bool (((z : Int) * 8) == 0), .int .i64 0]) (results_4 (fn := Tryd.f17) (a := 4) (b := 5) (c := 6) (d := 7) rfl _ _) rfl ?_
    exact ⟨ret_4 rfl rfl (by rw [HC.out, Bool.eq_iff_iff]; simp; omega) rfl, _, rfl⟩
  · have HC : Hid (clr x = (x / 4 % 4 == 0)) := if_pos hq
    rw [hq] at e128
    obtain ⟨z, hz⟩ : ∃ z : Nat, x / 4 % 4 = z := ⟨_, rfl⟩
    rw [hz] at e12 HC
    clear hq hz e24
    go_enter Tryd.func17, Tryd.ntmps17
    go_wp2_with fail
    refine (HG.out _ HS.out).mono ?_
    rintro e w' ⟨rfl, rfl⟩
    go_wp2
    go_quiet (fail)
    go_wp2
    refine bodyPost_ret (v := .tuple #[.int .u64 V, .int .i64 ((m : Int) + 1), .bool (((z : Int) * 4) == 0), .int .i64 0]) (results_4 (fn := Tryd.f17) (a := 4) (b := 5) (c := 6) (d := 7) rfl _ _) rfl ?_
    exact ⟨ret_4 rfl rfl (by rw [HC.out, Bool.eq_iff_iff]; simp; omega) rfl, _, rfl⟩
end Go.Proofs.YtlllejgpmdeeiaaDoor
