/- What header.isNoVersion, slices.ContainsFunc over it, and header.mayBePut answer: contracts. -/
import Derived.Test.YtlllejgpmdeeiaaDoorLook
namespace Go.Proofs.YtlllejgpmdeeiaaDoor
open Go.ChangeShapes Go.WideShapes Go.ChangeAt Go.RowKit
set_option linter.unusedVariables false

def noV (v : Int) : Bool := decide (v < 1) || decide (4294967295 < v)
theorem noVersion_any (v : Int) (w : World) : Calls Tryd.prog 35 #[.int .i64 v] w fun e w' => e = .returned (.bool (noV v)) ∧ w' = w := by
  by_cases h : v < 1
  · go_enter Tryd.func35, Tryd.ntmps35
    go_wp2
    go_ret
    exact ⟨ret_bool (by simp [noV, h]), rfl⟩
  · have hn : noV v = decide (4294967295 < v) := by unfold noV; rw [decide_eq_false h, Bool.false_or]
    have HN := mkHid hn
    clear hn
    go_enter Tryd.func35, Tryd.ntmps35
    go_wp2
    go_ret
    exact ⟨ret_bool (by rw [HN.out]), rfl⟩

/-- ints as they lie -/
def Il (w : World) (ao : Option Addr) (l : List Int) : Prop := ∀ j (hj : j < l.length), ∃ b off, ao = some ⟨b, off, none⟩ ∧ w.cell? ⟨b, off + j, none⟩ = some (.int .i64 (l[j]))
theorem Il_addr {w : World} {ao : Option Addr} {l : List Int} (hs : Il w ao l) (h : 0 < l.length) : ∃ b off, ao = some ⟨b, off, none⟩ ∧ ∀ j (hj : j < l.length), w.cell? ⟨b, off + j, none⟩ = some (.int .i64 (l[j])) := by
  obtain ⟨b, off, he, _⟩ := hs 0 h
  refine ⟨b, off, he, fun j hj => ?_⟩
  obtain ⟨b', off', he', hc⟩ := hs j hj
  rw [he] at he'
  simp only [Option.some.injEq, Addr.mk.injEq] at he'
  obtain ⟨rfl, rfl, _⟩ := he'
  exact hc

set_option maxRecDepth 10000 in
theorem index_any (ao : Option Addr) (l : List Int) (cap : Nat) (w : World) (hs : Il w ao l) (hl : l.length ≤ 140737488355328) :
    Calls Tryd.prog 52 #[.slice ao l.length cap, .func (.func 35) #[] #[]] w fun e w' => ∃ r : Int, e = .returned (.int .i64 r) ∧ decide (0 ≤ r) = l.any noV ∧ w' = w := by
  have HS := mkHid hs
  clear hs
  go_enter Tryd.func52, Tryd.ntmps52
  go_wp2
  go_loop [8] (fun i => ∃ k : Nat, k ≤ l.length ∧ i = .int .i64 k ∧ Hid ((l.take k).any noV = false)) (fun i => l.length - (intOf i).toNat)
  case atStart => exact ⟨0, by omega, rfl, by simp [Hid]⟩
  case round =>
    obtain ⟨k, hk, rfl, HK⟩ := hrel
    by_cases hlt : k < l.length
    · obtain ⟨b, off, rfl, hc⟩ := Il_addr HS.out (by omega)
      have hcell := hc k hlt
      have hst : (l.take (k + 1)).any noV = ((l.take k).any noV || noV l[k]) := by rw [List.take_succ_eq_append_getElem hlt, List.any_append]; simp
      rw [HK.out, Bool.false_or] at hst
      have hall : noV l[k] = true → l.any noV = true := fun h => by
        rw [List.any_eq_true]
        exact ⟨l[k], List.getElem_mem hlt, h⟩
      obtain ⟨x, hx⟩ : ∃ x, l[k] = x := ⟨_, rfl⟩
      rw [hx] at hcell hst hall
      have HST := mkHid hst
      have HALL := mkHid hall
      clear hst hall hx hc
      cases hv : noV x
      · go_wp2_with fail
        refine (noVersion_any x _).mono ?_
        rintro e w' ⟨rfl, rfl⟩
        rw [hv]
        go_wp2
        go_round
        case rel => exact ⟨k + 1, by omega, by go_num, HST.out.trans hv⟩
        case measure => simp [intOf]; omega
      · go_wp2_with fail
        refine (noVersion_any x _).mono ?_
        rintro e w' ⟨rfl, rfl⟩
        rw [hv]
        go_wp2
        go_ret
        exact ⟨k, rfl, by rw [HALL.out hv]; simp, rfl⟩
    · obtain rfl : k = l.length := by omega
      have HF : Hid (l.any noV = false) := by have := HK.out; rw [List.take_length] at this; exact this
      go_wp2
      go_ret
      exact ⟨-1, rfl, by rw [HF.out]; decide, rfl⟩

theorem contains_any (ao : Option Addr) (l : List Int) (cap : Nat) (w : World) (hs : Il w ao l) (hl : l.length ≤ 140737488355328) :
    Calls Tryd.prog 34 #[.slice ao l.length cap, .func (.func 35) #[] #[]] w fun e w' => e = .returned (.bool (l.any noV)) ∧ w' = w := by
  go_enter Tryd.func34, Tryd.ntmps34
  go_wp2_with fail
  refine (index_any ao l cap w hs hl).mono ?_
  rintro e w' ⟨r, rfl, hr, rfl⟩
  have HR := mkHid hr
  clear hr
  go_wp2
  go_ret
  exact ⟨ret_bool (by rw [← HR.out]), rfl⟩
end Go.Proofs.YtlllejgpmdeeiaaDoor
