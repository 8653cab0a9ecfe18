/- streams: inbox's Final and its Put beyond the limit; bounded, above, heard, settle of a stream that is not over. -/
import Derived.Test.YtijndpjdmiljkaaGreatDoorSd
import Derived.Test.YtijndpjdmiljkaaGreatDoorIPut
namespace Go.Proofs.YtijndpjdmiljkaaGreatDoor
open Go.RowKit Go.Maps
set_option linter.unusedVariables false

theorem final_no {W : World} {b mb n : Nat} {V : Nat → Option UInt8} {p R hd rm lm rc : Int} (h : Ib W b mb n V p R hd rm lm rc false) : Calls Tryz.prog 149 #[.pointer (some ⟨b, 0, none⟩)] W fun e w' => e = .returned (.tuple #[.int .i64 0, .bool false]) ∧ w' = W := by
  have c0 := h.c0
  have c7 := h.c7
  clear h
  go_enter Tryz.func149, Tryz.ntmps149
  go_wp2_with (first | (go_at_call 127; refine (some_none b mb _ c0).mono ?_; rintro e w1 ⟨rfl, rfl⟩) | fail)
  go_ret2
  exact ⟨rfl, rfl⟩
/-- Refused: beyond the limit, where no final size is known, and this one is none that is too small. -/
theorem put_flow (b mb n o N cap lm rc : Nat) (V : Nat → Option UInt8) (p R hd rm : Int) (la : Option Addr) (W : World) (ho : o + N ≤ 4611686018427387903)
    (hI : Ib W b mb n V p R hd rm lm rc false) (h : lm < o + N) (fin : Bool) (hr : rc ≤ o + N) :
    Calls Tryz.prog 151 #[.pointer (some ⟨b, 0, none⟩), .int .i64 o, .slice la N cap, .bool fin] W fun e w' => e = .returned (.int .i64 30) ∧ w' = W := by
  have c0 := hI.c0
  have c5 := hI.c5
  have c6 := hI.c6
  have c7 := hI.c7
  have i0 : IntKind.i64.wrap (4611686018427387903 - (o : Int)) = 4611686018427387903 - (o : Int) := by rw [IntKind.wrap_i64]; omega
  have i1 : ¬ (4611686018427387903 - (o : Int) < (N : Int)) := by omega
  have i2 : IntKind.i64.wrap ((o : Int) + (N : Int)) = (o : Int) + (N : Int) := by rw [IntKind.wrap_i64]; omega
  have i3 : ((lm : Int) < (o : Int) + (N : Int)) := by omega
  have j2 : ¬ ((o : Int) + (N : Int) < (rc : Int)) := by omega
  clear hI
  cases fin
  all_goals
    go_enter Tryz.func151, Tryz.ntmps151
    go_wp2_with (first | (go_at_call 127; refine (some_none b mb _ c0).mono ?_; rintro e w1 ⟨rfl, rfl⟩) | fail)
    go_ret
    exact ⟨rfl, rfl⟩
/-- A stream and its inbox. -/
structure St (W : World) (S : Nat) (cs : Array Value) (ib mb n : Nat) (V : Nat → Option UInt8) (p R hd rm lm rc : Int) (kn : Bool) : Prop where
  sc : Rt 128 cs W S
  ci : cs[11]? = some (.pointer (some ⟨ib, 0, none⟩))
  io : Ib W ib mb n V p R hd rm lm rc kn
section
variable {W : World} {S : Nat} {cs : Array Value} {ib mb n : Nat} {V : Nat → Option UInt8} {p R hd rm lm rc : Int} {kn : Bool}
theorem ib_bel {Z : World} (h : Ib W ib mb n V p R hd rm lm rc kn) (hb : Below W.heap.size W Z) : Ib Z ib mb n V p R hd rm lm rc kn :=
  ⟨heap_bel h.1 hb, h.2.kept (hb.block mb h.2.lt)⟩
theorem St.go (h : St W S cs ib mb n V p R hd rm lm rc kn) {Z : World} (hb : Below W.heap.size W Z) : St Z S cs ib mb n V p R hd rm lm rc kn := ⟨rt_bel h.sc hb, h.ci, ib_bel h.io hb⟩
theorem St.c11 (h : St W S cs ib mb n V p R hd rm lm rc kn) : W.cell? ⟨S, 11, none⟩ = some (.pointer (some ⟨ib, 0, none⟩)) := (h.sc.cell 11).trans h.ci
theorem bounded_c (h : St W S cs ib mb n V p R hd rm lm rc kn) : Calls Tryz.prog 85 #[.pointer (some ⟨S, 0, none⟩)] W fun e w' => e = .returned (.bool kn) ∧ w' = W := by
  have c := h.c11
  have hf : Hid (∃ z, Calls Tryz.prog 149 #[.pointer (some ⟨ib, 0, none⟩)] W fun e w' => e = .returned (.tuple #[.int .i64 z, .bool kn]) ∧ w' = W) := by
    have hi := h.io
    cases kn
    · exact ⟨0, final_no hi⟩
    · exact ⟨rc, final_c hi⟩
  clear h
  obtain ⟨z, hz⟩ := hf.out
  have HZ : Hid _ := hz
  clear hz hf
  go_enter Tryz.func85, Tryz.ntmps85
  go_wp2_with fail
  refine Calls.mono HZ.out ?_
  rintro e w' ⟨rfl, hw⟩
  subst w'
  go_wp2
  go_ret
  exact ⟨rfl, rfl⟩
end
theorem above_c {srv : Bool} {x y : Lm} {k : Bks} {st : Tst} {w : World} (h : Tb srv x y k st w) (n : Int) (hl : -9223372036854775808 ≤ st.t.l - st.t.c ∧ st.t.l - st.t.c ≤ 9223372036854775807) : Calls Tryz.prog 207 #[.pointer (some ⟨k.T, 0, none⟩), .int .i64 n] w fun e w' => e = .returned (.bool (decide (st.t.l - st.t.c < n))) ∧ Below w.heap.size w w' := by
  have c : w.cell? ⟨k.T, 16, none⟩ = some (.pointer (some ⟨k.t, 0, none⟩)) := h.tab.cell 16
  have ht : Hid _ := ttold_c _ _ w h.ht
  have e1 := wrp _ hl.1 hl.2
  clear h
  go_enter Tryz.func207, Tryz.ntmps207
  go_wp2_with fail
  refine Calls.mono ht.out ?_
  rintro e w' ⟨rfl, hw⟩
  subst w'
  go_wp2
  go_ret
  exact ⟨rfl, bel_drew w⟩
/-- What settle looks at: a stream whose writing part is not over, or that is read on. -/
theorem settle_c {w : World} (T S : Nat) (wr : Bool) (ib : Nat) (h10 : w.cell? ⟨S, 10, none⟩ = some (.bool wr)) (h1 : w.cell? ⟨S, 1, none⟩ = some (.bool false)) (h2 : w.cell? ⟨S, 2, none⟩ = some (.bool false)) (h15 : w.cell? ⟨S, 15, none⟩ = some (.bool false)) (h11 : w.cell? ⟨S, 11, none⟩ = some (.pointer (some ⟨ib, 0, none⟩))) :
    Calls Tryz.prog 68 #[.pointer (some ⟨T, 0, none⟩), .pointer (some ⟨S, 0, none⟩)] w fun e w' => e = .returned (.tuple #[]) ∧ w' = w := by
  have hh : Hid (Calls Tryz.prog 133 #[.pointer (some ⟨S, 0, none⟩)] w fun e w' => e = .returned (.bool false) ∧ w' = w) := by
    go_enter Tryz.func133, Tryz.ntmps133
    go_wp2
    go_ret
    exact ⟨rfl, rfl⟩
  cases wr
  · go_enter Tryz.func68, Tryz.ntmps68
    go_wp2
    exact bodyPost_ret (results_none rfl _ _ _) rfl ⟨rfl, rfl⟩
  · go_enter Tryz.func68, Tryz.ntmps68
    go_wp2_with fail
    refine Calls.mono hh.out ?_
    rintro e w' ⟨rfl, hw⟩
    subst w'
    go_wp2
    exact bodyPost_ret (results_none rfl _ _ _) rfl ⟨rfl, rfl⟩
end Go.Proofs.YtijndpjdmiljkaaGreatDoor
