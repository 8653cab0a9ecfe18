/- The sixteen bytes of a Retry's tag, as they lie. -/
import Derived.Test.YtlllejgpmdeeiaaDoorBackFacts2
namespace Go.Proofs.YtlllejgpmdeeiaaDoor
open Go.ChangeShapes Go.WideShapes Go.ChangeAt Go.RowKit
set_option linter.unusedVariables false

theorem list16 {α : Type} {xs : List α} (h : xs.length = 16) : ∃ t0 t1 t2 t3 t4 t5 t6 t7 t8 t9 t10 t11 t12 t13 t14 t15, xs = [t0, t1, t2, t3, t4, t5, t6, t7, t8, t9, t10, t11, t12, t13, t14, t15] := by
  match xs, h with
  | [t0, t1, t2, t3, t4, t5, t6, t7, t8, t9, t10, t11, t12, t13, t14, t15], _ => exact ⟨t0, t1, t2, t3, t4, t5, t6, t7, t8, t9, t10, t11, t12, t13, t14, t15, rfl⟩
abbrev TgC (W : World) (H : Nat) (t0 t1 t2 t3 t4 t5 t6 t7 t8 t9 t10 t11 t12 t13 t14 t15 : UInt8) : Prop := W.cell? ⟨H, 8, none⟩ = some (.int .u8 t0.toNat) ∧ W.cell? ⟨H, 9, none⟩ = some (.int .u8 t1.toNat) ∧ W.cell? ⟨H, 10, none⟩ = some (.int .u8 t2.toNat) ∧ W.cell? ⟨H, 11, none⟩ = some (.int .u8 t3.toNat) ∧ W.cell? ⟨H, 12, none⟩ = some (.int .u8 t4.toNat) ∧ W.cell? ⟨H, 13, none⟩ = some (.int .u8 t5.toNat) ∧ W.cell? ⟨H, 14, none⟩ = some (.int .u8 t6.toNat) ∧ W.cell? ⟨H, 15, none⟩ = some (.int .u8 t7.toNat) ∧ W.cell? ⟨H, 16, none⟩ = some (.int .u8 t8.toNat) ∧ W.cell? ⟨H, 17, none⟩ = some (.int .u8 t9.toNat) ∧ W.cell? ⟨H, 18, none⟩ = some (.int .u8 t10.toNat) ∧ W.cell? ⟨H, 19, none⟩ = some (.int .u8 t11.toNat) ∧ W.cell? ⟨H, 20, none⟩ = some (.int .u8 t12.toNat) ∧ W.cell? ⟨H, 21, none⟩ = some (.int .u8 t13.toNat) ∧ W.cell? ⟨H, 22, none⟩ = some (.int .u8 t14.toNat) ∧ W.cell? ⟨H, 23, none⟩ = some (.int .u8 t15.toNat)
theorem tgc {W : World} {g : Nat} {cs : Array Value} {k ver : Int} {d s t : Value} {len : Int} {ph : Bool} {lv : Value} {t0 t1 t2 t3 t4 t5 t6 t7 t8 t9 t10 t11 t12 t13 t14 t15 : UInt8} (h : W.heap[g]? = some (.cells cs 26 (0, 0))) (hcs : cs = (hc k ver d s t len ph lv (bc [t0, t1, t2, t3, t4, t5, t6, t7, t8, t9, t10, t11, t12, t13, t14, t15])).toArray) : TgC W g t0 t1 t2 t3 t4 t5 t6 t7 t8 t9 t10 t11 t12 t13 t14 t15 := by
  refine ⟨?_, ?_, ?_, ?_, ?_, ?_, ?_, ?_, ?_, ?_, ?_, ?_, ?_, ?_, ?_, ?_⟩ <;> (unfold World.cell?; rw [h, hcs]; rfl)
set_option maxRecDepth 10000 in
set_option maxHeartbeats 1000000 in
theorem eq24_self (a0 a1 a2 a3 a4 a5 a6 a7 a8 a9 a10 a11 a12 a13 a14 a15 : Int) (w : World) : (Op.equalIn 10000 24 (.agg #[.int .u8 a0, .int .u8 a1, .int .u8 a2, .int .u8 a3, .int .u8 a4, .int .u8 a5, .int .u8 a6, .int .u8 a7, .int .u8 a8, .int .u8 a9, .int .u8 a10, .int .u8 a11, .int .u8 a12, .int .u8 a13, .int .u8 a14, .int .u8 a15]) (.agg #[.int .u8 a0, .int .u8 a1, .int .u8 a2, .int .u8 a3, .int .u8 a4, .int .u8 a5, .int .u8 a6, .int .u8 a7, .int .u8 a8, .int .u8 a9, .int .u8 a10, .int .u8 a11, .int .u8 a12, .int .u8 a13, .int .u8 a14, .int .u8 a15])).run Tryd.prog w = .ok true w := by
  have u5 := Tryd.underlying5
  have a5 := Tryd.isAgg5
  have z5 := Tryd.sizeOf5
  rw [show (10000 : Nat) = 9999 + 1 from rfl, Op.equalIn]
  simp only [Sem.run_bind, run_underlying Tryd.underlying24, Result.andThen_ok]
  simp only [Std.Legacy.Range.forIn_eq_forIn_range', Std.Legacy.Range.size, Nat.sub_zero, Nat.add_sub_cancel, Nat.div_one, List.range'_succ, List.range'_zero, List.forIn_cons, List.forIn_nil]
  go_simp
end Go.Proofs.YtlllejgpmdeeiaaDoor
