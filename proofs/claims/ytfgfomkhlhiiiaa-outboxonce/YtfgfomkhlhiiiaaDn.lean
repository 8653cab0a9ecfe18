/- outbox: Done. -/
import Derived.Test.YtfgfomkhlhiiiaaSm
namespace Go.Proofs.YtfgfomkhlhiiiaaR
open Go.RowKit Go.Shelf Go.Lib Go.Maps
set_option linter.unusedVariables false

variable {φ : Nat → Nat × Nat} {w : World} {b A A2 cm n cp : Nat} {o : Option Addr} {rm base sent en : Int} {V V2 : Int → Prop}

set_option maxRecDepth 100000 in
theorem eq78 (a b c d e f g h : Int) (w : World) : (binOp .eql 78 (.agg #[.int .i64 a, .int .i64 b, .int .i64 c, .int .i64 d]) (.agg #[.int .i64 e, .int .i64 f, .int .i64 g, .int .i64 h])).run Try.prog w = .ok (.bool (a == e && b == f && c == g && d == h)) w := by
  have u3 := Try.underlying3
  have a3 := Try.isAgg3
  have z3 := Try.sizeOf3
  rw [run_eql_struct, show (10000 : Nat) = 9999 + 1 from rfl]
  unfold Op.equalIn
  simp only [Sem.run_bind, run_underlying Try.underlying78, Result.andThen_ok]
  go_simp
  rw [show List.range' 0 4 = [0, 1, 2, 3] from rfl]
  have q : ∀ (x y : Int) (w : World), (Op.equalIn 9999 3 (.int .i64 x) (.int .i64 y)).run Try.prog w = .ok (x == y) w := fun x y w => run_equalIn_int w 9998 3 .i64 .i64 x y u3
  by_cases h1 : a = e <;> by_cases h2 : b = f <;> by_cases h3 : c = g <;> by_cases h4 : d = h <;> simp [h1, h2, h3, h4, List.forIn_cons, a3, q]

set_option maxRecDepth 100000 in
/-- Done: not so, where the end has not arrived. -/
theorem done_no (h : Ob φ w b A A2 cm o n cp rm base sent en V V2) {m : Int} (hm : Fst V sent m) (h0 : 0 ≤ base) (hb : base + n ≤ 4611686018427387903) (h1 : 0 ≤ m) (h2 : m ≤ base + n) (he : en ≠ 4) :
    Calls Try.prog 22 #[.pointer (some ⟨b, 0, none⟩)] w fun e w' => e = .returned (.bool false) ∧ Below w.heap.size w w' := by
  have hnn := none_ob _ b A h.c4
  have hwr := written_ob w b n cp o base h.c1 h.c2 h0 hb
  have H : Aside _ := h
  have HM : Aside _ := hm
  clear h hm
  go_enter Try.func22, Try.ntmps22
  go_wp2_with fail
  refine hnn.mono ?_
  rintro e w' ⟨rfl, hw'⟩
  subst w'
  clear hnn
  go_wp2_with fail
  refine hwr.mono ?_
  rintro e w1 ⟨rfl, hb1⟩
  have hsu := summary_ob (H.out.below hb1) HM.out h0 hb h1 h2
  have HB1 : Aside _ := hb1
  clear hwr hb1
  go_wp2_with fail
  refine hsu.mono ?_
  rintro e w2 ⟨rfl, hb2⟩
  have HB2 : Aside (Below w.heap.size w w2) := HB1.out.trans (hb2.mono HB1.out.size)
  clear hsu hb2
  have hee : (en == 4) = false := by simpa using he
  have hq := fun w => eq78 (base + n) sent (base + n - m) en (base + n) (base + n) 0 4 w
  simp only [hee, Bool.and_false] at hq
  go_wp2
  go_ret
  exact ⟨rfl, HB2.out⟩

end Go.Proofs.YtfgfomkhlhiiiaaR
