/- frame.closing. -/
import Derived.Test.YtaeapgkfmofjlaaDoorEc
import Derived.Test.YtaeapgkfmofjlaaDoorMh
namespace Go.Proofs.YtaeapgkfmofjlaaDoor
open Go.ChangeShapes Go.WideShapes Go.ChangeAt Go.RowKit
set_option linter.unusedVariables false
set_option maxRecDepth 100000

theorem cls_arg (wa : Option Addr) : ClsC wa 2 := by
  intro k w hW hE
  rw [eV_num wa (by decide) (by decide)]
  have h1 := is_num 2 2 w
  rw [show ((2 : Int) == 2) = true from rfl] at h1
  have HB : Aside (Below w.heap.size w w) := Below.refl _ _
  clear hW hE
  go_enter Tryd.func31, Tryd.ntmps31
  go_wp2_with fail
  refine h1.mono ?_
  rintro e w' ⟨rfl, hw⟩
  subst w'
  clear h1
  go_wp2
  go_ret
  exact ⟨_, rfl, (by unfold Cls; rw [if_pos rfl]; rfl), HB.out⟩
theorem cls_wide (wa : Option Addr) : ClsC wa (-1) := by
  intro k w hW hE
  have e1 : eV wa (-1) = .iface 155 (.pointer wa) := rfl
  rw [e1] at hW ⊢
  have h1 := is_wn 2 wa w
  have h2 := is_ww wa w
  have HB : Aside (Below w.heap.size w (w.alloc (.cells #[.int .i64 10, .bool false, .int .i64 k, .int .i64 11] 87))) := bel1 w _
  have HC : Aside (Cls w.heap.size (w.alloc (.cells #[.int .i64 10, .bool false, .int .i64 k, .int .i64 11] 87)) k (-1) (.iface 83 (.pointer (some ⟨w.heap.size, 0, none⟩)))) := by
    show Cls _ _ _ _ _
    unfold Cls
    rw [if_neg (by decide)]
    exact ⟨_, rfl, Nat.le_refl _, heap_alloc_new w _⟩
  clear hE
  go_enter Tryd.func31, Tryd.ntmps31
  go_wp2_with fail
  refine h1.mono ?_
  rintro e w' ⟨rfl, hw⟩
  subst w'
  clear h1
  go_wp2_with fail
  refine h2.mono ?_
  rintro e w' ⟨rfl, hw⟩
  subst w'
  clear h2
  go_wp2
  go_ret
  exact ⟨_, rfl, HC.out, HB.out⟩
theorem cls_num (wa : Option Addr) (e0 : Int) (h0 : e0 ≠ 0) (hm : e0 ≠ -1) (h2' : e0 ≠ 2) : ClsC wa e0 := by
  intro k w hW hE
  have e1 : eV wa (-1) = .iface 155 (.pointer wa) := rfl
  rw [e1] at hW
  rw [eV_num wa h0 hm]
  have h1 := is_num e0 2 w
  rw [show (e0 == 2) = false by simpa using h2'] at h1
  have h2 := is_nw e0 wa w
  have h3 := why_num e0 w hE
  have HC : Aside (∀ X, Below w.heap.size w X → Cls w.heap.size (X.alloc (.cells #[.int .i64 7, .bool false, .int .i64 k, .int .i64 e0] 87)) k e0 (.iface 83 (.pointer (some ⟨X.heap.size, 0, none⟩))) ∧ Below w.heap.size w (X.alloc (.cells #[.int .i64 7, .bool false, .int .i64 k, .int .i64 e0] 87))) := by
    intro X hb
    refine ⟨?_, hb.trans ((bel1 X _).mono hb.size)⟩
    unfold Cls
    rw [if_neg h2', if_neg hm, if_neg hm]
    exact ⟨_, rfl, hb.size, heap_alloc_new X _⟩
  clear hE
  go_enter Tryd.func31, Tryd.ntmps31
  go_wp2_with fail
  refine h1.mono ?_
  rintro e w' ⟨rfl, hw⟩
  subst w'
  clear h1
  go_wp2_with fail
  refine h2.mono ?_
  rintro e w' ⟨rfl, hw⟩
  subst w'
  clear h2
  go_wp2_with fail
  refine h3.mono ?_
  rintro e X ⟨rfl, hb⟩
  have HX := mkHid (HC.out X hb)
  clear h3 hb HC
  go_wp2
  go_ret
  exact ⟨_, rfl, HX.out.1, HX.out.2⟩
theorem cls_any (wa : Option Addr) (e0 : Int) (h0 : e0 ≠ 0) : ClsC wa e0 := by
  by_cases hm : e0 = -1
  · subst hm; exact cls_wide wa
  · by_cases h2 : e0 = 2
    · subst h2; exact cls_arg wa
    · exact cls_num wa e0 h0 hm h2
/-- frame.Read, of every place within. -/
theorem readf_c (w : World) (g off c : Nat) (wa : Option Addr) (l : List UInt8) (at' : Nat) (hs : Sl w (some ⟨g, off, none⟩) l) (ht : Tb w) (hll : l.length ≤ 200000000000000) (hlc : l.length ≤ c) (hla : at' ≤ l.length) (hg : g < w.heap.size)
    (hW : w.cell? ⟨0, 0, none⟩ = some (eV wa (-1))) (hE : w.cell? ⟨1, 0, none⟩ = some (rtp 38)) :
    Calls Tryd.prog 12 #[.slice (some ⟨g, off, none⟩) l.length c, .int .i64 at'] w fun e w' => (if rdE l at' = 0 then RdOk w w' l at' e else RdNo w w' l at' e) ∧ Below w.heap.size w w' :=
  read_c w g off c wa l at' hs ht hll hlc hla hg hW hE (fun h => cls_any wa _ h)
end Go.Proofs.YtaeapgkfmofjlaaDoor
