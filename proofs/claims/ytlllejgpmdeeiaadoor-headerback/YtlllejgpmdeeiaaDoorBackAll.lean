/- The walk of caravellaw02.HeaderBack, for every input. -/
import Derived.Test.YtlllejgpmdeeiaaDoorBackW0
import Derived.Test.YtlllejgpmdeeiaaDoorBackW1
import Derived.Test.YtlllejgpmdeeiaaDoorBackW2
import Derived.Test.YtlllejgpmdeeiaaDoorBackW3
import Derived.Test.YtlllejgpmdeeiaaDoorBackW4
import Derived.Test.YtlllejgpmdeeiaaDoorBackW5
import Derived.Test.YtlllejgpmdeeiaaDoorReadH
namespace Go.Proofs.YtlllejgpmdeeiaaDoor
open Go.ChangeShapes Go.WideShapes Go.ChangeAt Go.RowKit
set_option linter.unusedVariables false

set_option maxRecDepth 10000 in
set_option maxHeartbeats 1000000 in
theorem backw_not (k : Int) (cs : Array Value) (ver len n : Int) (low : Int) (da sa ta la : Option Addr) (dc sc tc lc : Nat) (D S T : List UInt8) (lst : List Int) (ph : Bool) (tag : List UInt8) (w : World)
    (hcs : cs = (hc k ver (.slice da D.length dc) (.slice sa S.length sc) (.slice ta T.length tc) len ph (.slice la lst.length lc) (bc tag)).toArray) (htg : tag.length = 16) (ht : Tb w) (hD : Sl w da D) (hS : Sl w sa S) (hT : Sl w ta T) (hil : Il w la lst)
    (hdn : da = none → D.length = 0 ∧ dc = 0) (hsn : sa = none → S.length = 0 ∧ sc = 0) (htn : ta = none → T.length = 0 ∧ tc = 0) (hDl : D.length ≤ 140737488355328) (hTl : T.length ≤ 140737488355328) (hSl : S.length ≤ 140737488355328) (hll : lst.length ≤ 17592186043904) (hlow0 : 0 ≤ low) (hlow1 : low < 18446744073709551616)
    (hmay : ¬ mayP k len n D.length S.length T.length lst) :
    Calls Tryd.prog 5 #[.agg cs, .int .u64 low, .int .i64 n] w fun e w' => e = .returned (.bool true) ∧ Below w.heap.size w w' := by
  obtain ⟨d26, hd26⟩ := hu26
  have htb : (bc tag).length = 16 := by rw [bc_length]; exact htg
  have HZ := mkHid (hc_size' hcs htb)
  have HP : Hid (∀ W, Below w.heap.size w W → Calls Tryd.prog 8 #[.agg cs, .int .u64 low, .int .i64 n] W fun e w' => e = .returned (.tuple #[.slice none 0 0, .int .i64 0, .int .i64 2]) ∧ Below W.heap.size W w') := fun W hb => put_not k cs ver len n low da sa ta la dc sc tc lc D S T lst ph (bc tag) W hcs htb (Tb_below ht hb (Tb_pos ht)) (Sl_below hD hb) (Sl_below hS hb) (Sl_below hT hb) (Il_below hil hb) hdn hsn htn (by omega) hTl hSl (by omega) hlow0 hlow1 hmay
  have HT := mkHid ht
  clear hcs ht hD hS hT hil hdn hsn htn hmay hDl hTl hSl hll
  have HW1 : Hid (Below w.heap.size w (w.alloc (.cells cs 26))) := (Below.refl w.heap.size w).alloc (Nat.le_refl _) _
  go_enter Tryd.func5, Tryd.ntmps5
  go_wp2_with ((refine wpList_load_row rfl 26 (.tmp 3) rfl w.heap.size rfl 26 cs (0, 0) (.struct d26) (heap_alloc_new w (.cells cs 26)) hd26 rfl (by rw [HZ.out]; exact sz26) ?_))
  refine (HP.out _ HW1.out).mono ?_
  rintro e w2 ⟨rfl, hB2⟩
  have HB2 : Hid (Below w.heap.size w w2) := HW1.out.trans (hB2.mono (by simp))
  clear hB2
  go_wp2_with fail
  refine (put_one w2.heap.size _ rfl _ ?_ ?_).mono ?_
  · exact Tb_below HT.out (HB2.out.alloc HB2.out.size _) (Tb_pos HT.out)
  · exact Sl_new w2 7
  rintro e w3 ⟨oa3, cp3, rfl, cx3, hB3⟩
  have HB3 : Hid (Below w.heap.size w w3) := HB2.out.trans ((((Below.refl w2.heap.size w2).alloc (Nat.le_refl _) _).trans (hB3.mono (by simp))).mono HB2.out.size)
  clear hB3
  go_wp2
  go_ret
  exact ⟨rfl, HB3.out⟩

theorem back_walk (k : Int) (ver len n : Int) (low : Int) (da sa ta la : Option Addr) (dc sc tc lc : Nat) (D S T : List UInt8) (lst : List Int) (ph : Bool) (tag : List UInt8) (w : World)
    (htg : tag.length = 16) (ht : Tb w) (hD : Sl w da D) (hS : Sl w sa S) (hT : Sl w ta T) (hil : Il w la lst)
    (hdn : da = none → D.length = 0 ∧ dc = 0) (hsn : sa = none → S.length = 0 ∧ sc = 0) (htn : ta = none → T.length = 0 ∧ tc = 0) (hDl : D.length ≤ 140737488351232) (hSl : S.length ≤ 140737488351232) (hTl : T.length ≤ 140737488351232) (hll : lst.length ≤ 17592186043904) (hlow : (Lit.int .u64 low).wf = true) :
    Calls Tryd.prog 5 #[.agg (hc k ver (.slice da D.length dc) (.slice sa S.length sc) (.slice ta T.length tc) len ph (.slice la lst.length lc) (bc tag)).toArray, .int .u64 low, .int .i64 n] w fun e w' => e = .returned (.bool true) ∧ Below w.heap.size w w' := by
  obtain ⟨l0, l1⟩ := bounds_u64 hlow
  by_cases hm : mayP k len n D.length S.length T.length lst
  · have hk : k = 0 ∨ k = 1 ∨ k = 2 ∨ k = 3 ∨ k = 4 ∨ k = 5 := by
      obtain ⟨_, _, h3⟩ := hm
      unfold mayK at h3
      rcases h3 with h | h | h | h | h
      · omega
      · omega
      · omega
      · omega
      · exact .inr (.inr (.inr (.inr (.inl h.1))))
    rcases hk with rfl | rfl | rfl | rfl | rfl | rfl
    · exact backw_0 _ ver len n low da sa ta la dc sc tc lc D S T lst ph tag w rfl htg ht hD hS hT hil hdn hsn htn (by omega) (by omega) hll l0 (by omega) hm read_any
    · exact backw_1 _ ver len n low da sa ta la dc sc tc lc D S T lst ph tag w rfl htg ht hD hS hT hil hdn hsn htn (by omega) (by omega) hll l0 (by omega) hm read_any
    · exact backw_2 _ ver len n low da sa ta la dc sc tc lc D S T lst ph tag w rfl htg ht hD hS hT hil hdn hsn htn (by omega) (by omega) hll l0 (by omega) hm read_any
    · exact backw_3 _ ver len n low da sa ta la dc sc tc lc D S T lst ph tag w rfl htg ht hD hS hT hil hdn hsn htn (by omega) (by omega) hll l0 (by omega) hm read_any
    · exact backw_4 _ ver len n low da sa ta la dc sc tc lc D S T lst ph tag w rfl htg ht hD hS hT hil hdn hsn htn (by omega) (by omega) hll l0 (by omega) hm read_any
    · exact backw_5 _ ver len n low da sa ta la dc sc tc lc D S T lst ph tag w rfl htg ht hD hS hT hil hdn hsn htn (by omega) (by omega) hll l0 (by omega) hm read_any
  · exact backw_not k _ ver len n low da sa ta la dc sc tc lc D S T lst ph tag w rfl htg ht hD hS hT hil hdn hsn htn (by omega) (by omega) (by omega) hll l0 (by omega) hm
end Go.Proofs.YtlllejgpmdeeiaaDoor
