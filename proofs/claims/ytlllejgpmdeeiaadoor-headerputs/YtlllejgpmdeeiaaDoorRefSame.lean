/- What caravellaw02.refs, names and same answer: contracts. -/
import Derived.Test.YtlllejgpmdeeiaaDoorBackTag
import Derived.Test.YtlllejgpmdeeiaaDoorRefMay
import Derived.Deep.LoopGhost
import Derived.Deep.QuietTactic
import Derived.BigQuiet
namespace Go.Proofs.YtlllejgpmdeeiaaDoor
open Go.ChangeShapes Go.WideShapes Go.ChangeAt Go.RowKit
set_option linter.unusedVariables false

theorem names_any (w : World) : Calls Tryd.prog 13 #[] w fun e w' => e = .returned (.bool true) ∧ w' = w := by
  go_enter Tryd.func13, Tryd.ntmps13
  go_wp2
  go_ret
  exact ⟨rfl, rfl⟩

/-- a header's cells, of whichever of the two types -/
theorem row_allT {W : World} {g ty : Nat} {cs : Array Value} {k ver : Int} {d s t : Value} {len : Int} {ph : Bool} {lv : Value} {tg : List Value} (h : W.heap[g]? = some (.cells cs ty (0, 0))) (hcs : cs = (hc k ver d s t len ph lv tg).toArray) :
    W.cell? ⟨g, 0, none⟩ = some (.int .i64 k) ∧ W.cell? ⟨g, 1, none⟩ = some (.int .i64 ver) ∧ W.cell? ⟨g, 2, none⟩ = some d ∧ W.cell? ⟨g, 3, none⟩ = some s ∧ W.cell? ⟨g, 4, none⟩ = some t ∧ W.cell? ⟨g, 5, none⟩ = some (.int .i64 len) ∧ W.cell? ⟨g, 6, none⟩ = some (.bool ph) ∧ W.cell? ⟨g, 7, none⟩ = some lv := by
  refine ⟨?_, ?_, ?_, ?_, ?_, ?_, ?_, ?_⟩ <;> (unfold World.cell?; rw [h, hcs]; rfl)
theorem tgcT {W : World} {g ty : Nat} {cs : Array Value} {k ver : Int} {d s t : Value} {len : Int} {ph : Bool} {lv : Value} {t0 t1 t2 t3 t4 t5 t6 t7 t8 t9 t10 t11 t12 t13 t14 t15 : UInt8} (h : W.heap[g]? = some (.cells cs ty (0, 0))) (hcs : cs = (hc k ver d s t len ph lv (bc [t0, t1, t2, t3, t4, t5, t6, t7, t8, t9, t10, t11, t12, t13, t14, t15])).toArray) : TgC W g t0 t1 t2 t3 t4 t5 t6 t7 t8 t9 t10 t11 t12 t13 t14 t15 := by
  refine ⟨?_, ?_, ?_, ?_, ?_, ?_, ?_, ?_, ?_, ?_, ?_, ?_, ?_, ?_, ?_, ?_⟩ <;> (unfold World.cell?; rw [h, hcs]; rfl)

set_option maxRecDepth 10000 in
set_option maxHeartbeats 1000000 in
theorem results_cell1 {P : Program} {fn : Func} {p : Tmp} {ty : TypeId} (h : fn.results = #[.cell p ty]) (tmps : Array Value) (w : World) (g : Nat) (t : TypeId) (cs : Array Value) (fr : Nat × Nat) (fs : Array Field)
    (hp : tmps.getD p undef = .pointer (some ⟨g, 0, none⟩)) (hg : w.heap[g]? = some (.cells cs t fr))
    (hu : P.underlying ty = some (.struct fs)) (hi : (P.info? ty).map (·.size) = some cs.size) :
    (results fn tmps).run P w = .ok (.agg cs) w := by
  have hp' : tmps[p]?.getD undef = .pointer (some ⟨g, 0, none⟩) := by simpa using hp
  simp [results, h, hp', asAddr, run_loadVar_row w g t ty cs fr _ hg hu rfl hi]
/-- the zero header of the reference, as it is laid -/
abbrev z33 : Array Value := zr
set_option maxRecDepth 10000 in
set_option maxHeartbeats 1000000 in
theorem refs_any (cs : Array Value) (k ver len : Int) (da sa ta la : Option Addr) (dn dc sn sc tn tc ln lc : Nat) (ph : Bool) (tag : List UInt8) (w : World)
    (hcs : cs = (hc k ver (.slice da dn dc) (.slice sa sn sc) (.slice ta tn tc) len ph (.slice la ln lc) (bc tag)).toArray) (htg : tag.length = 16) :
    Calls Tryd.prog 10 #[.agg cs] w fun e w' => e = .returned (.agg cs) ∧ Below w.heap.size w w' := by
  obtain ⟨t0, t1, t2, t3, t4, t5, t6, t7, t8, t9, t10, t11, t12, t13, t14, t15, rfl⟩ := list16 htg
  have k0 : cs[0]? = some (.int .i64 k) := by rw [hcs]; rfl
  have k1 : cs[1]? = some (.int .i64 ver) := by rw [hcs]; rfl
  have k2 : cs[2]? = some (.slice da dn dc) := by rw [hcs]; rfl
  have k3 : cs[3]? = some (.slice sa sn sc) := by rw [hcs]; rfl
  have k4 : cs[4]? = some (.slice ta tn tc) := by rw [hcs]; rfl
  have k5 : cs[5]? = some (.int .i64 len) := by rw [hcs]; rfl
  have k6 : cs[6]? = some (.bool ph) := by rw [hcs]; rfl
  have k7 : cs[7]? = some (.slice la ln lc) := by rw [hcs]; rfl
  have k8 : cs[8]? = some (.int .u8 t0.toNat) := by rw [hcs]; rfl
  have k9 : cs[9]? = some (.int .u8 t1.toNat) := by rw [hcs]; rfl
  have k10 : cs[10]? = some (.int .u8 t2.toNat) := by rw [hcs]; rfl
  have k11 : cs[11]? = some (.int .u8 t3.toNat) := by rw [hcs]; rfl
  have k12 : cs[12]? = some (.int .u8 t4.toNat) := by rw [hcs]; rfl
  have k13 : cs[13]? = some (.int .u8 t5.toNat) := by rw [hcs]; rfl
  have k14 : cs[14]? = some (.int .u8 t6.toNat) := by rw [hcs]; rfl
  have k15 : cs[15]? = some (.int .u8 t7.toNat) := by rw [hcs]; rfl
  have k16 : cs[16]? = some (.int .u8 t8.toNat) := by rw [hcs]; rfl
  have k17 : cs[17]? = some (.int .u8 t9.toNat) := by rw [hcs]; rfl
  have k18 : cs[18]? = some (.int .u8 t10.toNat) := by rw [hcs]; rfl
  have k19 : cs[19]? = some (.int .u8 t11.toNat) := by rw [hcs]; rfl
  have k20 : cs[20]? = some (.int .u8 t12.toNat) := by rw [hcs]; rfl
  have k21 : cs[21]? = some (.int .u8 t13.toNat) := by rw [hcs]; rfl
  have k22 : cs[22]? = some (.int .u8 t14.toNat) := by rw [hcs]; rfl
  have k23 : cs[23]? = some (.int .u8 t15.toNat) := by rw [hcs]; rfl
  have HCS := mkHid hcs
  clear hcs
  have HZ : Hid ((Tryd.prog.info? 33).map (·.size) = some cs.size) := by rw [hc_size' HCS.out rfl]; show _ = _; kernel_rfl
  have HONE : Hid (cs.all (·.oneCell') = true) := hc_ones HCS.out rfl
  have HSZ : Hid (zr.size = cs.size) := by rw [hc_size' HCS.out rfl]; rfl
  have HR0 : Hid (((w.alloc (.cells cs 26)).alloc (.cells zr 33)).heap[w.heap.size + 1]? = some (.cells zr 33 (0, 0))) := by
    have h := heap_alloc_new (w.alloc (.cells cs 26)) (.cells zr 33)
    rw [show (w.alloc (.cells cs 26)).heap.size = w.heap.size + 1 by simp] at h
    exact h
  have HB : Hid (Below w.heap.size w ((w.alloc (.cells cs 26)).alloc (.cells zr 33))) := ((Below.refl _ _).alloc (Nat.le_refl _) _).alloc (by simp) _
  obtain ⟨d33, hd33⟩ : ∃ fs, Tryd.prog.underlying 33 = some (.struct fs) := ⟨_, Tryd.underlying33⟩
  go_enter Tryd.func10, Tryd.ntmps10
  go_wp2_with ((refine wpList_store_row rfl 33 (.tmp 2) (.tmp 21) rfl (w.heap.size + 1) cs rfl (congrArg Value.agg HCS.out.symm) 33 zr HR0.out HZ.out HSZ.out HONE.out ?_; refine Hid.out ?_))
  refine mkHid ?_
  go_wp2
  refine bodyPost_ret (v := .agg cs) (results_cell1 (fn := Tryd.f10) (p := 2) (ty := 33) rfl _ _ (w.heap.size + 1) 33 cs (0, 0) d33 rfl (setRow_heap _ _ _ _ 33 _ HR0.out) hd33 HZ.out) rfl ?_
  exact ⟨rfl, below_setRow HB.out (by omega) _⟩

set_option maxRecDepth 10000 in
set_option maxHeartbeats 1000000 in
theorem same_any (cs cs' : Array Value) (k ver len : Int) (da sa ta la da' sa' ta' : Option Addr) (dc sc tc lc dc' sc' tc' : Nat) (D S T : List UInt8) (lst : List Int) (ph : Bool) (tag : List UInt8) (w : World)
    (hcs : cs = (hc k ver (.slice da D.length dc) (.slice sa S.length sc) (.slice ta T.length tc) len ph (.slice la lst.length lc) (bc tag)).toArray) (hcs' : cs' = (hc k ver (.slice da' D.length dc') (.slice sa' S.length sc') (.slice ta' T.length tc') len ph (.slice la lst.length lc) (bc tag)).toArray) (htg : tag.length = 16)
    (hD : Sl w da D) (hS : Sl w sa S) (hT : Sl w ta T) (hD' : Sl w da' D) (hS' : Sl w sa' S) (hT' : Sl w ta' T) (hil : Il w la lst) (hll : lst.length ≤ 140737488355328)
    (hdn : da = none → D.length = 0 ∧ dc = 0) (hsn : sa = none → S.length = 0 ∧ sc = 0) (htn : ta = none → T.length = 0 ∧ tc = 0) (hdn' : da' = none → D.length = 0 ∧ dc' = 0) (hsn' : sa' = none → S.length = 0 ∧ sc' = 0) (htn' : ta' = none → T.length = 0 ∧ tc' = 0) :
    Calls Tryd.prog 12 #[.agg cs, .agg cs'] w fun e w' => e = .returned (.bool true) ∧ Below w.heap.size w w' := by
  obtain ⟨t0, t1, t2, t3, t4, t5, t6, t7, t8, t9, t10, t11, t12, t13, t14, t15, rfl⟩ := list16 htg
  have hB1 : Below w.heap.size w (w.alloc (.cells cs 26)) := (Below.refl w.heap.size w).alloc (Nat.le_refl _) _
  have hB : Below w.heap.size w ((w.alloc (.cells cs 26)).alloc (.cells cs' 33)) := hB1.alloc hB1.size _
  have hr1 : ((w.alloc (.cells cs 26)).alloc (.cells cs' 33)).heap[w.heap.size]? = some (.cells cs 26 (0, 0)) := by
    have h := (((Below.refl (w.alloc (.cells cs 26)).heap.size (w.alloc (.cells cs 26))).alloc (Nat.le_refl _) (.cells cs' 33)).block w.heap.size (by simp)).trans (heap_alloc_new w (.cells cs 26))
    exact h
  have hr2 : ((w.alloc (.cells cs 26)).alloc (.cells cs' 33)).heap[w.heap.size + 1]? = some (.cells cs' 33 (0, 0)) := by
    have h := heap_alloc_new (w.alloc (.cells cs 26)) (.cells cs' 33)
    rw [show (w.alloc (.cells cs 26)).heap.size = w.heap.size + 1 by simp] at h
    exact h
  obtain ⟨c0, c1, c2, c3, c4, c5, c6, c7⟩ := row_allT hr1 hcs
  obtain ⟨m0, m1, m2, m3, m4, m5, m6, m7, m8, m9, m10, m11, m12, m13, m14, m15⟩ := tgcT hr1 hcs
  obtain ⟨d0, d1, d2, d3, d4, d5, d6, d7⟩ := row_allT hr2 hcs'
  obtain ⟨n0, n1, n2, n3, n4, n5, n6, n7, n8, n9, n10, n11, n12, n13, n14, n15⟩ := tgcT hr2 hcs'
  have x1 := str_any (Sl_below hD hB) rfl hdn
  have x2 := str_any (Sl_below hS hB) rfl hsn
  have x3 := str_any (Sl_below hT hB) rfl htn
  have y1 := str_any (Sl_below hD' hB) rfl hdn'
  have y2 := str_any (Sl_below hS' hB) rfl hsn'
  have y3 := str_any (Sl_below hT' hB) rfl htn'
  have eqt := fun W => eq24_self t0.toNat t1.toNat t2.toNat t3.toNat t4.toNat t5.toNat t6.toNat t7.toNat t8.toNat t9.toNat t10.toNat t11.toNat t12.toNat t13.toNat t14.toNat t15.toNat W
  have HIL : Hid (Il ((w.alloc (.cells cs 26)).alloc (.cells cs' 33)) la lst) := Il_below hil hB
  have HB := mkHid hB
  clear hcs hcs' hr1 hr2 hB1 hB hD hS hT hD' hS' hT' hil hdn hsn htn hdn' hsn' htn'
  go_enter Tryd.func12, Tryd.ntmps12
  go_wp2
  go_loopg [5] (lst.length + 1) (fun n i wr => ∃ k j, k ≤ lst.length ∧ n = lst.length + 1 - k ∧ i = .int .i64 (k : Nat) ∧ wr = ((w.alloc (.cells cs 26)).alloc (.cells cs' 33)).drewN j)
  case atStart => exact ⟨0, 0, by omega, by omega, rfl, rfl⟩
  case round =>
    obtain ⟨k, j, hk, hn, rfl, rfl⟩ := hrel
    clear x1 x2 x3 y1 y2 y3 eqt
    by_cases hlt : k < lst.length
    · obtain ⟨b, off, rfl, hc⟩ := Il_addr HIL.out (by omega)
      have hcell := hc k hlt
      obtain ⟨x, hx⟩ : ∃ x, lst[k] = x := ⟨_, rfl⟩
      rw [hx] at hcell
      clear hx hc
      go_wp2
      go_quiet (fail)
      go_wp2
      go_roundg (lst.length + 1 - (k + 1))
      case measure => omega
      case rel => exact ⟨k + 1, _, by omega, rfl, by go_num, rfl⟩
    · obtain rfl : k = lst.length := by omega
      go_wp2
      go_ret
      exact ⟨rfl, below_drewN HB.out j⟩
end Go.Proofs.YtlllejgpmdeeiaaDoor
