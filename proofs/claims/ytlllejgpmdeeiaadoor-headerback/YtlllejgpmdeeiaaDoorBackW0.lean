/- The walk of caravellaw02.HeaderBack, kind 0. -/
import Derived.Test.YtlllejgpmdeeiaaDoorBackFacts
namespace Go.Proofs.YtlllejgpmdeeiaaDoor
open Go.ChangeShapes Go.WideShapes Go.ChangeAt Go.RowKit
set_option linter.unusedVariables false

set_option maxRecDepth 10000 in
set_option maxHeartbeats 1000000 in
theorem backw_0 (cs : Array Value) (ver len n : Int) (low : Int) (da sa ta la : Option Addr) (dc sc tc lc : Nat) (D S T : List UInt8) (lst : List Int) (ph : Bool) (tag : List UInt8) (w : World)
    (hcs : cs = (hc 0 ver (.slice da D.length dc) (.slice sa S.length sc) (.slice ta T.length tc) len ph (.slice la lst.length lc) (bc tag)).toArray) (htg : tag.length = 16) (ht : Tb w) (hD : Sl w da D) (hS : Sl w sa S) (hT : Sl w ta T) (hil : Il w la lst)
    (hdn : da = none → D.length = 0 ∧ dc = 0) (hsn : sa = none → S.length = 0 ∧ sc = 0) (htn : ta = none → T.length = 0 ∧ tc = 0) (hTl : T.length ≤ 140737488355328) (hSl : S.length ≤ 140737488355328) (hll : lst.length ≤ 17592186043904) (hlow0 : 0 ≤ low) (hlow1 : low < 18446744073709551616)
    (hmay : mayP 0 len n D.length S.length T.length lst) (RA : ReadA) :
    Calls Tryd.prog 5 #[.agg cs, .int .u64 low, .int .i64 n] w fun e w' => e = .returned (.bool true) ∧ Below w.heap.size w w' := by
  obtain ⟨i0, hi, hz0, hz1, hz2⟩ := info_parts info5
  obtain ⟨d26, hd26⟩ := hu26
  have htb : (bc tag).length = 16 := by rw [bc_length]; exact htg
  have HZ := mkHid (hc_size' hcs htb)
  have HQ := mkHid (mayQ hmay)
  obtain ⟨X, A, HX, HP⟩ : ∃ (X : List UInt8) (A : Nat), Hid (PutB0 n len low D S T lst tag ph X A) ∧ Hid (∀ W, Below w.heap.size w W → Calls Tryd.prog 8 #[.agg cs, .int .u64 low, .int .i64 n] W fun e w' => ∃ y, e = .returned (.tuple #[y, .int .i64 A, .int .i64 0]) ∧ By (W.heap.size + 1) w' y X ∧ Below W.heap.size W w') := by
    refine ⟨_, _, ⟨rfl, rfl⟩, fun W hb => ?_⟩
    exact put_0 cs ver len n low da sa ta la dc sc tc lc D S T lst ph (bc tag) W hcs htb (Tb_below ht hb (Tb_pos ht)) (Sl_below hD hb) (Sl_below hS hb) (Sl_below hT hb) (Il_below hil hb) hdn hsn htn hTl hSl (by omega) hlow0 hlow1 hmay
  obtain ⟨m, hm⟩ : ∃ m : Nat, len = m := ⟨len.toNat, by have := HQ.out; omega⟩
  subst hm
  have HM0 : Hid (m ≠ 0) := by have := HQ.out; show m ≠ 0; omega
  have hm1 : m ≤ 16383 := by have := HQ.out; omega
  have HBK : Hid (Bk (X ++ List.replicate m 0) 0 0 m n low A D S T ph) := by
    have := HQ.out
    exact bk_0 n m low D S T ph (by omega) (by omega) (by omega) (by omega) (by omega) (by omega) (by omega) hlow0 X A _ HX.out.1 HX.out.2 rfl
  have hX1 : X.length ≤ 20000 := by have := HBK.out.small; rw [List.length_append] at this; omega
  have hX0 : 0 < X.length := by rw [HX.out.1]; simp [longB]
  have HCS := mkHid hcs
  have HT := mkHid ht
  have HD := mkHid hD
  have HS := mkHid hS
  have HTT := mkHid hT
  have HDn := mkHid hdn
  have HSn := mkHid hsn
  have HTn := mkHid htn
  clear hcs ht hD hS hT hil hdn hsn htn hmay
  have HRA := mkHid RA
  clear RA
  have HW1 : Hid (Below w.heap.size w (w.alloc (.cells cs 26))) := (Below.refl w.heap.size w).alloc (Nat.le_refl _) _
  go_enter Tryd.func5, Tryd.ntmps5
  go_wp2_with ((refine wpList_load_row rfl 26 (.tmp 3) rfl w.heap.size rfl 26 cs (0, 0) (.struct d26) (heap_alloc_new w (.cells cs 26)) hd26 rfl (by rw [HZ.out]; exact sz26) ?_))
  refine (HP.out _ HW1.out).mono ?_
  rintro e w2 ⟨y, rfl, hby, hB2⟩
  obtain ⟨ao, cp, rfl, han, hsl, hcp1, hcp2, hown⟩ := hby.parts
  have HBY := mkHid hby
  have HB2 : Hid (Below w.heap.size w w2) := HW1.out.trans (hB2.mono (by simp))
  have HR2 : Hid (w2.heap[w.heap.size]? = some (.cells cs 26 (0, 0))) := (hB2.block w.heap.size (by simp)).trans (heap_alloc_new w _)
  have hlt2 : w.heap.size < w2.heap.size := by have := hB2.size; simp at this; omega
  obtain ⟨g, hg2, hgl, hao⟩ : ∃ g, w.heap.size + 2 ≤ g ∧ g < w2.heap.size ∧ ao = some ⟨g, 0, none⟩ := by
    have hXn : 0 < X.length := by rw [HX.out.1]; simp [longB]
    cases ao with
    | none => have := (han rfl).1; omega
    | some ad =>
      obtain ⟨g, hq, hq2, hq3⟩ := hown ad rfl
      exact ⟨g, by simp at hq2; omega, hq3, by rw [hq]⟩
  subst hao
  clear hby hB2 hsl han hown
  go_wp2_with fail
  refine (put_one w2.heap.size _ rfl _ ?_ ?_).mono ?_
  · exact Tb_below HT.out (HB2.out.alloc HB2.out.size _) (Tb_pos HT.out)
  · exact Sl_new w2 7
  rintro e w3 ⟨oa3, cp3, rfl, cx3, hB3⟩
  have hB3' : Below w2.heap.size w2 w3 := ((Below.refl w2.heap.size w2).alloc (Nat.le_refl _) _).trans (hB3.mono (by simp))
  have HB3 : Hid (Below w.heap.size w w3) := HB2.out.trans (hB3'.mono (by omega))
  have HR3 : Hid (w3.heap[w.heap.size]? = some (.cells cs 26 (0, 0))) := (hB3'.block w.heap.size hlt2).trans HR2.out
  have HBY3 : Hid (By (w.heap.size + 2) w3 (.slice (some ⟨g, 0, none⟩) X.length cp) X) := (By.mono (B' := w.heap.size + 2) HBY.out (by simp)).below hB3'
  have hlt3 : w.heap.size + 2 ≤ w3.heap.size := by have := hB3'.size; omega
  obtain ⟨c0, c2, c3, c4, c5, c6, c7⟩ := row_all HR3.out HCS.out
  clear hB3 hB3' HBY HR2 HB2
  go_wp2_with ((at_builtin; refine wpList_append_zeros rfl (.tmp 59) (.tmp 61) rfl (w.heap.size + 2) i0 Tryd.underlying22 Tryd.underlying3 hi hz0 hz1 hz2 (.slice (some ⟨g, 0, none⟩) X.length cp) X.length (bc X) rfl HBY3.out (by simp) m HM0.out rfl (by omega) (by omega) (by omega) ?_; intro v4 w4 hown hgrow; obtain ⟨g4, cp4, cur4, hv4, _⟩ := own_shape hown (by omega); subst hv4; have HE4 := mkHid (zeros_made hX0 hg2 HB3.out (by omega) hown hgrow); clear hown hgrow; obtain ⟨e0, e2, e3, e4, e5, e6, e7⟩ := row_all (HE4.out.2.2.2.2.1.trans HR3.out) HCS.out))
  obtain ⟨l, hl⟩ : ∃ l, l = X ++ List.replicate m 0 := ⟨_, rfl⟩
  have HBKl : Hid (Bk l 0 0 m n low A D S T ph) := by rw [hl]; exact HBK.out
  have HSL4 : Hid (Sl w4 (some ⟨g4, 0, none⟩) l) := by rw [hl]; exact HE4.out.2.1
  have hll4 : l.length = X.length + m := by rw [hl, List.length_append, List.length_replicate]
  have R := HRA.out (some ⟨g4, 0, none⟩) l cp4 0 w4 HSL4.out (Tb_below HT.out HE4.out.1 (Tb_pos HT.out)) (by omega) (by have := HE4.out.2.2.1; omega) HE4.out.2.2.2.1 (fun _ => by omega) g4 0 (fun _ => rfl)
  rw [hll4] at R
  refine R.mono ?_
  rintro e w5 ⟨cs5, a5, E5, rfl, hB5, hres⟩
  obtain ⟨q, q1, q2, q3, q4, q5, q6, q7, q8⟩ := HBKl.out.read
  rcases hres with ⟨_, hp, _⟩ | ⟨rfl, p, dv, sv, tv, lv, hp, hcs5, ha, hd, hs, ht', hlv⟩
  · rw [q1] at hp; cases hp
  rw [q1] at hp
  simp only [Option.some.injEq] at hp
  subst hp
  rw [q2] at hcs5
  rw [(q5 (by decide)).2] at hcs5
  rw [q3] at ha
  subst ha
  rw [q4] at hd
  rw [(q5 (by decide)).1] at hs
  rw [q6 rfl] at ht'
  obtain ⟨oa, cd, rfl, dn, dsl, _⟩ := hd.parts
  obtain ⟨ob, cb, rfl, bn, bsl, _⟩ := hs.parts
  obtain ⟨oc, ct, rfl, tn, tsl, _⟩ := ht'.parts
  have HZ5 : Hid (cs5.size = 24) := hc_size' hcs5 (by rw [bc_length]; exact q8)
  have HONE : Hid (cs5.all (·.oneCell') = true) := hc_ones hcs5 hlv.one
  have hB6 : Below w5.heap.size w5 ((w5.alloc (.cells zr 26)).setRow w5.heap.size cs5) := below_setRow ((Below.refl _ _).alloc (Nat.le_refl _) _) (Nat.le_refl _) _
  have hrow : ((w5.alloc (.cells zr 26)).setRow w5.heap.size cs5).heap[w5.heap.size]? = some (.cells cs5 26 (0, 0)) := setRow_heap _ _ _ _ 26 _ (heap_alloc_new w5 _)
  have HC : Hid (∀ W6, W6.heap = ((w5.alloc (.cells zr 26)).setRow w5.heap.size cs5).heap → Below w5.heap.size w5 W6 → Back6 W6 w w.heap.size w5.heap.size 0 (.slice da D.length dc) (.slice sa S.length sc) (.slice ta T.length tc) m ph (.slice oa D.length cd) (.slice ob S.length cb) (.slice oc T.length ct) m q.ph D S T ∧ Sl W6 (some ⟨g4, 0, none⟩) l) := by
    intro W6 hW hB6
    have hB46 : Below w4.heap.size w4 W6 := hB5.trans (hB6.mono hB5.size)
    have hB06 : Below w.heap.size w W6 := HE4.out.1.trans (hB46.mono HE4.out.1.size)
    rw [← hW] at hrow
    have hrow0 : W6.heap[w.heap.size]? = some (.cells cs 26 (0, 0)) := (hB46.block _ HE4.out.2.2.2.2.2).trans (HE4.out.2.2.2.2.1.trans HR3.out)
    refine ⟨⟨row_some hrow0 HCS.out, row_some hrow hcs5, str_any (Sl_below dsl hB6) rfl dn, fun _ => str_any (Sl_below bsl hB6) rfl bn, str_any (Sl_below HD.out hB06) rfl HDn.out, str_any (Sl_below HS.out hB06) rfl HSn.out, str_any (Sl_below HTT.out hB06) rfl HTn.out, fun _ => str_any (Sl_below tsl hB6) rfl tn, hB06⟩, Sl_below HSL4.out hB46⟩
  have HB6 := mkHid hB6
  have NR := fun W (hW : Sl W (some ⟨g4, 0, none⟩) l) => number_h (some ⟨g4, 0, none⟩) l cp4 A W hW (by omega) (by have := HBKl.out.one; omega) (by rw [HBKl.out.size]; exact HBKl.out.room)
  rw [HBKl.out.size, HBKl.out.clear', HBKl.out.low', hll4] at NR
  have HNR := mkHid NR
  clear hcs5 hB5 hrow hB6 R NR hl HSL4 hll4 hd hs ht' dn dsl bn bsl tn tsl q1 q2 q3 q4 q5 q6 q7 q8 hlv e0 e2 e3 e4 e5 e6 e7 c0 c2 c3 c4 c5 c6 c7 cx3
  go_wp2_with ((refine wpList_store_row rfl 26 (.tmp 14) (.tmp 78) rfl w5.heap.size cs5 rfl rfl 26 zr (heap_alloc_new w5 (.cells zr 26)) (by rw [HZ5.out]; exact sz26) (by rw [HZ5.out]; rfl) HONE.out ?_; generalize hWW : World.setRow (World.alloc w5 _) w5.heap.size cs5 = W6; have HW6 : Hid (W6.heap = ((w5.alloc (.cells zr 26)).setRow w5.heap.size cs5).heap) := congrArg World.heap hWW.symm; have HB66 : Hid (Below w5.heap.size w5 W6) := Eq.subst (motive := fun x => Below w5.heap.size w5 x) hWW HB6.out; obtain ⟨⟨⟨c0, c2, c3, c4, c5, c6, lv0, c7⟩, ⟨g0, g2, g3, g4', g5, g6, lv1, g7⟩, x1, x2, x3, x4, x5, x6, hbel⟩, hsl6⟩ := HC.out W6 HW6.out HB66.out; have HBEL := mkHid hbel; have HSL6 := mkHid hsl6; clear hWW hbel hsl6 x6; have x2' := x2 (by decide); clear x2))
  refine (HNR.out W6 HSL6.out).mono ?_
  rintro e w7 ⟨rfl, kk, rfl⟩
  obtain ⟨⟨⟨y0, y2, y3, y4, y5, y6, lv2, y7⟩, ⟨z0, z2, z3, z4, z5, z6, lv3, z7⟩, u1, u2, u3, u4, u5, u6, hbel⟩, _⟩ := HC.out (W6.drewN kk) HW6.out (below_drewN HB66.out kk)
  have HBEL7 := mkHid hbel
  clear hbel c0 c2 c3 c4 c5 c6 c7 g0 g2 g3 g4' g5 g6 g7 x1 x3 x4 x5
  have u6' := u6 rfl
  clear u6 u2
  have hn4 : n = 1 ∨ n = 2 ∨ n = 3 ∨ n = 4 := by have := HQ.out; omega
  have hbl := low_mask hlow0 hlow1
  rcases hn4 with rfl | rfl | rfl | rfl
  all_goals
    go_wp2
    go_ret
    exact ⟨rfl, HBEL7.out⟩
end Go.Proofs.YtlllejgpmdeeiaaDoor
