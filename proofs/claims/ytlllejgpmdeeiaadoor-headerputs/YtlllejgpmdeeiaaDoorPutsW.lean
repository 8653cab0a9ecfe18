/- The walk of caravellaw02.HeaderPuts. -/
import Derived.Test.YtlllejgpmdeeiaaDoorPutsBoth
import Derived.Test.YtlllejgpmdeeiaaDoorRefSame
import Derived.Test.YtlllejgpmdeeiaaDoorReadH
import Derived.Deep.RegionLaw
namespace Go.Proofs.YtlllejgpmdeeiaaDoor
open Go.ChangeShapes Go.WideShapes Go.ChangeAt Go.RowKit
set_option linter.unusedVariables false

/-- h's own row, and that of 'in' -/
structure ST (w W : World) (k ver : Int) (d s t : Value) (len : Int) (ph : Bool) (lv : Value) (tg : List Value) (d' s' t' : Value) : Prop where
  below : Below w.heap.size w W
  h : Hd W w.heap.size k ver d s t len ph lv tg
  i : Hd W (w.heap.size + 1) k ver d' s' t' len ph lv tg
  size : w.heap.size + 2 ≤ W.heap.size
section
variable {w W w1 : World} {k ver : Int} {d s t : Value} {len : Int} {ph : Bool} {lv : Value} {tg : List Value} {d' s' t' : Value}
theorem ST.on (a : ST w W k ver d s t len ph lv tg d' s' t') {B : Nat} (hb : Below B W w1) (hB : w.heap.size + 2 ≤ B) : ST w w1 k ver d s t len ph lv tg d' s' t' :=
  ⟨a.below.trans (hb.mono (by omega)), ⟨(hb.block _ (by omega)).trans a.h.1, a.h.2⟩, ⟨(hb.block _ (by omega)).trans a.i.1, a.i.2⟩, by have := hb.size; have := a.size; omega⟩
theorem ST.set2 (a : ST w W k ver d s t len ph lv tg d' s' t') (x : Value) : ST w (W.setCell ⟨w.heap.size + 1, 2, none⟩ x) k ver d s t len ph lv tg x s' t' :=
  ⟨a.below.setCell (p := ⟨w.heap.size + 1, 2, none⟩) (by show w.heap.size ≤ w.heap.size + 1; omega) x, a.h.setOther (p := ⟨w.heap.size + 1, 2, none⟩) (by show w.heap.size ≠ w.heap.size + 1; omega) x, a.i.set2 x, by simpa using a.size⟩
theorem ST.set3 (a : ST w W k ver d s t len ph lv tg d' s' t') (x : Value) : ST w (W.setCell ⟨w.heap.size + 1, 3, none⟩ x) k ver d s t len ph lv tg d' x t' :=
  ⟨a.below.setCell (p := ⟨w.heap.size + 1, 3, none⟩) (by show w.heap.size ≤ w.heap.size + 1; omega) x, a.h.setOther (p := ⟨w.heap.size + 1, 3, none⟩) (by show w.heap.size ≠ w.heap.size + 1; omega) x, a.i.set3 x, by simpa using a.size⟩
theorem ST.set4 (a : ST w W k ver d s t len ph lv tg d' s' t') (x : Value) : ST w (W.setCell ⟨w.heap.size + 1, 4, none⟩ x) k ver d s t len ph lv tg d' s' x :=
  ⟨a.below.setCell (p := ⟨w.heap.size + 1, 4, none⟩) (by show w.heap.size ≤ w.heap.size + 1; omega) x, a.h.setOther (p := ⟨w.heap.size + 1, 4, none⟩) (by show w.heap.size ≠ w.heap.size + 1; omega) x, a.i.set4 x, by simpa using a.size⟩
end
theorem By.setI {B H j : Nat} {W : World} {v x : Value} {X : List UInt8} (h : By B W v X) (hB : H < B) : By B (W.setCell ⟨H, j, none⟩ x) v X :=
  h.other hB (fun k hk => Below.heap_setCell W ⟨H, j, none⟩ x k hk)
theorem in_made {w W w1 : World} {v1 : Value} {X : List UInt8} (hs : w.heap.size + 2 ≤ W.heap.size) (ho : w1.ownsRow (w.heap.size + 2) 5 1 v1 (0 + X.length) ([] ++ bc X)) (hg : (W.alloc (.cells #[] 5)).grownBy w1 (Value.slice (some ⟨W.heap.size, 0, none⟩) 0 0).ownBlock) :
    By (w.heap.size + 2) w1 v1 X ∧ Below W.heap.size W w1 :=
  ⟨by rw [Nat.zero_add, List.nil_append] at ho; exact ho, ((Below.refl W.heap.size W).alloc (Nat.le_refl _) _).grown hg (by simp) (fun k hk => by simp [Value.ownBlock] at hk; omega)⟩

theorem norm_any {φ : Act → World → Prop} {a : Act} {w : World} (h : ∀ K : Act → World → Prop, (∀ a w, φ a w → K a w) → K a w) : φ a w := h φ (fun _ _ h => h)
theorem made_set {W : World} {B : Nat} {p : Addr} {x : Value} (hB : B ≤ (W.setCell p x).heap.size) : ((W.setCell p x).alloc (.cells #[] 5)).ownsRow B 5 1 (.slice (some ⟨W.heap.size, 0, none⟩) 0 0) 0 [] := by
  have h := World.ownsRow_made (base := B) (e := 5) (size := 1) (W.setCell p x) #[] 0 hB (by decide) rfl
  rw [show (W.setCell p x).heap.size = W.heap.size by simp] at h
  exact h
theorem in_made' {w W w1 : World} {p : Addr} {x : Value} {v1 : Value} {X : List UInt8} (hs : w.heap.size + 2 ≤ (W.setCell p x).heap.size) (ho : w1.ownsRow (w.heap.size + 2) 5 1 v1 (0 + X.length) ([] ++ bc X)) (hg : ((W.setCell p x).alloc (.cells #[] 5)).grownBy w1 (Value.slice (some ⟨W.heap.size, 0, none⟩) 0 0).ownBlock) :
    By (w.heap.size + 2) w1 v1 X ∧ Below (W.setCell p x).heap.size (W.setCell p x) w1 := by
  rw [show W.heap.size = (W.setCell p x).heap.size by simp] at hg
  exact in_made hs ho hg
theorem by_sl {B : Nat} {w : World} {ao : Option Addr} {n c : Nat} {X : List UInt8} (h : By B w (.slice ao n c) X) : Sl w ao X := by
  obtain ⟨ao', c', he, _, hs, _⟩ := h.parts
  simp only [Value.slice.injEq] at he
  rw [he.1]
  exact hs
set_option maxRecDepth 10000 in
set_option maxHeartbeats 1000000 in
theorem putsw (cs : Array Value) (k ver len n low : Int) (da sa ta la : Option Addr) (dc sc tc lc : Nat) (D S T : List UInt8) (lst : List Int) (ph : Bool) (tag : List UInt8) (w : World) (X : List UInt8) (A : Nat) (E : Int)
    (hcs : cs = (hc k ver (.slice da D.length dc) (.slice sa S.length sc) (.slice ta T.length tc) len ph (.slice la lst.length lc) (bc tag)).toArray) (htag : tag.length = 16) (hD : Sl w da D) (hS : Sl w sa S) (hT : Sl w ta T) (hil : Il w la lst)
    (hdn : da = none → D.length = 0 ∧ dc = 0) (hsn : sa = none → S.length = 0 ∧ sc = 0) (htn : ta = none → T.length = 0 ∧ tc = 0) (hDl : D.length ≤ 140737488351232) (hSl : S.length ≤ 140737488351232) (hTl : T.length ≤ 140737488351232) (hll : lst.length ≤ 17592186043904)
    (hPC : PutsC k ver len n low la lc D S T lst ph tag w X A E) :
    Calls Tryd.prog 3 #[.agg cs, .int .u64 low, .int .i64 n] w fun e w' => e = .returned (.bool true) ∧ Below w.heap.size w w' := by
  obtain ⟨i0, hi, hz0, hz1, hz2⟩ := info_parts info5
  obtain ⟨d26, hd26⟩ := hu26
  have htb : (bc tag).length = 16 := by rw [bc_length]; exact htag
  have HZ := mkHid (hc_size' hcs htb)
  have HONE : Hid (cs.all (·.oneCell') = true) := hc_ones hcs rfl
  have HPC := mkHid hPC
  have HCS := mkHid hcs
  have HD := mkHid hD
  have HS := mkHid hS
  have HTT := mkHid hT
  have HIL := mkHid hil
  have HDn := mkHid hdn
  have HSn := mkHid hsn
  have HTn := mkHid htn
  have HR0 : Hid (((w.alloc (.cells cs 26)).alloc (.cells zr 26)).heap[w.heap.size + 1]? = some (.cells zr 26 (0, 0))) := by
    have h := heap_alloc_new (w.alloc (.cells cs 26)) (.cells zr 26)
    rw [show (w.alloc (.cells cs 26)).heap.size = w.heap.size + 1 by simp] at h
    exact h
  have HST : Hid (ST w (((w.alloc (.cells cs 26)).alloc (.cells zr 26)).setRow (w.heap.size + 1) cs) k ver (.slice da D.length dc) (.slice sa S.length sc) (.slice ta T.length tc) len ph (.slice la lst.length lc) (bc tag) (.slice da D.length dc) (.slice sa S.length sc) (.slice ta T.length tc)) := by
    have hB1 : Below w.heap.size w ((w.alloc (.cells cs 26)).alloc (.cells zr 26)) := ((Below.refl _ _).alloc (Nat.le_refl _) _).alloc (by simp) _
    refine ⟨below_setRow hB1 (by omega) _, ⟨?_, htb⟩, ⟨?_, htb⟩, by simp [World.setRow]⟩
    · rw [← hcs]
      rw [setRow_other _ _ _ _ (by omega), Below.heap_alloc _ _ _ (by simp)]
      exact heap_alloc_new w _
    · rw [← hcs]
      exact setRow_heap _ _ _ _ 26 _ HR0.out
  clear hcs hD hS hT hil hdn hsn htn hPC
  go_enter Tryd.func3, Tryd.ntmps3
  go_wp2_with (first
    | (refine wpList_load_row rfl 26 (.tmp 3) rfl w.heap.size rfl 26 cs (0, 0) (.struct d26) (heap_alloc_new w (.cells cs 26)) hd26 rfl (by rw [HZ.out]; exact sz26) ?_)
    | (refine wpList_store_row rfl 26 (.tmp 7) (.tmp 17) rfl (w.heap.size + 1) cs rfl rfl 26 zr HR0.out (by rw [HZ.out]; exact sz26) (by rw [HZ.out]; rfl) HONE.out ?_; generalize hWW : World.setRow (World.alloc (World.alloc w _) _) (w.heap.size + 1) cs = W0; have HST0 := mkHid (Eq.subst (motive := fun x => ST w x k ver (.slice da D.length dc) (.slice sa S.length sc) (.slice ta T.length tc) len ph (.slice la lst.length lc) (bc tag) (.slice da D.length dc) (.slice sa S.length sc) (.slice ta T.length tc)) hWW HST.out); clear hWW; refine Hid.out ?_))
  refine mkHid ?_
  clear HST HR0
  obtain ⟨_, p2, _⟩ : True ∧ (W0.alloc (.cells #[] 5)).cell? ⟨w.heap.size, 2, none⟩ = some (.slice da D.length dc) ∧ True := ⟨trivial, ((HST0.out.on ((Below.refl W0.heap.size W0).alloc (Nat.le_refl _) (.cells #[] 5)) HST0.out.size).h).c2, trivial⟩
  go_wp2_with ((at_builtin; refine wpList_append_bytes rfl (.tmp 18) (.tmp 20) rfl (w.heap.size + 2) i0 Tryd.underlying22 hi hz0 hz1 hz2 (.slice (some ⟨W0.heap.size, 0, none⟩) 0 0) 0 [] rfl (World.ownsRow_made W0 #[] 0 HST0.out.size (by decide) rfl) da D.length dc D rfl rfl HDn.out (Sl_alloc (Sl_below HD.out HST0.out.below) _) (by omega) (by have := HST0.out.size; simp at this ⊢; omega) ?_; intro v1 w1 hown hgrow; have HM1 := mkHid (in_made HST0.out.size hown hgrow); clear hown hgrow; refine Hid.out ?_))
  refine mkHid ?_
  obtain ⟨o1, c1, hv1, n1, _⟩ := HM1.out.1.parts
  subst hv1
  have HN1 := mkHid n1
  clear n1 p2
  have HSP1 := mkHid (HST0.out.on HM1.out.2 HST0.out.size)
  have HST1 := mkHid (HSP1.out.set2 (.slice o1 D.length c1))
  have HBY1 : Hid (By (w.heap.size + 2) (w1.setCell ⟨w.heap.size + 1, 2, none⟩ (.slice o1 D.length c1)) (.slice o1 D.length c1) D) := HM1.out.1.setI (by omega)
  have j1 := HSP1.out.i.c2
  have r1 := HSP1.out.i.fr 2
  have p3 : ((w1.setCell ⟨w.heap.size + 1, 2, none⟩ (.slice o1 D.length c1)).alloc (.cells #[] 5)).cell? ⟨w.heap.size, 3, none⟩ = some (.slice sa S.length sc) := ((HST1.out.on ((Below.refl (w1.setCell ⟨w.heap.size + 1, 2, none⟩ (.slice o1 D.length c1)).heap.size (w1.setCell ⟨w.heap.size + 1, 2, none⟩ (.slice o1 D.length c1))).alloc (Nat.le_refl _) (.cells #[] 5)) HST1.out.size).h).c3
  go_wp2_with ((at_builtin; refine wpList_append_bytes rfl (.tmp 23) (.tmp 25) rfl (w.heap.size + 2) i0 Tryd.underlying22 hi hz0 hz1 hz2 (.slice (some ⟨w1.heap.size, 0, none⟩) 0 0) 0 [] rfl (made_set HST1.out.size) sa S.length sc S rfl rfl HSn.out (Sl_alloc (Sl_below HS.out HST1.out.below) _) (by omega) (by have := HST1.out.size; simp at this ⊢; omega) ?_; intro v2 w2 hown hgrow; have HM2 := mkHid (in_made' HST1.out.size hown hgrow); clear hown hgrow; refine Hid.out ?_))
  refine mkHid ?_
  obtain ⟨o2, c2, hv2, n2, _⟩ := HM2.out.1.parts
  subst hv2
  have HN2 := mkHid n2
  clear n2 p3
  have HSP2 := mkHid (HST1.out.on HM2.out.2 HST1.out.size)
  have HST2 := mkHid (HSP2.out.set3 (.slice o2 S.length c2))
  have HBY2 : Hid (By (w.heap.size + 2) (w2.setCell ⟨w.heap.size + 1, 3, none⟩ (.slice o2 S.length c2)) (.slice o2 S.length c2) S) := HM2.out.1.setI (by omega)
  have HBY1' : Hid (By (w.heap.size + 2) (w2.setCell ⟨w.heap.size + 1, 3, none⟩ (.slice o2 S.length c2)) (.slice o1 D.length c1) D) := (HBY1.out.below HM2.out.2).setI (by omega)
  clear HBY1
  have HBY1 := HBY1'
  clear HBY1'
  have j2 := HSP2.out.i.c3
  have r2 := HSP2.out.i.fr 3
  clear j1 r1
  have p4 : ((w2.setCell ⟨w.heap.size + 1, 3, none⟩ (.slice o2 S.length c2)).alloc (.cells #[] 5)).cell? ⟨w.heap.size, 4, none⟩ = some (.slice ta T.length tc) := ((HST2.out.on ((Below.refl (w2.setCell ⟨w.heap.size + 1, 3, none⟩ (.slice o2 S.length c2)).heap.size (w2.setCell ⟨w.heap.size + 1, 3, none⟩ (.slice o2 S.length c2))).alloc (Nat.le_refl _) (.cells #[] 5)) HST2.out.size).h).c4
  go_wp2_with ((at_builtin; refine wpList_append_bytes rfl (.tmp 28) (.tmp 30) rfl (w.heap.size + 2) i0 Tryd.underlying22 hi hz0 hz1 hz2 (.slice (some ⟨w2.heap.size, 0, none⟩) 0 0) 0 [] rfl (made_set HST2.out.size) ta T.length tc T rfl rfl HTn.out (Sl_alloc (Sl_below HTT.out HST2.out.below) _) (by omega) (by have := HST2.out.size; simp at this ⊢; omega) ?_; intro v3 w3 hown hgrow; have HM3 := mkHid (in_made' HST2.out.size hown hgrow); clear hown hgrow; refine Hid.out ?_))
  refine mkHid ?_
  obtain ⟨o3, c3, hv3, n3, _⟩ := HM3.out.1.parts
  subst hv3
  have HN3 := mkHid n3
  clear n3 p4
  have HSP3 := mkHid (HST2.out.on HM3.out.2 HST2.out.size)
  have HST3 := mkHid (HSP3.out.set4 (.slice o3 T.length c3))
  have HBY3 : Hid (By (w.heap.size + 2) (w3.setCell ⟨w.heap.size + 1, 4, none⟩ (.slice o3 T.length c3)) (.slice o3 T.length c3) T) := HM3.out.1.setI (by omega)
  have HBY1' : Hid (By (w.heap.size + 2) (w3.setCell ⟨w.heap.size + 1, 4, none⟩ (.slice o3 T.length c3)) (.slice o1 D.length c1) D) := (HBY1.out.below HM3.out.2).setI (by omega)
  clear HBY1
  have HBY1 := HBY1'
  clear HBY1'
  have HBY2' : Hid (By (w.heap.size + 2) (w3.setCell ⟨w.heap.size + 1, 4, none⟩ (.slice o3 T.length c3)) (.slice o2 S.length c2) S) := (HBY2.out.below HM3.out.2).setI (by omega)
  clear HBY2
  have HBY2 := HBY2'
  clear HBY2'
  have j3 := HSP3.out.i.c4
  have r3 := HSP3.out.i.fr 4
  clear j2 r2
  obtain ⟨cs4, hcs4⟩ : ∃ cs4, cs4 = (hc k ver (.slice o1 D.length c1) (.slice o2 S.length c2) (.slice o3 T.length c3) len ph (.slice la lst.length lc) (bc tag)).toArray := ⟨_, rfl⟩
  have HZ4 := mkHid (hc_size' hcs4 htb)
  have HROW : Hid ((w3.setCell ⟨w.heap.size + 1, 4, none⟩ (.slice o3 T.length c3)).heap[w.heap.size + 1]? = some (.cells cs4 26 (0, 0))) := by rw [hcs4]; exact HST3.out.i.1
  have HCS4 := mkHid hcs4
  clear hcs4
  go_wp2_with ((refine wpList_load_row rfl 26 (.tmp 7) rfl (w.heap.size + 1) rfl 26 cs4 (0, 0) (.struct d26) HROW.out hd26 rfl (by rw [HZ4.out]; exact sz26) ?_))
  refine (HPC.out.put _ cs4 o1 o2 o3 c1 c2 c3 HCS4.out HST3.out.below (by_sl HBY1.out) (by_sl HBY2.out) (by_sl HBY3.out) HN1.out HN2.out HN3.out).mono ?_
  clear j3 r3
  generalize hWW : (w3.setCell ⟨w.heap.size + 1, 4, none⟩ (.slice o3 T.length c3)) = W3 at HROW HST3 HBY1 HBY2 HBY3 ⊢
  rintro e w4 ⟨x, rfl, hx, hB4⟩
  have HX4 := mkHid hx
  have HB4 := mkHid hB4
  have HST4 := mkHid (HST3.out.on hB4 HST3.out.size)
  have HBY14 := mkHid (HBY1.out.below hB4)
  have HBY24 := mkHid (HBY2.out.below hB4)
  have HBY34 := mkHid (HBY3.out.below hB4)
  have HROW4 : Hid (w4.heap[w.heap.size + 1]? = some (.cells cs4 26 (0, 0))) := (hB4.block _ (by have := HST3.out.size; omega)).trans HROW.out
  clear hx hB4 hWW
  go_wp2_with ((refine wpList_load_row rfl 26 (.tmp 7) rfl (w.heap.size + 1) rfl 26 cs4 (0, 0) (.struct d26) HROW4.out hd26 rfl (by rw [HZ4.out]; exact sz26) ?_))
  refine (HPC.out.put _ cs4 o1 o2 o3 c1 c2 c3 HCS4.out HST4.out.below (by_sl HBY14.out) (by_sl HBY24.out) (by_sl HBY34.out) HN1.out HN2.out HN3.out).mono ?_
  rintro e w5 ⟨y, rfl, hy, hB5⟩
  have HY5 := mkHid hy
  have HB5 := mkHid hB5
  have HST5 := mkHid (HST4.out.on hB5 HST4.out.size)
  have HROWH : Hid (w5.heap[w.heap.size]? = some (.cells cs 26 (0, 0))) := by rw [HCS.out]; exact HST5.out.h.1
  clear hy hB5
  go_wp2_with ((refine wpList_load_row rfl 26 (.tmp 3) rfl w.heap.size rfl 26 cs (0, 0) (.struct d26) HROWH.out hd26 rfl (by rw [HZ.out]; exact sz26) ?_))
  refine (refs_any cs k ver len da sa ta la D.length dc S.length sc T.length tc lst.length lc ph tag w5 HCS.out htag).mono ?_
  rintro e w6 ⟨rfl, hB6⟩
  have HB6 := mkHid hB6
  have HST6 := mkHid (HST5.out.on hB6 HST5.out.size)
  clear hB6
  go_wp2_with fail
  refine (HPC.out.rput _ cs da sa ta dc sc tc HCS.out HST6.out.below (Sl_below HD.out HST6.out.below) (Sl_below HS.out HST6.out.below) (Sl_below HTT.out HST6.out.below) HDn.out HSn.out HTn.out).mono ?_
  rintro e w7 ⟨z, rfl, hz, hB7⟩
  have HZ7 := mkHid hz
  have HB7 := mkHid hB7
  have HST7 := mkHid (HST6.out.on hB7 HST6.out.size)
  clear hz hB7
  have hs34 := HB4.out.size
  have hs45 := HB5.out.size
  have hs56 := HB6.out.size
  have hs67 := HB7.out.size
  have hs3 := HST3.out.size
  have HX7 : Hid (By (W3.heap.size + 1) w7 x X) := ((HX4.out.below HB5.out).below HB6.out).below HB7.out
  have HY7 : Hid (By (w4.heap.size + 1) w7 y X) := (HY5.out.below HB6.out).below HB7.out
  have hxb : ∀ b, x.ownBlock = some b → W3.heap.size + 1 ≤ b ∧ b < w4.heap.size := HX4.out.lt
  have hyb : ∀ b, y.ownBlock = some b → w4.heap.size + 1 ≤ b ∧ b < w5.heap.size := HY5.out.lt
  have hzb : ∀ b, z.ownBlock = some b → w6.heap.size + 1 ≤ b ∧ b < w7.heap.size := HZ7.out.lt
  have hB37 : Below W3.heap.size W3 w7 := ((HB4.out.trans (HB5.out.mono hs34)).trans (HB6.out.mono (by omega))).trans (HB7.out.mono (by omega))
  have HSX := mkHid (spoilt_by (W3.heap.size + 1) x X w7.drew HX7.out z (w6.heap.size + 1) HZ7.out HPC.out.small)
  have HAFTX : Hid (∀ w8, w7.drew.grownBy w8 x.ownBlock → By (w4.heap.size + 1) w8 y X ∧ By (w6.heap.size + 1) w8 z X ∧ Below W3.heap.size W3 w8) := by
    intro w8 hg
    have hg' : w7.grownBy w8 x.ownBlock := ⟨hg.os, hg.tape, hg.output, hg.size, hg.block⟩
    refine ⟨World.ownsRow.kept HY7.out hg' ?_, World.ownsRow.kept HZ7.out hg' ?_, hB37.grown hg' hB37.size (fun b hb => by have := hxb b hb; omega)⟩
    · cases hb : y.ownBlock with
      | none => exact .inl rfl
      | some b => exact .inr (fun e => by have h1 := hyb b hb; have h2 := hxb b e.symm; omega)
    · cases hb : z.ownBlock with
      | none => exact .inl rfl
      | some b => exact .inr (fun e => by have h1 := hzb b hb; have h2 := hxb b e.symm; omega)
  have HFIN : Hid (∀ w8 w9, Below W3.heap.size W3 w8 → w8.grownBy w9 y.ownBlock → Below W3.heap.size W3 w9) := by
    intro w8 w9 hb hg
    exact hb.grown hg hb.size (fun b hb => by have := hyb b hb; omega)
  have HSAME : Hid (∀ W, Below W3.heap.size W3 W → Calls Tryd.prog 12 #[.agg cs4, .agg cs] W fun e w' => e = .returned (.bool true) ∧ Below W.heap.size W w') := by
    intro W hb
    have hs := HST3.out.on hb HST3.out.size
    exact same_any cs4 cs k ver len o1 o2 o3 la da sa ta c1 c2 c3 lc dc sc tc D S T lst ph tag W HCS4.out HCS.out htag (Sl_below (by_sl HBY1.out) hb) (Sl_below (by_sl HBY2.out) hb) (Sl_below (by_sl HBY3.out) hb) (Sl_below HD.out hs.below) (Sl_below HS.out hs.below) (Sl_below HTT.out hs.below) (Il_below HIL.out hs.below) (by omega) HN1.out HN2.out HN3.out HDn.out HSn.out HTn.out
  have HROWS : Hid (∀ W, Below W3.heap.size W3 W → W.heap[w.heap.size]? = some (.cells cs 26 (0, 0)) ∧ W.heap[w.heap.size + 1]? = some (.cells cs4 26 (0, 0)) ∧ Below w.heap.size w W) := by
    intro W hb
    have hs := HST3.out.on hb HST3.out.size
    exact ⟨by rw [HCS.out]; exact hs.h.1, (hb.block _ (by omega)).trans HROW.out, hs.below⟩
  have HREFS := mkHid (fun W => refs_any cs k ver len da sa ta la D.length dc S.length sc T.length tc lst.length lc ph tag W HCS.out htag)
  have HSPY : Hid (∀ W, By (w4.heap.size + 1) W y X → By (w6.heap.size + 1) W z X → Calls Tryd.prog 11 #[y, z] W fun e w' => e = .returned (.bool true) ∧ W.grownBy w' y.ownBlock) := fun W h1 h2 => spoilt_by (w4.heap.size + 1) y X W h1 z (w6.heap.size + 1) h2 HPC.out.small
  clear hxb hyb hzb hB37 HX7 HY7 HZ7 HX4 HY5 HB4 HB5 HB6 HB7 HROWH HROW4 HST4 HST5 HST6 HST7 HBY14 HBY24 HBY34 HST2 HST1 HST0 HM1 HM2 HM3 HSP1 HSP2 HSP3 hs34 hs45 hs56 hs67 hs3
  go_wp2
  refine wp_region_any (by kernel_rfl) ?_
  change wpAny _ _ _ _ _ _ _ (World.drew _)
  refine wpAny_take (i := 0) (v := x) rfl (by kernel_rfl) (by kernel_rfl) (by kernel_rfl) (fun _ _ _ h => h) (Or.inl ⟨by rfl, fun w => by rfl⟩) ?_
  refine wpAny_take (i := 1) (v := z) rfl (by kernel_rfl) (by kernel_rfl) (by kernel_rfl) (fun _ _ _ h => h) (Or.inl ⟨by rfl, fun w => by rfl⟩) ?_
  refine wpAny_ready (rs := [2]) (by kernel_rfl) (by simp) (AllReady.cons rfl (fun K hK => ?_) AllReady.nil)
  go_simp
  refine HSX.out.mono ?_; rintro e w8 ⟨rfl, hg8⟩; obtain ⟨hy8, hz8, hb8⟩ := HAFTX.out w8 hg8; have HY8 := mkHid hy8; have HZ8 := mkHid hz8; have HB8 := mkHid hb8; clear hg8 hy8 hz8 hb8
  try go_simp
  refine hK _ _ ?_
  clear hK K
  refine wpAny_take (i := 3) (v := .bool true) rfl (by kernel_rfl) (by kernel_rfl) (by kernel_rfl) (fun _ _ _ h => h) (Or.inl ⟨by rfl, fun w => by rfl⟩) ?_
  refine wpAny_take (i := 4) (v := y) rfl (by kernel_rfl) (by kernel_rfl) (by kernel_rfl) (fun _ _ _ h => h) (Or.inl ⟨by rfl, fun w => by rfl⟩) ?_
  refine wpAny_take (i := 5) (v := z) rfl (by kernel_rfl) (by kernel_rfl) (by kernel_rfl) (fun _ _ _ h => h) (Or.inl ⟨by rfl, fun w => by rfl⟩) ?_
  refine wpAny_ready (rs := [6]) (by kernel_rfl) (by simp) (AllReady.cons rfl (fun K hK => ?_) AllReady.nil)
  go_simp
  refine (HSPY.out _ HY8.out HZ8.out).mono ?_; rintro e w9 ⟨rfl, hg9⟩; have HB9 := mkHid (HFIN.out w8 w9 HB8.out hg9); clear hg9; have HRW9 := mkHid (HROWS.out w9 HB9.out)
  try go_simp
  refine hK _ _ ?_
  clear hK K
  refine wpAny_take (i := 7) (v := .bool true) rfl (by kernel_rfl) (by kernel_rfl) (by kernel_rfl) (fun _ _ _ h => h) (Or.inl ⟨by rfl, fun w => by rfl⟩) ?_
  refine norm_any (fun K hK => ?_)
  go_simp
  refine hK _ _ ?_
  clear hK K
  refine wpAny_take (i := 8) (v := .bool true) rfl (by kernel_rfl) (by kernel_rfl) (by kernel_rfl) (fun _ _ _ h => h) (Or.inl ⟨by rfl, fun w => by rfl⟩) ?_
  refine wpAny_take (i := 9) (v := .int .i64 A) rfl (by kernel_rfl) (by kernel_rfl) (by kernel_rfl) (fun _ _ _ h => h) (Or.inl ⟨by rfl, fun w => by rfl⟩) ?_
  refine wpAny_take (i := 10) (v := .int .i64 A) rfl (by kernel_rfl) (by kernel_rfl) (by kernel_rfl) (fun _ _ _ h => h) (Or.inl ⟨by rfl, fun w => by rfl⟩) ?_
  refine norm_any (fun K hK => ?_)
  go_simp
  refine hK _ _ ?_
  clear hK K
  refine wpAny_take (i := 11) (v := .bool true) rfl (by kernel_rfl) (by kernel_rfl) (by kernel_rfl) (fun _ _ _ h => h) (Or.inl ⟨by rfl, fun w => by go_simp⟩) ?_
  refine norm_any (fun K hK => ?_)
  go_simp
  refine hK _ _ ?_
  clear hK K
  refine wpAny_take (i := 12) (v := .bool true) rfl (by kernel_rfl) (by kernel_rfl) (by kernel_rfl) (fun _ _ _ h => h) (Or.inl ⟨by rfl, fun w => by rfl⟩) ?_
  refine norm_any (fun K hK => ?_)
  go_simp
  refine hK _ _ ?_
  clear hK K
  refine wpAny_take (i := 13) (v := .bool true) rfl (by kernel_rfl) (by kernel_rfl) (by kernel_rfl) (fun _ _ _ h => h) (Or.inl ⟨by rfl, fun w => by rfl⟩) ?_
  refine wpAny_take (i := 14) (v := .int .i64 E) rfl (by kernel_rfl) (by kernel_rfl) (by kernel_rfl) (fun _ _ _ h => h) (Or.inl ⟨by rfl, fun w => by rfl⟩) ?_
  refine wpAny_take (i := 15) (v := .int .i64 E) rfl (by kernel_rfl) (by kernel_rfl) (by kernel_rfl) (fun _ _ _ h => h) (Or.inl ⟨by rfl, fun w => by rfl⟩) ?_
  refine norm_any (fun K hK => ?_)
  go_simp
  refine hK _ _ ?_
  clear hK K
  refine wpAny_take (i := 16) (v := .bool true) rfl (by kernel_rfl) (by kernel_rfl) (by kernel_rfl) (fun _ _ _ h => h) (Or.inl ⟨by rfl, fun w => by go_simp⟩) ?_
  refine norm_any (fun K hK => ?_)
  go_simp
  refine hK _ _ ?_
  clear hK K
  refine wpAny_take (i := 17) (v := .bool true) rfl (by kernel_rfl) (by kernel_rfl) (by kernel_rfl) (fun _ _ _ h => h) (Or.inl ⟨by rfl, fun w => by rfl⟩) ?_
  refine norm_any (fun K hK => ?_)
  go_simp
  refine hK _ _ ?_
  clear hK K
  refine wpAny_take (i := 18) (v := .bool true) rfl (by kernel_rfl) (by kernel_rfl) (by kernel_rfl) (fun _ _ _ h => h) (Or.inl ⟨by rfl, fun w => by rfl⟩) ?_
  refine norm_any (fun K hK => ?_)
  go_simp
  refine hK _ _ ?_
  clear hK K
  refine wpAny_ready (rs := [19, 20]) (by kernel_rfl) (by simp) (AllReady.cons rfl (fun K hK => ?_) (AllReady.cons rfl (fun K hK => ?_) AllReady.nil))
  · rw [if_pos (by rfl)]
    refine wp_load_row 26 (.tmp 7) rfl (w.heap.size + 1) (by rfl) 26 cs4 (0, 0) (.struct d26) HRW9.out.2.1 hd26 rfl (by rw [HZ4.out]; exact sz26) ?_
    refine hK _ _ ?_
    clear hK K
    refine wpAny_ready (rs := [20]) (by kernel_rfl) (by simp) (AllReady.cons rfl (fun K hK => ?_) AllReady.nil)
    rw [if_pos (by rfl)]
    refine wp_load_row 26 (.tmp 3) rfl w.heap.size (by rfl) 26 cs (0, 0) (.struct d26) HRW9.out.1 hd26 rfl (by rw [HZ.out]; exact sz26) ?_
    refine hK _ _ ?_
    clear hK K
    refine wpAny_ready (rs := [21]) (by kernel_rfl) (by simp) (AllReady.cons rfl (fun K hK => ?_) AllReady.nil)
    go_simp
    refine (HREFS.out _).mono ?_; rintro e w10 ⟨rfl, hb10⟩; have HB10 := mkHid (HB9.out.trans (hb10.mono HB9.out.size)); clear hb10; have HRW10 := mkHid (HROWS.out w10 HB10.out)
    try go_simp
    refine hK _ _ ?_
    clear hK K
    refine wpAny_ready (rs := [22]) (by kernel_rfl) (by simp) (AllReady.cons rfl (fun K hK => ?_) AllReady.nil)
    go_simp
    refine (HSAME.out _ HB10.out).mono ?_; rintro e w11 ⟨rfl, hb11⟩; have HB11 := mkHid (HB10.out.trans (hb11.mono HB10.out.size)); clear hb11; have HRW11 := mkHid (HROWS.out w11 HB11.out)
    try go_simp
    refine hK _ _ ?_
    clear hK K
    refine wpAny_take (i := 23) (v := .bool true) rfl (by kernel_rfl) (by kernel_rfl) (by kernel_rfl) (fun _ _ _ h => h) (Or.inl ⟨by rfl, fun w => by rfl⟩) ?_
    refine norm_any (fun K hK => ?_)
    go_simp
    refine hK _ _ ?_
    clear hK K
    refine wpAny_take (i := 24) (v := .bool true) rfl (by kernel_rfl) (by kernel_rfl) (by kernel_rfl) (fun _ _ _ h => h) (Or.inl ⟨by rfl, fun w => by rfl⟩) ?_
    refine norm_any (fun K hK => ?_)
    go_simp
    refine hK _ _ ?_
    clear hK K
    refine wpAny_ready (rs := [25]) (by kernel_rfl) (by simp) (AllReady.cons rfl (fun K hK => ?_) AllReady.nil)
    go_simp
    refine (names_any _).mono ?_; rintro e w12 ⟨rfl, rfl⟩
    try go_simp
    refine hK _ _ ?_
    clear hK K
    refine wpAny_take (i := 26) (v := .bool true) rfl (by kernel_rfl) (by kernel_rfl) (by kernel_rfl) (fun _ _ _ h => h) (Or.inl ⟨by rfl, fun w => by rfl⟩) ?_
    refine norm_any (fun K hK => ?_)
    go_simp
    refine hK _ _ ?_
    clear hK K
    refine wpAny_take (i := 27) (v := .bool true) rfl (by kernel_rfl) (by kernel_rfl) (by kernel_rfl) (fun _ _ _ h => h) (Or.inl ⟨by rfl, fun w => by rfl⟩) ?_
    refine norm_any (fun K hK => ?_)
    go_simp
    refine hK _ _ ?_
    clear hK K
    refine wpAny_done (by kernel_rfl) ?_ _
    go_wp2
    go_ret
    exact ⟨rfl, HRW11.out.2.2⟩
  · rw [if_pos (by rfl)]
    refine wp_load_row 26 (.tmp 3) rfl w.heap.size (by rfl) 26 cs (0, 0) (.struct d26) HRW9.out.1 hd26 rfl (by rw [HZ.out]; exact sz26) ?_
    refine hK _ _ ?_
    clear hK K
    refine wpAny_ready (rs := [19, 21]) (by kernel_rfl) (by simp) (AllReady.cons rfl (fun K hK => ?_) (AllReady.cons rfl (fun K hK => ?_) AllReady.nil))
    · rw [if_pos (by rfl)]
      refine wp_load_row 26 (.tmp 7) rfl (w.heap.size + 1) (by rfl) 26 cs4 (0, 0) (.struct d26) HRW9.out.2.1 hd26 rfl (by rw [HZ4.out]; exact sz26) ?_
      refine hK _ _ ?_
      clear hK K
      refine wpAny_ready (rs := [21]) (by kernel_rfl) (by simp) (AllReady.cons rfl (fun K hK => ?_) AllReady.nil)
      go_simp
      refine (HREFS.out _).mono ?_; rintro e w10 ⟨rfl, hb10⟩; have HB10 := mkHid (HB9.out.trans (hb10.mono HB9.out.size)); clear hb10; have HRW10 := mkHid (HROWS.out w10 HB10.out)
      try go_simp
      refine hK _ _ ?_
      clear hK K
      refine wpAny_ready (rs := [22]) (by kernel_rfl) (by simp) (AllReady.cons rfl (fun K hK => ?_) AllReady.nil)
      go_simp
      refine (HSAME.out _ HB10.out).mono ?_; rintro e w11 ⟨rfl, hb11⟩; have HB11 := mkHid (HB10.out.trans (hb11.mono HB10.out.size)); clear hb11; have HRW11 := mkHid (HROWS.out w11 HB11.out)
      try go_simp
      refine hK _ _ ?_
      clear hK K
      refine wpAny_take (i := 23) (v := .bool true) rfl (by kernel_rfl) (by kernel_rfl) (by kernel_rfl) (fun _ _ _ h => h) (Or.inl ⟨by rfl, fun w => by rfl⟩) ?_
      refine norm_any (fun K hK => ?_)
      go_simp
      refine hK _ _ ?_
      clear hK K
      refine wpAny_take (i := 24) (v := .bool true) rfl (by kernel_rfl) (by kernel_rfl) (by kernel_rfl) (fun _ _ _ h => h) (Or.inl ⟨by rfl, fun w => by rfl⟩) ?_
      refine norm_any (fun K hK => ?_)
      go_simp
      refine hK _ _ ?_
      clear hK K
      refine wpAny_ready (rs := [25]) (by kernel_rfl) (by simp) (AllReady.cons rfl (fun K hK => ?_) AllReady.nil)
      go_simp
      refine (names_any _).mono ?_; rintro e w12 ⟨rfl, rfl⟩
      try go_simp
      refine hK _ _ ?_
      clear hK K
      refine wpAny_take (i := 26) (v := .bool true) rfl (by kernel_rfl) (by kernel_rfl) (by kernel_rfl) (fun _ _ _ h => h) (Or.inl ⟨by rfl, fun w => by rfl⟩) ?_
      refine norm_any (fun K hK => ?_)
      go_simp
      refine hK _ _ ?_
      clear hK K
      refine wpAny_take (i := 27) (v := .bool true) rfl (by kernel_rfl) (by kernel_rfl) (by kernel_rfl) (fun _ _ _ h => h) (Or.inl ⟨by rfl, fun w => by rfl⟩) ?_
      refine norm_any (fun K hK => ?_)
      go_simp
      refine hK _ _ ?_
      clear hK K
      refine wpAny_done (by kernel_rfl) ?_ _
      go_wp2
      go_ret
      exact ⟨rfl, HRW11.out.2.2⟩
    · go_simp
      refine (HREFS.out _).mono ?_; rintro e w10 ⟨rfl, hb10⟩; have HB10 := mkHid (HB9.out.trans (hb10.mono HB9.out.size)); clear hb10; have HRW10 := mkHid (HROWS.out w10 HB10.out)
      try go_simp
      refine hK _ _ ?_
      clear hK K
      refine wpAny_ready (rs := [19]) (by kernel_rfl) (by simp) (AllReady.cons rfl (fun K hK => ?_) AllReady.nil)
      rw [if_pos (by rfl)]
      refine wp_load_row 26 (.tmp 7) rfl (w.heap.size + 1) (by rfl) 26 cs4 (0, 0) (.struct d26) HRW10.out.2.1 hd26 rfl (by rw [HZ4.out]; exact sz26) ?_
      refine hK _ _ ?_
      clear hK K
      refine wpAny_ready (rs := [22]) (by kernel_rfl) (by simp) (AllReady.cons rfl (fun K hK => ?_) AllReady.nil)
      go_simp
      refine (HSAME.out _ HB10.out).mono ?_; rintro e w11 ⟨rfl, hb11⟩; have HB11 := mkHid (HB10.out.trans (hb11.mono HB10.out.size)); clear hb11; have HRW11 := mkHid (HROWS.out w11 HB11.out)
      try go_simp
      refine hK _ _ ?_
      clear hK K
      refine wpAny_take (i := 23) (v := .bool true) rfl (by kernel_rfl) (by kernel_rfl) (by kernel_rfl) (fun _ _ _ h => h) (Or.inl ⟨by rfl, fun w => by rfl⟩) ?_
      refine norm_any (fun K hK => ?_)
      go_simp
      refine hK _ _ ?_
      clear hK K
      refine wpAny_take (i := 24) (v := .bool true) rfl (by kernel_rfl) (by kernel_rfl) (by kernel_rfl) (fun _ _ _ h => h) (Or.inl ⟨by rfl, fun w => by rfl⟩) ?_
      refine norm_any (fun K hK => ?_)
      go_simp
      refine hK _ _ ?_
      clear hK K
      refine wpAny_ready (rs := [25]) (by kernel_rfl) (by simp) (AllReady.cons rfl (fun K hK => ?_) AllReady.nil)
      go_simp
      refine (names_any _).mono ?_; rintro e w12 ⟨rfl, rfl⟩
      try go_simp
      refine hK _ _ ?_
      clear hK K
      refine wpAny_take (i := 26) (v := .bool true) rfl (by kernel_rfl) (by kernel_rfl) (by kernel_rfl) (fun _ _ _ h => h) (Or.inl ⟨by rfl, fun w => by rfl⟩) ?_
      refine norm_any (fun K hK => ?_)
      go_simp
      refine hK _ _ ?_
      clear hK K
      refine wpAny_take (i := 27) (v := .bool true) rfl (by kernel_rfl) (by kernel_rfl) (by kernel_rfl) (fun _ _ _ h => h) (Or.inl ⟨by rfl, fun w => by rfl⟩) ?_
      refine norm_any (fun K hK => ?_)
      go_simp
      refine hK _ _ ?_
      clear hK K
      refine wpAny_done (by kernel_rfl) ?_ _
      go_wp2
      go_ret
      exact ⟨rfl, HRW11.out.2.2⟩
end Go.Proofs.YtlllejgpmdeeiaaDoor
namespace Go.Proofs.YtlllejgpmdeeiaaDoor
open Go.ChangeShapes Go.WideShapes Go.ChangeAt Go.RowKit
theorem puts_walk (k : Int) (ver len n : Int) (low : Int) (da sa ta la : Option Addr) (dc sc tc lc : Nat) (D S T : List UInt8) (lst : List Int) (ph : Bool) (tag : List UInt8) (w : World)
    (htg : tag.length = 16) (ht : Tb w) (hD : Sl w da D) (hS : Sl w sa S) (hT : Sl w ta T) (hil : Il w la lst)
    (hdn : da = none → D.length = 0 ∧ dc = 0) (hsn : sa = none → S.length = 0 ∧ sc = 0) (htn : ta = none → T.length = 0 ∧ tc = 0) (hDl : D.length ≤ 140737488351232) (hSl : S.length ≤ 140737488351232) (hTl : T.length ≤ 140737488351232) (hll : lst.length ≤ 17592186043904) (hlow : (Lit.int .u64 low).wf = true) :
    Calls Tryd.prog 3 #[.agg (hc k ver (.slice da D.length dc) (.slice sa S.length sc) (.slice ta T.length tc) len ph (.slice la lst.length lc) (bc tag)).toArray, .int .u64 low, .int .i64 n] w fun e w' => e = .returned (.bool true) ∧ Below w.heap.size w w' := by
  obtain ⟨l0, l1⟩ := bounds_u64 hlow
  obtain ⟨X, A, E, hP⟩ := puts_both k ver len n low la lc D S T lst ph tag w htg ht hil hDl hSl hTl hll l0 (by omega)
  exact putsw _ k ver len n low da sa ta la dc sc tc lc D S T lst ph tag w X A E rfl htg hD hS hT hil hdn hsn htn hDl hSl hTl hll hP
end Go.Proofs.YtlllejgpmdeeiaaDoor
