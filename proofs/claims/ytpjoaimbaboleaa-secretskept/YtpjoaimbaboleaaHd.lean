/- vault: spy, Hidden. -/
import Derived.Test.YtpjoaimbaboleaaKw
namespace Go.Proofs.Ytpjoaimbaboleaa
open Go.RowKit Go.Shelf Go.Lib
set_option linter.unusedVariables false

theorem stF (P : Program) (w : World) (a : Addr) (m : Mode) (fn : Fn) (x y : Array Value) : (store a (.func fn x y) m).run P w = stored P w a (.func fn x y) m := run_store P w a _ m rfl
attribute [local go_sem] Oper.semAt_some stF

set_option maxRecDepth 100000 in
theorem spy_c (V : Nat) (so : Option Addr) (n sc : Nat) (w : World) : Calls Try.prog 47 #[.pointer (some ⟨V, 0, none⟩), .slice so n sc] w fun e w' => e = .returned (.func (.func 58) #[] #[.pointer (some ⟨w.heap.size + 1, 0, none⟩), .pointer (some ⟨w.heap.size, 0, none⟩)]) ∧ w' = (w.alloc (.cells #[.slice so n sc] 58)).alloc (.cells #[.pointer (some ⟨V, 0, none⟩), .slice none 0 0, .slice none 0 0, .slice none 0 0, .slice none 0 0] 106) := by
  go_enter Try.func47, Try.ntmps47
  go_wp2
  go_ret
  exact ⟨rfl, rfl⟩
theorem nth' {w : World} {o x : Obj} {k : Nat} (h : w.heap[k]? = some x) : (w.alloc o).heap[k]? = some x := heap_bel h (bel1 w o)
theorem new' {w : World} {o : Obj} {k : Nat} (h : k = w.heap.size) : (w.alloc o).heap[k]? = some o := by subst h; exact heap_alloc_new w o
theorem al6 (w : World) (o1 o2 o3 o4 o5 o6 : Obj) : ((((((w.alloc o1).alloc o2).alloc o3).alloc o4).alloc o5).alloc o6).heap[w.heap.size]? = some o1 ∧ ((((((w.alloc o1).alloc o2).alloc o3).alloc o4).alloc o5).alloc o6).heap[w.heap.size + 1]? = some o2 ∧ ((((((w.alloc o1).alloc o2).alloc o3).alloc o4).alloc o5).alloc o6).heap[w.heap.size + 1 + 1]? = some o3 ∧ ((((((w.alloc o1).alloc o2).alloc o3).alloc o4).alloc o5).alloc o6).heap[w.heap.size + 1 + 1 + 1]? = some o4 ∧ ((((((w.alloc o1).alloc o2).alloc o3).alloc o4).alloc o5).alloc o6).heap[w.heap.size + 1 + 1 + 1 + 1]? = some o5 ∧ ((((((w.alloc o1).alloc o2).alloc o3).alloc o4).alloc o5).alloc o6).heap[w.heap.size + 1 + 1 + 1 + 1 + 1]? = some o6 ∧ Below w.heap.size w ((((((w.alloc o1).alloc o2).alloc o3).alloc o4).alloc o5).alloc o6) ∧ ((((((w.alloc o1).alloc o2).alloc o3).alloc o4).alloc o5).alloc o6).heap.size = w.heap.size + 1 + 1 + 1 + 1 + 1 + 1 :=
  ⟨nth' (nth' (nth' (nth' (nth' (new' rfl))))), nth' (nth' (nth' (nth' (new' (by simp))))), nth' (nth' (nth' (new' (by simp)))), nth' (nth' (new' (by simp))), nth' (new' (by simp)), new' (by simp), ((((((bel1 w _).alloc (by simp) _).alloc (by simp; omega) _).alloc (by simp; omega) _).alloc (by simp; omega) _).alloc (by simp; omega) _), by simp⟩
theorem Sp.put {n₀ : Nat} {w : World} {Mb V : Nat} {L : List Tm} {S : List (Option Addr × Nat × List UInt8)} (h : Sp n₀ w Mb V L S) {i : Nat} {o o' : Obj} (hl : w.heap[i]? = some o) (ho : o.isCells = false) : Sp n₀ (w.putObj i o') Mb V L S := by
  refine ⟨h.1, ?_⟩
  rcases h.2 with h | ⟨La, Be, Kb, Xb, xc, A, B, K, h, h2⟩
  · refine .inl ((World.putObj_heap_other ?_).trans h)
    rintro rfl
    unfold M0 at h
    rw [hl] at h
    injection h with h
    subst h
    cases ho
  · exact .inr ⟨La, Be, Kb, Xb, xc, A, B, K, h.put hl ho, h2⟩
/-- How Hidden ends. -/
def HdP (w : World) (L : List Tm) (S : List (Option Addr × Nat × List UInt8)) (l : List UInt8) (e : Ending) (w' : World) : Prop := ∃ b : Bool, e = .returned (.bool b) ∧ (b = true ↔ ∃ x ∈ wins l, ¬ (x < L.length ∧ Kn L (vs S) x)) ∧ Below w.heap.size w w'
set_option maxRecDepth 100000 in
set_option maxHeartbeats 4000000 in
theorem hidden_c (n₀ V G c M cb sc : Nat) (L : List Tm) (o so : Option Addr) (l : List UInt8) (S : List (Option Addr × Nat × List UInt8)) (w : World) (hv : Va n₀ w V G c M L) (hB : By n₀ w o cb l) (hS : Se n₀ w so S) (hSm : Small L) (hle : L.length ≤ 1000000) (hSl : S.length ≤ 9223372036854775807) (hbd : (sn L.length S).length + 1 + L.length * (200000 + 2 * L.length * 65537) ≤ 28000000000000) :
    Calls Try.prog 26 #[.pointer (some ⟨V, 0, none⟩), .slice o l.length cb, .slice so S.length sc] w (HdP w L S l) := by
  refine callsIn_wide.1 (callsIn_of_wp_marks (F := Fence.wide) (n := 0) Try.func26 rfl trivial ?_ rfl)
  refine wpIn_wide.2 ?_
  simp only [Try.ntmps26, List.size_toArray, List.length_cons, List.length_nil, Nat.reduceAdd, Nat.reduceSub, Array.replicate_succ, Array.replicate_zero, List.push_toArray, List.append_toArray, List.nil_append, List.cons_append]
  have HV : Aside _ := hv
  have HB : Aside _ := hB
  have HS : Aside _ := hS
  have HSM : Aside _ := hSm
  have HLE : Aside _ := hle
  have HSL : Aside _ := hSl
  have HBD : Aside _ := hbd
  have lV := hv.lV
  have bV := hv.bV
  clear hv hB hS hSm hle hSl hbd
  obtain ⟨NL, hNL⟩ : ∃ NL, l.length = NL := ⟨_, rfl⟩
  obtain ⟨NS, hNS⟩ : ∃ NS, S.length = NS := ⟨_, rfl⟩
  rw [hNL, hNS]
  have HNL : Aside _ := hNL
  have HNS : Aside _ := hNS
  clear hNL hNS
  have hbe : Below w.heap.size w ((w.alloc (.cells #[.pointer (some ⟨V, 0, none⟩)] 23)).alloc (.cells #[.bool false] 4)) := (bel1 w _).alloc (by simp) _
  go_wp2_with fail
  refine (some_none (HV.out.bel hbe) HLE.out).mono ?_
  rintro e w1 ⟨rfl, hw⟩
  subst w1
  clear hbe
  go_wp2_with fail
  refine (spy_c _ _ _ _ _).mono ?_
  rintro e w1 ⟨rfl, hw⟩
  subst w1
  go_wp2_with fail
  refine (names_c _ _ _ _).mono ?_
  rintro e w1 ⟨rfl, hw⟩
  subst w1
  go_wp2
  obtain ⟨hBv, hRb, hSb, hMb, hFb, hBs, hb0, hz0⟩ := al6 w (.cells #[.pointer (some ⟨V, 0, none⟩)] 23) (.cells #[.bool false] 4) (.cells #[.slice so NS sc] 58) (.cells #[.pointer (some ⟨V, 0, none⟩), .slice none 0 0, .slice none 0 0, .slice none 0 0, .slice none 0 0] 106) (.cells #[.func (.func 58) #[] #[.pointer (some ⟨w.heap.size + 1 + 1 + 1, 0, none⟩), .pointer (some ⟨w.heap.size + 1 + 1, 0, none⟩)]] 88) (.cells #[.slice o NL cb] 33)
  rename_i K1 hK1
  have HK1 : Aside _ := hK1
  clear hK1
  generalize ((((((w.alloc (.cells #[.pointer (some ⟨V, 0, none⟩)] 23)).alloc (.cells #[.bool false] 4)).alloc (.cells #[.slice so NS sc] 58)).alloc (.cells #[.pointer (some ⟨V, 0, none⟩), .slice none 0 0, .slice none 0 0, .slice none 0 0, .slice none 0 0] 106)).alloc (.cells #[.func (.func 58) #[] #[.pointer (some ⟨w.heap.size + 1 + 1 + 1, 0, none⟩), .pointer (some ⟨w.heap.size + 1 + 1, 0, none⟩)]] 88)).alloc (.cells #[.slice o NL cb] 33)) = W0 at *
  obtain ⟨sz, hsz⟩ : ∃ sz, w.heap.size = sz := ⟨_, rfl⟩
  rw [hsz] at lV hBv hRb hSb hMb hFb hBs hz0 ⊢
  obtain ⟨Rb, hRbe⟩ : ∃ Rb, sz + 1 = Rb := ⟨_, rfl⟩
  obtain ⟨Sb, hSbe⟩ : ∃ Sb, Rb + 1 = Sb := ⟨_, rfl⟩
  obtain ⟨Mb, hMbe⟩ : ∃ Mb, Sb + 1 = Mb := ⟨_, rfl⟩
  obtain ⟨Fb, hFbe⟩ : ∃ Fb, Mb + 1 = Fb := ⟨_, rfl⟩
  obtain ⟨Bs, hBse⟩ : ∃ Bs, Fb + 1 = Bs := ⟨_, rfl⟩
  simp only [hRbe, hSbe, hMbe, hFbe, hBse] at hRb hSb hMb hFb hBs hz0 ⊢
  have hz1 : Bs < W0.heap.size := by omega
  have l1 : sz < Rb := by omega
  have l2 : Rb < Sb := by omega
  have l3 : Sb < Mb := by omega
  have l4 : Mb < Fb := by omega
  have l5 : Fb < Bs := by omega
  have l6 : w.heap.size ≤ sz := by omega
  clear hz0 hRbe hSbe hMbe hFbe hBse hsz
  have hV0 := HV.out.bel hb0
  have hB0 := HB.out.bel hb0
  have hS0 := HS.out.bel hb0
  obtain ⟨I, hI⟩ : ∃ I : Nat → World → Prop, ∀ k Wx, I k Wx ↔ (Sp n₀ Wx Mb V L S ∧ Chg (fun k => k = Mb) W0 Wx ∧ Wx.heap[W0.heap.size]? = some (.deferred (some [])) ∧ ∀ x ∈ (wins l).take k, x < L.length ∧ Kn L (vs S) x) := ⟨_, fun _ _ => Iff.rfl⟩
  obtain ⟨Ix, hIx⟩ : ∃ Ix : Code → Nat → World → Prop, ∀ cd k Wx, Ix cd k Wx ↔ (cd = .ret ∧ Chg (fun k => k = Mb ∨ k = Rb) W0 Wx ∧ Wx.heap[W0.heap.size]? = some (.deferred (some [])) ∧ Wx.heap[Rb]? = some (.cells #[.bool true] 4 (0, 0)) ∧ ∃ x ∈ wins l, ¬ (x < L.length ∧ Kn L (vs S) x)) := ⟨_, fun _ _ _ => Iff.rfl⟩
  have hIb : ∀ k Wx Wy, I k Wx → Below Wx.heap.size Wx Wy → I k Wy := by
    intro k Wx Wy hi hb
    obtain ⟨a1, a2, a3, a4⟩ := (hI _ _).1 hi
    exact (hI _ _).2 ⟨a1.bel hb, a2.trans (Chg.of_bel hb), heap_bel a3 hb, a4⟩
  have hCp : ∀ (X : Nat → Prop) Wx r', Chg X W0 Wx → Chg X W0 (Wx.putObj (W0.heap.size + 1) (.loop r')) := by
    intro X Wx r' a2
    exact ⟨a2.1, a2.2.1, a2.2.2.1, by have := a2.2.2.2.1; simpa [World.putObj] using this, fun j hj hx => (World.putObj_heap_other (by omega)).trans (a2.2.2.2.2 j hj hx)⟩
  have hIp : ∀ k Wx r r', I k Wx → Wx.heap[W0.heap.size + 1]? = some (.loop r) → I k (Wx.putObj (W0.heap.size + 1) (.loop r')) := by
    intro k Wx r r' hi hl
    obtain ⟨a1, a2, a3, a4⟩ := (hI _ _).1 hi
    exact (hI _ _).2 ⟨a1.put hl rfl, hCp _ _ _ a2, (World.putObj_heap_other (by omega)).trans a3, a4⟩
  have hIxp : ∀ cd k Wx r r', Ix cd k Wx → Wx.heap[W0.heap.size + 1]? = some (.loop r) → Ix cd k (Wx.putObj (W0.heap.size + 1) (.loop r')) := by
    intro cd k Wx r r' hi hl
    obtain ⟨a0, a2, a3, a4, a5⟩ := (hIx _ _ _).1 hi
    exact (hIx _ _ _).2 ⟨a0, hCp _ _ _ a2, (World.putObj_heap_other (by omega)).trans a3, (World.putObj_heap_other (by omega)).trans a4, a5⟩
  refine (wpIn_wide (n := 0)).1 ?_
  refine range_out (gf := 61) (lb := #[.pointer (some ⟨Bs, 0, none⟩)]) rfl (enters_of Try.func61 (by kernel_rfl) rfl) (I := I) (Ix := Ix) (N := (wins l).length) hIp hIxp ?h0 ?hseq ?hdone ?hstop
  case h0 =>
    intro o'
    have hbb : Below W0.heap.size W0 ((W0.alloc (.deferred (some []))).alloc o') := (bel1 W0 _).alloc (by simp) _
    refine (hI _ _).2 ⟨⟨by omega, .inl (heap_bel hMb hbb)⟩, Chg.of_bel hbb, nth' (new' rfl), by simp⟩
  case hstop =>
    intro cd k Wx _ hi
    obtain ⟨rfl, a2, a3, a4, a5⟩ := (hIx _ _ _).1 hi
    have HA : Aside _ := And.intro a2 (And.intro a3 (And.intro a4 a5))
    clear a2 a3 a4 a5 hi hIb hCp hIp hIxp hI hIx HK1 I Ix
    refine (wpIn_wide (n := 0)).2 ?_
    go_wp2
    obtain ⟨a2, a3, a4, a5⟩ := HA.out
    refine ⟨by simp, .inl ⟨_, _, rfl, run_takeDeferred a3, ?_⟩⟩
    refine ⟨_, res_b (fn := Try.f26) (p := 6) rfl _ _ Rb true rfl ?_, true, rfl, by simpa using a5, ?_⟩
    · exact cell1_of ((World.putObj_heap_other (by omega)).trans a4)
    · refine ⟨a2.1.trans hb0.os, a2.2.1.trans hb0.tape, a2.2.2.1.trans hb0.output, ?_, fun j hj => (World.putObj_heap_other (by omega)).trans ((a2.2.2.2.2 j (by omega) (by omega)).trans (hb0.block j hj))⟩
      have h1 := a2.2.2.2.1
      have h2 := hb0.size
      simp [World.putObj]
      omega
  case hdone =>
    intro Wx hi
    obtain ⟨a1, a2, a3, a4⟩ := (hI _ _).1 hi
    show K1 _ _
    refine HK1.out _ _ ?_
    have hrb := (a2.2.2.2.2 Rb (by omega) (by omega)).trans hRb
    have c1 := cell1_of hrb
    have f1 : Wx.frozen? ⟨Rb, 0, none⟩ = false := by simp [World.frozen?, hrb]
    rw [List.take_length] at a4
    have HA : Aside _ := And.intro a2 (And.intro a3 (And.intro hrb a4))
    clear a1 a2 a3 a4 hi hIb hCp hIp hIxp hI hIx HK1 I Ix hrb
    go_wp2
    obtain ⟨a2, a3, hrb, a4⟩ := HA.out
    rw [setCell_eq_setRow Wx Rb 0 _ 4 (0, 0) _ hrb]
    refine ⟨by simp, .inl ⟨_, _, rfl, run_takeDeferred ((setRow_other _ _ _ _ (by omega)).trans a3), ?_⟩⟩
    refine ⟨_, res_b (fn := Try.f26) (p := 6) rfl _ _ Rb false rfl ?_, false, rfl, ?_, ?_⟩
    · exact cell1_of ((World.putObj_heap_other (by omega)).trans (setRow_heap Wx Rb _ _ 4 (0, 0) hrb))
    · simp only [Bool.false_eq_true, false_iff]
      rintro ⟨x, hx, hn⟩
      exact hn (a4 x hx)
    · refine ⟨a2.1.trans hb0.os, a2.2.1.trans hb0.tape, a2.2.2.1.trans hb0.output, ?_, fun j hj => (World.putObj_heap_other (by omega)).trans ((setRow_other _ _ _ _ (by omega)).trans ((a2.2.2.2.2 j (by omega) (by omega)).trans (hb0.block j hj)))⟩
      have h1 := a2.2.2.2.1
      have h2 := hb0.size
      simp [World.putObj]
      omega
  case hseq =>
    intro fn W1 hW1 hb1
    refine names_any n₀ Bs (W0.heap.size + 1) cb o l _ (Lft (W0.heap.size + 1) (rcd fn _ _ _ _ W0.heap.size) Ix) W1 (fun k Wx hx => ?_) (fun k Wx Wy hx hb => ⟨hIb k Wx Wy hx.1 hb, heap_bel hx.2 hb⟩) (fun k n Wx hk hx => ?_) hb1
    · obtain ⟨hi, hl⟩ := hx
      obtain ⟨a1, a2, a3, a4⟩ := (hI _ _).1 hi
      refine ⟨?_, hB0.chg (by omega) hMb a2⟩
      have := (a2.2.2.2.2 Bs (by omega) (by omega)).trans hBs
      rw [HNL.out]
      simp [World.cell?, this]
    · have key := round_raw (P := Try.prog) (encs := fun k => #[.int .i64 (((wins l)[k]?.getD 0 : Nat) : Int)]) (fun _ => rfl) (Kp := fun _ _ => True) (fun _ _ => trivial) (fun _ _ _ _ => trivial) hIp hIxp (k := k) (W := Wx) hx ?_
      · rw [hk] at key
        obtain ⟨f1, f2, f3, f4, f5, f6⟩ := key
        refine ⟨f1, f2, f3, f4, f5, f6.mono ?_⟩
        rintro e W' (⟨rfl, y1, y2⟩ | ⟨rfl, y1, y2⟩)
        · exact .inl ⟨rfl, y1⟩
        · exact .inr ⟨rfl, y1⟩
      · intro Kc hKc
        rw [hk]
        simp only [Option.getD_some]
        have HK : Aside _ := hKc
        have HX : Aside _ := hx
        clear hKc hx
        gi_wp2
        refine HK.out _ _ rfl trivial (fun r' => ?_)
        clear HK
        obtain ⟨hi, hl⟩ := HX.out
        have hi' := hIp _ _ _ r' hi hl
        have hl' : (Wx.putObj (W0.heap.size + 1) (.loop r')).heap[W0.heap.size + 1]? = some (.loop r') := World.putObj_heap_same (Array.getElem?_eq_some_iff.1 hl).1
        generalize Wx.putObj (W0.heap.size + 1) (.loop r') = Wr at *
        obtain ⟨a1, a2, a3, a4⟩ := (hI _ _).1 hi'
        have cB := cell1_of ((a2.2.2.2.2 sz (by omega) (by omega)).trans hBv)
        have cF := cell1_of ((a2.2.2.2.2 Fb (by omega) (by omega)).trans hFb)
        have cS := cell1_of ((a2.2.2.2.2 Sb (by omega) (by omega)).trans hSb)
        have hrb := (a2.2.2.2.2 Rb (by omega) (by omega)).trans hRb
        have hVr := hV0.chg hMb a2
        have hSr := hS0.chg (by omega) hMb a2
        have cV := hVr.cV0
        have hnw : n ∈ wins l := List.mem_of_getElem? hk
        have htk : ∀ x, x ∈ (wins l).take (k + 1) → x ∈ (wins l).take k ∨ x = n := by
          intro x hx
          have hkl := (List.getElem?_eq_some_iff.1 hk).1
          have e : (wins l)[k] = n := (List.getElem?_eq_some_iff.1 hk).2
          rw [List.take_succ_eq_append_getElem hkl, e] at hx
          simpa using hx
        have HTK : Aside _ := htk
        have HNW : Aside _ := hnw
        have HA : Aside _ := And.intro a1 (And.intro a2 (And.intro a3 a4))
        have HL : Aside _ := hl'
        have HRB : Aside _ := hrb
        have HI : Aside _ := hI
        have HIX : Aside _ := hIx
        have lRM : Rb ≠ Mb := by omega
        have lRW : Rb ≠ W0.heap.size := by omega
        have lRW1 : Rb ≠ W0.heap.size + 1 := by omega
        have lMW : Mb ≠ W0.heap.size := by omega
        have lMW1 : Mb ≠ W0.heap.size + 1 := by omega
        obtain ⟨NT, hNT⟩ : ∃ NT, L.length = NT := ⟨_, rfl⟩
        rw [hNT] at cV
        have HNT : Aside _ := hNT
        have lrW : Rb < Wr.heap.size := (Array.getElem?_eq_some_iff.1 hrb).1
        have ldW : W0.heap.size < Wr.heap.size := (Array.getElem?_eq_some_iff.1 a3).1
        have llW : W0.heap.size + 1 < Wr.heap.size := (Array.getElem?_eq_some_iff.1 hl').1
        have HSA : Aside (∀ W3, Chg (fun k => k = Mb) Wr W3 → ¬ (n < L.length ∧ Kn L (vs S) n) → W3.heap[Rb]? = some (.cells #[.bool false] 4 (0, 0)) ∧ (W3.setCell ⟨Rb, 0, none⟩ (.bool true)).heap[W0.heap.size + 1]? = Wr.heap[W0.heap.size + 1]? ∧ Ix .ret (k + 1) (W3.setCell ⟨Rb, 0, none⟩ (.bool true))) := by
          intro W3 hc hn'
          have r3 := (hc.2.2.2.2 Rb lrW lRM).trans hrb
          have hs1 := a2.2.2.2.1
          have hs2 := hc.2.2.2.1
          refine ⟨r3, ?_, (hIx _ _ _).2 ⟨rfl, ?_, ?_, ?_, n, hnw, hn'⟩⟩
          all_goals rw [setCell_eq_setRow W3 Rb 0 _ 4 (0, 0) _ r3]
          · exact (setRow_other _ _ _ _ lRW1.symm).trans (hc.2.2.2.2 _ llW lMW1.symm)
          · refine ⟨hc.1.trans a2.1, hc.2.1.trans a2.2.1, hc.2.2.1.trans a2.2.2.1, by simp; omega, fun j hj hx => ?_⟩
            exact (setRow_other _ _ _ _ (fun e => hx (.inr e))).trans ((hc.2.2.2.2 j (by omega) (fun e => hx (.inl e))).trans (a2.2.2.2.2 j hj (fun e => hx (.inl e))))
          · exact (setRow_other _ _ _ _ lRW.symm).trans ((hc.2.2.2.2 _ ldW lMW.symm).trans a3)
          · exact setRow_heap W3 Rb _ _ 4 (0, 0) r3
        have HOK : Aside (∀ W3, Chg (fun k => k = Mb) Wr W3 → Sp n₀ W3 Mb V L S → n < L.length → Kn L (vs S) n → W3.heap[W0.heap.size + 1]? = Wr.heap[W0.heap.size + 1]? ∧ I (k + 1) W3) := by
          intro W3 hc hsp h1 h2
          refine ⟨hc.2.2.2.2 _ llW lMW1.symm, (hI _ _).2 ⟨hsp, a2.trans hc, (hc.2.2.2.2 _ ldW lMW.symm).trans a3, fun x hx => ?_⟩⟩
          rcases htk x hx with hx | rfl
          · exact a4 x hx
          · exact ⟨h1, h2⟩
        have HKN : Aside (n < L.length → Calls Try.prog 58 #[.int .i64 (n : Int), .pointer (some ⟨Mb, 0, none⟩), .pointer (some ⟨Sb, 0, none⟩)] Wr (KwP n₀ Wr Mb V L S n)) := fun hn => knows_c n₀ Mb V G c M Sb sc n L so S Wr a1 hVr (by rw [HNS.out]; exact cS) hSr HSM.out HLE.out HSL.out HBD.out hn
        clear hVr hSr cS
        clear hi hl HX hi' hb1 hW1 hk a1 a2 a3 a4 hl' hrb hI hIx hIb hCp hIp hIxp htk hnw hNT
        refine wpIn_block ?_
        by_cases hxN : n < NT
        · have i1 : ¬ ((NT : Int) ≤ (n : Int)) := by omega
          have i2 : decide ((NT : Int) ≤ (n : Int)) = false := by simpa using i1
          gi_wp2_with fail
          refine ⟨trivial, rfl, CallsIn.inRound _ (callsIn_wide.2 (Calls.mono (HKN.out (by rw [HNT.out]; exact hxN)) ?_))⟩
          rintro e W3 ⟨b, rfl, hb, hsp, hc⟩
          clear cB cF cV
          cases b with
          | true =>
            have HE : Aside _ := HOK.out W3 hc hsp (by rw [HNT.out]; exact hxN) (hb.1 rfl)
            clear hb hsp hc
            gi_wp2
            exact ⟨HE.out.1, trivial, HE.out.2⟩
          | false =>
            obtain ⟨r3, e2, e3⟩ := HSA.out W3 hc (fun h => absurd (hb.2 h.2) (by simp))
            have c1 := cell1_of r3
            have f1 : W3.frozen? ⟨Rb, 0, none⟩ = false := by simp [World.frozen?, r3]
            have HE : Aside _ := And.intro e2 e3
            clear hb hsp hc r3 e2 e3
            gi_wp2
            exact ⟨HE.out.1, trivial, HE.out.2⟩
        · have i1 : (NT : Int) ≤ (n : Int) := by omega
          have i2 : decide ((NT : Int) ≤ (n : Int)) = true := by simpa using i1
          obtain ⟨r3, e2, e3⟩ := HSA.out Wr (Chg.refl _ _) (fun h => absurd h.1 (by rw [HNT.out]; exact hxN))
          have c1 := cell1_of r3
          have f1 : Wr.frozen? ⟨Rb, 0, none⟩ = false := by simp [World.frozen?, r3]
          have HE : Aside _ := And.intro e2 e3
          clear r3 e2 e3
          gi_wp2_with fail
          rename_i Kg hKg _ _ _ _
          refine ⟨(fun f h => nomatch h), hKg _ _ ?_⟩
          gi_wp2
          exact ⟨HE.out.1, trivial, HE.out.2⟩
end Go.Proofs.Ytpjoaimbaboleaa
