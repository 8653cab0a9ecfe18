/- secrets: Begin, Early, Hand, Traffic. -/
import Derived.Test.YtpjoaimbaboleaaSc
namespace Go.Proofs.Ytpjoaimbaboleaa
open Go.RowKit Go.Shelf Go.Lib
set_option linter.unusedVariables false

/-- Root's answer. -/
def Rt (p : Option Addr) (J : World → Prop) (H0 : List UInt8) : Prop := ∀ X, J X → Calls Try.prog 11 #[.pointer p] X fun e w' => e = .returned (hv H0) ∧ Below X.heap.size X w'
theorem eqz {H : List UInt8} (hH : H.length = 16) {b : Bool} (hb : (H == z16) = b) : ∀ X, (Op.equalIn 10000 29 (.agg (hl H).toArray) (.agg #[.int .u8 0, .int .u8 0, .int .u8 0, .int .u8 0, .int .u8 0, .int .u8 0, .int .u8 0, .int .u8 0, .int .u8 0, .int .u8 0, .int .u8 0, .int .u8 0, .int .u8 0, .int .u8 0, .int .u8 0, .int .u8 0])).run Try.prog X = .ok b X := fun X => by
  have := equalIn_h 29 hu28 9998 H z16 hH rfl X
  rw [hb] at this
  exact this
set_option maxRecDepth 100000 in
theorem none_g {w : World} {p : Option Addr} {J : World → Prop} {H0 : List UInt8} (hr : Rt p J H0) (hH : H0.length = 16) {b : Bool} (hb : (H0 == z16) = b) (hj : J w) : Calls Try.prog 42 #[.pointer p] w fun e w' => e = .returned (.bool b) ∧ Below w.heap.size w w' := by
  have HR : Aside _ := hr w hj
  have hq := eqz hH hb
  clear hr hj hb
  go_enter Try.func42, Try.ntmps42
  go_wp2_with fail
  refine Calls.mono HR.out ?_
  rintro e W1 ⟨rfl, hb⟩
  have HB : Aside _ := hb
  clear hb HR
  go_wp2
  go_ret
  exact ⟨rfl, HB.out⟩

set_option maxRecDepth 100000 in
set_option maxHeartbeats 1000000 in
theorem begin_g {w : World} {p : Option Addr} {n₀ : Nat} {J J1 J2 : World → Prop} {H1 H2 : List UInt8} {E1 E2 : Int} (hJ : Jk n₀ J) (hJ1 : Jk n₀ J1) (hJ2 : Jk n₀ J2) (hn : n₀ ≤ w.heap.size) (hj : J w) (hH1 : H1.length = 16) (hH2 : H2.length = 16) (H : List UInt8) (hH : H.length = 16) (hrt : Rt p J H) (hd1 : Dc p J H ⟨#[115, 99, 114, 105, 112, 116]⟩ [] H1 E1 J1) :
    Calls Try.prog 15 #[.pointer p] w (ScP J1 H1 E1 w) := by
  have hb1 : Below w.heap.size w (w.alloc (.cells (hl z16).toArray 29)) := (bel1 w _)
  have X2 : Aside ((w.alloc (.cells (hl z16).toArray 29)).heap[w.heap.size]? = some (.cells (hl z16).toArray 29 (0, 0))) := new' rfl
  have HB : Aside (Below w.heap.size w (w.alloc (.cells (hl z16).toArray 29))) := hb1
  have HJW : Aside (J (w.alloc (.cells (hl z16).toArray 29))) := hJ.bel _ _ hj hb1
  have HSZ : Aside (w.heap.size < (w.alloc (.cells (hl z16).toArray 29)).heap.size) := by show _ < _; simp
  have HN : Aside (n₀ ≤ w.heap.size) := hn
  have HK : Aside (Jk n₀ J) := hJ
  have HK1 : Aside (Jk n₀ J1) := hJ1
  have HK2 : Aside (Jk n₀ J2) := hJ2
  have HD1 : Aside (Dc p J H ⟨#[115, 99, 114, 105, 112, 116]⟩ [] H1 E1 J1) := hd1
  clear hb1 hj hJ hJ1 hJ2 hd1 hn
  have HRT : Aside (Rt p J H) := hrt
  clear hrt
  go_enter Try.func15, Try.ntmps15
  go_wp2_with fail
  rw [hz28]
  generalize (w.alloc (.cells (hl z16).toArray 29)) = Wa at *
  refine Calls.mono (HRT.out Wa HJW.out) ?_
  rintro e W1 ⟨rfl, hbr⟩
  have X2' : Aside _ := heap_bel X2.out hbr
  have HB' : Aside (Below w.heap.size w W1) := HB.out.trans (hbr.mono HB.out.size)
  have HJW' : Aside (J W1) := HK.out.bel _ _ HJW.out hbr
  have HSZ' : Aside (w.heap.size < W1.heap.size) := Nat.lt_of_lt_of_le HSZ.out hbr.size
  clear X2 HB HJW HSZ hbr HRT
  have X2 : Aside _ := X2'.out
  have HB : Aside _ := HB'.out
  have HJW : Aside _ := HJW'.out
  have HSZ : Aside _ := HSZ'.out
  clear X2' HB' HJW' HSZ'
  go_wp2_with fail
  refine Calls.mono (from_c p H hH W1) ?_
  rintro e W2 ⟨rfl, hcl, hb⟩
  have Y2 : Aside _ := heap_bel X2.out hb
  have HJ2 : Aside (J W2) := HK.out.bel _ _ HJW.out hb
  have HB2 : Aside (Below w.heap.size w W2) := HB.out.trans (hb.mono HB.out.size)
  have HL2 : Aside (W1.heap.size ≤ W2.heap.size) := hb.size
  have HCL : Aside (Cl W2 W1.heap.size p H 0) := hcl
  have HN1 : Aside (w.heap.size ≤ W1.heap.size) := HB.out.size
  clear hcl hb HJW X2
  go_wp2_with fail
  have HCa0 : Aside (Cl W2 W1.heap.size p H 0) := HCL.out
  have HJa0 : Aside (J W2) := HJ2.out
  refine Calls.mono (next_c HK.out HK1.out (Nat.le_trans HN.out HN1.out) HCa0.out hH hH1 HJa0.out ⟨#[115, 99, 114, 105, 112, 116]⟩ none 0 0 [] (fun X hX => joined_0 X) HD1.out) ?_
  rintro e Z0 ⟨rfl, hc4, hj4, hk4⟩
  have HCz0 : Aside (Cl Z0 W1.heap.size p H1 E1) := hc4
  have HJz0 : Aside (J1 Z0) := hj4
  have HKf0 : Aside (Kf W1.heap.size W2 Z0) := (Kf.of_kc (Kc.of_bel (Below.refl _ _))).trans hk4
  have Z02 : Aside _ := HKf0.out (w.heap.size) _ _ _ (by have := HSZ.out; omega) (by have := HSZ.out; omega) Y2.out (by decide) (by decide)
  clear hc4 hj4 hk4 HCa0 HJa0
  have HR : Aside _ := setRow_heap Z0 (w.heap.size) _ (hl H1).toArray 29 (0, 0) Z02.out
  have HKq : Aside (Kc w Z0) := Kf.kc (Kc.of_bel HB2.out) HKf0.out HN1.out
  have HF : Aside (ScP J1 H1 E1 w (.returned (.tuple #[hv H1, .int .i64 E1])) (Z0.setRow (w.heap.size) (hl H1).toArray)) := ⟨rfl, HK1.out.set _ _ _ _ _ HJz0.out Z02.out (.inl rfl) (by have := HN.out; omega), HKq.out.set (by omega) _⟩
  go_wp2_with (refine st28 rfl (.tmp 2) (.tmp 9) rfl (w.heap.size) H1 rfl rfl z16 Z02.out hH1 rfl ?_)
  refine bodyPost_ret (v := .tuple #[hv H1, .int .i64 E1]) (res_h (fn := Try.f15) (p := 2) (u := 3) rfl _ _ (w.heap.size) H1 rfl HR.out hH1) rfl ?_
  exact HF.out
set_option maxRecDepth 100000 in
set_option maxHeartbeats 1000000 in
theorem early0_g {w : World} {p : Option Addr} {n₀ : Nat} {J J1 J2 : World → Prop} {H1 H2 : List UInt8} {E1 E2 : Int} (hJ : Jk n₀ J) (hJ1 : Jk n₀ J1) (hJ2 : Jk n₀ J2) (hn : n₀ ≤ w.heap.size) (hj : J w) (hH1 : H1.length = 16) (hH2 : H2.length = 16) (B : List UInt8) (hB : B.length = 16) (H : List UInt8) (hH : H.length = 16) (hrt : Rt p J H) (hz : (B == z16) = true) (hd1 : Dc p J H ⟨#[101, 97, 114, 108, 121]⟩ [] H1 E1 J1) :
    Calls Try.prog 17 #[.pointer p, hv B] w (ScP J1 H1 E1 w) := by
  have hb1 : Below w.heap.size w ((w.alloc (.cells (hl B).toArray 29)).alloc (.cells (hl z16).toArray 29)) := ((bel1 w _).alloc (by simp) _)
  have X3 : Aside (((w.alloc (.cells (hl B).toArray 29)).alloc (.cells (hl z16).toArray 29)).heap[w.heap.size]? = some (.cells (hl B).toArray 29 (0, 0))) := nth' (new' rfl)
  have X4 : Aside (((w.alloc (.cells (hl B).toArray 29)).alloc (.cells (hl z16).toArray 29)).heap[w.heap.size + 1]? = some (.cells (hl z16).toArray 29 (0, 0))) := new' (by simp)
  have HB : Aside (Below w.heap.size w ((w.alloc (.cells (hl B).toArray 29)).alloc (.cells (hl z16).toArray 29))) := hb1
  have HJW : Aside (J ((w.alloc (.cells (hl B).toArray 29)).alloc (.cells (hl z16).toArray 29))) := hJ.bel _ _ hj hb1
  have HSZ : Aside (w.heap.size + 1 < ((w.alloc (.cells (hl B).toArray 29)).alloc (.cells (hl z16).toArray 29)).heap.size) := by show _ < _; simp
  have HN : Aside (n₀ ≤ w.heap.size) := hn
  have HK : Aside (Jk n₀ J) := hJ
  have HK1 : Aside (Jk n₀ J1) := hJ1
  have HK2 : Aside (Jk n₀ J2) := hJ2
  have HD1 : Aside (Dc p J H ⟨#[101, 97, 114, 108, 121]⟩ [] H1 E1 J1) := hd1
  clear hb1 hj hJ hJ1 hJ2 hd1 hn
  have HRT : Aside (Rt p J H) := hrt
  clear hrt
  have hq := eqz hB (b := true) hz
  clear hz
  go_enter Try.func17, Try.ntmps17
  go_wp2_with (refine ld28 rfl (.tmp 3) rfl w.heap.size rfl B X3.out hB (Hid.out ?_))
  rw [hz28]
  generalize ((w.alloc (.cells (hl B).toArray 29)).alloc (.cells (hl z16).toArray 29)) = Wa at *
  refine mkHid ?_
  go_wp2_with fail
  refine Calls.mono (HRT.out Wa HJW.out) ?_
  rintro e Wb ⟨rfl, hbr⟩
  have X3' : Aside _ := heap_bel X3.out hbr
  have X4' : Aside _ := heap_bel X4.out hbr
  have HB' : Aside (Below w.heap.size w (Wb.setRow w.heap.size (hl H).toArray)) := bel_set (HB.out.trans (hbr.mono HB.out.size)) (Nat.le_refl _) _
  have HJW' : Aside (J (Wb.setRow w.heap.size (hl H).toArray)) := HK.out.set _ _ _ _ _ (HK.out.bel _ _ HJW.out hbr) X3'.out (.inl rfl) HN.out
  have HSZ' : Aside (w.heap.size + 1 < (Wb.setRow w.heap.size (hl H).toArray).heap.size) := by show _ < _; simp; exact Nat.lt_of_lt_of_le HSZ.out hbr.size
  have X3n : Aside _ := setRow_heap Wb w.heap.size _ (hl H).toArray 29 (0, 0) X3'.out
  have X4n : Aside _ := (setRow_other Wb w.heap.size (w.heap.size + 1) (hl H).toArray (by omega)).trans X4'.out
  clear X3 X4 HB HJW HSZ hbr HRT X4'
  go_wp2_with (first | (refine st28 rfl (.tmp 3) (.tmp 10) rfl w.heap.size H rfl rfl B X3'.out hH hB (Hid.out ?_)) | (refine ld28 rfl (.tmp 3) rfl w.heap.size rfl H X3n.out hH ?_))
  clear X3'
  generalize Wb.setRow w.heap.size (hl H).toArray = W1 at *
  have X3 : Aside _ := X3n.out
  have X4 : Aside _ := X4n.out
  have HB : Aside _ := HB'.out
  have HJW : Aside _ := HJW'.out
  have HSZ : Aside _ := HSZ'.out
  clear X3n X4n HB' HJW' HSZ'
  refine mkHid ?_
  go_wp2_with (refine ld28 rfl (.tmp 3) rfl w.heap.size rfl H X3.out hH ?_)
  refine Calls.mono (from_c p H hH W1) ?_
  rintro e W2 ⟨rfl, hcl, hb⟩
  have Y3 : Aside _ := heap_bel X3.out hb
  have Y4 : Aside _ := heap_bel X4.out hb
  have HJ2 : Aside (J W2) := HK.out.bel _ _ HJW.out hb
  have HB2 : Aside (Below w.heap.size w W2) := HB.out.trans (hb.mono HB.out.size)
  have HL2 : Aside (W1.heap.size ≤ W2.heap.size) := hb.size
  have HCL : Aside (Cl W2 W1.heap.size p H 0) := hcl
  have HN1 : Aside (w.heap.size ≤ W1.heap.size) := HB.out.size
  clear hcl hb HJW X3 X4
  go_wp2_with fail
  have HCa0 : Aside (Cl W2 W1.heap.size p H 0) := HCL.out
  have HJa0 : Aside (J W2) := HJ2.out
  refine Calls.mono (next_c HK.out HK1.out (Nat.le_trans HN.out HN1.out) HCa0.out hH hH1 HJa0.out ⟨#[101, 97, 114, 108, 121]⟩ none 0 0 [] (fun X hX => joined_0 X) HD1.out) ?_
  rintro e Z0 ⟨rfl, hc4, hj4, hk4⟩
  have HCz0 : Aside (Cl Z0 W1.heap.size p H1 E1) := hc4
  have HJz0 : Aside (J1 Z0) := hj4
  have HKf0 : Aside (Kf W1.heap.size W2 Z0) := (Kf.of_kc (Kc.of_bel (Below.refl _ _))).trans hk4
  have Z03 : Aside _ := HKf0.out (w.heap.size) _ _ _ (by have := HSZ.out; omega) (by have := HSZ.out; omega) Y3.out (by decide) (by decide)
  have Z04 : Aside _ := HKf0.out (w.heap.size + 1) _ _ _ (by have := HSZ.out; omega) (by have := HSZ.out; omega) Y4.out (by decide) (by decide)
  clear hc4 hj4 hk4 HCa0 HJa0
  have HR : Aside _ := setRow_heap Z0 (w.heap.size + 1) _ (hl H1).toArray 29 (0, 0) Z04.out
  have HKq : Aside (Kc w Z0) := Kf.kc (Kc.of_bel HB2.out) HKf0.out HN1.out
  have HF : Aside (ScP J1 H1 E1 w (.returned (.tuple #[hv H1, .int .i64 E1])) (Z0.setRow (w.heap.size + 1) (hl H1).toArray)) := ⟨rfl, HK1.out.set _ _ _ _ _ HJz0.out Z04.out (.inl rfl) (by have := HN.out; omega), HKq.out.set (by omega) _⟩
  go_wp2_with (refine st28 rfl (.tmp 4) (.tmp 15) rfl (w.heap.size + 1) H1 rfl rfl z16 Z04.out hH1 rfl ?_)
  refine bodyPost_ret (v := .tuple #[hv H1, .int .i64 E1]) (res_h (fn := Try.f17) (p := 4) (u := 5) rfl _ _ (w.heap.size + 1) H1 rfl HR.out hH1) rfl ?_
  exact HF.out
set_option maxRecDepth 100000 in
set_option maxHeartbeats 1000000 in
theorem early1_g {w : World} {p : Option Addr} {n₀ : Nat} {J J1 J2 : World → Prop} {H1 H2 : List UInt8} {E1 E2 : Int} (hJ : Jk n₀ J) (hJ1 : Jk n₀ J1) (hJ2 : Jk n₀ J2) (hn : n₀ ≤ w.heap.size) (hj : J w) (hH1 : H1.length = 16) (hH2 : H2.length = 16) (B : List UInt8) (hB : B.length = 16) (hz : (B == z16) = false) (hd1 : Dc p J B ⟨#[101, 97, 114, 108, 121]⟩ [] H1 E1 J1) :
    Calls Try.prog 17 #[.pointer p, hv B] w (ScP J1 H1 E1 w) := by
  have hb1 : Below w.heap.size w ((w.alloc (.cells (hl B).toArray 29)).alloc (.cells (hl z16).toArray 29)) := ((bel1 w _).alloc (by simp) _)
  have X3 : Aside (((w.alloc (.cells (hl B).toArray 29)).alloc (.cells (hl z16).toArray 29)).heap[w.heap.size]? = some (.cells (hl B).toArray 29 (0, 0))) := nth' (new' rfl)
  have X4 : Aside (((w.alloc (.cells (hl B).toArray 29)).alloc (.cells (hl z16).toArray 29)).heap[w.heap.size + 1]? = some (.cells (hl z16).toArray 29 (0, 0))) := new' (by simp)
  have HB : Aside (Below w.heap.size w ((w.alloc (.cells (hl B).toArray 29)).alloc (.cells (hl z16).toArray 29))) := hb1
  have HJW : Aside (J ((w.alloc (.cells (hl B).toArray 29)).alloc (.cells (hl z16).toArray 29))) := hJ.bel _ _ hj hb1
  have HSZ : Aside (w.heap.size + 1 < ((w.alloc (.cells (hl B).toArray 29)).alloc (.cells (hl z16).toArray 29)).heap.size) := by show _ < _; simp
  have HN : Aside (n₀ ≤ w.heap.size) := hn
  have HK : Aside (Jk n₀ J) := hJ
  have HK1 : Aside (Jk n₀ J1) := hJ1
  have HK2 : Aside (Jk n₀ J2) := hJ2
  have HD1 : Aside (Dc p J B ⟨#[101, 97, 114, 108, 121]⟩ [] H1 E1 J1) := hd1
  clear hb1 hj hJ hJ1 hJ2 hd1 hn
  have hq := eqz hB (b := false) hz
  clear hz
  go_enter Try.func17, Try.ntmps17
  go_wp2_with (refine ld28 rfl (.tmp 3) rfl w.heap.size rfl B X3.out hB (Hid.out ?_))
  rw [hz28]
  generalize ((w.alloc (.cells (hl B).toArray 29)).alloc (.cells (hl z16).toArray 29)) = W1 at *
  refine mkHid ?_
  go_wp2_with (refine ld28 rfl (.tmp 3) rfl w.heap.size rfl B X3.out hB ?_)
  skip
  refine Calls.mono (from_c p B hB W1) ?_
  rintro e W2 ⟨rfl, hcl, hb⟩
  have Y3 : Aside _ := heap_bel X3.out hb
  have Y4 : Aside _ := heap_bel X4.out hb
  have HJ2 : Aside (J W2) := HK.out.bel _ _ HJW.out hb
  have HB2 : Aside (Below w.heap.size w W2) := HB.out.trans (hb.mono HB.out.size)
  have HL2 : Aside (W1.heap.size ≤ W2.heap.size) := hb.size
  have HCL : Aside (Cl W2 W1.heap.size p B 0) := hcl
  have HN1 : Aside (w.heap.size ≤ W1.heap.size) := HB.out.size
  clear hcl hb HJW X3 X4
  go_wp2_with fail
  have HCa0 : Aside (Cl W2 W1.heap.size p B 0) := HCL.out
  have HJa0 : Aside (J W2) := HJ2.out
  refine Calls.mono (next_c HK.out HK1.out (Nat.le_trans HN.out HN1.out) HCa0.out hB hH1 HJa0.out ⟨#[101, 97, 114, 108, 121]⟩ none 0 0 [] (fun X hX => joined_0 X) HD1.out) ?_
  rintro e Z0 ⟨rfl, hc4, hj4, hk4⟩
  have HCz0 : Aside (Cl Z0 W1.heap.size p H1 E1) := hc4
  have HJz0 : Aside (J1 Z0) := hj4
  have HKf0 : Aside (Kf W1.heap.size W2 Z0) := (Kf.of_kc (Kc.of_bel (Below.refl _ _))).trans hk4
  have Z03 : Aside _ := HKf0.out (w.heap.size) _ _ _ (by have := HSZ.out; omega) (by have := HSZ.out; omega) Y3.out (by decide) (by decide)
  have Z04 : Aside _ := HKf0.out (w.heap.size + 1) _ _ _ (by have := HSZ.out; omega) (by have := HSZ.out; omega) Y4.out (by decide) (by decide)
  clear hc4 hj4 hk4 HCa0 HJa0
  have HR : Aside _ := setRow_heap Z0 (w.heap.size + 1) _ (hl H1).toArray 29 (0, 0) Z04.out
  have HKq : Aside (Kc w Z0) := Kf.kc (Kc.of_bel HB2.out) HKf0.out HN1.out
  have HF : Aside (ScP J1 H1 E1 w (.returned (.tuple #[hv H1, .int .i64 E1])) (Z0.setRow (w.heap.size + 1) (hl H1).toArray)) := ⟨rfl, HK1.out.set _ _ _ _ _ HJz0.out Z04.out (.inl rfl) (by have := HN.out; omega), HKq.out.set (by omega) _⟩
  go_wp2_with (refine st28 rfl (.tmp 4) (.tmp 15) rfl (w.heap.size + 1) H1 rfl rfl z16 Z04.out hH1 rfl ?_)
  refine bodyPost_ret (v := .tuple #[hv H1, .int .i64 E1]) (res_h (fn := Try.f17) (p := 4) (u := 5) rfl _ _ (w.heap.size + 1) H1 rfl HR.out hH1) rfl ?_
  exact HF.out
set_option maxRecDepth 100000 in
set_option maxHeartbeats 1000000 in
theorem hand_g {w : World} {p : Option Addr} {n₀ : Nat} {J J1 J2 : World → Prop} {H1 H2 : List UInt8} {E1 E2 : Int} (hJ : Jk n₀ J) (hJ1 : Jk n₀ J1) (hJ2 : Jk n₀ J2) (hn : n₀ ≤ w.heap.size) (hj : J w) (hH1 : H1.length = 16) (hH2 : H2.length = 16) (H : List UInt8) (hH : H.length = 16) (G : List UInt8) (hG : G.length = 16) (hno : ∀ X, J X → Calls Try.prog 42 #[.pointer p] X fun e w' => e = .returned (.bool false) ∧ Below X.heap.size X w') (hkn : ∀ X, J X → Calls Try.prog 43 #[.pointer p, hv H] X fun e w' => e = .returned (.bool true) ∧ Below X.heap.size X w') (hd1 : Dc p J G ⟨#[104, 97, 110, 100]⟩ H H1 E1 J1) (hd2 : Dc2 p J1 H1 E1 ⟨#[98, 111, 116, 104]⟩ H H2 E2 J2) :
    Calls Try.prog 18 #[.pointer p, hv H, hv G] w (ScP J2 H2 E2 w) := by
  have hb1 : Below w.heap.size w (((w.alloc (.cells (hl H).toArray 29)).alloc (.cells (hl G).toArray 29)).alloc (.cells (hl z16).toArray 29)) := (((bel1 w _).alloc (by simp) _).alloc (by simp; omega) _)
  have X4 : Aside ((((w.alloc (.cells (hl H).toArray 29)).alloc (.cells (hl G).toArray 29)).alloc (.cells (hl z16).toArray 29)).heap[w.heap.size]? = some (.cells (hl H).toArray 29 (0, 0))) := nth' (nth' (new' rfl))
  have X5 : Aside ((((w.alloc (.cells (hl H).toArray 29)).alloc (.cells (hl G).toArray 29)).alloc (.cells (hl z16).toArray 29)).heap[w.heap.size + 1]? = some (.cells (hl G).toArray 29 (0, 0))) := nth' (new' (by simp))
  have X6 : Aside ((((w.alloc (.cells (hl H).toArray 29)).alloc (.cells (hl G).toArray 29)).alloc (.cells (hl z16).toArray 29)).heap[w.heap.size + 1 + 1]? = some (.cells (hl z16).toArray 29 (0, 0))) := new' (by simp)
  have HB : Aside (Below w.heap.size w (((w.alloc (.cells (hl H).toArray 29)).alloc (.cells (hl G).toArray 29)).alloc (.cells (hl z16).toArray 29))) := hb1
  have HJW : Aside (J (((w.alloc (.cells (hl H).toArray 29)).alloc (.cells (hl G).toArray 29)).alloc (.cells (hl z16).toArray 29))) := hJ.bel _ _ hj hb1
  have HSZ : Aside (w.heap.size + 1 + 1 < (((w.alloc (.cells (hl H).toArray 29)).alloc (.cells (hl G).toArray 29)).alloc (.cells (hl z16).toArray 29)).heap.size) := by show _ < _; simp
  have HN : Aside (n₀ ≤ w.heap.size) := hn
  have HK : Aside (Jk n₀ J) := hJ
  have HK1 : Aside (Jk n₀ J1) := hJ1
  have HK2 : Aside (Jk n₀ J2) := hJ2
  have HD1 : Aside (Dc p J G ⟨#[104, 97, 110, 100]⟩ H H1 E1 J1) := hd1
  have HD2 : Aside (Dc2 p J1 H1 E1 ⟨#[98, 111, 116, 104]⟩ H H2 E2 J2) := hd2
  clear hd2
  clear hb1 hj hJ hJ1 hJ2 hd1 hn
  have HNO : Aside (∀ X, J X → Calls Try.prog 42 #[.pointer p] X fun e w' => e = .returned (.bool false) ∧ Below X.heap.size X w') := hno
  have HKN : Aside (∀ X, J X → Calls Try.prog 43 #[.pointer p, hv H] X fun e w' => e = .returned (.bool true) ∧ Below X.heap.size X w') := hkn
  clear hno hkn
  go_enter Try.func18, Try.ntmps18
  go_wp2_with fail
  rw [hz28]
  generalize (((w.alloc (.cells (hl H).toArray 29)).alloc (.cells (hl G).toArray 29)).alloc (.cells (hl z16).toArray 29)) = Wa at *
  refine Calls.mono (HNO.out Wa HJW.out) ?_
  rintro e Wb ⟨rfl, hbr⟩
  have X4' : Aside _ := heap_bel X4.out hbr
  have X5' : Aside _ := heap_bel X5.out hbr
  have X6' : Aside _ := heap_bel X6.out hbr
  have HB' : Aside (Below w.heap.size w Wb) := HB.out.trans (hbr.mono HB.out.size)
  have HJW' : Aside (J Wb) := HK.out.bel _ _ HJW.out hbr
  have HSZ' : Aside (w.heap.size + 1 + 1 < Wb.heap.size) := Nat.lt_of_lt_of_le HSZ.out hbr.size
  clear X4 X5 X6 HB HJW HSZ hbr
  have X4 : Aside _ := X4'.out
  have X5 : Aside _ := X5'.out
  have X6 : Aside _ := X6'.out
  have HB : Aside _ := HB'.out
  have HJW : Aside _ := HJW'.out
  have HSZ : Aside _ := HSZ'.out
  clear X4' X5' X6' HB' HJW' HSZ'
  go_wp2_with (refine ld28 rfl (.tmp 4) rfl w.heap.size rfl H X4.out hH ?_)
  refine Calls.mono (HKN.out Wb HJW.out) ?_
  rintro e W1 ⟨rfl, hbr⟩
  have X4' : Aside _ := heap_bel X4.out hbr
  have X5' : Aside _ := heap_bel X5.out hbr
  have X6' : Aside _ := heap_bel X6.out hbr
  have HB' : Aside (Below w.heap.size w W1) := HB.out.trans (hbr.mono HB.out.size)
  have HJW' : Aside (J W1) := HK.out.bel _ _ HJW.out hbr
  have HSZ' : Aside (w.heap.size + 1 + 1 < W1.heap.size) := Nat.lt_of_lt_of_le HSZ.out hbr.size
  clear X4 X5 X6 HB HJW HSZ hbr
  have X4 : Aside _ := X4'.out
  have X5 : Aside _ := X5'.out
  have X6 : Aside _ := X6'.out
  have HB : Aside _ := HB'.out
  have HJW : Aside _ := HJW'.out
  have HSZ : Aside _ := HSZ'.out
  clear X4' X5' X6' HB' HJW' HSZ'
  go_wp2_with (refine ld28 rfl (.tmp 5) rfl (w.heap.size + 1) rfl G X5.out hG ?_)
  refine Calls.mono (from_c p G hG W1) ?_
  rintro e W2 ⟨rfl, hcl, hb⟩
  have Y4 : Aside _ := heap_bel X4.out hb
  have Y5 : Aside _ := heap_bel X5.out hb
  have Y6 : Aside _ := heap_bel X6.out hb
  have HJ2 : Aside (J W2) := HK.out.bel _ _ HJW.out hb
  have HB2 : Aside (Below w.heap.size w W2) := HB.out.trans (hb.mono HB.out.size)
  have HL2 : Aside (W1.heap.size ≤ W2.heap.size) := hb.size
  have HCL : Aside (Cl W2 W1.heap.size p G 0) := hcl
  have HN1 : Aside (w.heap.size ≤ W1.heap.size) := HB.out.size
  clear hcl hb HJW X4 X5 X6
  go_wp2_with fail
  have HCa0 : Aside (Cl (W2.alloc (.cells #[.slice (some ⟨w.heap.size, 0, none⟩) H.length 16] 33)) W1.heap.size p G 0) := Cl.bel HCL.out (bel1 _ _)
  have HJa0 : Aside (J (W2.alloc (.cells #[.slice (some ⟨w.heap.size, 0, none⟩) H.length 16] 33))) := HK.out.bel _ _ HJ2.out (bel1 _ _)
  have HJn0 : Aside (∀ X, Below (W2.alloc (.cells #[.slice (some ⟨w.heap.size, 0, none⟩) H.length 16] 33)).heap.size (W2.alloc (.cells #[.slice (some ⟨w.heap.size, 0, none⟩) H.length 16] 33)) X → Calls Try.prog 56 #[.slice (some ⟨W2.heap.size, 0, none⟩) 1 1] X (JnP H X)) := fun X hX => jn_one (heap_alloc_new W2 (.cells #[.slice (some ⟨w.heap.size, 0, none⟩) H.length 16] 33)) (Sl.bel (sl_box Y4.out) (bel1 _ _)) (by rw [hH]; omega) hX
  rw [hH] at HCa0 HJa0 HJn0
  refine Calls.mono (next_c HK.out HK1.out (Nat.le_trans HN.out HN1.out) HCa0.out hG hH1 HJa0.out ⟨#[104, 97, 110, 100]⟩ (some ⟨W2.heap.size, 0, none⟩) 1 1 H (HJn0.out) HD1.out) ?_
  rintro e Z0 ⟨rfl, hc4, hj4, hk4⟩
  have HCz0 : Aside (Cl Z0 W1.heap.size p H1 E1) := hc4
  have HJz0 : Aside (J1 Z0) := hj4
  have HKf0 : Aside (Kf W1.heap.size W2 Z0) := (Kf.of_kc (Kc.of_bel (bel1 _ _))).trans hk4
  have Z04 : Aside _ := HKf0.out (w.heap.size) _ _ _ (by have := HSZ.out; omega) (by have := HSZ.out; omega) Y4.out (by decide) (by decide)
  have Z05 : Aside _ := HKf0.out (w.heap.size + 1) _ _ _ (by have := HSZ.out; omega) (by have := HSZ.out; omega) Y5.out (by decide) (by decide)
  have Z06 : Aside _ := HKf0.out (w.heap.size + 1 + 1) _ _ _ (by have := HSZ.out; omega) (by have := HSZ.out; omega) Y6.out (by decide) (by decide)
  clear hc4 hj4 hk4 HCa0 HJa0 HJn0
  go_wp2_with fail
  have HCa1 : Aside (Cl (Z0.alloc (.cells #[.slice (some ⟨w.heap.size, 0, none⟩) H.length 16] 33)) W1.heap.size p H1 E1) := Cl.bel HCz0.out (bel1 _ _)
  have HJa1 : Aside (J1 (Z0.alloc (.cells #[.slice (some ⟨w.heap.size, 0, none⟩) H.length 16] 33))) := HK1.out.bel _ _ HJz0.out (bel1 _ _)
  have HJn1 : Aside (∀ X, Below (Z0.alloc (.cells #[.slice (some ⟨w.heap.size, 0, none⟩) H.length 16] 33)).heap.size (Z0.alloc (.cells #[.slice (some ⟨w.heap.size, 0, none⟩) H.length 16] 33)) X → Calls Try.prog 56 #[.slice (some ⟨Z0.heap.size, 0, none⟩) 1 1] X (JnP H X)) := fun X hX => jn_one (heap_alloc_new Z0 (.cells #[.slice (some ⟨w.heap.size, 0, none⟩) H.length 16] 33)) (Sl.bel (sl_box Z04.out) (bel1 _ _)) (by rw [hH]; omega) hX
  rw [hH] at HCa1 HJa1 HJn1
  refine Calls.mono (next_2 HK1.out HK2.out (Nat.le_trans HN.out HN1.out) HCa1.out hH1 hH2 HJa1.out ⟨#[98, 111, 116, 104]⟩ (some ⟨Z0.heap.size, 0, none⟩) 1 1 H (HJn1.out) HD2.out) ?_
  rintro e Z1 ⟨rfl, hc4, hj4, hk4⟩
  have HCz1 : Aside (Cl Z1 W1.heap.size p H2 E2) := hc4
  have HJz1 : Aside (J2 Z1) := hj4
  have HKf1 : Aside (Kf W1.heap.size Z0 Z1) := (Kf.of_kc (Kc.of_bel (bel1 _ _))).trans hk4
  have Z14 : Aside _ := HKf1.out (w.heap.size) _ _ _ (by have := HSZ.out; omega) (by have := HSZ.out; omega) Z04.out (by decide) (by decide)
  have Z15 : Aside _ := HKf1.out (w.heap.size + 1) _ _ _ (by have := HSZ.out; omega) (by have := HSZ.out; omega) Z05.out (by decide) (by decide)
  have Z16 : Aside _ := HKf1.out (w.heap.size + 1 + 1) _ _ _ (by have := HSZ.out; omega) (by have := HSZ.out; omega) Z06.out (by decide) (by decide)
  clear hc4 hj4 hk4 HCa1 HJa1 HJn1
  have HR : Aside _ := setRow_heap Z1 (w.heap.size + 1 + 1) _ (hl H2).toArray 29 (0, 0) Z16.out
  have HKq : Aside (Kc w Z1) := Kf.kc (Kc.of_bel HB2.out) (HKf0.out.trans HKf1.out) HN1.out
  have HF : Aside (ScP J2 H2 E2 w (.returned (.tuple #[hv H2, .int .i64 E2])) (Z1.setRow (w.heap.size + 1 + 1) (hl H2).toArray)) := ⟨rfl, HK2.out.set _ _ _ _ _ HJz1.out Z16.out (.inl rfl) (by have := HN.out; omega), HKq.out.set (by omega) _⟩
  go_wp2_with (refine st28 rfl (.tmp 6) (.tmp 30) rfl (w.heap.size + 1 + 1) H2 rfl rfl z16 Z16.out hH2 rfl ?_)
  refine bodyPost_ret (v := .tuple #[hv H2, .int .i64 E2]) (res_h (fn := Try.f18) (p := 6) (u := 7) rfl _ _ (w.heap.size + 1 + 1) H2 rfl HR.out hH2) rfl ?_
  exact HF.out
set_option maxRecDepth 100000 in
set_option maxHeartbeats 400000 in
theorem hand_none {w : World} {p : Option Addr} {n₀ : Nat} {J : World → Prop} (hJ : Jk n₀ J) (hn : n₀ ≤ w.heap.size) (hj : J w) (H : List UInt8) (hH : H.length = 16) (G : List UInt8) (hG : G.length = 16) (hno : ∀ X, J X → Calls Try.prog 42 #[.pointer p] X fun e w' => e = .returned (.bool true) ∧ Below X.heap.size X w') :
    Calls Try.prog 18 #[.pointer p, hv H, hv G] w (ScP J z16 1 w) := by
  have hb1 : Below w.heap.size w (((w.alloc (.cells (hl H).toArray 29)).alloc (.cells (hl G).toArray 29)).alloc (.cells (hl z16).toArray 29)) := (((bel1 w _).alloc (by simp) _).alloc (by simp; omega) _)
  have X4 : Aside ((((w.alloc (.cells (hl H).toArray 29)).alloc (.cells (hl G).toArray 29)).alloc (.cells (hl z16).toArray 29)).heap[w.heap.size]? = some (.cells (hl H).toArray 29 (0, 0))) := nth' (nth' (new' rfl))
  have X6 : Aside ((((w.alloc (.cells (hl H).toArray 29)).alloc (.cells (hl G).toArray 29)).alloc (.cells (hl z16).toArray 29)).heap[w.heap.size + 1 + 1]? = some (.cells (hl z16).toArray 29 (0, 0))) := new' (by simp)
  have HB : Aside (Below w.heap.size w (((w.alloc (.cells (hl H).toArray 29)).alloc (.cells (hl G).toArray 29)).alloc (.cells (hl z16).toArray 29))) := hb1
  have HJW : Aside (J (((w.alloc (.cells (hl H).toArray 29)).alloc (.cells (hl G).toArray 29)).alloc (.cells (hl z16).toArray 29))) := hJ.bel _ _ hj hb1
  have HK : Aside (Jk n₀ J) := hJ
  have HN : Aside (n₀ ≤ w.heap.size) := hn
  have HNO : Aside (∀ X, J X → Calls Try.prog 42 #[.pointer p] X fun e w' => e = .returned (.bool true) ∧ Below X.heap.size X w') := hno
  clear hb1 hj hJ hn hno
  go_enter Try.func18, Try.ntmps18
  go_wp2_with fail
  rw [hz28]
  generalize (((w.alloc (.cells (hl H).toArray 29)).alloc (.cells (hl G).toArray 29)).alloc (.cells (hl z16).toArray 29)) = Wa at *
  refine Calls.mono (HNO.out Wa HJW.out) ?_
  rintro e Wb ⟨rfl, hbr⟩
  have Y4 : Aside _ := heap_bel X4.out hbr
  have Y6 : Aside _ := heap_bel X6.out hbr
  have HB2 : Aside (Below w.heap.size w Wb) := HB.out.trans (hbr.mono HB.out.size)
  have HJ2 : Aside (J Wb) := HK.out.bel _ _ HJW.out hbr
  clear hbr X4 X6 HB HJW
  have Z6 : Aside _ := Y6.out
  have HB3 : Aside _ := HB2.out
  have HJ3 : Aside _ := HJ2.out
  clear Y4 Y6 HB2 HJ2
  have HR : Aside _ := setRow_heap Wb (w.heap.size + 1 + 1) _ (hl z16).toArray 29 (0, 0) Z6.out
  have HF : Aside (ScP J z16 1 w (.returned (.tuple #[hv z16, .int .i64 1])) (Wb.setRow (w.heap.size + 1 + 1) (hl z16).toArray)) := ⟨rfl, HK.out.set _ _ _ _ _ HJ3.out Z6.out (.inl rfl) (by have := HN.out; omega), Kc.of_bel (bel_set HB3.out (by omega) _)⟩
  go_wp2_with (refine st28 rfl (.tmp 6) (.tmp 12) rfl (w.heap.size + 1 + 1) z16 rfl hv_z z16 Z6.out rfl rfl ?_)
  refine bodyPost_ret (v := .tuple #[hv z16, .int .i64 1]) (res_h (fn := Try.f18) (p := 6) (u := 7) rfl _ _ (w.heap.size + 1 + 1) z16 rfl HR.out rfl) rfl ?_
  exact HF.out
set_option maxRecDepth 100000 in
set_option maxHeartbeats 400000 in
theorem hand_unk {w : World} {p : Option Addr} {n₀ : Nat} {J : World → Prop} (hJ : Jk n₀ J) (hn : n₀ ≤ w.heap.size) (hj : J w) (H : List UInt8) (hH : H.length = 16) (G : List UInt8) (hG : G.length = 16) (hno : ∀ X, J X → Calls Try.prog 42 #[.pointer p] X fun e w' => e = .returned (.bool false) ∧ Below X.heap.size X w') (hkn : ∀ X, J X → Calls Try.prog 43 #[.pointer p, hv H] X fun e w' => e = .returned (.bool false) ∧ Below X.heap.size X w') :
    Calls Try.prog 18 #[.pointer p, hv H, hv G] w (ScP J z16 15 w) := by
  have hb1 : Below w.heap.size w (((w.alloc (.cells (hl H).toArray 29)).alloc (.cells (hl G).toArray 29)).alloc (.cells (hl z16).toArray 29)) := (((bel1 w _).alloc (by simp) _).alloc (by simp; omega) _)
  have X4 : Aside ((((w.alloc (.cells (hl H).toArray 29)).alloc (.cells (hl G).toArray 29)).alloc (.cells (hl z16).toArray 29)).heap[w.heap.size]? = some (.cells (hl H).toArray 29 (0, 0))) := nth' (nth' (new' rfl))
  have X6 : Aside ((((w.alloc (.cells (hl H).toArray 29)).alloc (.cells (hl G).toArray 29)).alloc (.cells (hl z16).toArray 29)).heap[w.heap.size + 1 + 1]? = some (.cells (hl z16).toArray 29 (0, 0))) := new' (by simp)
  have HB : Aside (Below w.heap.size w (((w.alloc (.cells (hl H).toArray 29)).alloc (.cells (hl G).toArray 29)).alloc (.cells (hl z16).toArray 29))) := hb1
  have HJW : Aside (J (((w.alloc (.cells (hl H).toArray 29)).alloc (.cells (hl G).toArray 29)).alloc (.cells (hl z16).toArray 29))) := hJ.bel _ _ hj hb1
  have HK : Aside (Jk n₀ J) := hJ
  have HN : Aside (n₀ ≤ w.heap.size) := hn
  have HNO : Aside (∀ X, J X → Calls Try.prog 42 #[.pointer p] X fun e w' => e = .returned (.bool false) ∧ Below X.heap.size X w') := hno
  have HKN : Aside (∀ X, J X → Calls Try.prog 43 #[.pointer p, hv H] X fun e w' => e = .returned (.bool false) ∧ Below X.heap.size X w') := hkn
  clear hkn
  clear hb1 hj hJ hn hno
  go_enter Try.func18, Try.ntmps18
  go_wp2_with fail
  rw [hz28]
  generalize (((w.alloc (.cells (hl H).toArray 29)).alloc (.cells (hl G).toArray 29)).alloc (.cells (hl z16).toArray 29)) = Wa at *
  refine Calls.mono (HNO.out Wa HJW.out) ?_
  rintro e Wb ⟨rfl, hbr⟩
  have Y4 : Aside _ := heap_bel X4.out hbr
  have Y6 : Aside _ := heap_bel X6.out hbr
  have HB2 : Aside (Below w.heap.size w Wb) := HB.out.trans (hbr.mono HB.out.size)
  have HJ2 : Aside (J Wb) := HK.out.bel _ _ HJW.out hbr
  clear hbr X4 X6 HB HJW
  go_wp2_with (refine ld28 rfl (.tmp 4) rfl w.heap.size rfl H Y4.out hH ?_)
  refine Calls.mono (HKN.out Wb HJ2.out) ?_
  rintro e Wc ⟨rfl, hbr⟩
  have Z6 : Aside _ := heap_bel Y6.out hbr
  have HB3 : Aside (Below w.heap.size w Wc) := HB2.out.trans (hbr.mono HB2.out.size)
  have HJ3 : Aside (J Wc) := HK.out.bel _ _ HJ2.out hbr
  clear hbr Y4 Y6 HB2 HJ2
  have HR : Aside _ := setRow_heap Wc (w.heap.size + 1 + 1) _ (hl z16).toArray 29 (0, 0) Z6.out
  have HF : Aside (ScP J z16 15 w (.returned (.tuple #[hv z16, .int .i64 15])) (Wc.setRow (w.heap.size + 1 + 1) (hl z16).toArray)) := ⟨rfl, HK.out.set _ _ _ _ _ HJ3.out Z6.out (.inl rfl) (by have := HN.out; omega), Kc.of_bel (bel_set HB3.out (by omega) _)⟩
  go_wp2_with (refine st28 rfl (.tmp 6) (.tmp 18) rfl (w.heap.size + 1 + 1) z16 rfl hv_z z16 Z6.out rfl rfl ?_)
  refine bodyPost_ret (v := .tuple #[hv z16, .int .i64 15]) (res_h (fn := Try.f18) (p := 6) (u := 7) rfl _ _ (w.heap.size + 1 + 1) z16 rfl HR.out rfl) rfl ?_
  exact HF.out
set_option maxRecDepth 100000 in
set_option maxHeartbeats 1000000 in
theorem traffic_g {w : World} {p : Option Addr} {n₀ : Nat} {J J1 J2 : World → Prop} {H1 H2 : List UInt8} {E1 E2 : Int} (hJ : Jk n₀ J) (hJ1 : Jk n₀ J1) (hJ2 : Jk n₀ J2) (hn : n₀ ≤ w.heap.size) (hj : J w) (hH1 : H1.length = 16) (hH2 : H2.length = 16) (H : List UInt8) (hH : H.length = 16) (G : List UInt8) (hG : G.length = 16) (S : ByteArray) (hd1 : Dc p J H S G H1 E1 J1) :
    Calls Try.prog 20 #[.pointer p, hv H, .string S, hv G] w (ScP J1 H1 E1 w) := by
  have hb1 : Below w.heap.size w (((w.alloc (.cells (hl H).toArray 29)).alloc (.cells (hl G).toArray 29)).alloc (.cells (hl z16).toArray 29)) := (((bel1 w _).alloc (by simp) _).alloc (by simp; omega) _)
  have X5 : Aside ((((w.alloc (.cells (hl H).toArray 29)).alloc (.cells (hl G).toArray 29)).alloc (.cells (hl z16).toArray 29)).heap[w.heap.size]? = some (.cells (hl H).toArray 29 (0, 0))) := nth' (nth' (new' rfl))
  have X7 : Aside ((((w.alloc (.cells (hl H).toArray 29)).alloc (.cells (hl G).toArray 29)).alloc (.cells (hl z16).toArray 29)).heap[w.heap.size + 1]? = some (.cells (hl G).toArray 29 (0, 0))) := nth' (new' (by simp))
  have X8 : Aside ((((w.alloc (.cells (hl H).toArray 29)).alloc (.cells (hl G).toArray 29)).alloc (.cells (hl z16).toArray 29)).heap[w.heap.size + 1 + 1]? = some (.cells (hl z16).toArray 29 (0, 0))) := new' (by simp)
  have HB : Aside (Below w.heap.size w (((w.alloc (.cells (hl H).toArray 29)).alloc (.cells (hl G).toArray 29)).alloc (.cells (hl z16).toArray 29))) := hb1
  have HJW : Aside (J (((w.alloc (.cells (hl H).toArray 29)).alloc (.cells (hl G).toArray 29)).alloc (.cells (hl z16).toArray 29))) := hJ.bel _ _ hj hb1
  have HSZ : Aside (w.heap.size + 1 + 1 < (((w.alloc (.cells (hl H).toArray 29)).alloc (.cells (hl G).toArray 29)).alloc (.cells (hl z16).toArray 29)).heap.size) := by show _ < _; simp
  have HN : Aside (n₀ ≤ w.heap.size) := hn
  have HK : Aside (Jk n₀ J) := hJ
  have HK1 : Aside (Jk n₀ J1) := hJ1
  have HK2 : Aside (Jk n₀ J2) := hJ2
  have HD1 : Aside (Dc p J H S G H1 E1 J1) := hd1
  clear hb1 hj hJ hJ1 hJ2 hd1 hn
  go_enter Try.func20, Try.ntmps20
  have mixed : Try.prog.follows Departure.mixedOrders = true := by kernel_rfl
  go_wp2_with fail
  rw [hz28]
  generalize (((w.alloc (.cells (hl H).toArray 29)).alloc (.cells (hl G).toArray 29)).alloc (.cells (hl z16).toArray 29)) = W1 at *
  have m29 : (Try.prog.info? 29).map (·.size) = some (hl H).length := hi28.trans (by simp [hH])
  have HBD : Aside (Below W1.heap.size W1 W1.drew) := bel_drew W1
  refine wp_region_held_drew (S := fun X => X.rangeAt w.heap.size 0 (hl H)) (by kernel_rfl) (range_of' (w := W1.drew) X5.out) (fun hHeld => ?_)
  refine wpAnyH_take (i := 0) (v := .pointer p) rfl (by kernel_rfl) (by kernel_rfl) (by kernel_rfl) (fun _ _ _ h => h) (Or.inl ⟨by rfl, by intro w hs; go_simp⟩) hHeld ?_
  refine norm_any' (fun K hK => ?_)
  go_simp
  refine hK _ _ ?_
  clear hK K
  refine wpAnyH_take (i := 1) (v := hv H) rfl (by kernel_rfl) (by kernel_rfl) (by kernel_rfl) (fun _ _ _ h => h) (yieldsIf_load_mid (by rfl) 29 _ rfl w.heap.size 0 rfl (hl H) _ (fun X h => h) hu28 rfl m29) hHeld ?_
  refine norm_any' (fun K hK => ?_)
  go_simp
  refine hK _ _ ?_
  clear hK K
  refine wpAnyH_take (i := 3) (v := .string S) rfl (by kernel_rfl) (by kernel_rfl) (by kernel_rfl) (fun _ _ _ h => h) (Or.inl ⟨by rfl, by intro w hs; go_simp⟩) hHeld ?_
  refine norm_any' (fun K hK => ?_)
  go_simp
  refine hK _ _ ?_
  clear hK K
  refine wpAnyH_take (i := 4) (v := .slice (some ⟨w.heap.size + 1, 0, none⟩) 16 16) rfl (by kernel_rfl) (by kernel_rfl) (by kernel_rfl) (fun _ _ _ h => h) (Or.inl ⟨by rfl, by intro w hs; go_simp⟩) hHeld ?_
  refine norm_any' (fun K hK => ?_)
  go_simp
  refine hK _ _ ?_
  clear hK K
  refine wpAnyH_ready (rs := [2, 5]) (by kernel_rfl) (by simp) (AllReadyH.cons rfl (fun K hK => ?_) (AllReadyH.cons rfl (fun K hK => ?_) AllReadyH.nil))
  · skip
    go_simp
    refine Calls.mono (from_c p H hH W1.drew) ?_
    rintro e W2 ⟨rfl, hcl, hb⟩
    have hb' : Below W1.heap.size W1 W2 := HBD.out.trans (hb.mono HBD.out.size)
    have Y5 : Aside (W2.heap[w.heap.size]? = some (.cells (hl H).toArray 29 (0, 0))) := heap_bel X5.out hb'
    have Y7 : Aside (W2.heap[w.heap.size + 1]? = some (.cells (hl G).toArray 29 (0, 0))) := heap_bel X7.out hb'
    have Y8 : Aside (W2.heap[w.heap.size + 1 + 1]? = some (.cells (hl z16).toArray 29 (0, 0))) := heap_bel X8.out hb'
    have HJ2 : Aside (J W2) := HK.out.bel _ _ HJW.out hb'
    have HB2 : Aside (Below w.heap.size w W2) := HB.out.trans (hb'.mono HB.out.size)
    have HCL : Aside (Cl W2 W1.drew.heap.size p H 0) := hcl
    have HN1 : Aside (w.heap.size ≤ W1.drew.heap.size) := HB.out.size
    have HSZ2 : Aside (w.heap.size + 1 + 1 < W1.drew.heap.size) := HSZ.out
    clear hcl hb hb'
    refine hK.out _ _ (range_of' Y5.out) (fun hHeld => ?_)
    clear hK K
    refine norm_any' (fun K hK => ?_)
    go_simp
    refine hK _ _ ?_
    clear hK K
    refine wpAnyH_ready (rs := [5]) (by kernel_rfl) (by simp) (AllReadyH.cons rfl (fun K hK => ?_) AllReadyH.nil)
    go_simp
    have HCa : Aside (Cl (W2.alloc (.cells #[.slice (some ⟨w.heap.size + 1, 0, none⟩) G.length 16] 33)) W1.drew.heap.size p H 0) := Cl.bel HCL.out (bel1 _ _)
    have HJa : Aside (J (W2.alloc (.cells #[.slice (some ⟨w.heap.size + 1, 0, none⟩) G.length 16] 33))) := HK.out.bel _ _ HJ2.out (bel1 _ _)
    have HBa : Aside (Below w.heap.size w (W2.alloc (.cells #[.slice (some ⟨w.heap.size + 1, 0, none⟩) G.length 16] 33))) := HB2.out.trans ((bel1 _ _).mono HB2.out.size)
    have HJn : Aside (∀ X, Below (W2.alloc (.cells #[.slice (some ⟨w.heap.size + 1, 0, none⟩) G.length 16] 33)).heap.size (W2.alloc (.cells #[.slice (some ⟨w.heap.size + 1, 0, none⟩) G.length 16] 33)) X → Calls Try.prog 56 #[.slice (some ⟨W2.heap.size, 0, none⟩) 1 1] X (JnP G X)) := fun X hX => jn_one (heap_alloc_new W2 _) (Sl.bel (sl_box Y7.out) (bel1 _ _)) (by rw [hG]; omega) hX
    rw [hG] at HCa HJa HJn HBa
    have V5 : Aside ((W2.alloc (.cells #[.slice (some ⟨w.heap.size + 1, 0, none⟩) 16 16] 33)).heap[w.heap.size]? = some (.cells (hl H).toArray 29 (0, 0))) := heap_bel Y5.out (bel1 _ _)
    have V8 : Aside ((W2.alloc (.cells #[.slice (some ⟨w.heap.size + 1, 0, none⟩) 16 16] 33)).heap[w.heap.size + 1 + 1]? = some (.cells (hl z16).toArray 29 (0, 0))) := heap_bel Y8.out (bel1 _ _)
    refine hK.out _ _ (range_of' V5.out) (fun hHeld => ?_)
    clear hK K
    refine norm_any' (fun K hK => ?_)
    go_simp
    refine hK _ _ ?_
    clear hK K
    refine wpAnyH_ready (rs := [6]) (by kernel_rfl) (by simp) (AllReadyH.cons rfl (fun K hK => ?_) AllReadyH.nil)
    go_simp
    refine Calls.mono (next_c HK.out HK1.out (Nat.le_trans HN.out HN1.out) HCa.out hH hH1 HJa.out S (some ⟨W2.heap.size, 0, none⟩) 1 1 G HJn.out HD1.out) ?_
    rintro e Z0 ⟨rfl, hc4, hj4, hk4⟩
    have HJz : Aside (J1 Z0) := hj4
    have HKf : Aside (Kf W1.drew.heap.size (W2.alloc (.cells #[.slice (some ⟨w.heap.size + 1, 0, none⟩) 16 16] 33)) Z0) := hk4
    have Z05 : Aside _ := HKf.out w.heap.size _ _ _ (by have := HSZ2.out; omega) (by have := HSZ2.out; omega) V5.out (by decide) (by decide)
    have Z08 : Aside _ := HKf.out (w.heap.size + 1 + 1) _ _ _ (by have := HSZ2.out; omega) (by have := HSZ2.out; omega) V8.out (by decide) (by decide)
    have HKq : Aside (Kc w Z0) := Kf.kc (Kc.of_bel HBa.out) HKf.out HN1.out
    clear hc4 hj4 hk4 HCa HJa HJn
    refine hK.out _ _ (range_of' Z05.out) (fun hHeld => ?_)
    clear hK K
    refine norm_any' (fun K hK => ?_)
    go_simp
    refine hK _ _ ?_
    clear hK K
    refine wpAnyH_take (i := 7) (v := hv H1) rfl (by kernel_rfl) (by kernel_rfl) (by kernel_rfl) (fun _ _ _ h => h) (Or.inl ⟨by rfl, by intro w hs; go_simp⟩) hHeld ?_
    refine norm_any' (fun K hK => ?_)
    go_simp
    refine hK _ _ ?_
    clear hK K
    refine wpAnyH_take (i := 8) (v := .int .i64 E1) rfl (by kernel_rfl) (by kernel_rfl) (by kernel_rfl) (fun _ _ _ h => h) (Or.inl ⟨by rfl, by intro w hs; go_simp⟩) hHeld ?_
    refine norm_any' (fun K hK => ?_)
    go_simp
    refine hK _ _ ?_
    clear hK K
    refine wpAnyH_ready (rs := [9]) (by kernel_rfl) (by simp) (AllReadyH.cons rfl (fun K hK => ?_) AllReadyH.nil)
    rw [if_pos (by rfl)]
    have HR : Aside _ := setRow_heap Z0 (w.heap.size + 1 + 1) _ (hl H1).toArray 29 (0, 0) Z08.out
    have HF : Aside (ScP J1 H1 E1 w (.returned (.tuple #[hv H1, .int .i64 E1])) (Z0.setRow (w.heap.size + 1 + 1) (hl H1).toArray)) := ⟨rfl, HK1.out.set _ _ _ _ _ HJz.out Z08.out (.inl rfl) (by have := HN.out; omega), HKq.out.set (by omega) _⟩
    have R5 : Aside ((Z0.setRow (w.heap.size + 1 + 1) (hl H1).toArray).heap[w.heap.size]? = some (.cells (hl H).toArray 29 (0, 0))) := (setRow_other _ _ _ _ (by omega)).trans Z05.out
    refine wp_store_row 29 _ _ rfl (w.heap.size + 1 + 1) (hl H1).toArray (by rfl) (by rfl) 29 _ Z08.out (hi28.trans (by simp [hH1])) (by simp [hH1, z16_len]) (hl_one H1) ?_
    refine hK.out _ _ (range_of' R5.out) (fun hHeld => ?_)
    clear hK K
    refine norm_any' (fun K hK => ?_)
    go_simp
    refine hK _ _ ?_
    clear hK K
    refine wpAnyH_take (i := 10) (v := .int .i64 E1) rfl (by kernel_rfl) (by kernel_rfl) (by kernel_rfl) (fun _ _ _ h => h) (Or.inl ⟨by rfl, by intro w hs; go_simp⟩) hHeld ?_
    refine norm_any' (fun K hK => ?_)
    go_simp
    refine hK _ _ ?_
    clear hK K
    refine wpAnyH_done (by kernel_rfl) ?_ _
    clear hHeld
    go_wp2_with fail
    refine bodyPost_ret (v := .tuple #[hv H1, .int .i64 E1]) (res_h (fn := Try.f20) (p := 8) (u := 9) rfl _ _ (w.heap.size + 1 + 1) H1 rfl HR.out hH1) rfl ?_
    exact HF.out
  · skip
    go_simp
    have hba : Below W1.heap.size W1 (W1.drew.alloc (.cells #[.slice (some ⟨w.heap.size + 1, 0, none⟩) G.length 16] 33)) := HBD.out.trans ((bel1 _ _).mono HBD.out.size)
    have Y5 : Aside ((W1.drew.alloc (.cells #[.slice (some ⟨w.heap.size + 1, 0, none⟩) 16 16] 33)).heap[w.heap.size]? = some (.cells (hl H).toArray 29 (0, 0))) := by rw [hG] at hba; exact heap_bel X5.out hba
    refine hK.out _ _ (range_of' Y5.out) (fun hHeld => ?_)
    clear hK K
    refine norm_any' (fun K hK => ?_)
    go_simp
    refine hK _ _ ?_
    clear hK K
    refine wpAnyH_ready (rs := [2]) (by kernel_rfl) (by simp) (AllReadyH.cons rfl (fun K hK => ?_) AllReadyH.nil)
    go_simp
    refine Calls.mono (from_c p H hH (W1.drew.alloc (.cells #[.slice (some ⟨w.heap.size + 1, 0, none⟩) 16 16] 33))) ?_
    rintro e W2 ⟨rfl, hcl, hb⟩
    have hb0 := hba
    rw [hG] at hb0
    have hb' : Below W1.heap.size W1 W2 := hb0.trans (hb.mono hb0.size)
    have V5 : Aside (W2.heap[w.heap.size]? = some (.cells (hl H).toArray 29 (0, 0))) := heap_bel X5.out hb'
    have V8 : Aside (W2.heap[w.heap.size + 1 + 1]? = some (.cells (hl z16).toArray 29 (0, 0))) := heap_bel X8.out hb'
    have HJa : Aside (J W2) := HK.out.bel _ _ HJW.out hb'
    have HBa : Aside (Below w.heap.size w W2) := HB.out.trans (hb'.mono HB.out.size)
    have HCa : Aside (Cl W2 (W1.drew.heap.size + 1) p H 0) := by have := hcl; rw [World.size_alloc] at this; exact this
    have HN1 : Aside (w.heap.size ≤ W1.drew.heap.size + 1) := Nat.le_succ_of_le HB.out.size
    have HSZ2 : Aside (w.heap.size + 1 + 1 < W1.drew.heap.size + 1) := Nat.lt_succ_of_lt HSZ.out
    have HJn : Aside (∀ X, Below W2.heap.size W2 X → Calls Try.prog 56 #[.slice (some ⟨W1.drew.heap.size, 0, none⟩) 1 1] X (JnP G X)) := fun X hX => by
      have hs := sl_box (heap_bel X7.out hb')
      have hc := heap_bel (heap_alloc_new W1.drew (.cells #[.slice (some ⟨w.heap.size + 1, 0, none⟩) G.length 16] 33)) (by rw [hG]; exact hb)
      exact jn_one hc hs (by rw [hG]; omega) hX
    clear hcl hb hb' hb0
    refine hK.out _ _ (range_of' V5.out) (fun hHeld => ?_)
    clear hK K
    refine norm_any' (fun K hK => ?_)
    go_simp
    refine hK _ _ ?_
    clear hK K
    refine wpAnyH_ready (rs := [6]) (by kernel_rfl) (by simp) (AllReadyH.cons rfl (fun K hK => ?_) AllReadyH.nil)
    go_simp
    refine Calls.mono (next_c HK.out HK1.out (Nat.le_trans HN.out HN1.out) HCa.out hH hH1 HJa.out S (some ⟨W1.drew.heap.size, 0, none⟩) 1 1 G HJn.out HD1.out) ?_
    rintro e Z0 ⟨rfl, hc4, hj4, hk4⟩
    have HJz : Aside (J1 Z0) := hj4
    have HKf : Aside (Kf (W1.drew.heap.size + 1) W2 Z0) := hk4
    have Z05 : Aside _ := HKf.out w.heap.size _ _ _ (by have := HSZ2.out; omega) (by have := HSZ2.out; omega) V5.out (by decide) (by decide)
    have Z08 : Aside _ := HKf.out (w.heap.size + 1 + 1) _ _ _ (by have := HSZ2.out; omega) (by have := HSZ2.out; omega) V8.out (by decide) (by decide)
    have HKq : Aside (Kc w Z0) := Kf.kc (Kc.of_bel HBa.out) HKf.out HN1.out
    clear hc4 hj4 hk4 HCa HJa HJn
    refine hK.out _ _ (range_of' Z05.out) (fun hHeld => ?_)
    clear hK K
    refine norm_any' (fun K hK => ?_)
    go_simp
    refine hK _ _ ?_
    clear hK K
    refine wpAnyH_take (i := 7) (v := hv H1) rfl (by kernel_rfl) (by kernel_rfl) (by kernel_rfl) (fun _ _ _ h => h) (Or.inl ⟨by rfl, by intro w hs; go_simp⟩) hHeld ?_
    refine norm_any' (fun K hK => ?_)
    go_simp
    refine hK _ _ ?_
    clear hK K
    refine wpAnyH_take (i := 8) (v := .int .i64 E1) rfl (by kernel_rfl) (by kernel_rfl) (by kernel_rfl) (fun _ _ _ h => h) (Or.inl ⟨by rfl, by intro w hs; go_simp⟩) hHeld ?_
    refine norm_any' (fun K hK => ?_)
    go_simp
    refine hK _ _ ?_
    clear hK K
    refine wpAnyH_ready (rs := [9]) (by kernel_rfl) (by simp) (AllReadyH.cons rfl (fun K hK => ?_) AllReadyH.nil)
    rw [if_pos (by rfl)]
    have HR : Aside _ := setRow_heap Z0 (w.heap.size + 1 + 1) _ (hl H1).toArray 29 (0, 0) Z08.out
    have HF : Aside (ScP J1 H1 E1 w (.returned (.tuple #[hv H1, .int .i64 E1])) (Z0.setRow (w.heap.size + 1 + 1) (hl H1).toArray)) := ⟨rfl, HK1.out.set _ _ _ _ _ HJz.out Z08.out (.inl rfl) (by have := HN.out; omega), HKq.out.set (by omega) _⟩
    have R5 : Aside ((Z0.setRow (w.heap.size + 1 + 1) (hl H1).toArray).heap[w.heap.size]? = some (.cells (hl H).toArray 29 (0, 0))) := (setRow_other _ _ _ _ (by omega)).trans Z05.out
    refine wp_store_row 29 _ _ rfl (w.heap.size + 1 + 1) (hl H1).toArray (by rfl) (by rfl) 29 _ Z08.out (hi28.trans (by simp [hH1])) (by simp [hH1, z16_len]) (hl_one H1) ?_
    refine hK.out _ _ (range_of' R5.out) (fun hHeld => ?_)
    clear hK K
    refine norm_any' (fun K hK => ?_)
    go_simp
    refine hK _ _ ?_
    clear hK K
    refine wpAnyH_take (i := 10) (v := .int .i64 E1) rfl (by kernel_rfl) (by kernel_rfl) (by kernel_rfl) (fun _ _ _ h => h) (Or.inl ⟨by rfl, by intro w hs; go_simp⟩) hHeld ?_
    refine norm_any' (fun K hK => ?_)
    go_simp
    refine hK _ _ ?_
    clear hK K
    refine wpAnyH_done (by kernel_rfl) ?_ _
    clear hHeld
    go_wp2_with fail
    refine bodyPost_ret (v := .tuple #[hv H1, .int .i64 E1]) (res_h (fn := Try.f20) (p := 8) (u := 9) rfl _ _ (w.heap.size + 1 + 1) H1 rfl HR.out hH1) rfl ?_
    exact HF.out
end Go.Proofs.Ytpjoaimbaboleaa
