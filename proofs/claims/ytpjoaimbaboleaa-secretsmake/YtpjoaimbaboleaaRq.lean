/- The reference of secrets: what each call answers, whatever its Derive does. -/
import Derived.Test.YtpjoaimbaboleaaDv
namespace Go.Proofs.Ytpjoaimbaboleaa
open Go.RowKit Go.Shelf Go.Lib
set_option linter.unusedVariables false

/-- What is kept by boxes of the reference's handles. -/
structure Jr (n₀ : Nat) (J : World → Prop) : Prop where
  bel : ∀ X X', J X → Below X.heap.size X X' → J X'
  set : ∀ X B cs ds, J X → X.heap[B]? = some (.cells cs 28 (0, 0)) → n₀ ≤ B → J (X.setRow B ds)
/-- How the reference's Derive answers. -/
def Rc (R : Nat) (J : World → Prop) (H : List UInt8) (S : ByteArray) (l : List UInt8) (H' : List UInt8) (E' : Int) (J' : World → Prop) : Prop :=
  ∀ X o c, J X → Sl X o l → Calls Try.prog 51 #[.pointer (some ⟨R, 0, none⟩), hv H, .string S, .slice o l.length c] X fun e w' => e = .returned (.tuple #[hv H', .int .i64 E']) ∧ J' w' ∧ Kz X w'
def Rc2 (R : Nat) (J1 : World → Prop) (H1 : List UInt8) (E1 : Int) (S : ByteArray) (l : List UInt8) (H2 : List UInt8) (E2 : Int) (J2 : World → Prop) : Prop := (E1 = 0 ∧ Rc R J1 H1 S l H2 E2 J2) ∨ (E1 ≠ 0 ∧ H2 = z16 ∧ E2 = E1 ∧ J2 = J1)
/-- How a call ends. -/
def RqP (J' : World → Prop) (H' : List UInt8) (E' : Int) (w : World) (e : Ending) (w' : World) : Prop := e = .returned (.tuple #[hv H', .int .i64 E']) ∧ J' w' ∧ Kz w w'
theorem sl_boxr {w : World} {B : Nat} {H : List UInt8} (h : w.heap[B]? = some (.cells (hl H).toArray 28 (0, 0))) : Sl w (some ⟨B, 0, none⟩) H := fun j hj => by
  refine ⟨B, 0, rfl, ?_⟩
  have e := hl_get hj
  simp only [World.cell?, h, Nat.zero_add]
  simpa using e
theorem range_r {w : World} {g : Nat} {Z : List Value} (hg : w.heap[g]? = some (.cells Z.toArray 28 (0, 0))) : w.rangeAt g 0 Z := by
  intro j v hv
  simp only [World.cell?, hg, Nat.zero_add]
  simpa using hv
theorem eqzr {H : List UInt8} (hH : H.length = 16) {b : Bool} (hb : (H == z16) = b) : ∀ X, (Op.equalIn 10000 28 (.agg (hl H).toArray) (.agg #[.int .u8 0, .int .u8 0, .int .u8 0, .int .u8 0, .int .u8 0, .int .u8 0, .int .u8 0, .int .u8 0, .int .u8 0, .int .u8 0, .int .u8 0, .int .u8 0, .int .u8 0, .int .u8 0, .int .u8 0, .int .u8 0])).run Try.prog X = .ok b X := fun X => by
  have := equalIn_h 28 hu28r 9998 H z16 hH rfl X
  rw [hb] at this
  exact this

set_option maxRecDepth 100000 in
set_option maxHeartbeats 1000000 in
theorem rtwo_g {w : World} {R : Nat} {n₀ : Nat} {J J1 J2 : World → Prop} {H1 H2 : List UInt8} {E1 E2 : Int} (hJ : Jr n₀ J) (hJ1 : Jr n₀ J1) (hJ2 : Jr n₀ J2) (hn : n₀ ≤ w.heap.size) (hj : J w) (hH1 : H1.length = 16) (hH2 : H2.length = 16) (H : List UInt8) (hH : H.length = 16) (S1 S2 : ByteArray) (o1 o2 : Option Addr) (c1 c2 : Nat) (l1 l2 : List UInt8) (hS1 : Sl w o1 l1) (hS2 : ∀ X, J1 X → Kz w X → Sl X o2 l2) (hd1 : Rc R J H S1 l1 H1 E1 J1) (hd2 : Rc2 R J1 H1 E1 S2 l2 H2 E2 J2) :
    Calls Try.prog 53 #[.pointer (some ⟨R, 0, none⟩), hv H, .string S1, .slice o1 l1.length c1, .string S2, .slice o2 l2.length c2] w (RqP J2 H2 E2 w) := by
  have hb1 : Below w.heap.size w ((w.alloc (.cells (hl H).toArray 28)).alloc (.cells (hl z16).toArray 28)) := ((bel1 w _).alloc (by simp) _)
  have X7 : Aside (((w.alloc (.cells (hl H).toArray 28)).alloc (.cells (hl z16).toArray 28)).heap[w.heap.size]? = some (.cells (hl H).toArray 28 (0, 0))) := nth' (new' rfl)
  have X12 : Aside (((w.alloc (.cells (hl H).toArray 28)).alloc (.cells (hl z16).toArray 28)).heap[w.heap.size + 1]? = some (.cells (hl z16).toArray 28 (0, 0))) := new' (by simp)
  have HB : Aside (Below w.heap.size w ((w.alloc (.cells (hl H).toArray 28)).alloc (.cells (hl z16).toArray 28))) := hb1
  have HJW : Aside (J ((w.alloc (.cells (hl H).toArray 28)).alloc (.cells (hl z16).toArray 28))) := hJ.bel _ _ hj hb1
  have HN : Aside (n₀ ≤ w.heap.size) := hn
  have HK : Aside (Jr n₀ J) := hJ
  have HK1 : Aside (Jr n₀ J1) := hJ1
  have HK2 : Aside (Jr n₀ J2) := hJ2
  have HD1 : Aside (Calls Try.prog 51 #[.pointer (some ⟨R, 0, none⟩), hv H, .string S1, .slice o1 l1.length c1] ((w.alloc (.cells (hl H).toArray 28)).alloc (.cells (hl z16).toArray 28)) fun e w' => e = .returned (.tuple #[hv H1, .int .i64 E1]) ∧ J1 w' ∧ Kz ((w.alloc (.cells (hl H).toArray 28)).alloc (.cells (hl z16).toArray 28)) w') := hd1 _ _ _ HJW.out (hS1.bel hb1)
  have HS2 : Aside (∀ X, J1 X → Kz w X → Sl X o2 l2) := hS2
  clear hb1 hj hJ hJ1 hJ2 hn hd1 hS1 hS2
  rcases hd2 with ⟨h0, hd2⟩ | ⟨h0, rfl, rfl, rfl⟩
  · subst h0
    have HD2 : Aside (Rc R J1 H1 S2 l2 H2 E2 J2) := hd2
    clear hd2
    go_enter Try.func53, Try.ntmps53
    go_wp2_with (refine ldr rfl (.tmp 7) rfl w.heap.size rfl H X7.out hH ?_)
    rw [hz28r]
    generalize ((w.alloc (.cells (hl H).toArray 28)).alloc (.cells (hl z16).toArray 28)) = W1 at *
    refine Calls.mono HD1.out ?_
    rintro e W2 ⟨rfl, hj1, hk1⟩
    have Y12 : Aside _ := hk1 _ _ _ _ X12.out (by decide) (by decide)
    have HJ1 : Aside (J1 W2) := hj1
    have HZ1 : Aside (Kz w W2) := (Kz.of_bel HB.out).trans hk1
    clear hj1 hk1 HD1 X12 X7
    go_wp2_with (refine str rfl (.tmp 14) (.tmp 22) rfl W2.heap.size H1 rfl rfl z16 (heap_alloc_new W2 _) hH1 rfl (Hid.out ?_))
    rw [hz28r]
    have HBn := (nboxr W2 z16 H1).2
    have X14 : Aside _ := (nboxr W2 z16 H1).1
    have Z12 : Aside _ := heap_bel Y12.out HBn
    have HJ3 : Aside (J1 ((W2.alloc (.cells (hl z16).toArray 28)).setRow W2.heap.size (hl H1).toArray)) := HK1.out.bel _ _ HJ1.out HBn
    have HZ3 : Aside (Kz w ((W2.alloc (.cells (hl z16).toArray 28)).setRow W2.heap.size (hl H1).toArray)) := HZ1.out.trans (Kz.of_bel HBn)
    clear HBn Y12 HJ1 HZ1
    generalize (W2.alloc (.cells (hl z16).toArray 28)).setRow W2.heap.size (hl H1).toArray = W3 at *
    generalize W2.heap.size = D14 at *
    refine mkHid ?_
    go_wp2_with (refine ldr rfl (.tmp 14) rfl D14 rfl H1 X14.out hH1 ?_)
    refine Calls.mono (HD2.out W3 o2 c2 HJ3.out (HS2.out W3 HJ3.out HZ3.out)) ?_
    rintro e W4 ⟨rfl, hj2, hk2⟩
    have V12 : Aside _ := hk2 _ _ _ _ Z12.out (by decide) (by decide)
    have HJ4 : Aside (J2 W4) := hj2
    have HZ4 : Aside (Kz w W4) := HZ3.out.trans hk2
    clear hj2 hk2 HD2
    have HR : Aside _ := setRow_heap W4 (w.heap.size + 1) _ (hl H2).toArray 28 (0, 0) V12.out
    have HF : Aside (RqP J2 H2 E2 w (.returned (.tuple #[hv H2, .int .i64 E2])) (W4.setRow (w.heap.size + 1) (hl H2).toArray)) := ⟨rfl, HK2.out.set _ _ _ _ HJ4.out V12.out (by have := HN.out; omega), HZ4.out.set (by omega) _⟩
    go_wp2_with (refine str rfl (.tmp 12) (.tmp 33) rfl (w.heap.size + 1) H2 rfl rfl z16 V12.out hH2 rfl ?_)
    refine bodyPost_ret (v := .tuple #[hv H2, .int .i64 E2]) (res_r2 (fn := Try.f53) (p := 12) (u := 13) rfl _ _ (w.heap.size + 1) H2 rfl HR.out hH2) rfl ?_
    exact HF.out
  · go_enter Try.func53, Try.ntmps53
    go_wp2_with (refine ldr rfl (.tmp 7) rfl w.heap.size rfl H X7.out hH ?_)
    rw [hz28r]
    generalize ((w.alloc (.cells (hl H).toArray 28)).alloc (.cells (hl z16).toArray 28)) = W1 at *
    refine Calls.mono HD1.out ?_
    rintro e W2 ⟨rfl, hj1, hk1⟩
    have Y12 : Aside _ := hk1 _ _ _ _ X12.out (by decide) (by decide)
    have HJ1 : Aside (J2 W2) := hj1
    have HZ1 : Aside (Kz w W2) := (Kz.of_bel HB.out).trans hk1
    clear hj1 hk1 HD1 X12 X7
    go_wp2_with (refine str rfl (.tmp 14) (.tmp 22) rfl W2.heap.size H1 rfl rfl z16 (heap_alloc_new W2 _) hH1 rfl (Hid.out ?_))
    rw [hz28r]
    have HBn := (nboxr W2 z16 H1).2
    have Z12 : Aside _ := heap_bel Y12.out HBn
    have HJ3 : Aside (J2 ((W2.alloc (.cells (hl z16).toArray 28)).setRow W2.heap.size (hl H1).toArray)) := HK1.out.bel _ _ HJ1.out HBn
    have HZ3 : Aside (Kz w ((W2.alloc (.cells (hl z16).toArray 28)).setRow W2.heap.size (hl H1).toArray)) := HZ1.out.trans (Kz.of_bel HBn)
    clear HBn Y12 HJ1 HZ1
    generalize (W2.alloc (.cells (hl z16).toArray 28)).setRow W2.heap.size (hl H1).toArray = W3 at *
    generalize W2.heap.size = D14 at *
    have q1 : (E2 == 0) = false := by simpa using h0
    have q2 : decide (E2 = 0) = false := by simpa using h0
    have q3 : (E2 != 0) = true := by simpa using h0
    have HR : Aside _ := setRow_heap W3 (w.heap.size + 1) _ (hl z16).toArray 28 (0, 0) Z12.out
    have HF : Aside (RqP J2 z16 E2 w (.returned (.tuple #[hv z16, .int .i64 E2])) (W3.setRow (w.heap.size + 1) (hl z16).toArray)) := ⟨rfl, HK2.out.set _ _ _ _ HJ3.out Z12.out (by have := HN.out; omega), HZ3.out.set (by omega) _⟩
    refine mkHid ?_
    go_wp2_with (refine str rfl (.tmp 12) (.tmp 26) rfl (w.heap.size + 1) z16 rfl hv_z z16 Z12.out rfl rfl ?_)
    refine bodyPost_ret (v := .tuple #[hv z16, .int .i64 E2]) (res_r2 (fn := Try.f53) (p := 12) (u := 13) rfl _ _ (w.heap.size + 1) z16 rfl HR.out rfl) rfl ?_
    exact HF.out
set_option maxRecDepth 100000 in
set_option maxHeartbeats 1000000 in
theorem r31_g {w : World} {R : Nat} {n₀ : Nat} {J J1 J2 : World → Prop} {H1 H2 : List UInt8} {E1 E2 : Int} (hJ : Jr n₀ J) (hJ1 : Jr n₀ J1) (hJ2 : Jr n₀ J2) (hn : n₀ ≤ w.heap.size) (hj : J w) (hH1 : H1.length = 16) (hH2 : H2.length = 16) (hd1 : Rc R J (nameL 0) ⟨#[115, 99, 114, 105, 112, 116]⟩ [] H1 E1 J1) :
    Calls Try.prog 31 #[.pointer (some ⟨R, 0, none⟩)] w (RqP J1 H1 E1 w) := by
  have hb1 : Below w.heap.size w (w.alloc (.cells (hl z16).toArray 28)) := (bel1 w _)
  have X2 : Aside ((w.alloc (.cells (hl z16).toArray 28)).heap[w.heap.size]? = some (.cells (hl z16).toArray 28 (0, 0))) := new' rfl
  have HB : Aside (Below w.heap.size w (w.alloc (.cells (hl z16).toArray 28))) := hb1
  have HJW : Aside (J (w.alloc (.cells (hl z16).toArray 28))) := hJ.bel _ _ hj hb1
  have HN : Aside (n₀ ≤ w.heap.size) := hn
  have HK : Aside (Jr n₀ J) := hJ
  have HK1 : Aside (Jr n₀ J1) := hJ1
  have HK2 : Aside (Jr n₀ J2) := hJ2
  have HD1 : Aside (Rc R J (nameL 0) ⟨#[115, 99, 114, 105, 112, 116]⟩ [] H1 E1 J1) := hd1
  clear hb1 hj hJ hJ1 hJ2 hn hd1
  go_enter Try.func31, Try.ntmps31
  go_wp2_with fail
  rw [hz28r]
  generalize (w.alloc (.cells (hl z16).toArray 28)) = Wa at *
  refine Calls.mono (rname_c 0 (by decide) Wa) ?_
  rintro e W1 ⟨rfl, hbr⟩
  have X2' : Aside _ := heap_bel X2.out hbr
  have HB' : Aside (Below w.heap.size w W1) := HB.out.trans (hbr.mono HB.out.size)
  have HJW' : Aside (J W1) := HK.out.bel _ _ HJW.out hbr
  clear X2 HB HJW hbr
  have X2 : Aside _ := X2'.out
  have HB : Aside _ := HB'.out
  have HJW : Aside _ := HJW'.out
  clear X2' HB' HJW'
  have hnl := nameL_len 0
  go_wp2_with fail
  refine Calls.mono (HD1.out W1 none 0 HJW.out (fun j hj => absurd hj (by simp))) ?_
  rintro e W4 ⟨rfl, hj2, hk2⟩
  have VR : Aside _ := hk2 _ _ _ _ X2.out (by decide) (by decide)
  have HJ4 : Aside (J1 W4) := hj2
  have HZ4 : Aside (Kz w W4) := (Kz.of_bel HB.out).trans hk2
  clear hj2 hk2 HD1
  have HR : Aside _ := setRow_heap W4 (w.heap.size) _ (hl H1).toArray 28 (0, 0) VR.out
  have HF : Aside (RqP J1 H1 E1 w (.returned (.tuple #[hv H1, .int .i64 E1])) (W4.setRow (w.heap.size) (hl H1).toArray)) := ⟨rfl, HK1.out.set _ _ _ _ HJ4.out VR.out (by have := HN.out; omega), HZ4.out.set (by omega) _⟩
  go_wp2_with (refine str rfl (.tmp 2) (.tmp 7) rfl (w.heap.size) H1 rfl rfl z16 VR.out hH1 rfl ?_)
  refine bodyPost_ret (v := .tuple #[hv H1, .int .i64 E1]) (res_r2 (fn := Try.f31) (p := 2) (u := 3) rfl _ _ (w.heap.size) H1 rfl HR.out hH1) rfl ?_
  exact HF.out
set_option maxRecDepth 100000 in
set_option maxHeartbeats 1000000 in
theorem r32_g {w : World} {R : Nat} {n₀ : Nat} {J J1 J2 : World → Prop} {H1 H2 : List UInt8} {E1 E2 : Int} (hJ : Jr n₀ J) (hJ1 : Jr n₀ J1) (hJ2 : Jr n₀ J2) (hn : n₀ ≤ w.heap.size) (hj : J w) (hH1 : H1.length = 16) (hH2 : H2.length = 16) (H : List UInt8) (hH : H.length = 16) (o : Option Addr) (c : Nat) (l : List UInt8) (hS : Sl w o l) (hd1 : Rc R J H ⟨#[109, 101, 115, 115, 97, 103, 101]⟩ l H1 E1 J1) :
    Calls Try.prog 32 #[.pointer (some ⟨R, 0, none⟩), hv H, .slice o l.length c] w (RqP J1 H1 E1 w) := by
  have hb1 : Below w.heap.size w ((w.alloc (.cells (hl H).toArray 28)).alloc (.cells (hl z16).toArray 28)) := ((bel1 w _).alloc (by simp) _)
  have X4 : Aside (((w.alloc (.cells (hl H).toArray 28)).alloc (.cells (hl z16).toArray 28)).heap[w.heap.size]? = some (.cells (hl H).toArray 28 (0, 0))) := nth' (new' rfl)
  have X6 : Aside (((w.alloc (.cells (hl H).toArray 28)).alloc (.cells (hl z16).toArray 28)).heap[w.heap.size + 1]? = some (.cells (hl z16).toArray 28 (0, 0))) := new' (by simp)
  have HB : Aside (Below w.heap.size w ((w.alloc (.cells (hl H).toArray 28)).alloc (.cells (hl z16).toArray 28))) := hb1
  have HJW : Aside (J ((w.alloc (.cells (hl H).toArray 28)).alloc (.cells (hl z16).toArray 28))) := hJ.bel _ _ hj hb1
  have HN : Aside (n₀ ≤ w.heap.size) := hn
  have HK : Aside (Jr n₀ J) := hJ
  have HK1 : Aside (Jr n₀ J1) := hJ1
  have HK2 : Aside (Jr n₀ J2) := hJ2
  have HD1 : Aside (Rc R J H ⟨#[109, 101, 115, 115, 97, 103, 101]⟩ l H1 E1 J1) := hd1
  have HS : Aside (Sl ((w.alloc (.cells (hl H).toArray 28)).alloc (.cells (hl z16).toArray 28)) o l) := hS.bel hb1
  clear hS
  clear hb1 hj hJ hJ1 hJ2 hn hd1
  go_enter Try.func32, Try.ntmps32
  go_wp2_with (refine ldr rfl (.tmp 4) rfl (w.heap.size) rfl H X4.out hH ?_)
  rw [hz28r]
  generalize ((w.alloc (.cells (hl H).toArray 28)).alloc (.cells (hl z16).toArray 28)) = W1 at *
  refine Calls.mono (HD1.out W1 o c HJW.out HS.out) ?_
  rintro e W4 ⟨rfl, hj2, hk2⟩
  have VR : Aside _ := hk2 _ _ _ _ X6.out (by decide) (by decide)
  have HJ4 : Aside (J1 W4) := hj2
  have HZ4 : Aside (Kz w W4) := (Kz.of_bel HB.out).trans hk2
  clear hj2 hk2 HD1
  have HR : Aside _ := setRow_heap W4 (w.heap.size + 1) _ (hl H1).toArray 28 (0, 0) VR.out
  have HF : Aside (RqP J1 H1 E1 w (.returned (.tuple #[hv H1, .int .i64 E1])) (W4.setRow (w.heap.size + 1) (hl H1).toArray)) := ⟨rfl, HK1.out.set _ _ _ _ HJ4.out VR.out (by have := HN.out; omega), HZ4.out.set (by omega) _⟩
  go_wp2_with (refine str rfl (.tmp 6) (.tmp 12) rfl (w.heap.size + 1) H1 rfl rfl z16 VR.out hH1 rfl ?_)
  refine bodyPost_ret (v := .tuple #[hv H1, .int .i64 E1]) (res_r2 (fn := Try.f32) (p := 6) (u := 7) rfl _ _ (w.heap.size + 1) H1 rfl HR.out hH1) rfl ?_
  exact HF.out
set_option maxRecDepth 100000 in
set_option maxHeartbeats 1000000 in
theorem r35_g {w : World} {R : Nat} {n₀ : Nat} {J J1 J2 : World → Prop} {H1 H2 : List UInt8} {E1 E2 : Int} (hJ : Jr n₀ J) (hJ1 : Jr n₀ J1) (hJ2 : Jr n₀ J2) (hn : n₀ ≤ w.heap.size) (hj : J w) (hH1 : H1.length = 16) (hH2 : H2.length = 16) (H : List UInt8) (hH : H.length = 16) (hd1 : Rc R J H ⟨#[109, 97, 115, 116, 101, 114]⟩ [] H1 E1 J1) :
    Calls Try.prog 35 #[.pointer (some ⟨R, 0, none⟩), hv H] w (RqP J1 H1 E1 w) := by
  have hb1 : Below w.heap.size w ((w.alloc (.cells (hl H).toArray 28)).alloc (.cells (hl z16).toArray 28)) := ((bel1 w _).alloc (by simp) _)
  have X3 : Aside (((w.alloc (.cells (hl H).toArray 28)).alloc (.cells (hl z16).toArray 28)).heap[w.heap.size]? = some (.cells (hl H).toArray 28 (0, 0))) := nth' (new' rfl)
  have X4 : Aside (((w.alloc (.cells (hl H).toArray 28)).alloc (.cells (hl z16).toArray 28)).heap[w.heap.size + 1]? = some (.cells (hl z16).toArray 28 (0, 0))) := new' (by simp)
  have HB : Aside (Below w.heap.size w ((w.alloc (.cells (hl H).toArray 28)).alloc (.cells (hl z16).toArray 28))) := hb1
  have HJW : Aside (J ((w.alloc (.cells (hl H).toArray 28)).alloc (.cells (hl z16).toArray 28))) := hJ.bel _ _ hj hb1
  have HN : Aside (n₀ ≤ w.heap.size) := hn
  have HK : Aside (Jr n₀ J) := hJ
  have HK1 : Aside (Jr n₀ J1) := hJ1
  have HK2 : Aside (Jr n₀ J2) := hJ2
  have HD1 : Aside (Rc R J H ⟨#[109, 97, 115, 116, 101, 114]⟩ [] H1 E1 J1) := hd1
  clear hb1 hj hJ hJ1 hJ2 hn hd1
  go_enter Try.func35, Try.ntmps35
  go_wp2_with (refine ldr rfl (.tmp 3) rfl (w.heap.size) rfl H X3.out hH ?_)
  rw [hz28r]
  generalize ((w.alloc (.cells (hl H).toArray 28)).alloc (.cells (hl z16).toArray 28)) = W1 at *
  refine Calls.mono (HD1.out W1 none 0 HJW.out (fun j hj => absurd hj (by simp))) ?_
  rintro e W4 ⟨rfl, hj2, hk2⟩
  have VR : Aside _ := hk2 _ _ _ _ X4.out (by decide) (by decide)
  have HJ4 : Aside (J1 W4) := hj2
  have HZ4 : Aside (Kz w W4) := (Kz.of_bel HB.out).trans hk2
  clear hj2 hk2 HD1
  have HR : Aside _ := setRow_heap W4 (w.heap.size + 1) _ (hl H1).toArray 28 (0, 0) VR.out
  have HF : Aside (RqP J1 H1 E1 w (.returned (.tuple #[hv H1, .int .i64 E1])) (W4.setRow (w.heap.size + 1) (hl H1).toArray)) := ⟨rfl, HK1.out.set _ _ _ _ HJ4.out VR.out (by have := HN.out; omega), HZ4.out.set (by omega) _⟩
  go_wp2_with (refine str rfl (.tmp 4) (.tmp 9) rfl (w.heap.size + 1) H1 rfl rfl z16 VR.out hH1 rfl ?_)
  refine bodyPost_ret (v := .tuple #[hv H1, .int .i64 E1]) (res_r2 (fn := Try.f35) (p := 4) (u := 5) rfl _ _ (w.heap.size + 1) H1 rfl HR.out hH1) rfl ?_
  exact HF.out
set_option maxRecDepth 100000 in
set_option maxHeartbeats 1000000 in
theorem r33a_g {w : World} {R : Nat} {n₀ : Nat} {J J1 J2 : World → Prop} {H1 H2 : List UInt8} {E1 E2 : Int} (hJ : Jr n₀ J) (hJ1 : Jr n₀ J1) (hJ2 : Jr n₀ J2) (hn : n₀ ≤ w.heap.size) (hj : J w) (hH1 : H1.length = 16) (hH2 : H2.length = 16) (H : List UInt8) (hH : H.length = 16) (hz : (H == z16) = true) (hd1 : Rc R J (nameL 0) ⟨#[101, 97, 114, 108, 121]⟩ [] H1 E1 J1) :
    Calls Try.prog 33 #[.pointer (some ⟨R, 0, none⟩), hv H] w (RqP J1 H1 E1 w) := by
  have hb1 : Below w.heap.size w ((w.alloc (.cells (hl H).toArray 28)).alloc (.cells (hl z16).toArray 28)) := ((bel1 w _).alloc (by simp) _)
  have X3 : Aside (((w.alloc (.cells (hl H).toArray 28)).alloc (.cells (hl z16).toArray 28)).heap[w.heap.size]? = some (.cells (hl H).toArray 28 (0, 0))) := nth' (new' rfl)
  have X4 : Aside (((w.alloc (.cells (hl H).toArray 28)).alloc (.cells (hl z16).toArray 28)).heap[w.heap.size + 1]? = some (.cells (hl z16).toArray 28 (0, 0))) := new' (by simp)
  have HB : Aside (Below w.heap.size w ((w.alloc (.cells (hl H).toArray 28)).alloc (.cells (hl z16).toArray 28))) := hb1
  have HJW : Aside (J ((w.alloc (.cells (hl H).toArray 28)).alloc (.cells (hl z16).toArray 28))) := hJ.bel _ _ hj hb1
  have HN : Aside (n₀ ≤ w.heap.size) := hn
  have HK : Aside (Jr n₀ J) := hJ
  have HK1 : Aside (Jr n₀ J1) := hJ1
  have HK2 : Aside (Jr n₀ J2) := hJ2
  have HD1 : Aside (Rc R J (nameL 0) ⟨#[101, 97, 114, 108, 121]⟩ [] H1 E1 J1) := hd1
  clear hb1 hj hJ hJ1 hJ2 hn hd1
  have hq := eqzr hH (b := true) hz
  clear hz
  go_enter Try.func33, Try.ntmps33
  go_wp2_with (refine ldr rfl (.tmp 3) rfl w.heap.size rfl H X3.out hH (Hid.out ?_))
  rw [hz28r]
  generalize ((w.alloc (.cells (hl H).toArray 28)).alloc (.cells (hl z16).toArray 28)) = Wa at *
  refine mkHid ?_
  go_wp2_with fail
  refine Calls.mono (rname_c 0 (by decide) Wa) ?_
  rintro e Wb ⟨rfl, hbr⟩
  have hnl := nameL_len 0
  have X3' : Aside _ := heap_bel X3.out hbr
  have X4' : Aside _ := heap_bel X4.out hbr
  have HB' : Aside (Below w.heap.size w (Wb.setRow w.heap.size (hl (nameL 0)).toArray)) := bel_set (HB.out.trans (hbr.mono HB.out.size)) (Nat.le_refl _) _
  have HJW' : Aside (J (Wb.setRow w.heap.size (hl (nameL 0)).toArray)) := HK.out.set _ _ _ _ (HK.out.bel _ _ HJW.out hbr) X3'.out HN.out
  have X3n : Aside _ := setRow_heap Wb w.heap.size _ (hl (nameL 0)).toArray 28 (0, 0) X3'.out
  have X4n : Aside _ := (setRow_other Wb w.heap.size (w.heap.size + 1) (hl (nameL 0)).toArray (by omega)).trans X4'.out
  clear X3 X4 HB HJW hbr X4'
  obtain ⟨N0, hN0⟩ : ∃ N, nameL 0 = N := ⟨_, rfl⟩
  rw [hN0] at hnl HB' HJW' X3n X4n HD1 ⊢
  clear hN0
  go_wp2_with (refine str rfl (.tmp 3) (.tmp 9) rfl w.heap.size N0 rfl rfl H X3'.out hnl hH (Hid.out ?_))
  clear X3'
  generalize Wb.setRow w.heap.size (hl N0).toArray = W1 at *
  have X3 : Aside _ := X3n.out
  have X4 : Aside _ := X4n.out
  have HB : Aside _ := HB'.out
  have HJW : Aside _ := HJW'.out
  clear X3n X4n HB' HJW'
  refine mkHid ?_
  go_wp2_with (refine ldr rfl (.tmp 3) rfl w.heap.size rfl N0 X3.out hnl ?_)
  refine Calls.mono (HD1.out W1 none 0 HJW.out (fun j hj => absurd hj (by simp))) ?_
  rintro e W4 ⟨rfl, hj2, hk2⟩
  have VR : Aside _ := hk2 _ _ _ _ X4.out (by decide) (by decide)
  have HJ4 : Aside (J1 W4) := hj2
  have HZ4 : Aside (Kz w W4) := (Kz.of_bel HB.out).trans hk2
  clear hj2 hk2 HD1
  have HR : Aside _ := setRow_heap W4 (w.heap.size + 1) _ (hl H1).toArray 28 (0, 0) VR.out
  have HF : Aside (RqP J1 H1 E1 w (.returned (.tuple #[hv H1, .int .i64 E1])) (W4.setRow (w.heap.size + 1) (hl H1).toArray)) := ⟨rfl, HK1.out.set _ _ _ _ HJ4.out VR.out (by have := HN.out; omega), HZ4.out.set (by omega) _⟩
  go_wp2_with (refine str rfl (.tmp 4) (.tmp 13) rfl (w.heap.size + 1) H1 rfl rfl z16 VR.out hH1 rfl ?_)
  refine bodyPost_ret (v := .tuple #[hv H1, .int .i64 E1]) (res_r2 (fn := Try.f33) (p := 4) (u := 5) rfl _ _ (w.heap.size + 1) H1 rfl HR.out hH1) rfl ?_
  exact HF.out
set_option maxRecDepth 100000 in
set_option maxHeartbeats 1000000 in
theorem r33b_g {w : World} {R : Nat} {n₀ : Nat} {J J1 J2 : World → Prop} {H1 H2 : List UInt8} {E1 E2 : Int} (hJ : Jr n₀ J) (hJ1 : Jr n₀ J1) (hJ2 : Jr n₀ J2) (hn : n₀ ≤ w.heap.size) (hj : J w) (hH1 : H1.length = 16) (hH2 : H2.length = 16) (H : List UInt8) (hH : H.length = 16) (hz : (H == z16) = false) (hd1 : Rc R J H ⟨#[101, 97, 114, 108, 121]⟩ [] H1 E1 J1) :
    Calls Try.prog 33 #[.pointer (some ⟨R, 0, none⟩), hv H] w (RqP J1 H1 E1 w) := by
  have hb1 : Below w.heap.size w ((w.alloc (.cells (hl H).toArray 28)).alloc (.cells (hl z16).toArray 28)) := ((bel1 w _).alloc (by simp) _)
  have X3 : Aside (((w.alloc (.cells (hl H).toArray 28)).alloc (.cells (hl z16).toArray 28)).heap[w.heap.size]? = some (.cells (hl H).toArray 28 (0, 0))) := nth' (new' rfl)
  have X4 : Aside (((w.alloc (.cells (hl H).toArray 28)).alloc (.cells (hl z16).toArray 28)).heap[w.heap.size + 1]? = some (.cells (hl z16).toArray 28 (0, 0))) := new' (by simp)
  have HB : Aside (Below w.heap.size w ((w.alloc (.cells (hl H).toArray 28)).alloc (.cells (hl z16).toArray 28))) := hb1
  have HJW : Aside (J ((w.alloc (.cells (hl H).toArray 28)).alloc (.cells (hl z16).toArray 28))) := hJ.bel _ _ hj hb1
  have HN : Aside (n₀ ≤ w.heap.size) := hn
  have HK : Aside (Jr n₀ J) := hJ
  have HK1 : Aside (Jr n₀ J1) := hJ1
  have HK2 : Aside (Jr n₀ J2) := hJ2
  have HD1 : Aside (Rc R J H ⟨#[101, 97, 114, 108, 121]⟩ [] H1 E1 J1) := hd1
  clear hb1 hj hJ hJ1 hJ2 hn hd1
  have hq := eqzr hH (b := false) hz
  clear hz
  go_enter Try.func33, Try.ntmps33
  go_wp2_with (refine ldr rfl (.tmp 3) rfl w.heap.size rfl H X3.out hH (Hid.out ?_))
  rw [hz28r]
  generalize ((w.alloc (.cells (hl H).toArray 28)).alloc (.cells (hl z16).toArray 28)) = W1 at *
  refine mkHid ?_
  go_wp2_with (refine ldr rfl (.tmp 3) rfl w.heap.size rfl H X3.out hH ?_)
  refine Calls.mono (HD1.out W1 none 0 HJW.out (fun j hj => absurd hj (by simp))) ?_
  rintro e W4 ⟨rfl, hj2, hk2⟩
  have VR : Aside _ := hk2 _ _ _ _ X4.out (by decide) (by decide)
  have HJ4 : Aside (J1 W4) := hj2
  have HZ4 : Aside (Kz w W4) := (Kz.of_bel HB.out).trans hk2
  clear hj2 hk2 HD1
  have HR : Aside _ := setRow_heap W4 (w.heap.size + 1) _ (hl H1).toArray 28 (0, 0) VR.out
  have HF : Aside (RqP J1 H1 E1 w (.returned (.tuple #[hv H1, .int .i64 E1])) (W4.setRow (w.heap.size + 1) (hl H1).toArray)) := ⟨rfl, HK1.out.set _ _ _ _ HJ4.out VR.out (by have := HN.out; omega), HZ4.out.set (by omega) _⟩
  go_wp2_with (refine str rfl (.tmp 4) (.tmp 13) rfl (w.heap.size + 1) H1 rfl rfl z16 VR.out hH1 rfl ?_)
  refine bodyPost_ret (v := .tuple #[hv H1, .int .i64 E1]) (res_r2 (fn := Try.f33) (p := 4) (u := 5) rfl _ _ (w.heap.size + 1) H1 rfl HR.out hH1) rfl ?_
  exact HF.out
set_option maxRecDepth 100000 in
set_option maxHeartbeats 1000000 in
theorem r38_g {w : World} {R : Nat} {n₀ : Nat} {J J1 J2 : World → Prop} {H1 H2 : List UInt8} {E1 E2 : Int} (hJ : Jr n₀ J) (hJ1 : Jr n₀ J1) (hJ2 : Jr n₀ J2) (hn : n₀ ≤ w.heap.size) (hj : J w) (hH1 : H1.length = 16) (hH2 : H2.length = 16) (H : List UInt8) (hH : H.length = 16) (o : Option Addr) (c : Nat) (l : List UInt8) (hS : ∀ X, J X → Sl X o l) (hS1 : ∀ X, J1 X → Sl X o l) (hd1 : Rc R J H ⟨#[98, 105, 110, 100, 101, 114]⟩ [] H1 E1 J1) (hd2 : Rc2 R J1 H1 E1 ⟨#[109, 97, 114, 107]⟩ l H2 E2 J2) :
    Calls Try.prog 38 #[.pointer (some ⟨R, 0, none⟩), hv H, .slice o l.length c] w (RqP J2 H2 E2 w) := by
  have hb1 : Below w.heap.size w ((w.alloc (.cells (hl H).toArray 28)).alloc (.cells (hl z16).toArray 28)) := ((bel1 w _).alloc (by simp) _)
  have X4 : Aside (((w.alloc (.cells (hl H).toArray 28)).alloc (.cells (hl z16).toArray 28)).heap[w.heap.size]? = some (.cells (hl H).toArray 28 (0, 0))) := nth' (new' rfl)
  have X6 : Aside (((w.alloc (.cells (hl H).toArray 28)).alloc (.cells (hl z16).toArray 28)).heap[w.heap.size + 1]? = some (.cells (hl z16).toArray 28 (0, 0))) := new' (by simp)
  have HB : Aside (Below w.heap.size w ((w.alloc (.cells (hl H).toArray 28)).alloc (.cells (hl z16).toArray 28))) := hb1
  have HJW : Aside (J ((w.alloc (.cells (hl H).toArray 28)).alloc (.cells (hl z16).toArray 28))) := hJ.bel _ _ hj hb1
  have HN : Aside (n₀ ≤ w.heap.size) := hn
  have HK : Aside (Jr n₀ J) := hJ
  have HK1 : Aside (Jr n₀ J1) := hJ1
  have HK2 : Aside (Jr n₀ J2) := hJ2
  have HD1 : Aside (Rc R J H ⟨#[98, 105, 110, 100, 101, 114]⟩ [] H1 E1 J1) := hd1
  have HD2 : Aside (Rc2 R J1 H1 E1 ⟨#[109, 97, 114, 107]⟩ l H2 E2 J2) := hd2
  have HS : Aside (∀ X, J X → Sl X o l) := hS
  have HS1 : Aside (∀ X, J1 X → Sl X o l) := hS1
  clear hS hS1
  clear hb1 hj hJ hJ1 hJ2 hn hd1 hd2
  go_enter Try.func38, Try.ntmps38
  go_wp2_with (refine ldr rfl (.tmp 4) rfl (w.heap.size) rfl H X4.out hH ?_)
  rw [hz28r]
  generalize ((w.alloc (.cells (hl H).toArray 28)).alloc (.cells (hl z16).toArray 28)) = W1 at *
  have HT : Aside _ := rtwo_g (w := W1) HK.out HK1.out HK2.out (Nat.le_trans HN.out HB.out.size) HJW.out hH1 hH2 H hH ⟨#[98, 105, 110, 100, 101, 114]⟩ ⟨#[109, 97, 114, 107]⟩ none o 0 c [] l (fun j hj => absurd hj (by simp)) (fun X hX _ => HS1.out X hX) HD1.out HD2.out
  refine Calls.mono HT.out ?_
  rintro e W4 ⟨rfl, hj2, hk2⟩
  have VR : Aside _ := hk2 _ _ _ _ X6.out (by decide) (by decide)
  have HJ4 : Aside (J2 W4) := hj2
  have HZ4 : Aside (Kz w W4) := (Kz.of_bel HB.out).trans hk2
  clear hj2 hk2 HD1 HD2 HT
  have HR : Aside _ := setRow_heap W4 (w.heap.size + 1) _ (hl H2).toArray 28 (0, 0) VR.out
  have HF : Aside (RqP J2 H2 E2 w (.returned (.tuple #[hv H2, .int .i64 E2])) (W4.setRow (w.heap.size + 1) (hl H2).toArray)) := ⟨rfl, HK2.out.set _ _ _ _ HJ4.out VR.out (by have := HN.out; omega), HZ4.out.set (by omega) _⟩
  go_wp2_with (refine str rfl (.tmp 6) (.tmp 12) rfl (w.heap.size + 1) H2 rfl rfl z16 VR.out hH2 rfl ?_)
  refine bodyPost_ret (v := .tuple #[hv H2, .int .i64 E2]) (res_r2 (fn := Try.f38) (p := 6) (u := 7) rfl _ _ (w.heap.size + 1) H2 rfl HR.out hH2) rfl ?_
  exact HF.out
set_option maxRecDepth 100000 in
set_option maxHeartbeats 1000000 in
theorem r37_g {w : World} {R : Nat} {n₀ : Nat} {J J1 J2 : World → Prop} {H1 H2 : List UInt8} {E1 E2 : Int} (hJ : Jr n₀ J) (hJ1 : Jr n₀ J1) (hJ2 : Jr n₀ J2) (hn : n₀ ≤ w.heap.size) (hj : J w) (hH1 : H1.length = 16) (hH2 : H2.length = 16) (H : List UInt8) (hH : H.length = 16) (G : List UInt8) (hG : G.length = 16) (hd1 : Rc R J H ⟨#[102, 105, 110, 105, 115, 104, 101, 100]⟩ [] H1 E1 J1) (hd2 : Rc2 R J1 H1 E1 ⟨#[109, 97, 114, 107]⟩ G H2 E2 J2) :
    Calls Try.prog 37 #[.pointer (some ⟨R, 0, none⟩), hv H, hv G] w (RqP J2 H2 E2 w) := by
  have hb1 : Below w.heap.size w (((w.alloc (.cells (hl H).toArray 28)).alloc (.cells (hl G).toArray 28)).alloc (.cells (hl z16).toArray 28)) := (((bel1 w _).alloc (by simp) _).alloc (by simp; omega) _)
  have X4 : Aside ((((w.alloc (.cells (hl H).toArray 28)).alloc (.cells (hl G).toArray 28)).alloc (.cells (hl z16).toArray 28)).heap[w.heap.size]? = some (.cells (hl H).toArray 28 (0, 0))) := nth' (nth' (new' rfl))
  have X5 : Aside ((((w.alloc (.cells (hl H).toArray 28)).alloc (.cells (hl G).toArray 28)).alloc (.cells (hl z16).toArray 28)).heap[w.heap.size + 1]? = some (.cells (hl G).toArray 28 (0, 0))) := nth' (new' (by simp))
  have X6 : Aside ((((w.alloc (.cells (hl H).toArray 28)).alloc (.cells (hl G).toArray 28)).alloc (.cells (hl z16).toArray 28)).heap[w.heap.size + 1 + 1]? = some (.cells (hl z16).toArray 28 (0, 0))) := new' (by simp)
  have HB : Aside (Below w.heap.size w (((w.alloc (.cells (hl H).toArray 28)).alloc (.cells (hl G).toArray 28)).alloc (.cells (hl z16).toArray 28))) := hb1
  have HJW : Aside (J (((w.alloc (.cells (hl H).toArray 28)).alloc (.cells (hl G).toArray 28)).alloc (.cells (hl z16).toArray 28))) := hJ.bel _ _ hj hb1
  have HN : Aside (n₀ ≤ w.heap.size) := hn
  have HK : Aside (Jr n₀ J) := hJ
  have HK1 : Aside (Jr n₀ J1) := hJ1
  have HK2 : Aside (Jr n₀ J2) := hJ2
  have HD1 : Aside (Rc R J H ⟨#[102, 105, 110, 105, 115, 104, 101, 100]⟩ [] H1 E1 J1) := hd1
  have HD2 : Aside (Rc2 R J1 H1 E1 ⟨#[109, 97, 114, 107]⟩ G H2 E2 J2) := hd2
  clear hb1 hj hJ hJ1 hJ2 hn hd1 hd2
  have mixed : Try.prog.follows Departure.mixedOrders = true := by kernel_rfl
  go_enter Try.func37, Try.ntmps37
  go_wp2_with fail
  rw [hz28r]
  generalize (((w.alloc (.cells (hl H).toArray 28)).alloc (.cells (hl G).toArray 28)).alloc (.cells (hl z16).toArray 28)) = W1 at *
  have HT : Aside _ := rtwo_g (w := W1.drew) HK.out HK1.out HK2.out (Nat.le_trans HN.out HB.out.size) (HK.out.bel _ _ HJW.out (bel_drew W1)) hH1 hH2 H hH ⟨#[102, 105, 110, 105, 115, 104, 101, 100]⟩ ⟨#[109, 97, 114, 107]⟩ none (some ⟨w.heap.size + 1, 0, none⟩) 0 16 [] G (fun j hj => absurd hj (by simp)) (fun X _ hz => sl_boxr (hz _ _ _ _ X5.out (by decide) (by decide))) HD1.out HD2.out
  rw [hG] at HT
  have mk : (Try.prog.info? 28).map (·.size) = some (hl H).length := hi28r.trans (by simp [hH])
  refine wp_region_held_drew (S := fun X => X.rangeAt (w.heap.size) 0 (hl H)) (by kernel_rfl) (range_r (w := W1.drew) X4.out) (fun hHeld => ?_)
  refine wpAnyH_take (i := 0) (v := .pointer (some ⟨R, 0, none⟩)) rfl (by kernel_rfl) (by kernel_rfl) (by kernel_rfl) (fun _ _ _ h => h) (Or.inl ⟨by rfl, by intro w hs; go_simp⟩) hHeld ?_
  refine norm_any' (fun K hK => ?_)
  go_simp
  refine hK _ _ ?_
  clear hK K
  refine wpAnyH_take (i := 1) (v := hv H) rfl (by kernel_rfl) (by kernel_rfl) (by kernel_rfl) (fun _ _ _ h => h) (yieldsIf_load_mid (by rfl) 28 _ rfl (w.heap.size) 0 rfl (hl H) _ (fun X h => h) hu28r rfl mk) hHeld ?_
  refine norm_any' (fun K hK => ?_)
  go_simp
  refine hK _ _ ?_
  clear hK K
  refine wpAnyH_take (i := 2) (v := .slice (some ⟨w.heap.size + 1, 0, none⟩) 16 16) rfl (by kernel_rfl) (by kernel_rfl) (by kernel_rfl) (fun _ _ _ h => h) (Or.inl ⟨by rfl, by intro w hs; go_simp⟩) hHeld ?_
  refine norm_any' (fun K hK => ?_)
  go_simp
  refine hK _ _ ?_
  clear hK K
  refine wpAnyH_ready (rs := [3]) (by kernel_rfl) (by simp) (AllReadyH.cons rfl (fun K hK => ?_) AllReadyH.nil)
  go_simp
  refine Calls.mono HT.out ?_
  rintro e W4 ⟨rfl, hj2, hk2⟩
  have VR : Aside _ := hk2 _ _ _ _ X6.out (by decide) (by decide)
  have HJ4 : Aside (J2 W4) := hj2
  have HZ4 : Aside (Kz w W4) := (Kz.of_bel HB.out).trans ((Kz.of_bel (bel_drew W1)).trans hk2)
  have VK : Aside _ := hk2 _ _ _ _ X4.out (by decide) (by decide)
  clear hj2 hk2 HD1 HT HD2
  refine hK.out _ _ (range_r VK.out) (fun hHeld => ?_)
  clear hK K
  refine norm_any' (fun K hK => ?_)
  go_simp
  refine hK _ _ ?_
  clear hK K
  refine wpAnyH_take (i := 4) (v := hv H2) rfl (by kernel_rfl) (by kernel_rfl) (by kernel_rfl) (fun _ _ _ h => h) (Or.inl ⟨by rfl, by intro w hs; go_simp⟩) hHeld ?_
  refine norm_any' (fun K hK => ?_)
  go_simp
  refine hK _ _ ?_
  clear hK K
  refine wpAnyH_take (i := 5) (v := .int .i64 E2) rfl (by kernel_rfl) (by kernel_rfl) (by kernel_rfl) (fun _ _ _ h => h) (Or.inl ⟨by rfl, by intro w hs; go_simp⟩) hHeld ?_
  refine norm_any' (fun K hK => ?_)
  go_simp
  refine hK _ _ ?_
  clear hK K
  refine wpAnyH_ready (rs := [6]) (by kernel_rfl) (by simp) (AllReadyH.cons rfl (fun K hK => ?_) AllReadyH.nil)
  rw [if_pos (by rfl)]
  have HR : Aside _ := setRow_heap W4 (w.heap.size + 1 + 1) _ (hl H2).toArray 28 (0, 0) VR.out
  have HF : Aside (RqP J2 H2 E2 w (.returned (.tuple #[hv H2, .int .i64 E2])) (W4.setRow (w.heap.size + 1 + 1) (hl H2).toArray)) := ⟨rfl, HK2.out.set _ _ _ _ HJ4.out VR.out (by have := HN.out; omega), HZ4.out.set (by omega) _⟩
  have VS : Aside ((W4.setRow (w.heap.size + 1 + 1) (hl H2).toArray).heap[w.heap.size]? = some (.cells (hl H).toArray 28 (0, 0))) := (setRow_other _ _ _ _ (by omega)).trans VK.out
  refine wp_store_row 28 _ _ rfl (w.heap.size + 1 + 1) (hl H2).toArray (by rfl) (by rfl) 28 _ VR.out (hi28r.trans (by simp [hH2])) (by simp [hH2, z16_len]) (hl_one H2) ?_
  refine hK.out _ _ (range_r VS.out) (fun hHeld => ?_)
  clear hK K
  refine norm_any' (fun K hK => ?_)
  go_simp
  refine hK _ _ ?_
  clear hK K
  refine wpAnyH_take (i := 7) (v := .int .i64 E2) rfl (by kernel_rfl) (by kernel_rfl) (by kernel_rfl) (fun _ _ _ h => h) (Or.inl ⟨by rfl, by intro w hs; go_simp⟩) hHeld ?_
  refine norm_any' (fun K hK => ?_)
  go_simp
  refine hK _ _ ?_
  clear hK K
  refine wpAnyH_done (by kernel_rfl) ?_ _
  clear hHeld
  go_wp2_with fail
  refine bodyPost_ret (v := .tuple #[hv H2, .int .i64 E2]) (res_r2 (fn := Try.f37) (p := 6) (u := 7) rfl _ _ (w.heap.size + 1 + 1) H2 rfl HR.out hH2) rfl ?_
  exact HF.out
set_option maxRecDepth 100000 in
set_option maxHeartbeats 1000000 in
theorem r39_g {w : World} {R : Nat} {n₀ : Nat} {J J1 J2 : World → Prop} {H1 H2 : List UInt8} {E1 E2 : Int} (hJ : Jr n₀ J) (hJ1 : Jr n₀ J1) (hJ2 : Jr n₀ J2) (hn : n₀ ≤ w.heap.size) (hj : J w) (hH1 : H1.length = 16) (hH2 : H2.length = 16) (H : List UInt8) (hH : H.length = 16) (G : List UInt8) (hG : G.length = 16) (o : Option Addr) (c : Nat) (l : List UInt8) (hS : ∀ X, J X → Sl X o l) (hS1 : ∀ X, J1 X → Sl X o l) (hd1 : Rc R J H ⟨#[114, 101, 115, 117, 109, 101]⟩ G H1 E1 J1) (hd2 : Rc2 R J1 H1 E1 ⟨#[116, 105, 99, 107, 101, 116]⟩ l H2 E2 J2) :
    Calls Try.prog 39 #[.pointer (some ⟨R, 0, none⟩), hv H, hv G, .slice o l.length c] w (RqP J2 H2 E2 w) := by
  have hb1 : Below w.heap.size w (((w.alloc (.cells (hl H).toArray 28)).alloc (.cells (hl G).toArray 28)).alloc (.cells (hl z16).toArray 28)) := (((bel1 w _).alloc (by simp) _).alloc (by simp; omega) _)
  have X5 : Aside ((((w.alloc (.cells (hl H).toArray 28)).alloc (.cells (hl G).toArray 28)).alloc (.cells (hl z16).toArray 28)).heap[w.heap.size]? = some (.cells (hl H).toArray 28 (0, 0))) := nth' (nth' (new' rfl))
  have X6 : Aside ((((w.alloc (.cells (hl H).toArray 28)).alloc (.cells (hl G).toArray 28)).alloc (.cells (hl z16).toArray 28)).heap[w.heap.size + 1]? = some (.cells (hl G).toArray 28 (0, 0))) := nth' (new' (by simp))
  have X8 : Aside ((((w.alloc (.cells (hl H).toArray 28)).alloc (.cells (hl G).toArray 28)).alloc (.cells (hl z16).toArray 28)).heap[w.heap.size + 1 + 1]? = some (.cells (hl z16).toArray 28 (0, 0))) := new' (by simp)
  have HB : Aside (Below w.heap.size w (((w.alloc (.cells (hl H).toArray 28)).alloc (.cells (hl G).toArray 28)).alloc (.cells (hl z16).toArray 28))) := hb1
  have HJW : Aside (J (((w.alloc (.cells (hl H).toArray 28)).alloc (.cells (hl G).toArray 28)).alloc (.cells (hl z16).toArray 28))) := hJ.bel _ _ hj hb1
  have HN : Aside (n₀ ≤ w.heap.size) := hn
  have HK : Aside (Jr n₀ J) := hJ
  have HK1 : Aside (Jr n₀ J1) := hJ1
  have HK2 : Aside (Jr n₀ J2) := hJ2
  have HD1 : Aside (Rc R J H ⟨#[114, 101, 115, 117, 109, 101]⟩ G H1 E1 J1) := hd1
  have HD2 : Aside (Rc2 R J1 H1 E1 ⟨#[116, 105, 99, 107, 101, 116]⟩ l H2 E2 J2) := hd2
  have HS : Aside (∀ X, J X → Sl X o l) := hS
  have HS1 : Aside (∀ X, J1 X → Sl X o l) := hS1
  clear hS hS1
  clear hb1 hj hJ hJ1 hJ2 hn hd1 hd2
  have mixed : Try.prog.follows Departure.mixedOrders = true := by kernel_rfl
  go_enter Try.func39, Try.ntmps39
  go_wp2_with fail
  rw [hz28r]
  generalize (((w.alloc (.cells (hl H).toArray 28)).alloc (.cells (hl G).toArray 28)).alloc (.cells (hl z16).toArray 28)) = W1 at *
  have HT : Aside _ := rtwo_g (w := W1.drew) HK.out HK1.out HK2.out (Nat.le_trans HN.out HB.out.size) (HK.out.bel _ _ HJW.out (bel_drew W1)) hH1 hH2 H hH ⟨#[114, 101, 115, 117, 109, 101]⟩ ⟨#[116, 105, 99, 107, 101, 116]⟩ (some ⟨w.heap.size + 1, 0, none⟩) o 16 c G l (sl_boxr X6.out) (fun X hX _ => HS1.out X hX) HD1.out HD2.out
  rw [hG] at HT
  have mk : (Try.prog.info? 28).map (·.size) = some (hl H).length := hi28r.trans (by simp [hH])
  refine wp_region_held_drew (S := fun X => X.rangeAt (w.heap.size) 0 (hl H)) (by kernel_rfl) (range_r (w := W1.drew) X5.out) (fun hHeld => ?_)
  refine wpAnyH_take (i := 0) (v := .pointer (some ⟨R, 0, none⟩)) rfl (by kernel_rfl) (by kernel_rfl) (by kernel_rfl) (fun _ _ _ h => h) (Or.inl ⟨by rfl, by intro w hs; go_simp⟩) hHeld ?_
  refine norm_any' (fun K hK => ?_)
  go_simp
  refine hK _ _ ?_
  clear hK K
  refine wpAnyH_take (i := 1) (v := hv H) rfl (by kernel_rfl) (by kernel_rfl) (by kernel_rfl) (fun _ _ _ h => h) (yieldsIf_load_mid (by rfl) 28 _ rfl (w.heap.size) 0 rfl (hl H) _ (fun X h => h) hu28r rfl mk) hHeld ?_
  refine norm_any' (fun K hK => ?_)
  go_simp
  refine hK _ _ ?_
  clear hK K
  refine wpAnyH_take (i := 2) (v := .slice (some ⟨w.heap.size + 1, 0, none⟩) 16 16) rfl (by kernel_rfl) (by kernel_rfl) (by kernel_rfl) (fun _ _ _ h => h) (Or.inl ⟨by rfl, by intro w hs; go_simp⟩) hHeld ?_
  refine norm_any' (fun K hK => ?_)
  go_simp
  refine hK _ _ ?_
  clear hK K
  refine wpAnyH_take (i := 3) (v := .slice o l.length c) rfl (by kernel_rfl) (by kernel_rfl) (by kernel_rfl) (fun _ _ _ h => h) (Or.inl ⟨by rfl, by intro w hs; go_simp⟩) hHeld ?_
  refine norm_any' (fun K hK => ?_)
  go_simp
  refine hK _ _ ?_
  clear hK K
  refine wpAnyH_ready (rs := [4]) (by kernel_rfl) (by simp) (AllReadyH.cons rfl (fun K hK => ?_) AllReadyH.nil)
  go_simp
  refine Calls.mono HT.out ?_
  rintro e W4 ⟨rfl, hj2, hk2⟩
  have VR : Aside _ := hk2 _ _ _ _ X8.out (by decide) (by decide)
  have HJ4 : Aside (J2 W4) := hj2
  have HZ4 : Aside (Kz w W4) := (Kz.of_bel HB.out).trans ((Kz.of_bel (bel_drew W1)).trans hk2)
  have VK : Aside _ := hk2 _ _ _ _ X5.out (by decide) (by decide)
  clear hj2 hk2 HD1 HT HD2
  refine hK.out _ _ (range_r VK.out) (fun hHeld => ?_)
  clear hK K
  refine norm_any' (fun K hK => ?_)
  go_simp
  refine hK _ _ ?_
  clear hK K
  refine wpAnyH_take (i := 5) (v := hv H2) rfl (by kernel_rfl) (by kernel_rfl) (by kernel_rfl) (fun _ _ _ h => h) (Or.inl ⟨by rfl, by intro w hs; go_simp⟩) hHeld ?_
  refine norm_any' (fun K hK => ?_)
  go_simp
  refine hK _ _ ?_
  clear hK K
  refine wpAnyH_take (i := 6) (v := .int .i64 E2) rfl (by kernel_rfl) (by kernel_rfl) (by kernel_rfl) (fun _ _ _ h => h) (Or.inl ⟨by rfl, by intro w hs; go_simp⟩) hHeld ?_
  refine norm_any' (fun K hK => ?_)
  go_simp
  refine hK _ _ ?_
  clear hK K
  refine wpAnyH_ready (rs := [7]) (by kernel_rfl) (by simp) (AllReadyH.cons rfl (fun K hK => ?_) AllReadyH.nil)
  rw [if_pos (by rfl)]
  have HR : Aside _ := setRow_heap W4 (w.heap.size + 1 + 1) _ (hl H2).toArray 28 (0, 0) VR.out
  have HF : Aside (RqP J2 H2 E2 w (.returned (.tuple #[hv H2, .int .i64 E2])) (W4.setRow (w.heap.size + 1 + 1) (hl H2).toArray)) := ⟨rfl, HK2.out.set _ _ _ _ HJ4.out VR.out (by have := HN.out; omega), HZ4.out.set (by omega) _⟩
  have VS : Aside ((W4.setRow (w.heap.size + 1 + 1) (hl H2).toArray).heap[w.heap.size]? = some (.cells (hl H).toArray 28 (0, 0))) := (setRow_other _ _ _ _ (by omega)).trans VK.out
  refine wp_store_row 28 _ _ rfl (w.heap.size + 1 + 1) (hl H2).toArray (by rfl) (by rfl) 28 _ VR.out (hi28r.trans (by simp [hH2])) (by simp [hH2, z16_len]) (hl_one H2) ?_
  refine hK.out _ _ (range_r VS.out) (fun hHeld => ?_)
  clear hK K
  refine norm_any' (fun K hK => ?_)
  go_simp
  refine hK _ _ ?_
  clear hK K
  refine wpAnyH_take (i := 8) (v := .int .i64 E2) rfl (by kernel_rfl) (by kernel_rfl) (by kernel_rfl) (fun _ _ _ h => h) (Or.inl ⟨by rfl, by intro w hs; go_simp⟩) hHeld ?_
  refine norm_any' (fun K hK => ?_)
  go_simp
  refine hK _ _ ?_
  clear hK K
  refine wpAnyH_done (by kernel_rfl) ?_ _
  clear hHeld
  go_wp2_with fail
  refine bodyPost_ret (v := .tuple #[hv H2, .int .i64 E2]) (res_r2 (fn := Try.f39) (p := 8) (u := 9) rfl _ _ (w.heap.size + 1 + 1) H2 rfl HR.out hH2) rfl ?_
  exact HF.out
set_option maxRecDepth 100000 in
set_option maxHeartbeats 1000000 in
theorem r34_g {w : World} {R : Nat} {n₀ : Nat} {J J1 J2 : World → Prop} {H1 H2 : List UInt8} {E1 E2 : Int} (hJ : Jr n₀ J) (hJ1 : Jr n₀ J1) (hJ2 : Jr n₀ J2) (hn : n₀ ≤ w.heap.size) (hj : J w) (hH1 : H1.length = 16) (hH2 : H2.length = 16) (H : List UInt8) (hH : H.length = 16) (G : List UInt8) (hG : G.length = 16) (hof : ∀ X, J X → ∃ n : Nat, Calls Try.prog 52 #[.pointer (some ⟨R, 0, none⟩), hv H] X fun e w' => e = .returned (.int .i64 (n : Int)) ∧ Below X.heap.size X w') (hd1 : Rc R J G ⟨#[104, 97, 110, 100]⟩ H H1 E1 J1) (hd2 : Rc2 R J1 H1 E1 ⟨#[98, 111, 116, 104]⟩ H H2 E2 J2) :
    Calls Try.prog 34 #[.pointer (some ⟨R, 0, none⟩), hv H, hv G] w (RqP J2 H2 E2 w) := by
  have hb1 : Below w.heap.size w (((w.alloc (.cells (hl H).toArray 28)).alloc (.cells (hl G).toArray 28)).alloc (.cells (hl z16).toArray 28)) := (((bel1 w _).alloc (by simp) _).alloc (by simp; omega) _)
  have X4 : Aside ((((w.alloc (.cells (hl H).toArray 28)).alloc (.cells (hl G).toArray 28)).alloc (.cells (hl z16).toArray 28)).heap[w.heap.size]? = some (.cells (hl H).toArray 28 (0, 0))) := nth' (nth' (new' rfl))
  have X5 : Aside ((((w.alloc (.cells (hl H).toArray 28)).alloc (.cells (hl G).toArray 28)).alloc (.cells (hl z16).toArray 28)).heap[w.heap.size + 1]? = some (.cells (hl G).toArray 28 (0, 0))) := nth' (new' (by simp))
  have X6 : Aside ((((w.alloc (.cells (hl H).toArray 28)).alloc (.cells (hl G).toArray 28)).alloc (.cells (hl z16).toArray 28)).heap[w.heap.size + 1 + 1]? = some (.cells (hl z16).toArray 28 (0, 0))) := new' (by simp)
  have HB : Aside (Below w.heap.size w (((w.alloc (.cells (hl H).toArray 28)).alloc (.cells (hl G).toArray 28)).alloc (.cells (hl z16).toArray 28))) := hb1
  have HJW : Aside (J (((w.alloc (.cells (hl H).toArray 28)).alloc (.cells (hl G).toArray 28)).alloc (.cells (hl z16).toArray 28))) := hJ.bel _ _ hj hb1
  have HN : Aside (n₀ ≤ w.heap.size) := hn
  have HK : Aside (Jr n₀ J) := hJ
  have HK1 : Aside (Jr n₀ J1) := hJ1
  have HK2 : Aside (Jr n₀ J2) := hJ2
  have HD1 : Aside (Rc R J G ⟨#[104, 97, 110, 100]⟩ H H1 E1 J1) := hd1
  have HD2 : Aside (Rc2 R J1 H1 E1 ⟨#[98, 111, 116, 104]⟩ H H2 E2 J2) := hd2
  clear hb1 hj hJ hJ1 hJ2 hn hd1 hd2
  have mixed : Try.prog.follows Departure.mixedOrders = true := by kernel_rfl
  have HOF : Aside (∀ X, J X → ∃ n : Nat, Calls Try.prog 52 #[.pointer (some ⟨R, 0, none⟩), hv H] X fun e w' => e = .returned (.int .i64 (n : Int)) ∧ Below X.heap.size X w') := hof
  clear hof
  go_enter Try.func34, Try.ntmps34
  go_wp2_with (refine ldr rfl (.tmp 4) rfl w.heap.size rfl H X4.out hH (Hid.out ?_))
  rw [hz28r]
  generalize (((w.alloc (.cells (hl H).toArray 28)).alloc (.cells (hl G).toArray 28)).alloc (.cells (hl z16).toArray 28)) = Wa at *
  obtain ⟨n, hof⟩ := HOF.out Wa HJW.out
  have HO : Aside _ := hof
  have jn : ¬ (n : Int) < 0 := by omega
  have jn' : decide ((n : Int) < 0) = false := by simp
  clear hof
  refine mkHid ?_
  go_wp2_with fail
  refine Calls.mono HO.out ?_
  rintro e W1 ⟨rfl, hbr⟩
  have X4' : Aside _ := heap_bel X4.out hbr
  have X5' : Aside _ := heap_bel X5.out hbr
  have X6' : Aside _ := heap_bel X6.out hbr
  have HB' : Aside (Below w.heap.size w W1) := HB.out.trans (hbr.mono HB.out.size)
  have HJW' : Aside (J W1) := HK.out.bel _ _ HJW.out hbr
  clear X4 X5 X6 HB HJW hbr HO HOF
  have X4 : Aside _ := X4'.out
  have X5 : Aside _ := X5'.out
  have X6 : Aside _ := X6'.out
  have HB : Aside _ := HB'.out
  have HJW : Aside _ := HJW'.out
  clear X4' X5' X6' HB' HJW'
  go_wp2_with fail
  have HT : Aside _ := rtwo_g (w := W1.drew) HK.out HK1.out HK2.out (Nat.le_trans HN.out HB.out.size) (HK.out.bel _ _ HJW.out (bel_drew W1)) hH1 hH2 G hG ⟨#[104, 97, 110, 100]⟩ ⟨#[98, 111, 116, 104]⟩ (some ⟨w.heap.size, 0, none⟩) (some ⟨w.heap.size, 0, none⟩) 16 16 H H (sl_boxr X4.out) (fun X _ hz => sl_boxr (hz _ _ _ _ X4.out (by decide) (by decide))) HD1.out HD2.out
  rw [hH] at HT
  have mk : (Try.prog.info? 28).map (·.size) = some (hl G).length := hi28r.trans (by simp [hG])
  refine wp_region_held_drew (S := fun X => X.rangeAt (w.heap.size + 1) 0 (hl G)) (by kernel_rfl) (range_r (w := W1.drew) X5.out) (fun hHeld => ?_)
  refine wpAnyH_take (i := 0) (v := .pointer (some ⟨R, 0, none⟩)) rfl (by kernel_rfl) (by kernel_rfl) (by kernel_rfl) (fun _ _ _ h => h) (Or.inl ⟨by rfl, by intro w hs; go_simp⟩) hHeld ?_
  refine norm_any' (fun K hK => ?_)
  go_simp
  refine hK _ _ ?_
  clear hK K
  refine wpAnyH_take (i := 1) (v := hv G) rfl (by kernel_rfl) (by kernel_rfl) (by kernel_rfl) (fun _ _ _ h => h) (yieldsIf_load_mid (by rfl) 28 _ rfl (w.heap.size + 1) 0 rfl (hl G) _ (fun X h => h) hu28r rfl mk) hHeld ?_
  refine norm_any' (fun K hK => ?_)
  go_simp
  refine hK _ _ ?_
  clear hK K
  refine wpAnyH_take (i := 2) (v := .slice (some ⟨w.heap.size, 0, none⟩) 16 16) rfl (by kernel_rfl) (by kernel_rfl) (by kernel_rfl) (fun _ _ _ h => h) (Or.inl ⟨by rfl, by intro w hs; go_simp⟩) hHeld ?_
  refine norm_any' (fun K hK => ?_)
  go_simp
  refine hK _ _ ?_
  clear hK K
  refine wpAnyH_take (i := 3) (v := .slice (some ⟨w.heap.size, 0, none⟩) 16 16) rfl (by kernel_rfl) (by kernel_rfl) (by kernel_rfl) (fun _ _ _ h => h) (Or.inl ⟨by rfl, by intro w hs; go_simp⟩) hHeld ?_
  refine norm_any' (fun K hK => ?_)
  go_simp
  refine hK _ _ ?_
  clear hK K
  refine wpAnyH_ready (rs := [4]) (by kernel_rfl) (by simp) (AllReadyH.cons rfl (fun K hK => ?_) AllReadyH.nil)
  go_simp
  refine Calls.mono HT.out ?_
  rintro e W4 ⟨rfl, hj2, hk2⟩
  have VR : Aside _ := hk2 _ _ _ _ X6.out (by decide) (by decide)
  have HJ4 : Aside (J2 W4) := hj2
  have HZ4 : Aside (Kz w W4) := (Kz.of_bel HB.out).trans ((Kz.of_bel (bel_drew W1)).trans hk2)
  have VK : Aside _ := hk2 _ _ _ _ X5.out (by decide) (by decide)
  clear hj2 hk2 HD1 HT HD2
  refine hK.out _ _ (range_r VK.out) (fun hHeld => ?_)
  clear hK K
  refine norm_any' (fun K hK => ?_)
  go_simp
  refine hK _ _ ?_
  clear hK K
  refine wpAnyH_take (i := 5) (v := hv H2) rfl (by kernel_rfl) (by kernel_rfl) (by kernel_rfl) (fun _ _ _ h => h) (Or.inl ⟨by rfl, by intro w hs; go_simp⟩) hHeld ?_
  refine norm_any' (fun K hK => ?_)
  go_simp
  refine hK _ _ ?_
  clear hK K
  refine wpAnyH_take (i := 6) (v := .int .i64 E2) rfl (by kernel_rfl) (by kernel_rfl) (by kernel_rfl) (fun _ _ _ h => h) (Or.inl ⟨by rfl, by intro w hs; go_simp⟩) hHeld ?_
  refine norm_any' (fun K hK => ?_)
  go_simp
  refine hK _ _ ?_
  clear hK K
  refine wpAnyH_ready (rs := [7]) (by kernel_rfl) (by simp) (AllReadyH.cons rfl (fun K hK => ?_) AllReadyH.nil)
  rw [if_pos (by rfl)]
  have HR : Aside _ := setRow_heap W4 (w.heap.size + 1 + 1) _ (hl H2).toArray 28 (0, 0) VR.out
  have HF : Aside (RqP J2 H2 E2 w (.returned (.tuple #[hv H2, .int .i64 E2])) (W4.setRow (w.heap.size + 1 + 1) (hl H2).toArray)) := ⟨rfl, HK2.out.set _ _ _ _ HJ4.out VR.out (by have := HN.out; omega), HZ4.out.set (by omega) _⟩
  have VS : Aside ((W4.setRow (w.heap.size + 1 + 1) (hl H2).toArray).heap[w.heap.size + 1]? = some (.cells (hl G).toArray 28 (0, 0))) := (setRow_other _ _ _ _ (by omega)).trans VK.out
  refine wp_store_row 28 _ _ rfl (w.heap.size + 1 + 1) (hl H2).toArray (by rfl) (by rfl) 28 _ VR.out (hi28r.trans (by simp [hH2])) (by simp [hH2, z16_len]) (hl_one H2) ?_
  refine hK.out _ _ (range_r VS.out) (fun hHeld => ?_)
  clear hK K
  refine norm_any' (fun K hK => ?_)
  go_simp
  refine hK _ _ ?_
  clear hK K
  refine wpAnyH_take (i := 8) (v := .int .i64 E2) rfl (by kernel_rfl) (by kernel_rfl) (by kernel_rfl) (fun _ _ _ h => h) (Or.inl ⟨by rfl, by intro w hs; go_simp⟩) hHeld ?_
  refine norm_any' (fun K hK => ?_)
  go_simp
  refine hK _ _ ?_
  clear hK K
  refine wpAnyH_done (by kernel_rfl) ?_ _
  clear hHeld
  go_wp2_with fail
  refine bodyPost_ret (v := .tuple #[hv H2, .int .i64 E2]) (res_r2 (fn := Try.f34) (p := 6) (u := 7) rfl _ _ (w.heap.size + 1 + 1) H2 rfl HR.out hH2) rfl ?_
  exact HF.out
set_option maxRecDepth 100000 in
set_option maxHeartbeats 1000000 in
theorem r34n {w : World} {R : Nat} {n₀ : Nat} {J J1 J2 : World → Prop} {H1 H2 : List UInt8} {E1 E2 : Int} (hJ : Jr n₀ J) (hJ1 : Jr n₀ J1) (hJ2 : Jr n₀ J2) (hn : n₀ ≤ w.heap.size) (hj : J w) (hH1 : H1.length = 16) (hH2 : H2.length = 16) (H : List UInt8) (hH : H.length = 16) (G : List UInt8) (hG : G.length = 16) (hof : ∀ X, J X → Calls Try.prog 52 #[.pointer (some ⟨R, 0, none⟩), hv H] X fun e w' => e = .returned (.int .i64 (-1)) ∧ Below X.heap.size X w') :
    Calls Try.prog 34 #[.pointer (some ⟨R, 0, none⟩), hv H, hv G] w (RqP J z16 15 w) := by
  have hb1 : Below w.heap.size w (((w.alloc (.cells (hl H).toArray 28)).alloc (.cells (hl G).toArray 28)).alloc (.cells (hl z16).toArray 28)) := (((bel1 w _).alloc (by simp) _).alloc (by simp; omega) _)
  have X4 : Aside ((((w.alloc (.cells (hl H).toArray 28)).alloc (.cells (hl G).toArray 28)).alloc (.cells (hl z16).toArray 28)).heap[w.heap.size]? = some (.cells (hl H).toArray 28 (0, 0))) := nth' (nth' (new' rfl))
  have X5 : Aside ((((w.alloc (.cells (hl H).toArray 28)).alloc (.cells (hl G).toArray 28)).alloc (.cells (hl z16).toArray 28)).heap[w.heap.size + 1]? = some (.cells (hl G).toArray 28 (0, 0))) := nth' (new' (by simp))
  have X6 : Aside ((((w.alloc (.cells (hl H).toArray 28)).alloc (.cells (hl G).toArray 28)).alloc (.cells (hl z16).toArray 28)).heap[w.heap.size + 1 + 1]? = some (.cells (hl z16).toArray 28 (0, 0))) := new' (by simp)
  have HB : Aside (Below w.heap.size w (((w.alloc (.cells (hl H).toArray 28)).alloc (.cells (hl G).toArray 28)).alloc (.cells (hl z16).toArray 28))) := hb1
  have HJW : Aside (J (((w.alloc (.cells (hl H).toArray 28)).alloc (.cells (hl G).toArray 28)).alloc (.cells (hl z16).toArray 28))) := hJ.bel _ _ hj hb1
  have HN : Aside (n₀ ≤ w.heap.size) := hn
  have HK : Aside (Jr n₀ J) := hJ
  have HK1 : Aside (Jr n₀ J1) := hJ1
  have HK2 : Aside (Jr n₀ J2) := hJ2
  have HOF : Aside (∀ X, J X → Calls Try.prog 52 #[.pointer (some ⟨R, 0, none⟩), hv H] X fun e w' => e = .returned (.int .i64 (-1)) ∧ Below X.heap.size X w') := hof
  clear hof hb1 hj hJ hJ1 hJ2 hn
  go_enter Try.func34, Try.ntmps34
  go_wp2_with (refine ldr rfl (.tmp 4) rfl w.heap.size rfl H X4.out hH ?_)
  rw [hz28r]
  generalize (((w.alloc (.cells (hl H).toArray 28)).alloc (.cells (hl G).toArray 28)).alloc (.cells (hl z16).toArray 28)) = Wa at *
  refine Calls.mono (HOF.out Wa HJW.out) ?_
  rintro e W1 ⟨rfl, hbr⟩
  have V6 : Aside _ := heap_bel X6.out hbr
  have HB' : Aside (Below w.heap.size w W1) := HB.out.trans (hbr.mono HB.out.size)
  have HJW' : Aside (J W1) := HK.out.bel _ _ HJW.out hbr
  clear X4 X5 X6 HB HJW hbr HOF
  have HR : Aside _ := setRow_heap W1 (w.heap.size + 1 + 1) _ (hl z16).toArray 28 (0, 0) V6.out
  have HF : Aside (RqP J z16 15 w (.returned (.tuple #[hv z16, .int .i64 15])) (W1.setRow (w.heap.size + 1 + 1) (hl z16).toArray)) := ⟨rfl, HK.out.set _ _ _ _ HJW'.out V6.out (by have := HN.out; omega), Kz.of_bel (bel_set HB'.out (by omega) _)⟩
  go_wp2_with (refine str rfl (.tmp 6) (.tmp 12) rfl (w.heap.size + 1 + 1) z16 rfl hv_z z16 V6.out rfl rfl ?_)
  refine bodyPost_ret (v := .tuple #[hv z16, .int .i64 15]) (res_r2 (fn := Try.f34) (p := 6) (u := 7) rfl _ _ (w.heap.size + 1 + 1) z16 rfl HR.out rfl) rfl ?_
  exact HF.out
set_option maxRecDepth 100000 in
set_option maxHeartbeats 1000000 in
theorem r36_g {w : World} {R : Nat} {n₀ : Nat} {J J1 J2 : World → Prop} {H1 H2 : List UInt8} {E1 E2 : Int} (hJ : Jr n₀ J) (hJ1 : Jr n₀ J1) (hJ2 : Jr n₀ J2) (hn : n₀ ≤ w.heap.size) (hj : J w) (hH1 : H1.length = 16) (hH2 : H2.length = 16) (H : List UInt8) (hH : H.length = 16) (G : List UInt8) (hG : G.length = 16) (S : ByteArray) (hd1 : Rc R J H S G H1 E1 J1) :
    Calls Try.prog 36 #[.pointer (some ⟨R, 0, none⟩), hv H, .string S, hv G] w (RqP J1 H1 E1 w) := by
  have hb1 : Below w.heap.size w (((w.alloc (.cells (hl H).toArray 28)).alloc (.cells (hl G).toArray 28)).alloc (.cells (hl z16).toArray 28)) := (((bel1 w _).alloc (by simp) _).alloc (by simp; omega) _)
  have X5 : Aside ((((w.alloc (.cells (hl H).toArray 28)).alloc (.cells (hl G).toArray 28)).alloc (.cells (hl z16).toArray 28)).heap[w.heap.size]? = some (.cells (hl H).toArray 28 (0, 0))) := nth' (nth' (new' rfl))
  have X7 : Aside ((((w.alloc (.cells (hl H).toArray 28)).alloc (.cells (hl G).toArray 28)).alloc (.cells (hl z16).toArray 28)).heap[w.heap.size + 1]? = some (.cells (hl G).toArray 28 (0, 0))) := nth' (new' (by simp))
  have X8 : Aside ((((w.alloc (.cells (hl H).toArray 28)).alloc (.cells (hl G).toArray 28)).alloc (.cells (hl z16).toArray 28)).heap[w.heap.size + 1 + 1]? = some (.cells (hl z16).toArray 28 (0, 0))) := new' (by simp)
  have HB : Aside (Below w.heap.size w (((w.alloc (.cells (hl H).toArray 28)).alloc (.cells (hl G).toArray 28)).alloc (.cells (hl z16).toArray 28))) := hb1
  have HJW : Aside (J (((w.alloc (.cells (hl H).toArray 28)).alloc (.cells (hl G).toArray 28)).alloc (.cells (hl z16).toArray 28))) := hJ.bel _ _ hj hb1
  have HN : Aside (n₀ ≤ w.heap.size) := hn
  have HK : Aside (Jr n₀ J) := hJ
  have HK1 : Aside (Jr n₀ J1) := hJ1
  have HK2 : Aside (Jr n₀ J2) := hJ2
  have HD1 : Aside (Rc R J H S G H1 E1 J1) := hd1
  clear hb1 hj hJ hJ1 hJ2 hn hd1
  have mixed : Try.prog.follows Departure.mixedOrders = true := by kernel_rfl
  go_enter Try.func36, Try.ntmps36
  go_wp2_with fail
  rw [hz28r]
  generalize (((w.alloc (.cells (hl H).toArray 28)).alloc (.cells (hl G).toArray 28)).alloc (.cells (hl z16).toArray 28)) = W1 at *
  have HT : Aside _ := HD1.out W1.drew (some ⟨w.heap.size + 1, 0, none⟩) 16 (HK.out.bel _ _ HJW.out (bel_drew W1)) (sl_boxr (w := W1.drew) X7.out)
  rw [hG] at HT
  have mk : (Try.prog.info? 28).map (·.size) = some (hl H).length := hi28r.trans (by simp [hH])
  refine wp_region_held_drew (S := fun X => X.rangeAt (w.heap.size) 0 (hl H)) (by kernel_rfl) (range_r (w := W1.drew) X5.out) (fun hHeld => ?_)
  refine wpAnyH_take (i := 0) (v := .pointer (some ⟨R, 0, none⟩)) rfl (by kernel_rfl) (by kernel_rfl) (by kernel_rfl) (fun _ _ _ h => h) (Or.inl ⟨by rfl, by intro w hs; go_simp⟩) hHeld ?_
  refine norm_any' (fun K hK => ?_)
  go_simp
  refine hK _ _ ?_
  clear hK K
  refine wpAnyH_take (i := 1) (v := hv H) rfl (by kernel_rfl) (by kernel_rfl) (by kernel_rfl) (fun _ _ _ h => h) (yieldsIf_load_mid (by rfl) 28 _ rfl (w.heap.size) 0 rfl (hl H) _ (fun X h => h) hu28r rfl mk) hHeld ?_
  refine norm_any' (fun K hK => ?_)
  go_simp
  refine hK _ _ ?_
  clear hK K
  refine wpAnyH_take (i := 2) (v := .string S) rfl (by kernel_rfl) (by kernel_rfl) (by kernel_rfl) (fun _ _ _ h => h) (Or.inl ⟨by rfl, by intro w hs; go_simp⟩) hHeld ?_
  refine norm_any' (fun K hK => ?_)
  go_simp
  refine hK _ _ ?_
  clear hK K
  refine wpAnyH_take (i := 3) (v := .slice (some ⟨w.heap.size + 1, 0, none⟩) 16 16) rfl (by kernel_rfl) (by kernel_rfl) (by kernel_rfl) (fun _ _ _ h => h) (Or.inl ⟨by rfl, by intro w hs; go_simp⟩) hHeld ?_
  refine norm_any' (fun K hK => ?_)
  go_simp
  refine hK _ _ ?_
  clear hK K
  refine wpAnyH_ready (rs := [4]) (by kernel_rfl) (by simp) (AllReadyH.cons rfl (fun K hK => ?_) AllReadyH.nil)
  go_simp
  refine Calls.mono HT.out ?_
  rintro e W4 ⟨rfl, hj2, hk2⟩
  have VR : Aside _ := hk2 _ _ _ _ X8.out (by decide) (by decide)
  have HJ4 : Aside (J1 W4) := hj2
  have HZ4 : Aside (Kz w W4) := (Kz.of_bel HB.out).trans ((Kz.of_bel (bel_drew W1)).trans hk2)
  have VK : Aside _ := hk2 _ _ _ _ X5.out (by decide) (by decide)
  clear hj2 hk2 HD1 HT
  refine hK.out _ _ (range_r VK.out) (fun hHeld => ?_)
  clear hK K
  refine norm_any' (fun K hK => ?_)
  go_simp
  refine hK _ _ ?_
  clear hK K
  refine wpAnyH_take (i := 5) (v := hv H1) rfl (by kernel_rfl) (by kernel_rfl) (by kernel_rfl) (fun _ _ _ h => h) (Or.inl ⟨by rfl, by intro w hs; go_simp⟩) hHeld ?_
  refine norm_any' (fun K hK => ?_)
  go_simp
  refine hK _ _ ?_
  clear hK K
  refine wpAnyH_take (i := 6) (v := .int .i64 E1) rfl (by kernel_rfl) (by kernel_rfl) (by kernel_rfl) (fun _ _ _ h => h) (Or.inl ⟨by rfl, by intro w hs; go_simp⟩) hHeld ?_
  refine norm_any' (fun K hK => ?_)
  go_simp
  refine hK _ _ ?_
  clear hK K
  refine wpAnyH_ready (rs := [7]) (by kernel_rfl) (by simp) (AllReadyH.cons rfl (fun K hK => ?_) AllReadyH.nil)
  rw [if_pos (by rfl)]
  have HR : Aside _ := setRow_heap W4 (w.heap.size + 1 + 1) _ (hl H1).toArray 28 (0, 0) VR.out
  have HF : Aside (RqP J1 H1 E1 w (.returned (.tuple #[hv H1, .int .i64 E1])) (W4.setRow (w.heap.size + 1 + 1) (hl H1).toArray)) := ⟨rfl, HK1.out.set _ _ _ _ HJ4.out VR.out (by have := HN.out; omega), HZ4.out.set (by omega) _⟩
  have VS : Aside ((W4.setRow (w.heap.size + 1 + 1) (hl H1).toArray).heap[w.heap.size]? = some (.cells (hl H).toArray 28 (0, 0))) := (setRow_other _ _ _ _ (by omega)).trans VK.out
  refine wp_store_row 28 _ _ rfl (w.heap.size + 1 + 1) (hl H1).toArray (by rfl) (by rfl) 28 _ VR.out (hi28r.trans (by simp [hH1])) (by simp [hH1, z16_len]) (hl_one H1) ?_
  refine hK.out _ _ (range_r VS.out) (fun hHeld => ?_)
  clear hK K
  refine norm_any' (fun K hK => ?_)
  go_simp
  refine hK _ _ ?_
  clear hK K
  refine wpAnyH_take (i := 8) (v := .int .i64 E1) rfl (by kernel_rfl) (by kernel_rfl) (by kernel_rfl) (fun _ _ _ h => h) (Or.inl ⟨by rfl, by intro w hs; go_simp⟩) hHeld ?_
  refine norm_any' (fun K hK => ?_)
  go_simp
  refine hK _ _ ?_
  clear hK K
  refine wpAnyH_done (by kernel_rfl) ?_ _
  clear hHeld
  go_wp2_with fail
  refine bodyPost_ret (v := .tuple #[hv H1, .int .i64 E1]) (res_r2 (fn := Try.f36) (p := 8) (u := 9) rfl _ _ (w.heap.size + 1 + 1) H1 rfl HR.out hH1) rfl ?_
  exact HF.out
end Go.Proofs.Ytpjoaimbaboleaa
