/- secrets: what each call answers, whatever Derive does. -/
import Derived.Test.YtpjoaimbaboleaaFr
namespace Go.Proofs.Ytpjoaimbaboleaa
open Go.RowKit Go.Shelf Go.Lib
set_option linter.unusedVariables false

theorem Kc.set {a b : World} {B : Nat} (h : Kc a b) (hB : a.heap.size ≤ B) (ds : Array Value) : Kc a (b.setRow B ds) := fun x cs t fr hb h1 h2 =>
  (setRow_other _ _ _ _ (by have := (Array.getElem?_eq_some_iff.1 hb).1; omega)).trans (h x cs t fr hb h1 h2)
/-- A handle's bytes as they lie. -/
theorem sl_box {w : World} {B : Nat} {H : List UInt8} (h : w.heap[B]? = some (.cells (hl H).toArray 29 (0, 0))) : Sl w (some ⟨B, 0, none⟩) H := fun j hj => by
  refine ⟨B, 0, rfl, ?_⟩
  have e := hl_get hj
  simp only [World.cell?, h, Nat.zero_add]
  simpa using e
/-- How a call ends. -/
def ScP (J' : World → Prop) (H' : List UInt8) (E' : Int) (w : World) (e : Ending) (w' : World) : Prop := e = .returned (.tuple #[hv H', .int .i64 E']) ∧ J' w' ∧ Kc w w'
/-- A second step: none behind an error. -/
def Dc2 (p : Option Addr) (J1 : World → Prop) (H1 : List UInt8) (E1 : Int) (S : ByteArray) (l : List UInt8) (H2 : List UInt8) (E2 : Int) (J2 : World → Prop) : Prop := (E1 = 0 ∧ Dc p J1 H1 S l H2 E2 J2) ∨ (E1 ≠ 0 ∧ H2 = H1 ∧ E2 = E1 ∧ J2 = J1)
theorem next_2 {w : World} {n : Nat} {p : Option Addr} {H1 H2 : List UInt8} {E1 E2 : Int} {n₀ : Nat} {J1 J2 : World → Prop} (hJ : Jk n₀ J1) (hJ' : Jk n₀ J2) (hn : n₀ ≤ n) (h : Cl w n p H1 E1) (hH : H1.length = 16) (hH' : H2.length = 16) (hj : J1 w) (S : ByteArray) (so : Option Addr) (k c : Nat) (l : List UInt8)
    (hjn : ∀ X, Below w.heap.size w X → Calls Try.prog 56 #[.slice so k c] X (JnP l X)) (hd : Dc2 p J1 H1 E1 S l H2 E2 J2) :
    Calls Try.prog 54 #[.string S, .slice so k c, .pointer (some ⟨n + 1 + 1 + 1, 0, none⟩), .pointer (some ⟨n, 0, none⟩), .pointer (some ⟨n + 1 + 1, 0, none⟩)] w (NxP n p J2 H2 E2 w) := by
  rcases hd with ⟨rfl, hd⟩ | ⟨h0, rfl, rfl, rfl⟩
  · exact next_c hJ hJ' hn h hH hH' hj S so k c l hjn hd
  · exact next_err hJ h hH h0 hj S so k c
theorem jn_one {w X : World} {b sc : Nat} {o : Option Addr} {l : List UInt8} {cp : Nat} (h : w.heap[b]? = some (.cells #[.slice o l.length cp] 33 (0, 0))) (hS : Sl w o l) (hl : l.length ≤ 140737488351300) (hX : Below w.heap.size w X) : Calls Try.prog 56 #[.slice (some ⟨b, 0, none⟩) 1 sc] X (JnP l X) :=
  joined_1 X b sc o l cp (by have := heap_bel h hX; simp [World.cell?, this]) (hS.bel hX) hl

set_option maxRecDepth 100000 in
set_option maxHeartbeats 1000000 in
theorem master_g {w : World} {p : Option Addr} {n₀ : Nat} {J J1 J2 : World → Prop} {H1 H2 : List UInt8} {E1 E2 : Int} (hJ : Jk n₀ J) (hJ1 : Jk n₀ J1) (hJ2 : Jk n₀ J2) (hn : n₀ ≤ w.heap.size) (hj : J w) (hH1 : H1.length = 16) (hH2 : H2.length = 16) (H : List UInt8) (hH : H.length = 16) (hd1 : Dc p J H ⟨#[109, 97, 115, 116, 101, 114]⟩ [] H1 E1 J1) :
    Calls Try.prog 19 #[.pointer p, hv H] w (ScP J1 H1 E1 w) := by
  have hb1 : Below w.heap.size w ((w.alloc (.cells (hl H).toArray 29)).alloc (.cells (hl z16).toArray 29)) := ((bel1 w _).alloc (by simp) _)
  have X3 : Aside (((w.alloc (.cells (hl H).toArray 29)).alloc (.cells (hl z16).toArray 29)).heap[w.heap.size]? = some (.cells (hl H).toArray 29 (0, 0))) := nth' (new' rfl)
  have X4 : Aside (((w.alloc (.cells (hl H).toArray 29)).alloc (.cells (hl z16).toArray 29)).heap[w.heap.size + 1]? = some (.cells (hl z16).toArray 29 (0, 0))) := new' (by simp)
  have HB : Aside (Below w.heap.size w ((w.alloc (.cells (hl H).toArray 29)).alloc (.cells (hl z16).toArray 29))) := hb1
  have HJW : Aside (J ((w.alloc (.cells (hl H).toArray 29)).alloc (.cells (hl z16).toArray 29))) := hJ.bel _ _ hj hb1
  have HSZ : Aside (w.heap.size + 1 < ((w.alloc (.cells (hl H).toArray 29)).alloc (.cells (hl z16).toArray 29)).heap.size) := by show _ < _; simp
  have HN : Aside (n₀ ≤ w.heap.size) := hn
  have HK : Aside (Jk n₀ J) := hJ
  have HK1 : Aside (Jk n₀ J1) := hJ1
  have HK2 : Aside (Jk n₀ J2) := hJ2
  have HD1 : Aside (Dc p J H ⟨#[109, 97, 115, 116, 101, 114]⟩ [] H1 E1 J1) := hd1
  clear hb1 hj hJ hJ1 hJ2 hd1 hn
  go_enter Try.func19, Try.ntmps19
  go_wp2_with (refine ld28 rfl (.tmp 3) rfl (w.heap.size) rfl H X3.out hH (Hid.out ?_))
  rw [hz28]
  generalize ((w.alloc (.cells (hl H).toArray 29)).alloc (.cells (hl z16).toArray 29)) = W1 at *
  refine mkHid ?_
  go_wp2_with fail
  refine Calls.mono (from_c p H hH W1) ?_
  rintro e W2 ⟨rfl, hcl, hb⟩
  have Y3 : Aside _ := heap_bel X3.out hb
  have Y4 : Aside _ := heap_bel X4.out hb
  have HJ2 : Aside (J W2) := HK.out.bel _ _ HJW.out hb
  have HB2 : Aside (Below w.heap.size w W2) := HB.out.trans (hb.mono HB.out.size)
  have HL2 : Aside (W1.heap.size ≤ W2.heap.size) := hb.size
  have HCL : Aside (Cl W2 W1.heap.size p H 0) := hcl
  have HN1 : Aside (w.heap.size ≤ W1.heap.size) := HB.out.size
  clear hcl hb HJW X3 X4
  go_wp2_with fail
  have HCa0 : Aside (Cl W2 W1.heap.size p H 0) := HCL.out
  have HJa0 : Aside (J W2) := HJ2.out
  refine Calls.mono (next_c HK.out HK1.out (Nat.le_trans HN.out HN1.out) HCa0.out hH hH1 HJa0.out ⟨#[109, 97, 115, 116, 101, 114]⟩ none 0 0 [] (fun X hX => joined_0 X) HD1.out) ?_
  rintro e Z0 ⟨rfl, hc4, hj4, hk4⟩
  have HCz0 : Aside (Cl Z0 W1.heap.size p H1 E1) := hc4
  have HJz0 : Aside (J1 Z0) := hj4
  have HKf0 : Aside (Kf W1.heap.size W2 Z0) := (Kf.of_kc (Kc.of_bel (Below.refl _ _))).trans hk4
  have Z03 : Aside _ := HKf0.out (w.heap.size) _ _ _ (by have := HSZ.out; omega) (by have := HSZ.out; omega) Y3.out (by decide) (by decide)
  have Z04 : Aside _ := HKf0.out (w.heap.size + 1) _ _ _ (by have := HSZ.out; omega) (by have := HSZ.out; omega) Y4.out (by decide) (by decide)
  clear hc4 hj4 hk4 HCa0 HJa0
  have HR : Aside _ := setRow_heap Z0 (w.heap.size + 1) _ (hl H1).toArray 29 (0, 0) Z04.out
  have HKq : Aside (Kc w Z0) := Kf.kc (Kc.of_bel HB2.out) HKf0.out HN1.out
  have HF : Aside (ScP J1 H1 E1 w (.returned (.tuple #[hv H1, .int .i64 E1])) (Z0.setRow (w.heap.size + 1) (hl H1).toArray)) := ⟨rfl, HK1.out.set _ _ _ _ _ HJz0.out Z04.out (.inl rfl) (by have := HN.out; omega), HKq.out.set (by omega) _⟩
  go_wp2_with (refine st28 rfl (.tmp 4) (.tmp 10) rfl (w.heap.size + 1) H1 rfl rfl z16 Z04.out hH1 rfl ?_)
  refine bodyPost_ret (v := .tuple #[hv H1, .int .i64 E1]) (res_h (fn := Try.f19) (p := 4) (u := 5) rfl _ _ (w.heap.size + 1) H1 rfl HR.out hH1) rfl ?_
  exact HF.out
set_option maxRecDepth 100000 in
set_option maxHeartbeats 1000000 in
theorem add_g {w : World} {p : Option Addr} {n₀ : Nat} {J J1 J2 : World → Prop} {H1 H2 : List UInt8} {E1 E2 : Int} (hJ : Jk n₀ J) (hJ1 : Jk n₀ J1) (hJ2 : Jk n₀ J2) (hn : n₀ ≤ w.heap.size) (hj : J w) (hH1 : H1.length = 16) (hH2 : H2.length = 16) (H : List UInt8) (hH : H.length = 16) (o : Option Addr) (c : Nat) (l : List UInt8) (hS : Sl w o l) (hl0 : l.length ≤ 140737488351300) (hd1 : Dc p J H ⟨#[109, 101, 115, 115, 97, 103, 101]⟩ l H1 E1 J1) :
    Calls Try.prog 16 #[.pointer p, hv H, .slice o l.length c] w (ScP J1 H1 E1 w) := by
  have hb1 : Below w.heap.size w ((w.alloc (.cells (hl H).toArray 29)).alloc (.cells (hl z16).toArray 29)) := ((bel1 w _).alloc (by simp) _)
  have X4 : Aside (((w.alloc (.cells (hl H).toArray 29)).alloc (.cells (hl z16).toArray 29)).heap[w.heap.size]? = some (.cells (hl H).toArray 29 (0, 0))) := nth' (new' rfl)
  have X6 : Aside (((w.alloc (.cells (hl H).toArray 29)).alloc (.cells (hl z16).toArray 29)).heap[w.heap.size + 1]? = some (.cells (hl z16).toArray 29 (0, 0))) := new' (by simp)
  have HB : Aside (Below w.heap.size w ((w.alloc (.cells (hl H).toArray 29)).alloc (.cells (hl z16).toArray 29))) := hb1
  have HJW : Aside (J ((w.alloc (.cells (hl H).toArray 29)).alloc (.cells (hl z16).toArray 29))) := hJ.bel _ _ hj hb1
  have HSZ : Aside (w.heap.size + 1 < ((w.alloc (.cells (hl H).toArray 29)).alloc (.cells (hl z16).toArray 29)).heap.size) := by show _ < _; simp
  have HN : Aside (n₀ ≤ w.heap.size) := hn
  have HK : Aside (Jk n₀ J) := hJ
  have HK1 : Aside (Jk n₀ J1) := hJ1
  have HK2 : Aside (Jk n₀ J2) := hJ2
  have HD1 : Aside (Dc p J H ⟨#[109, 101, 115, 115, 97, 103, 101]⟩ l H1 E1 J1) := hd1
  have HS : Aside (Sl ((w.alloc (.cells (hl H).toArray 29)).alloc (.cells (hl z16).toArray 29)) o l) := hS.bel hb1
  clear hS
  clear hb1 hj hJ hJ1 hJ2 hd1 hn
  go_enter Try.func16, Try.ntmps16
  go_wp2_with (refine ld28 rfl (.tmp 4) rfl (w.heap.size) rfl H X4.out hH (Hid.out ?_))
  rw [hz28]
  generalize ((w.alloc (.cells (hl H).toArray 29)).alloc (.cells (hl z16).toArray 29)) = W1 at *
  refine mkHid ?_
  go_wp2_with fail
  refine Calls.mono (from_c p H hH W1) ?_
  rintro e W2 ⟨rfl, hcl, hb⟩
  have Y4 : Aside _ := heap_bel X4.out hb
  have Y6 : Aside _ := heap_bel X6.out hb
  have HJ2 : Aside (J W2) := HK.out.bel _ _ HJW.out hb
  have HB2 : Aside (Below w.heap.size w W2) := HB.out.trans (hb.mono HB.out.size)
  have HL2 : Aside (W1.heap.size ≤ W2.heap.size) := hb.size
  have HCL : Aside (Cl W2 W1.heap.size p H 0) := hcl
  have HN1 : Aside (w.heap.size ≤ W1.heap.size) := HB.out.size
  have HS2 : Aside (Sl W2 o l) := Sl.bel HS.out hb
  clear HS
  clear hcl hb HJW X4 X6
  go_wp2_with fail
  have HCa0 : Aside (Cl (W2.alloc (.cells #[.slice o l.length c] 33)) W1.heap.size p H 0) := Cl.bel HCL.out (bel1 _ _)
  have HJa0 : Aside (J (W2.alloc (.cells #[.slice o l.length c] 33))) := HK.out.bel _ _ HJ2.out (bel1 _ _)
  have HJn0 : Aside (∀ X, Below (W2.alloc (.cells #[.slice o l.length c] 33)).heap.size (W2.alloc (.cells #[.slice o l.length c] 33)) X → Calls Try.prog 56 #[.slice (some ⟨W2.heap.size, 0, none⟩) 1 1] X (JnP l X)) := fun X hX => jn_one (heap_alloc_new W2 (.cells #[.slice o l.length c] 33)) (Sl.bel (HS2.out) (bel1 _ _)) hl0 hX
  refine Calls.mono (next_c HK.out HK1.out (Nat.le_trans HN.out HN1.out) HCa0.out hH hH1 HJa0.out ⟨#[109, 101, 115, 115, 97, 103, 101]⟩ (some ⟨W2.heap.size, 0, none⟩) 1 1 l (HJn0.out) HD1.out) ?_
  rintro e Z0 ⟨rfl, hc4, hj4, hk4⟩
  have HCz0 : Aside (Cl Z0 W1.heap.size p H1 E1) := hc4
  have HJz0 : Aside (J1 Z0) := hj4
  have HKf0 : Aside (Kf W1.heap.size W2 Z0) := (Kf.of_kc (Kc.of_bel (bel1 _ _))).trans hk4
  have Z04 : Aside _ := HKf0.out (w.heap.size) _ _ _ (by have := HSZ.out; omega) (by have := HSZ.out; omega) Y4.out (by decide) (by decide)
  have Z06 : Aside _ := HKf0.out (w.heap.size + 1) _ _ _ (by have := HSZ.out; omega) (by have := HSZ.out; omega) Y6.out (by decide) (by decide)
  clear hc4 hj4 hk4 HCa0 HJa0 HJn0
  have HR : Aside _ := setRow_heap Z0 (w.heap.size + 1) _ (hl H1).toArray 29 (0, 0) Z06.out
  have HKq : Aside (Kc w Z0) := Kf.kc (Kc.of_bel HB2.out) HKf0.out HN1.out
  have HF : Aside (ScP J1 H1 E1 w (.returned (.tuple #[hv H1, .int .i64 E1])) (Z0.setRow (w.heap.size + 1) (hl H1).toArray)) := ⟨rfl, HK1.out.set _ _ _ _ _ HJz0.out Z06.out (.inl rfl) (by have := HN.out; omega), HKq.out.set (by omega) _⟩
  go_wp2_with (refine st28 rfl (.tmp 6) (.tmp 14) rfl (w.heap.size + 1) H1 rfl rfl z16 Z06.out hH1 rfl ?_)
  refine bodyPost_ret (v := .tuple #[hv H1, .int .i64 E1]) (res_h (fn := Try.f16) (p := 6) (u := 7) rfl _ _ (w.heap.size + 1) H1 rfl HR.out hH1) rfl ?_
  exact HF.out
set_option maxRecDepth 100000 in
set_option maxHeartbeats 1000000 in
theorem mark_g {w : World} {p : Option Addr} {n₀ : Nat} {J J1 J2 : World → Prop} {H1 H2 : List UInt8} {E1 E2 : Int} (hJ : Jk n₀ J) (hJ1 : Jk n₀ J1) (hJ2 : Jk n₀ J2) (hn : n₀ ≤ w.heap.size) (hj : J w) (hH1 : H1.length = 16) (hH2 : H2.length = 16) (H : List UInt8) (hH : H.length = 16) (G : List UInt8) (hG : G.length = 16) (hd1 : Dc p J H ⟨#[102, 105, 110, 105, 115, 104, 101, 100]⟩ [] H1 E1 J1) (hd2 : Dc2 p J1 H1 E1 ⟨#[109, 97, 114, 107]⟩ G H2 E2 J2) :
    Calls Try.prog 21 #[.pointer p, hv H, hv G] w (ScP J2 H2 E2 w) := by
  have hb1 : Below w.heap.size w (((w.alloc (.cells (hl H).toArray 29)).alloc (.cells (hl G).toArray 29)).alloc (.cells (hl z16).toArray 29)) := (((bel1 w _).alloc (by simp) _).alloc (by simp; omega) _)
  have X4 : Aside ((((w.alloc (.cells (hl H).toArray 29)).alloc (.cells (hl G).toArray 29)).alloc (.cells (hl z16).toArray 29)).heap[w.heap.size]? = some (.cells (hl H).toArray 29 (0, 0))) := nth' (nth' (new' rfl))
  have X5 : Aside ((((w.alloc (.cells (hl H).toArray 29)).alloc (.cells (hl G).toArray 29)).alloc (.cells (hl z16).toArray 29)).heap[w.heap.size + 1]? = some (.cells (hl G).toArray 29 (0, 0))) := nth' (new' (by simp))
  have X6 : Aside ((((w.alloc (.cells (hl H).toArray 29)).alloc (.cells (hl G).toArray 29)).alloc (.cells (hl z16).toArray 29)).heap[w.heap.size + 1 + 1]? = some (.cells (hl z16).toArray 29 (0, 0))) := new' (by simp)
  have HB : Aside (Below w.heap.size w (((w.alloc (.cells (hl H).toArray 29)).alloc (.cells (hl G).toArray 29)).alloc (.cells (hl z16).toArray 29))) := hb1
  have HJW : Aside (J (((w.alloc (.cells (hl H).toArray 29)).alloc (.cells (hl G).toArray 29)).alloc (.cells (hl z16).toArray 29))) := hJ.bel _ _ hj hb1
  have HSZ : Aside (w.heap.size + 1 + 1 < (((w.alloc (.cells (hl H).toArray 29)).alloc (.cells (hl G).toArray 29)).alloc (.cells (hl z16).toArray 29)).heap.size) := by show _ < _; simp
  have HN : Aside (n₀ ≤ w.heap.size) := hn
  have HK : Aside (Jk n₀ J) := hJ
  have HK1 : Aside (Jk n₀ J1) := hJ1
  have HK2 : Aside (Jk n₀ J2) := hJ2
  have HD1 : Aside (Dc p J H ⟨#[102, 105, 110, 105, 115, 104, 101, 100]⟩ [] H1 E1 J1) := hd1
  have HD2 : Aside (Dc2 p J1 H1 E1 ⟨#[109, 97, 114, 107]⟩ G H2 E2 J2) := hd2
  clear hd2
  clear hb1 hj hJ hJ1 hJ2 hd1 hn
  go_enter Try.func21, Try.ntmps21
  go_wp2_with (refine ld28 rfl (.tmp 4) rfl (w.heap.size) rfl H X4.out hH (Hid.out ?_))
  rw [hz28]
  generalize (((w.alloc (.cells (hl H).toArray 29)).alloc (.cells (hl G).toArray 29)).alloc (.cells (hl z16).toArray 29)) = W1 at *
  refine mkHid ?_
  go_wp2_with fail
  refine Calls.mono (from_c p H hH W1) ?_
  rintro e W2 ⟨rfl, hcl, hb⟩
  have Y4 : Aside _ := heap_bel X4.out hb
  have Y5 : Aside _ := heap_bel X5.out hb
  have Y6 : Aside _ := heap_bel X6.out hb
  have HJ2 : Aside (J W2) := HK.out.bel _ _ HJW.out hb
  have HB2 : Aside (Below w.heap.size w W2) := HB.out.trans (hb.mono HB.out.size)
  have HL2 : Aside (W1.heap.size ≤ W2.heap.size) := hb.size
  have HCL : Aside (Cl W2 W1.heap.size p H 0) := hcl
  have HN1 : Aside (w.heap.size ≤ W1.heap.size) := HB.out.size
  clear hcl hb HJW X4 X5 X6
  go_wp2_with fail
  have HCa0 : Aside (Cl W2 W1.heap.size p H 0) := HCL.out
  have HJa0 : Aside (J W2) := HJ2.out
  refine Calls.mono (next_c HK.out HK1.out (Nat.le_trans HN.out HN1.out) HCa0.out hH hH1 HJa0.out ⟨#[102, 105, 110, 105, 115, 104, 101, 100]⟩ none 0 0 [] (fun X hX => joined_0 X) HD1.out) ?_
  rintro e Z0 ⟨rfl, hc4, hj4, hk4⟩
  have HCz0 : Aside (Cl Z0 W1.heap.size p H1 E1) := hc4
  have HJz0 : Aside (J1 Z0) := hj4
  have HKf0 : Aside (Kf W1.heap.size W2 Z0) := (Kf.of_kc (Kc.of_bel (Below.refl _ _))).trans hk4
  have Z04 : Aside _ := HKf0.out (w.heap.size) _ _ _ (by have := HSZ.out; omega) (by have := HSZ.out; omega) Y4.out (by decide) (by decide)
  have Z05 : Aside _ := HKf0.out (w.heap.size + 1) _ _ _ (by have := HSZ.out; omega) (by have := HSZ.out; omega) Y5.out (by decide) (by decide)
  have Z06 : Aside _ := HKf0.out (w.heap.size + 1 + 1) _ _ _ (by have := HSZ.out; omega) (by have := HSZ.out; omega) Y6.out (by decide) (by decide)
  clear hc4 hj4 hk4 HCa0 HJa0
  go_wp2_with fail
  have HCa1 : Aside (Cl (Z0.alloc (.cells #[.slice (some ⟨w.heap.size + 1, 0, none⟩) G.length 16] 33)) W1.heap.size p H1 E1) := Cl.bel HCz0.out (bel1 _ _)
  have HJa1 : Aside (J1 (Z0.alloc (.cells #[.slice (some ⟨w.heap.size + 1, 0, none⟩) G.length 16] 33))) := HK1.out.bel _ _ HJz0.out (bel1 _ _)
  have HJn1 : Aside (∀ X, Below (Z0.alloc (.cells #[.slice (some ⟨w.heap.size + 1, 0, none⟩) G.length 16] 33)).heap.size (Z0.alloc (.cells #[.slice (some ⟨w.heap.size + 1, 0, none⟩) G.length 16] 33)) X → Calls Try.prog 56 #[.slice (some ⟨Z0.heap.size, 0, none⟩) 1 1] X (JnP G X)) := fun X hX => jn_one (heap_alloc_new Z0 (.cells #[.slice (some ⟨w.heap.size + 1, 0, none⟩) G.length 16] 33)) (Sl.bel (sl_box Z05.out) (bel1 _ _)) (by rw [hG]; omega) hX
  rw [hG] at HCa1 HJa1 HJn1
  refine Calls.mono (next_2 HK1.out HK2.out (Nat.le_trans HN.out HN1.out) HCa1.out hH1 hH2 HJa1.out ⟨#[109, 97, 114, 107]⟩ (some ⟨Z0.heap.size, 0, none⟩) 1 1 G (HJn1.out) HD2.out) ?_
  rintro e Z1 ⟨rfl, hc4, hj4, hk4⟩
  have HCz1 : Aside (Cl Z1 W1.heap.size p H2 E2) := hc4
  have HJz1 : Aside (J2 Z1) := hj4
  have HKf1 : Aside (Kf W1.heap.size Z0 Z1) := (Kf.of_kc (Kc.of_bel (bel1 _ _))).trans hk4
  have Z14 : Aside _ := HKf1.out (w.heap.size) _ _ _ (by have := HSZ.out; omega) (by have := HSZ.out; omega) Z04.out (by decide) (by decide)
  have Z15 : Aside _ := HKf1.out (w.heap.size + 1) _ _ _ (by have := HSZ.out; omega) (by have := HSZ.out; omega) Z05.out (by decide) (by decide)
  have Z16 : Aside _ := HKf1.out (w.heap.size + 1 + 1) _ _ _ (by have := HSZ.out; omega) (by have := HSZ.out; omega) Z06.out (by decide) (by decide)
  clear hc4 hj4 hk4 HCa1 HJa1 HJn1
  have HR : Aside _ := setRow_heap Z1 (w.heap.size + 1 + 1) _ (hl H2).toArray 29 (0, 0) Z16.out
  have HKq : Aside (Kc w Z1) := Kf.kc (Kc.of_bel HB2.out) (HKf0.out.trans HKf1.out) HN1.out
  have HF : Aside (ScP J2 H2 E2 w (.returned (.tuple #[hv H2, .int .i64 E2])) (Z1.setRow (w.heap.size + 1 + 1) (hl H2).toArray)) := ⟨rfl, HK2.out.set _ _ _ _ _ HJz1.out Z16.out (.inl rfl) (by have := HN.out; omega), HKq.out.set (by omega) _⟩
  go_wp2_with (refine st28 rfl (.tmp 6) (.tmp 18) rfl (w.heap.size + 1 + 1) H2 rfl rfl z16 Z16.out hH2 rfl ?_)
  refine bodyPost_ret (v := .tuple #[hv H2, .int .i64 E2]) (res_h (fn := Try.f21) (p := 6) (u := 7) rfl _ _ (w.heap.size + 1 + 1) H2 rfl HR.out hH2) rfl ?_
  exact HF.out
set_option maxRecDepth 100000 in
set_option maxHeartbeats 1000000 in
theorem bind_g {w : World} {p : Option Addr} {n₀ : Nat} {J J1 J2 : World → Prop} {H1 H2 : List UInt8} {E1 E2 : Int} (hJ : Jk n₀ J) (hJ1 : Jk n₀ J1) (hJ2 : Jk n₀ J2) (hn : n₀ ≤ w.heap.size) (hj : J w) (hH1 : H1.length = 16) (hH2 : H2.length = 16) (H : List UInt8) (hH : H.length = 16) (o : Option Addr) (c : Nat) (l : List UInt8) (hS : Sl w o l) (hl0 : l.length ≤ 140737488351300) (hSJ : ∀ X, J1 X → Sl X o l) (hd1 : Dc p J H ⟨#[98, 105, 110, 100, 101, 114]⟩ [] H1 E1 J1) (hd2 : Dc2 p J1 H1 E1 ⟨#[109, 97, 114, 107]⟩ l H2 E2 J2) :
    Calls Try.prog 22 #[.pointer p, hv H, .slice o l.length c] w (ScP J2 H2 E2 w) := by
  have hb1 : Below w.heap.size w ((w.alloc (.cells (hl H).toArray 29)).alloc (.cells (hl z16).toArray 29)) := ((bel1 w _).alloc (by simp) _)
  have X4 : Aside (((w.alloc (.cells (hl H).toArray 29)).alloc (.cells (hl z16).toArray 29)).heap[w.heap.size]? = some (.cells (hl H).toArray 29 (0, 0))) := nth' (new' rfl)
  have X6 : Aside (((w.alloc (.cells (hl H).toArray 29)).alloc (.cells (hl z16).toArray 29)).heap[w.heap.size + 1]? = some (.cells (hl z16).toArray 29 (0, 0))) := new' (by simp)
  have HB : Aside (Below w.heap.size w ((w.alloc (.cells (hl H).toArray 29)).alloc (.cells (hl z16).toArray 29))) := hb1
  have HJW : Aside (J ((w.alloc (.cells (hl H).toArray 29)).alloc (.cells (hl z16).toArray 29))) := hJ.bel _ _ hj hb1
  have HSZ : Aside (w.heap.size + 1 < ((w.alloc (.cells (hl H).toArray 29)).alloc (.cells (hl z16).toArray 29)).heap.size) := by show _ < _; simp
  have HN : Aside (n₀ ≤ w.heap.size) := hn
  have HK : Aside (Jk n₀ J) := hJ
  have HK1 : Aside (Jk n₀ J1) := hJ1
  have HK2 : Aside (Jk n₀ J2) := hJ2
  have HD1 : Aside (Dc p J H ⟨#[98, 105, 110, 100, 101, 114]⟩ [] H1 E1 J1) := hd1
  have HD2 : Aside (Dc2 p J1 H1 E1 ⟨#[109, 97, 114, 107]⟩ l H2 E2 J2) := hd2
  clear hd2
  have HS : Aside (Sl ((w.alloc (.cells (hl H).toArray 29)).alloc (.cells (hl z16).toArray 29)) o l) := hS.bel hb1
  clear hS
  have HSJ : Aside (∀ X, J1 X → Sl X o l) := hSJ
  clear hSJ
  clear hb1 hj hJ hJ1 hJ2 hd1 hn
  go_enter Try.func22, Try.ntmps22
  go_wp2_with (refine ld28 rfl (.tmp 4) rfl (w.heap.size) rfl H X4.out hH (Hid.out ?_))
  rw [hz28]
  generalize ((w.alloc (.cells (hl H).toArray 29)).alloc (.cells (hl z16).toArray 29)) = W1 at *
  refine mkHid ?_
  go_wp2_with fail
  refine Calls.mono (from_c p H hH W1) ?_
  rintro e W2 ⟨rfl, hcl, hb⟩
  have Y4 : Aside _ := heap_bel X4.out hb
  have Y6 : Aside _ := heap_bel X6.out hb
  have HJ2 : Aside (J W2) := HK.out.bel _ _ HJW.out hb
  have HB2 : Aside (Below w.heap.size w W2) := HB.out.trans (hb.mono HB.out.size)
  have HL2 : Aside (W1.heap.size ≤ W2.heap.size) := hb.size
  have HCL : Aside (Cl W2 W1.heap.size p H 0) := hcl
  have HN1 : Aside (w.heap.size ≤ W1.heap.size) := HB.out.size
  have HS2 : Aside (Sl W2 o l) := Sl.bel HS.out hb
  clear HS
  clear hcl hb HJW X4 X6
  go_wp2_with fail
  have HCa0 : Aside (Cl W2 W1.heap.size p H 0) := HCL.out
  have HJa0 : Aside (J W2) := HJ2.out
  refine Calls.mono (next_c HK.out HK1.out (Nat.le_trans HN.out HN1.out) HCa0.out hH hH1 HJa0.out ⟨#[98, 105, 110, 100, 101, 114]⟩ none 0 0 [] (fun X hX => joined_0 X) HD1.out) ?_
  rintro e Z0 ⟨rfl, hc4, hj4, hk4⟩
  have HCz0 : Aside (Cl Z0 W1.heap.size p H1 E1) := hc4
  have HJz0 : Aside (J1 Z0) := hj4
  have HKf0 : Aside (Kf W1.heap.size W2 Z0) := (Kf.of_kc (Kc.of_bel (Below.refl _ _))).trans hk4
  have Z04 : Aside _ := HKf0.out (w.heap.size) _ _ _ (by have := HSZ.out; omega) (by have := HSZ.out; omega) Y4.out (by decide) (by decide)
  have Z06 : Aside _ := HKf0.out (w.heap.size + 1) _ _ _ (by have := HSZ.out; omega) (by have := HSZ.out; omega) Y6.out (by decide) (by decide)
  have HSz : Aside (Sl Z0 o l) := HSJ.out _ HJz0.out
  clear hc4 hj4 hk4 HCa0 HJa0
  go_wp2_with fail
  have HCa1 : Aside (Cl (Z0.alloc (.cells #[.slice o l.length c] 33)) W1.heap.size p H1 E1) := Cl.bel HCz0.out (bel1 _ _)
  have HJa1 : Aside (J1 (Z0.alloc (.cells #[.slice o l.length c] 33))) := HK1.out.bel _ _ HJz0.out (bel1 _ _)
  have HJn1 : Aside (∀ X, Below (Z0.alloc (.cells #[.slice o l.length c] 33)).heap.size (Z0.alloc (.cells #[.slice o l.length c] 33)) X → Calls Try.prog 56 #[.slice (some ⟨Z0.heap.size, 0, none⟩) 1 1] X (JnP l X)) := fun X hX => jn_one (heap_alloc_new Z0 (.cells #[.slice o l.length c] 33)) (Sl.bel (HSz.out) (bel1 _ _)) hl0 hX
  refine Calls.mono (next_2 HK1.out HK2.out (Nat.le_trans HN.out HN1.out) HCa1.out hH1 hH2 HJa1.out ⟨#[109, 97, 114, 107]⟩ (some ⟨Z0.heap.size, 0, none⟩) 1 1 l (HJn1.out) HD2.out) ?_
  rintro e Z1 ⟨rfl, hc4, hj4, hk4⟩
  have HCz1 : Aside (Cl Z1 W1.heap.size p H2 E2) := hc4
  have HJz1 : Aside (J2 Z1) := hj4
  have HKf1 : Aside (Kf W1.heap.size Z0 Z1) := (Kf.of_kc (Kc.of_bel (bel1 _ _))).trans hk4
  have Z14 : Aside _ := HKf1.out (w.heap.size) _ _ _ (by have := HSZ.out; omega) (by have := HSZ.out; omega) Z04.out (by decide) (by decide)
  have Z16 : Aside _ := HKf1.out (w.heap.size + 1) _ _ _ (by have := HSZ.out; omega) (by have := HSZ.out; omega) Z06.out (by decide) (by decide)
  clear hc4 hj4 hk4 HCa1 HJa1 HJn1
  have HR : Aside _ := setRow_heap Z1 (w.heap.size + 1) _ (hl H2).toArray 29 (0, 0) Z16.out
  have HKq : Aside (Kc w Z1) := Kf.kc (Kc.of_bel HB2.out) (HKf0.out.trans HKf1.out) HN1.out
  have HF : Aside (ScP J2 H2 E2 w (.returned (.tuple #[hv H2, .int .i64 E2])) (Z1.setRow (w.heap.size + 1) (hl H2).toArray)) := ⟨rfl, HK2.out.set _ _ _ _ _ HJz1.out Z16.out (.inl rfl) (by have := HN.out; omega), HKq.out.set (by omega) _⟩
  go_wp2_with (refine st28 rfl (.tmp 6) (.tmp 18) rfl (w.heap.size + 1) H2 rfl rfl z16 Z16.out hH2 rfl ?_)
  refine bodyPost_ret (v := .tuple #[hv H2, .int .i64 E2]) (res_h (fn := Try.f22) (p := 6) (u := 7) rfl _ _ (w.heap.size + 1) H2 rfl HR.out hH2) rfl ?_
  exact HF.out
set_option maxRecDepth 100000 in
set_option maxHeartbeats 1000000 in
theorem resume_g {w : World} {p : Option Addr} {n₀ : Nat} {J J1 J2 : World → Prop} {H1 H2 : List UInt8} {E1 E2 : Int} (hJ : Jk n₀ J) (hJ1 : Jk n₀ J1) (hJ2 : Jk n₀ J2) (hn : n₀ ≤ w.heap.size) (hj : J w) (hH1 : H1.length = 16) (hH2 : H2.length = 16) (H : List UInt8) (hH : H.length = 16) (G : List UInt8) (hG : G.length = 16) (o : Option Addr) (c : Nat) (l : List UInt8) (hS : Sl w o l) (hl0 : l.length ≤ 140737488351300) (hSJ : ∀ X, J1 X → Sl X o l) (hd1 : Dc p J H ⟨#[114, 101, 115, 117, 109, 101]⟩ G H1 E1 J1) (hd2 : Dc2 p J1 H1 E1 ⟨#[116, 105, 99, 107, 101, 116]⟩ l H2 E2 J2) :
    Calls Try.prog 23 #[.pointer p, hv H, hv G, .slice o l.length c] w (ScP J2 H2 E2 w) := by
  have hb1 : Below w.heap.size w (((w.alloc (.cells (hl H).toArray 29)).alloc (.cells (hl G).toArray 29)).alloc (.cells (hl z16).toArray 29)) := (((bel1 w _).alloc (by simp) _).alloc (by simp; omega) _)
  have X5 : Aside ((((w.alloc (.cells (hl H).toArray 29)).alloc (.cells (hl G).toArray 29)).alloc (.cells (hl z16).toArray 29)).heap[w.heap.size]? = some (.cells (hl H).toArray 29 (0, 0))) := nth' (nth' (new' rfl))
  have X6 : Aside ((((w.alloc (.cells (hl H).toArray 29)).alloc (.cells (hl G).toArray 29)).alloc (.cells (hl z16).toArray 29)).heap[w.heap.size + 1]? = some (.cells (hl G).toArray 29 (0, 0))) := nth' (new' (by simp))
  have X8 : Aside ((((w.alloc (.cells (hl H).toArray 29)).alloc (.cells (hl G).toArray 29)).alloc (.cells (hl z16).toArray 29)).heap[w.heap.size + 1 + 1]? = some (.cells (hl z16).toArray 29 (0, 0))) := new' (by simp)
  have HB : Aside (Below w.heap.size w (((w.alloc (.cells (hl H).toArray 29)).alloc (.cells (hl G).toArray 29)).alloc (.cells (hl z16).toArray 29))) := hb1
  have HJW : Aside (J (((w.alloc (.cells (hl H).toArray 29)).alloc (.cells (hl G).toArray 29)).alloc (.cells (hl z16).toArray 29))) := hJ.bel _ _ hj hb1
  have HSZ : Aside (w.heap.size + 1 + 1 < (((w.alloc (.cells (hl H).toArray 29)).alloc (.cells (hl G).toArray 29)).alloc (.cells (hl z16).toArray 29)).heap.size) := by show _ < _; simp
  have HN : Aside (n₀ ≤ w.heap.size) := hn
  have HK : Aside (Jk n₀ J) := hJ
  have HK1 : Aside (Jk n₀ J1) := hJ1
  have HK2 : Aside (Jk n₀ J2) := hJ2
  have HD1 : Aside (Dc p J H ⟨#[114, 101, 115, 117, 109, 101]⟩ G H1 E1 J1) := hd1
  have HD2 : Aside (Dc2 p J1 H1 E1 ⟨#[116, 105, 99, 107, 101, 116]⟩ l H2 E2 J2) := hd2
  clear hd2
  have HS : Aside (Sl (((w.alloc (.cells (hl H).toArray 29)).alloc (.cells (hl G).toArray 29)).alloc (.cells (hl z16).toArray 29)) o l) := hS.bel hb1
  clear hS
  have HSJ : Aside (∀ X, J1 X → Sl X o l) := hSJ
  clear hSJ
  clear hb1 hj hJ hJ1 hJ2 hd1 hn
  go_enter Try.func23, Try.ntmps23
  go_wp2_with (refine ld28 rfl (.tmp 5) rfl (w.heap.size) rfl H X5.out hH (Hid.out ?_))
  rw [hz28]
  generalize (((w.alloc (.cells (hl H).toArray 29)).alloc (.cells (hl G).toArray 29)).alloc (.cells (hl z16).toArray 29)) = W1 at *
  refine mkHid ?_
  go_wp2_with fail
  refine Calls.mono (from_c p H hH W1) ?_
  rintro e W2 ⟨rfl, hcl, hb⟩
  have Y5 : Aside _ := heap_bel X5.out hb
  have Y6 : Aside _ := heap_bel X6.out hb
  have Y8 : Aside _ := heap_bel X8.out hb
  have HJ2 : Aside (J W2) := HK.out.bel _ _ HJW.out hb
  have HB2 : Aside (Below w.heap.size w W2) := HB.out.trans (hb.mono HB.out.size)
  have HL2 : Aside (W1.heap.size ≤ W2.heap.size) := hb.size
  have HCL : Aside (Cl W2 W1.heap.size p H 0) := hcl
  have HN1 : Aside (w.heap.size ≤ W1.heap.size) := HB.out.size
  have HS2 : Aside (Sl W2 o l) := Sl.bel HS.out hb
  clear HS
  clear hcl hb HJW X5 X6 X8
  go_wp2_with fail
  have HCa0 : Aside (Cl (W2.alloc (.cells #[.slice (some ⟨w.heap.size + 1, 0, none⟩) G.length 16] 33)) W1.heap.size p H 0) := Cl.bel HCL.out (bel1 _ _)
  have HJa0 : Aside (J (W2.alloc (.cells #[.slice (some ⟨w.heap.size + 1, 0, none⟩) G.length 16] 33))) := HK.out.bel _ _ HJ2.out (bel1 _ _)
  have HJn0 : Aside (∀ X, Below (W2.alloc (.cells #[.slice (some ⟨w.heap.size + 1, 0, none⟩) G.length 16] 33)).heap.size (W2.alloc (.cells #[.slice (some ⟨w.heap.size + 1, 0, none⟩) G.length 16] 33)) X → Calls Try.prog 56 #[.slice (some ⟨W2.heap.size, 0, none⟩) 1 1] X (JnP G X)) := fun X hX => jn_one (heap_alloc_new W2 (.cells #[.slice (some ⟨w.heap.size + 1, 0, none⟩) G.length 16] 33)) (Sl.bel (sl_box Y6.out) (bel1 _ _)) (by rw [hG]; omega) hX
  rw [hG] at HCa0 HJa0 HJn0
  refine Calls.mono (next_c HK.out HK1.out (Nat.le_trans HN.out HN1.out) HCa0.out hH hH1 HJa0.out ⟨#[114, 101, 115, 117, 109, 101]⟩ (some ⟨W2.heap.size, 0, none⟩) 1 1 G (HJn0.out) HD1.out) ?_
  rintro e Z0 ⟨rfl, hc4, hj4, hk4⟩
  have HCz0 : Aside (Cl Z0 W1.heap.size p H1 E1) := hc4
  have HJz0 : Aside (J1 Z0) := hj4
  have HKf0 : Aside (Kf W1.heap.size W2 Z0) := (Kf.of_kc (Kc.of_bel (bel1 _ _))).trans hk4
  have Z05 : Aside _ := HKf0.out (w.heap.size) _ _ _ (by have := HSZ.out; omega) (by have := HSZ.out; omega) Y5.out (by decide) (by decide)
  have Z06 : Aside _ := HKf0.out (w.heap.size + 1) _ _ _ (by have := HSZ.out; omega) (by have := HSZ.out; omega) Y6.out (by decide) (by decide)
  have Z08 : Aside _ := HKf0.out (w.heap.size + 1 + 1) _ _ _ (by have := HSZ.out; omega) (by have := HSZ.out; omega) Y8.out (by decide) (by decide)
  have HSz : Aside (Sl Z0 o l) := HSJ.out _ HJz0.out
  clear hc4 hj4 hk4 HCa0 HJa0 HJn0
  go_wp2_with fail
  have HCa1 : Aside (Cl (Z0.alloc (.cells #[.slice o l.length c] 33)) W1.heap.size p H1 E1) := Cl.bel HCz0.out (bel1 _ _)
  have HJa1 : Aside (J1 (Z0.alloc (.cells #[.slice o l.length c] 33))) := HK1.out.bel _ _ HJz0.out (bel1 _ _)
  have HJn1 : Aside (∀ X, Below (Z0.alloc (.cells #[.slice o l.length c] 33)).heap.size (Z0.alloc (.cells #[.slice o l.length c] 33)) X → Calls Try.prog 56 #[.slice (some ⟨Z0.heap.size, 0, none⟩) 1 1] X (JnP l X)) := fun X hX => jn_one (heap_alloc_new Z0 (.cells #[.slice o l.length c] 33)) (Sl.bel (HSz.out) (bel1 _ _)) hl0 hX
  refine Calls.mono (next_2 HK1.out HK2.out (Nat.le_trans HN.out HN1.out) HCa1.out hH1 hH2 HJa1.out ⟨#[116, 105, 99, 107, 101, 116]⟩ (some ⟨Z0.heap.size, 0, none⟩) 1 1 l (HJn1.out) HD2.out) ?_
  rintro e Z1 ⟨rfl, hc4, hj4, hk4⟩
  have HCz1 : Aside (Cl Z1 W1.heap.size p H2 E2) := hc4
  have HJz1 : Aside (J2 Z1) := hj4
  have HKf1 : Aside (Kf W1.heap.size Z0 Z1) := (Kf.of_kc (Kc.of_bel (bel1 _ _))).trans hk4
  have Z15 : Aside _ := HKf1.out (w.heap.size) _ _ _ (by have := HSZ.out; omega) (by have := HSZ.out; omega) Z05.out (by decide) (by decide)
  have Z16 : Aside _ := HKf1.out (w.heap.size + 1) _ _ _ (by have := HSZ.out; omega) (by have := HSZ.out; omega) Z06.out (by decide) (by decide)
  have Z18 : Aside _ := HKf1.out (w.heap.size + 1 + 1) _ _ _ (by have := HSZ.out; omega) (by have := HSZ.out; omega) Z08.out (by decide) (by decide)
  clear hc4 hj4 hk4 HCa1 HJa1 HJn1
  have HR : Aside _ := setRow_heap Z1 (w.heap.size + 1 + 1) _ (hl H2).toArray 29 (0, 0) Z18.out
  have HKq : Aside (Kc w Z1) := Kf.kc (Kc.of_bel HB2.out) (HKf0.out.trans HKf1.out) HN1.out
  have HF : Aside (ScP J2 H2 E2 w (.returned (.tuple #[hv H2, .int .i64 E2])) (Z1.setRow (w.heap.size + 1 + 1) (hl H2).toArray)) := ⟨rfl, HK2.out.set _ _ _ _ _ HJz1.out Z18.out (.inl rfl) (by have := HN.out; omega), HKq.out.set (by omega) _⟩
  go_wp2_with (refine st28 rfl (.tmp 8) (.tmp 22) rfl (w.heap.size + 1 + 1) H2 rfl rfl z16 Z18.out hH2 rfl ?_)
  refine bodyPost_ret (v := .tuple #[hv H2, .int .i64 E2]) (res_h (fn := Try.f23) (p := 8) (u := 9) rfl _ _ (w.heap.size + 1 + 1) H2 rfl HR.out hH2) rfl ?_
  exact HF.out
end Go.Proofs.Ytpjoaimbaboleaa
