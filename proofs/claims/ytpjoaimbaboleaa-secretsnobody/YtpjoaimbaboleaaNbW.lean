/- SecretsNobody, the walk. -/
import Derived.Test.YtpjoaimbaboleaaSd
namespace Go.Proofs.Ytpjoaimbaboleaa
open Go.RowKit Go.Shelf Go.Lib
set_option linter.unusedVariables false

/-- No vault: nothing older than the law has turned, and the plain one is plain. -/
def JN (W0 : World) (bv : Nat) (X : World) : Prop := Below W0.heap.size W0 X ∧ X.heap[bv]? = some (.cells #[.slice none 0 0, .map none] 43 (0, 0))
theorem jkN (W0 : World) (bv : Nat) : Jk W0.heap.size (JN W0 bv) := ⟨fun X X' h hb => ⟨h.1.trans (hb.mono h.1.size), heap_bel h.2 hb⟩, fun X B t cs ds h hB ht hn => ⟨bel_set h.1 hn _, (setRow_other _ _ _ _ (by
  rintro rfl
  rw [h.2] at hB
  injection hB with hB
  injection hB with _ hB _
  subst hB
  rcases ht with ht | ht <;> cases ht)).trans h.2⟩⟩
/-- The vault that is asked. -/
def Pn (bv : Nat) (p : Option Addr) : Prop := p = none ∨ p = some ⟨bv, 0, none⟩
theorem JN.no {W0 X : World} {bv : Nat} {p : Option Addr} (h : JN W0 bv X) (hp : Pn bv p) : No X p := by
  rcases hp with rfl | rfl
  · exact .inl rfl
  · exact .inr ⟨bv, rfl, by simp [World.cell?, h.2]⟩
theorem rtN (W0 : World) {bv : Nat} {p : Option Addr} (hp : Pn bv p) : Rt p (JN W0 bv) z16 := fun X hX => no_root p X (hX.no hp)
theorem dcN (W0 : World) {bv : Nat} {p : Option Addr} (hp : Pn bv p) (H : List UInt8) (hH : H.length = 16) (S : ByteArray) (l : List UInt8) : Dc p (JN W0 bv) H S l z16 1 (JN W0 bv) := fun X o c hX hS => (no_derive p H S o l.length c X (hX.no hp) hH).mono fun e w' ⟨he, hb⟩ => ⟨he, (jkN W0 bv).bel _ _ hX hb, Kc.of_bel hb⟩
theorem dcN2 (W0 : World) {bv : Nat} {p : Option Addr} (S : ByteArray) (l : List UInt8) : Dc2 p (JN W0 bv) z16 1 S l z16 1 (JN W0 bv) := .inr ⟨by decide, rfl, rfl, rfl⟩
section
variable {W0 w : World} {bv : Nat} {p : Option Addr}
abbrev NP (W0 : World) (bv : Nat) (w : World) : Ending → World → Prop := ScP (JN W0 bv) z16 1 w
theorem n15 (hp : Pn bv p) (hj : JN W0 bv w) : Calls Try.prog 15 #[.pointer p] w (NP W0 bv w) :=
  begin_g (H2 := z16) (E2 := 0) (J2 := JN W0 bv) (jkN W0 bv) (jkN W0 bv) (jkN W0 bv) hj.1.size hj rfl rfl z16 rfl (rtN W0 hp) (dcN W0 hp z16 rfl _ _)
theorem n16 (hp : Pn bv p) (hj : JN W0 bv w) (H : List UInt8) (hH : H.length = 16) (o : Option Addr) (c : Nat) (l : List UInt8) (hS : Sl W0 o l) (hl0 : l.length ≤ 140737488351300) : Calls Try.prog 16 #[.pointer p, hv H, .slice o l.length c] w (NP W0 bv w) :=
  add_g (H2 := z16) (E2 := 0) (J2 := JN W0 bv) (jkN W0 bv) (jkN W0 bv) (jkN W0 bv) hj.1.size hj rfl rfl H hH o c l (hS.bel hj.1) hl0 (dcN W0 hp H hH _ _)
theorem n17 (hp : Pn bv p) (hj : JN W0 bv w) (H : List UInt8) (hH : H.length = 16) (hz : (H == z16) = false) : Calls Try.prog 17 #[.pointer p, hv H] w (NP W0 bv w) :=
  early1_g (H2 := z16) (E2 := 0) (J2 := JN W0 bv) (jkN W0 bv) (jkN W0 bv) (jkN W0 bv) hj.1.size hj rfl rfl H hH hz (dcN W0 hp H hH _ _)
theorem n18 (hp : Pn bv p) (hj : JN W0 bv w) (H G : List UInt8) (hH : H.length = 16) (hG : G.length = 16) : Calls Try.prog 18 #[.pointer p, hv H, hv G] w (NP W0 bv w) :=
  hand_none (jkN W0 bv) hj.1.size hj H hH G hG (fun X hX => none_g (rtN W0 hp) rfl (by decide) hX)
theorem n19 (hp : Pn bv p) (hj : JN W0 bv w) (H : List UInt8) (hH : H.length = 16) : Calls Try.prog 19 #[.pointer p, hv H] w (NP W0 bv w) :=
  master_g (H2 := z16) (E2 := 0) (J2 := JN W0 bv) (jkN W0 bv) (jkN W0 bv) (jkN W0 bv) hj.1.size hj rfl rfl H hH (dcN W0 hp H hH _ _)
theorem n20 (hp : Pn bv p) (hj : JN W0 bv w) (H G : List UInt8) (hH : H.length = 16) (hG : G.length = 16) (S : ByteArray) : Calls Try.prog 20 #[.pointer p, hv H, .string S, hv G] w (NP W0 bv w) :=
  traffic_g (H2 := z16) (E2 := 0) (J2 := JN W0 bv) (jkN W0 bv) (jkN W0 bv) (jkN W0 bv) hj.1.size hj rfl rfl H hH G hG S (dcN W0 hp H hH _ _)
theorem n21 (hp : Pn bv p) (hj : JN W0 bv w) (H G : List UInt8) (hH : H.length = 16) (hG : G.length = 16) : Calls Try.prog 21 #[.pointer p, hv H, hv G] w (NP W0 bv w) :=
  mark_g (jkN W0 bv) (jkN W0 bv) (jkN W0 bv) hj.1.size hj rfl rfl H hH G hG (dcN W0 hp H hH _ _) (dcN2 W0 _ _)
theorem n22 (hp : Pn bv p) (hj : JN W0 bv w) (H : List UInt8) (hH : H.length = 16) (o : Option Addr) (c : Nat) (l : List UInt8) (hS : Sl W0 o l) (hl0 : l.length ≤ 140737488351300) : Calls Try.prog 22 #[.pointer p, hv H, .slice o l.length c] w (NP W0 bv w) :=
  bind_g (jkN W0 bv) (jkN W0 bv) (jkN W0 bv) hj.1.size hj rfl rfl H hH o c l (hS.bel hj.1) hl0 (fun X hX => hS.bel hX.1) (dcN W0 hp H hH _ _) (dcN2 W0 _ _)
theorem n23 (hp : Pn bv p) (hj : JN W0 bv w) (H G : List UInt8) (hH : H.length = 16) (hG : G.length = 16) (o : Option Addr) (c : Nat) (l : List UInt8) (hS : Sl W0 o l) (hl0 : l.length ≤ 140737488351300) : Calls Try.prog 23 #[.pointer p, hv H, hv G, .slice o l.length c] w (NP W0 bv w) :=
  resume_g (jkN W0 bv) (jkN W0 bv) (jkN W0 bv) hj.1.size hj rfl rfl H hH G hG o c l (hS.bel hj.1) hl0 (fun X hX => hS.bel hX.1) (dcN W0 hp H hH _ _) (dcN2 W0 _ _)
end
/-- What lies there of the law's own. -/
structure Ns (W0 : World) (A B3 bv C : Nat) (k a b : Int) (lb : ByteArray) (o : Option Addr) (n c : Nat) (w : World) : Prop where
  jn : JN W0 bv w
  act : w.heap[A]? = some (.cells #[.int .i64 k, .int .i64 a, .int .i64 b, .string lb, .slice o n c] 35 (0, 0))
  h : w.heap[B3]? = some (.cells (hl o16).toArray 29 (0, 0))
  arr : w.heap[C]? = some (.cells #[.pointer none, .pointer (some ⟨bv, 0, none⟩)] 23 (0, 0))
section
variable {W0 : World} {A B3 bv C : Nat} {k a b : Int} {lb : ByteArray} {o : Option Addr} {n c : Nat} {w w' : World}
theorem Ns.kc (h : Ns W0 A B3 bv C k a b lb o n c w) (hk : Kc w w') (hj : JN W0 bv w') : Ns W0 A B3 bv C k a b lb o n c w' :=
  ⟨hj, hk _ _ _ _ h.act (by decide) (by decide), hk _ _ _ _ h.h (by decide) (by decide), hk _ _ _ _ h.arr (by decide) (by decide)⟩
theorem Ns.go (h : Ns W0 A B3 bv C k a b lb o n c w) (hb : Below w.heap.size w w') : Ns W0 A B3 bv C k a b lb o n c w' := h.kc (Kc.of_bel hb) ((jkN W0 bv).bel _ _ h.jn hb)
theorem Ns.c3 (h : Ns W0 A B3 bv C k a b lb o n c w) : w.cell? ⟨A, 3, none⟩ = some (.string lb) := by simp [World.cell?, h.act]
theorem Ns.c4 (h : Ns W0 A B3 bv C k a b lb o n c w) : w.cell? ⟨A, 4, none⟩ = some (.slice o n c) := by simp [World.cell?, h.act]
end
set_option maxRecDepth 100000 in
set_option maxHeartbeats 4000000 in
theorem nobody_walk (k a b : Int) (lb : ByteArray) (o : Option Addr) (c : Nat) (l : List UInt8) (w : World) (hS : Sl w o l) (hl0 : l.length ≤ 140737488351300) : Calls Try.prog 4 #[.agg #[.int .i64 k, .int .i64 a, .int .i64 b, .string lb, .slice o l.length c]] w fun e w' => e = .returned (.bool true) ∧ Below w.heap.size w w' := by
  have HSL : Aside (Sl w o l) := hS
  have HLE : Aside (l.length ≤ 140737488351300) := hl0
  clear hS hl0
  go_enter Try.func4, Try.ntmps4
  go_wp2_with (refine st28 rfl (.tmp 3) (.tmp 26) rfl (w.heap.size + 1) o16 rfl hv_o z16 (new' (by simp)) rfl rfl (Hid.out ?_))
  rw [hz28]
  have hb0 : Below w.heap.size w (w.alloc (.cells #[.int .i64 k, .int .i64 a, .int .i64 b, .string lb, .slice o l.length c] 35)) := bel1 w _
  have hb1 : Below w.heap.size w (((w.alloc (.cells #[.int .i64 k, .int .i64 a, .int .i64 b, .string lb, .slice o l.length c] 35)).alloc (.cells (hl z16).toArray 29)).setRow (w.heap.size + 1) (hl o16).toArray) := bel_set (hb0.alloc (by simp) _) (by omega) _
  have y1 : ((w.alloc (.cells #[.int .i64 k, .int .i64 a, .int .i64 b, .string lb, .slice o l.length c] 35)).alloc (.cells (hl z16).toArray 29)).heap[w.heap.size + 1]? = some (.cells (hl z16).toArray 29 (0, 0)) := new' (by simp)
  have z1 : (((w.alloc (.cells #[.int .i64 k, .int .i64 a, .int .i64 b, .string lb, .slice o l.length c] 35)).alloc (.cells (hl z16).toArray 29)).setRow (w.heap.size + 1) (hl o16).toArray).heap[w.heap.size + 1]? = some (.cells (hl o16).toArray 29 (0, 0)) := setRow_heap _ _ _ _ _ _ y1
  have z0 : (((w.alloc (.cells #[.int .i64 k, .int .i64 a, .int .i64 b, .string lb, .slice o l.length c] 35)).alloc (.cells (hl z16).toArray 29)).setRow (w.heap.size + 1) (hl o16).toArray).heap[w.heap.size]? = some (.cells #[.int .i64 k, .int .i64 a, .int .i64 b, .string lb, .slice o l.length c] 35 (0, 0)) := (setRow_other _ _ _ _ (by omega)).trans (nth' (new' rfl))
  generalize ((w.alloc (.cells #[.int .i64 k, .int .i64 a, .int .i64 b, .string lb, .slice o l.length c] 35)).alloc (.cells (hl z16).toArray 29)).setRow (w.heap.size + 1) (hl o16).toArray = Wa at *
  have Hb1 : Aside (Below w.heap.size w Wa) := hb1
  have Z1 : Aside _ := z1
  have Z0 : Aside _ := z0
  clear hb0 hb1 y1 z1 z0
  refine mkHid ?_
  go_wp2_with fail
  have HN0 : Aside (Ns w w.heap.size (w.heap.size + 1) Wa.heap.size (Wa.heap.size + 1) k a b lb o l.length c ((Wa.alloc (.cells #[.slice none 0 0, .map none] 43)).alloc (.cells #[.pointer none, .pointer (some ⟨Wa.heap.size, 0, none⟩)] 23))) :=
    ⟨⟨(Hb1.out.alloc Hb1.out.size _).alloc (by have := Hb1.out.size; simp; omega) _, nth' (new' rfl)⟩, nth' (nth' Z0.out), nth' (nth' Z1.out), new' (by simp)⟩
  generalize (Wa.alloc (.cells #[.slice none 0 0, .map none] 43)).alloc (.cells #[.pointer none, .pointer (some ⟨Wa.heap.size, 0, none⟩)] 23) = Wi at *
  generalize Wa.heap.size + 1 = C at *
  generalize Wa.heap.size = bv at *
  generalize hA : w.heap.size = A0 at *
  generalize A0 + 1 = B3 at *
  clear Hb1 Z1 Z0
  go_loopg [31] 3 (fun kx s31 wr => ∃ j : Nat, s31 = .int .i64 j ∧ j ≤ 2 ∧ 2 - j ≤ kx ∧ Aside (Ns w A0 B3 bv C k a b lb o l.length c wr))
  case atStart => exact ⟨0, rfl, by omega, by omega, HN0.out⟩
  case round =>
    obtain ⟨j, rfl, hj, hg, HN⟩ := hrel
    clear HN0
    by_cases hlt : j < 2
    · obtain ⟨p, hp, hno⟩ : ∃ p, wr.cell? ⟨C, j, none⟩ = some (.pointer p) ∧ Pn bv p := by
        have := HN.out.arr
        rcases (show j = 0 ∨ j = 1 by omega) with rfl | rfl
        · exact ⟨none, by simp [World.cell?, this], .inl rfl⟩
        · exact ⟨_, by simp [World.cell?, this], .inr rfl⟩
      have i1 : (j : Int) < 2 := by omega
      have i2 : (0 : Int) ≤ j := by omega
      have hw : IntKind.i64.wrap ((j : Int) + 1) = (j : Int) + 1 := by rw [IntKind.wrap_i64]; omega
      have HP : Aside (Pn bv p) := hno
      clear hno
      go_wp2_with fail
      refine Calls.mono (n15 HP.out HN.out.jn) ?_
      rintro e V1 ⟨rfl, hjx, hkx⟩
      have HN' : Aside (Ns w A0 B3 bv C k a b lb o l.length c V1) := HN.out.kc hkx hjx
      clear HN hjx hkx hp
      go_wp2_with (refine st28 rfl (.tmp 6) (.tmp 38) rfl V1.heap.size z16 rfl rfl z16 (heap_alloc_new V1 _) rfl rfl (Hid.out ?_))
      rw [hz28]
      have HN : Aside (Ns w A0 B3 bv C k a b lb o l.length c ((V1.alloc (.cells (hl z16).toArray 29)).setRow V1.heap.size (hl z16).toArray)) := HN'.out.go (nbox V1 z16 z16).2
      clear HN'
      generalize (V1.alloc (.cells (hl z16).toArray 29)).setRow V1.heap.size (hl z16).toArray = U1 at *
      generalize V1.heap.size = D1 at *
      refine mkHid ?_
      have c3 := HN.out.c3
      have c4 := HN.out.c4
      go_wp2_with (refine ld28 rfl (.tmp 3) rfl B3 rfl o16 HN.out.h rfl ?_)
      refine Calls.mono (n16 HP.out HN.out.jn o16 rfl o c l HSL.out HLE.out) ?_
      rintro e V2 ⟨rfl, hjx, hkx⟩
      have HN' : Aside (Ns w A0 B3 bv C k a b lb o l.length c V2) := HN.out.kc hkx hjx
      clear HN hjx hkx c3 c4
      go_wp2_with (refine st28 rfl (.tmp 8) (.tmp 46) rfl V2.heap.size z16 rfl rfl z16 (heap_alloc_new V2 _) rfl rfl (Hid.out ?_))
      rw [hz28]
      have HN : Aside (Ns w A0 B3 bv C k a b lb o l.length c ((V2.alloc (.cells (hl z16).toArray 29)).setRow V2.heap.size (hl z16).toArray)) := HN'.out.go (nbox V2 z16 z16).2
      clear HN'
      generalize (V2.alloc (.cells (hl z16).toArray 29)).setRow V2.heap.size (hl z16).toArray = U2 at *
      generalize V2.heap.size = D2 at *
      refine mkHid ?_
      have c3 := HN.out.c3
      have c4 := HN.out.c4
      go_wp2_with (refine ld28 rfl (.tmp 3) rfl B3 rfl o16 HN.out.h rfl ?_)
      refine Calls.mono (n17 HP.out HN.out.jn o16 rfl (by decide)) ?_
      rintro e V3 ⟨rfl, hjx, hkx⟩
      have HN' : Aside (Ns w A0 B3 bv C k a b lb o l.length c V3) := HN.out.kc hkx hjx
      clear HN hjx hkx c3 c4
      go_wp2_with (refine st28 rfl (.tmp 10) (.tmp 52) rfl V3.heap.size z16 rfl rfl z16 (heap_alloc_new V3 _) rfl rfl (Hid.out ?_))
      rw [hz28]
      have HN : Aside (Ns w A0 B3 bv C k a b lb o l.length c ((V3.alloc (.cells (hl z16).toArray 29)).setRow V3.heap.size (hl z16).toArray)) := HN'.out.go (nbox V3 z16 z16).2
      clear HN'
      generalize (V3.alloc (.cells (hl z16).toArray 29)).setRow V3.heap.size (hl z16).toArray = U3 at *
      generalize V3.heap.size = D3 at *
      refine mkHid ?_
      have c3 := HN.out.c3
      have c4 := HN.out.c4
      go_wp2_with (refine ld28 rfl (.tmp 3) rfl B3 rfl o16 HN.out.h rfl ?_)
      refine Calls.mono (n18 HP.out HN.out.jn o16 o16 rfl rfl) ?_
      rintro e V4 ⟨rfl, hjx, hkx⟩
      have HN' : Aside (Ns w A0 B3 bv C k a b lb o l.length c V4) := HN.out.kc hkx hjx
      clear HN hjx hkx c3 c4
      go_wp2_with (refine st28 rfl (.tmp 12) (.tmp 59) rfl V4.heap.size z16 rfl rfl z16 (heap_alloc_new V4 _) rfl rfl (Hid.out ?_))
      rw [hz28]
      have HN : Aside (Ns w A0 B3 bv C k a b lb o l.length c ((V4.alloc (.cells (hl z16).toArray 29)).setRow V4.heap.size (hl z16).toArray)) := HN'.out.go (nbox V4 z16 z16).2
      clear HN'
      generalize (V4.alloc (.cells (hl z16).toArray 29)).setRow V4.heap.size (hl z16).toArray = U4 at *
      generalize V4.heap.size = D4 at *
      refine mkHid ?_
      have c3 := HN.out.c3
      have c4 := HN.out.c4
      go_wp2_with (refine ld28 rfl (.tmp 3) rfl B3 rfl o16 HN.out.h rfl ?_)
      refine Calls.mono (n19 HP.out HN.out.jn o16 rfl) ?_
      rintro e V5 ⟨rfl, hjx, hkx⟩
      have HN' : Aside (Ns w A0 B3 bv C k a b lb o l.length c V5) := HN.out.kc hkx hjx
      clear HN hjx hkx c3 c4
      go_wp2_with (refine st28 rfl (.tmp 14) (.tmp 65) rfl V5.heap.size z16 rfl rfl z16 (heap_alloc_new V5 _) rfl rfl (Hid.out ?_))
      rw [hz28]
      have HN : Aside (Ns w A0 B3 bv C k a b lb o l.length c ((V5.alloc (.cells (hl z16).toArray 29)).setRow V5.heap.size (hl z16).toArray)) := HN'.out.go (nbox V5 z16 z16).2
      clear HN'
      generalize (V5.alloc (.cells (hl z16).toArray 29)).setRow V5.heap.size (hl z16).toArray = U5 at *
      generalize V5.heap.size = D5 at *
      refine mkHid ?_
      have c3 := HN.out.c3
      have c4 := HN.out.c4
      go_wp2_with (refine ld28 rfl (.tmp 3) rfl B3 rfl o16 HN.out.h rfl ?_)
      refine Calls.mono (n20 HP.out HN.out.jn o16 o16 rfl rfl lb) ?_
      rintro e V6 ⟨rfl, hjx, hkx⟩
      have HN' : Aside (Ns w A0 B3 bv C k a b lb o l.length c V6) := HN.out.kc hkx hjx
      clear HN hjx hkx c3 c4
      go_wp2_with (refine st28 rfl (.tmp 16) (.tmp 74) rfl V6.heap.size z16 rfl rfl z16 (heap_alloc_new V6 _) rfl rfl (Hid.out ?_))
      rw [hz28]
      have HN : Aside (Ns w A0 B3 bv C k a b lb o l.length c ((V6.alloc (.cells (hl z16).toArray 29)).setRow V6.heap.size (hl z16).toArray)) := HN'.out.go (nbox V6 z16 z16).2
      clear HN'
      generalize (V6.alloc (.cells (hl z16).toArray 29)).setRow V6.heap.size (hl z16).toArray = U6 at *
      generalize V6.heap.size = D6 at *
      refine mkHid ?_
      have c3 := HN.out.c3
      have c4 := HN.out.c4
      go_wp2_with (refine ld28 rfl (.tmp 3) rfl B3 rfl o16 HN.out.h rfl ?_)
      refine Calls.mono (n21 HP.out HN.out.jn o16 o16 rfl rfl) ?_
      rintro e V7 ⟨rfl, hjx, hkx⟩
      have HN' : Aside (Ns w A0 B3 bv C k a b lb o l.length c V7) := HN.out.kc hkx hjx
      clear HN hjx hkx c3 c4
      go_wp2_with (refine st28 rfl (.tmp 18) (.tmp 81) rfl V7.heap.size z16 rfl rfl z16 (heap_alloc_new V7 _) rfl rfl (Hid.out ?_))
      rw [hz28]
      have HN : Aside (Ns w A0 B3 bv C k a b lb o l.length c ((V7.alloc (.cells (hl z16).toArray 29)).setRow V7.heap.size (hl z16).toArray)) := HN'.out.go (nbox V7 z16 z16).2
      clear HN'
      generalize (V7.alloc (.cells (hl z16).toArray 29)).setRow V7.heap.size (hl z16).toArray = U7 at *
      generalize V7.heap.size = D7 at *
      refine mkHid ?_
      have c3 := HN.out.c3
      have c4 := HN.out.c4
      go_wp2_with (refine ld28 rfl (.tmp 3) rfl B3 rfl o16 HN.out.h rfl ?_)
      refine Calls.mono (n22 HP.out HN.out.jn o16 rfl o c l HSL.out HLE.out) ?_
      rintro e V8 ⟨rfl, hjx, hkx⟩
      have HN' : Aside (Ns w A0 B3 bv C k a b lb o l.length c V8) := HN.out.kc hkx hjx
      clear HN hjx hkx c3 c4
      go_wp2_with (refine st28 rfl (.tmp 20) (.tmp 89) rfl V8.heap.size z16 rfl rfl z16 (heap_alloc_new V8 _) rfl rfl (Hid.out ?_))
      rw [hz28]
      have HN : Aside (Ns w A0 B3 bv C k a b lb o l.length c ((V8.alloc (.cells (hl z16).toArray 29)).setRow V8.heap.size (hl z16).toArray)) := HN'.out.go (nbox V8 z16 z16).2
      clear HN'
      generalize (V8.alloc (.cells (hl z16).toArray 29)).setRow V8.heap.size (hl z16).toArray = U8 at *
      generalize V8.heap.size = D8 at *
      refine mkHid ?_
      have c3 := HN.out.c3
      have c4 := HN.out.c4
      go_wp2_with (refine ld28 rfl (.tmp 3) rfl B3 rfl o16 HN.out.h rfl ?_)
      refine Calls.mono (n23 HP.out HN.out.jn o16 o16 rfl rfl o c l HSL.out HLE.out) ?_
      rintro e V9 ⟨rfl, hjx, hkx⟩
      have HN' : Aside (Ns w A0 B3 bv C k a b lb o l.length c V9) := HN.out.kc hkx hjx
      clear HN hjx hkx c3 c4
      go_wp2_with (refine st28 rfl (.tmp 22) (.tmp 98) rfl V9.heap.size z16 rfl rfl z16 (heap_alloc_new V9 _) rfl rfl (Hid.out ?_))
      rw [hz28]
      have HN : Aside (Ns w A0 B3 bv C k a b lb o l.length c ((V9.alloc (.cells (hl z16).toArray 29)).setRow V9.heap.size (hl z16).toArray)) := HN'.out.go (nbox V9 z16 z16).2
      clear HN'
      generalize (V9.alloc (.cells (hl z16).toArray 29)).setRow V9.heap.size (hl z16).toArray = U9 at *
      generalize V9.heap.size = D9 at *
      refine mkHid ?_
      go_wp2_with fail
      have HN2 : Aside (Ns w A0 B3 bv C k a b lb o l.length c (U9.alloc (.cells #[.int .i64 1, .int .i64 1, .int .i64 1, .int .i64 1, .int .i64 1, .int .i64 1, .int .i64 1, .int .i64 1, .int .i64 1] 45))) := HN.out.go (bel1 _ _)
      have HE : Aside ((U9.alloc (.cells #[.int .i64 1, .int .i64 1, .int .i64 1, .int .i64 1, .int .i64 1, .int .i64 1, .int .i64 1, .int .i64 1, .int .i64 1] 45)).heap[U9.heap.size]? = some (.cells #[.int .i64 1, .int .i64 1, .int .i64 1, .int .i64 1, .int .i64 1, .int .i64 1, .int .i64 1, .int .i64 1, .int .i64 1] 45 (0, 0))) := new' rfl
      generalize U9.alloc (.cells #[.int .i64 1, .int .i64 1, .int .i64 1, .int .i64 1, .int .i64 1, .int .i64 1, .int .i64 1, .int .i64 1, .int .i64 1] 45) = Wx at *
      generalize U9.heap.size = Eb at *
      clear HN
      go_loopg [111] 10 (fun kx s111 wr => ∃ i : Nat, s111 = .int .i64 i ∧ i ≤ 9 ∧ 9 - i ≤ kx ∧ wr = Wx)
      case atStart => exact ⟨0, rfl, by omega, by omega, rfl⟩
      case round =>
        obtain ⟨i, rfl, hi, hgi, rfl⟩ := hrel
        by_cases hli : i < 9
        · have i3 : (i : Int) < 9 := by omega
          have i4 : (0 : Int) ≤ i := by omega
          have hw2 : IntKind.i64.wrap ((i : Int) + 1) = (i : Int) + 1 := by rw [IntKind.wrap_i64]; omega
          have ce : wr.cell? ⟨Eb, i, none⟩ = some (.int .i64 1) := by
            have := HE.out
            rcases (show i = 0 ∨ i = 1 ∨ i = 2 ∨ i = 3 ∨ i = 4 ∨ i = 5 ∨ i = 6 ∨ i = 7 ∨ i = 8 by omega) with rfl | rfl | rfl | rfl | rfl | rfl | rfl | rfl | rfl <;> simp [World.cell?, this]
          go_wp2_with fail
          go_roundg (9 - (i + 1))
          case measure => omega
          case rel => exact ⟨i + 1, by simp, by omega, Nat.le_refl _, rfl⟩
        · obtain rfl : i = 9 := by omega
          go_wp2_with fail
          go_roundg (2 - (j + 1))
          case measure => omega
          case rel => exact ⟨j + 1, by simp, by omega, Nat.le_refl _, HN2.out⟩
    · obtain rfl : j = 2 := by omega
      go_wp2_with fail
      go_ret
      exact ⟨rfl, HN.out.jn.1⟩
end Go.Proofs.Ytpjoaimbaboleaa
