/- The reference's inbox: Put and End, taken. -/
import Derived.Test.YtpbiokcelglaaaaDoorRfB
namespace Go.Proofs.YtpbiokcelglaaaaDoor
open Go.RowKit Go.Maps
set_option linter.unusedVariables false

theorem Rf.byte {w : World} {r : Nat} {rm p lm rc fi : Int} {kn : Bool} {ca : Option Addr} {cc : Nat} {L : List (Nat × UInt8)} (h : Rf w r rm p lm rc fi kn ca cc L) {g off : Nat} {x : Int} (hc : w.cell? ⟨g, off, none⟩ = some (.int .u8 x)) : g ≠ r := by
  rintro rfl
  unfold World.cell? at hc
  rw [h.1] at hc
  simp only at hc
  rcases off with _ | _ | _ | _ | _ | _ | _ | m <;> simp at hc
theorem Rf.sl {w w' : World} {r : Nat} {rm p lm rc fi : Int} {kn : Bool} {ca : Option Addr} {cc : Nat} {L : List (Nat × UInt8)} (h : Rf w r rm p lm rc fi kn ca cc L) (hc : Chg (fun k => k = r) w w') {la : Option Addr} {l : List UInt8} (hs : Sl w la l) : Sl w' la l := by
  intro j hj
  obtain ⟨g, off, e, hx⟩ := hs j hj
  exact ⟨g, off, e, (World.cell?_of_block (w := w) (a := ⟨g, off + j, none⟩) (hc.2.2.2.2 g (World.block_lt_of_cell? _ _ hx) (h.byte hx))).trans hx⟩
set_option maxRecDepth 100000 in
set_option maxHeartbeats 400000 in
theorem rput_flow {w : World} {r : Nat} {rm p fi : Int} {rc lm : Nat} {kn : Bool} {ca : Option Addr} {cc : Nat} {L : List (Nat × UInt8)} (h : Rf w r rm p lm rc fi kn ca cc L) (o N cap : Nat) (la : Option Addr) (fin : Bool) (ho : o + N ≤ 4611686018427387903) (hfi : kn = true → fi = rc) (h1 : kn = true → o + N ≤ rc) (h2 : fin = true → rc ≤ o + N) (h3 : lm < o + N) :
    Calls Tryd.prog 11 #[.pointer (some ⟨r, 0, none⟩), .int .i64 o, .slice la N cap, .bool fin] w fun e w' => e = .returned (.int .i64 30) ∧ w' = w := by
  have i0 : IntKind.i64.wrap (4611686018427387903 - (N : Int)) = 4611686018427387903 - (N : Int) := by rw [IntKind.wrap_i64]; omega
  have i1 : ¬ (4611686018427387903 - (N : Int)) < (o : Int) := by omega
  have i2 : IntKind.i64.wrap ((o : Int) + (N : Int)) = (o : Int) + (N : Int) := by rw [IntKind.wrap_i64]; omega
  have i3 : (lm : Int) < (o : Int) + (N : Int) := by omega
  have c2 := h.c2
  have c3 := h.c3
  have c4 := h.c4
  have c5 := h.c5
  clear h
  cases kn with
  | true =>
    obtain rfl := hfi rfl
    have g1 := h1 rfl
    have j1 : ¬ (rc : Int) < (o : Int) + (N : Int) := by omega
    cases fin with
    | true =>
      have g2 := h2 rfl
      have j2 : (((o : Int) + (N : Int)) == (rc : Int)) = true := by simp; omega
      have j3 : ¬ ((o : Int) + (N : Int)) < (rc : Int) := by omega
      clear hfi h1 h2 h3 g1 g2
      go_enter Tryd.func11, Tryd.ntmps11
      go_wp2
      go_ret
      exact ⟨rfl, rfl⟩
    | false =>
      clear hfi h1 h2 h3 g1
      go_enter Tryd.func11, Tryd.ntmps11
      go_wp2
      go_ret
      exact ⟨rfl, rfl⟩
  | false =>
    cases fin with
    | true =>
      have g2 := h2 rfl
      have j3 : ¬ ((o : Int) + (N : Int)) < (rc : Int) := by omega
      clear hfi h1 h2 h3 g2
      go_enter Tryd.func11, Tryd.ntmps11
      go_wp2
      go_ret
      exact ⟨rfl, rfl⟩
    | false =>
      clear hfi h1 h2 h3
      go_enter Tryd.func11, Tryd.ntmps11
      go_wp2
      go_ret
      exact ⟨rfl, rfl⟩

/-- The loop of the reference's Put. -/
structure RpI (w : World) (r : Nat) (rm lm rc fi : Int) (p M o : Nat) (V : Nat → Option UInt8) (kn : Bool) (l : List UInt8) (i : Nat) (wr : World) : Prop where
  rf : ∃ ca cc, Rf wr r rm p lm rc fi kn ca cc (came (putR V p o (l.take i)) p M)
  ch : Chg (fun k => k = r) w wr
theorem RpI.next {w : World} {r : Nat} {rm lm rc fi : Int} {p M o : Nat} {V : Nat → Option UInt8} {kn : Bool} {l : List UInt8} {i : Nat} {wr : World} (h : RpI w r rm lm rc fi p M o V kn l i wr) (hi : i < l.length) (hM : M ≤ 10000000) (ho : o + l.length ≤ p + M) :
    Calls Tryd.prog 27 #[.pointer (some ⟨r, 0, none⟩), .agg #[.int .i64 ((o + i : Nat) : Int), .int .u8 (l[i].toNat : Int)]] wr fun e w' => e = .returned (.tuple #[]) ∧ RpI w r rm lm rc fi p M o V kn l (i + 1) w' := by
  obtain ⟨ca, cc, hr⟩ := h.rf
  refine (rput_c (o + i) l[i] hr hM (by omega)).mono ?_
  rintro e w' ⟨rfl, ⟨ca', cc', h1⟩, h2⟩
  refine ⟨rfl, ⟨ca', cc', ?_⟩, h.ch.trans h2⟩
  have e := putR_snoc V p o (l.take i) l[i]
  rw [← List.take_succ_eq_append_getElem hi, List.length_take, show min i l.length = i by omega] at e
  rw [e]
  exact h1
set_option maxRecDepth 100000 in
set_option maxHeartbeats 1000000 in
theorem rput_ok {w : World} {r : Nat} {rm fi : Int} {p M rc lm : Nat} {kn : Bool} {ca : Option Addr} {cc : Nat} {V : Nat → Option UInt8} (h : Rf w r rm p lm rc fi kn ca cc (came V p M)) (o N cap : Nat) (la : Option Addr) (l : List UInt8) (fin : Bool) (hl : l.length = N) (hs : Sl w la l) (ho : o + N ≤ 4611686018427387903) (hM : M ≤ 10000000) (hoM : o + N ≤ p + M) (hfi : kn = true → fi = rc) (h1 : kn = true → o + N ≤ rc) (h2 : fin = true → rc ≤ o + N) (h3 : o + N ≤ lm) :
    Calls Tryd.prog 11 #[.pointer (some ⟨r, 0, none⟩), .int .i64 o, .slice la N cap, .bool fin] w fun e w' => e = .returned (.int .i64 0) ∧ (∃ ca' cc', Rf w' r rm p lm (max rc (o + N) : Nat) (if fin = true then ((o + N : Nat) : Int) else fi) (kn || fin) ca' cc' (came (putR V p o l) p M)) ∧ Chg (fun k => k = r) w w' := by
  have i0 : IntKind.i64.wrap (4611686018427387903 - (N : Int)) = 4611686018427387903 - (N : Int) := by rw [IntKind.wrap_i64]; omega
  have i1 : ¬ (4611686018427387903 - (N : Int)) < (o : Int) := by omega
  have i2 : IntKind.i64.wrap ((o : Int) + (N : Int)) = ((o + N : Nat) : Int) := by rw [IntKind.wrap_i64]; omega
  have i3 : ¬ (lm : Int) < ((o + N : Nat) : Int) := by omega
  have H : Aside (Rf w r rm p lm rc fi kn ca cc (came V p M)) := h
  have HS : Aside _ := hs
  have HL : Aside (l.length = N) := hl
  have HOM : Aside (o + N ≤ p + M) := hoM
  have c2 := h.c2
  have c3 := h.c3
  have c4 := h.c4
  have c5 := h.c5
  have f3 := h.fz 3
  have f4 := h.fz 4
  have f5 := h.fz 5
  obtain ⟨E, hE⟩ : ∃ E, E = o + N := ⟨_, rfl⟩
  rw [← hE] at i2 i3 ho h1 h2 h3 ⊢
  have HE : Aside (E = o + N) := hE
  clear h hs hl hoM hE
  cases kn with
  | true =>
    obtain rfl := hfi rfl
    have g1 := h1 rfl
    have j1 : ¬ (rc : Int) < (E : Int) := by omega
    cases fin with
    | true =>
      have g2 := h2 rfl
      have hEr : E = rc := by omega
      subst hEr
      have j3 : ¬ (E : Int) < (E : Int) := by omega
      have HMX : Aside (max E E = E) := by show _ = _; omega
      have hset := Rf.set H.out 5 (.bool true) rm p lm E E true rfl
      have hset2 := Rf.set hset.1 4 (.int .i64 E) rm p lm E E true rfl
      have HR1 : Aside (Rf ((w.setCell ⟨r, 5, none⟩ (.bool true)).setCell ⟨r, 4, none⟩ (.int .i64 E)) r rm p lm (max E E : Nat) (if (true : Bool) = true then ((E : Nat) : Int) else E) (true || true) ca cc (came V p M)) := by rw [HMX.out]; exact hset2.1
      have HC1 : Aside (Chg (fun k => k = r) w ((w.setCell ⟨r, 5, none⟩ (.bool true)).setCell ⟨r, 4, none⟩ (.int .i64 E))) := Chg.trans hset.2 hset2.2
      have e4 := hset.1.c4
      have e4f := hset.1.fz 4
      clear hset hset2 hfi h1 h2 h3 g1 g2
      go_enter Tryd.func11, Tryd.ntmps11
      go_wp2_with fail
      have HI : Aside (RpI w r rm lm (max E E : Nat) _ p M o V _ l 0 _) := ⟨⟨ca, cc, HR1.out⟩, HC1.out⟩
      clear HR1 HC1
      go_loopg [10] (N + 1) (fun kx s10 wr => ∃ i : Nat, s10 = .int .i64 i ∧ i ≤ N ∧ N - i + 1 ≤ kx ∧ Aside (RpI w r rm lm (max E E : Nat) (if (true : Bool) = true then ((E : Nat) : Int) else (E : Int)) p M o V ((true : Bool) || (true : Bool)) l i wr))
      case atStart => exact ⟨0, rfl, Nat.zero_le _, by omega, HI.out⟩
      case round =>
        obtain ⟨i, rfl, hi, hkx, HII⟩ := hrel
        by_cases hlt : i < N
        · have hil : i < l.length := by have := HL.out; omega
          obtain ⟨b', o', rfl, q⟩ := (Rf.sl H.out (HII.out).ch HS.out) i hil
          have k1 : (i : Int) < (N : Int) := by omega
          have k2 : IntKind.i64.wrap ((o : Int) + (i : Int)) = ((o + i : Nat) : Int) := by rw [IntKind.wrap_i64]; have := HE.out; omega
          have HC : Aside _ := RpI.next HII.out hil hM (by have := HL.out; have := HOM.out; omega)
          generalize (l[i].toNat : Int) = xv at q HC
          generalize ((o + i : Nat) : Int) = oi at k2 HC
          clear HII
          go_wp2_with fail
          refine Calls.mono HC.out ?_
          rintro e w3 ⟨rfl, h4⟩
          have HI4 : Aside _ := h4
          clear h4 HC
          go_wp2_with fail
          go_roundg (N - (i + 1) + 1)
          case measure => omega
          case rel => exact ⟨i + 1, by simp, by omega, Nat.le_refl _, HI4.out⟩
        · obtain rfl : i = N := by omega
          have k1 : ¬ (i : Int) < (i : Int) := by omega
          have hii := HII.out
          have HRF : Aside _ := hii.rf
          have HCH : Aside _ := hii.ch
          clear hii HII
          go_wp2
          go_ret
          have e : l.take i = l := by rw [← HL.out]; exact List.take_length
          have h5 := HRF.out
          rw [e] at h5
          simp only [Nat.max_self, ite_self, Bool.or_self] at h5
          exact ⟨rfl, h5, HCH.out⟩
    | false =>
      have HMX : Aside (max rc E = rc) := by show _ = _; omega
      have HR1 : Aside (Rf w r rm p lm (max rc E : Nat) (if (false : Bool) = true then ((E : Nat) : Int) else rc) (true || false) ca cc (came V p M)) := by rw [HMX.out]; exact H.out
      have HC1 : Aside (Chg (fun k => k = r) w w) := Chg.refl _ _
      clear hfi h1 h2 h3 g1
      go_enter Tryd.func11, Tryd.ntmps11
      go_wp2_with fail
      have HI : Aside (RpI w r rm lm (max rc E : Nat) _ p M o V _ l 0 _) := ⟨⟨ca, cc, HR1.out⟩, HC1.out⟩
      clear HR1 HC1
      go_loopg [10] (N + 1) (fun kx s10 wr => ∃ i : Nat, s10 = .int .i64 i ∧ i ≤ N ∧ N - i + 1 ≤ kx ∧ Aside (RpI w r rm lm (max rc E : Nat) (if (false : Bool) = true then ((E : Nat) : Int) else (rc : Int)) p M o V ((true : Bool) || (false : Bool)) l i wr))
      case atStart => exact ⟨0, rfl, Nat.zero_le _, by omega, HI.out⟩
      case round =>
        obtain ⟨i, rfl, hi, hkx, HII⟩ := hrel
        by_cases hlt : i < N
        · have hil : i < l.length := by have := HL.out; omega
          obtain ⟨b', o', rfl, q⟩ := (Rf.sl H.out (HII.out).ch HS.out) i hil
          have k1 : (i : Int) < (N : Int) := by omega
          have k2 : IntKind.i64.wrap ((o : Int) + (i : Int)) = ((o + i : Nat) : Int) := by rw [IntKind.wrap_i64]; have := HE.out; omega
          have HC : Aside _ := RpI.next HII.out hil hM (by have := HL.out; have := HOM.out; omega)
          generalize (l[i].toNat : Int) = xv at q HC
          generalize ((o + i : Nat) : Int) = oi at k2 HC
          clear HII
          go_wp2_with fail
          refine Calls.mono HC.out ?_
          rintro e w3 ⟨rfl, h4⟩
          have HI4 : Aside _ := h4
          clear h4 HC
          go_wp2_with fail
          go_roundg (N - (i + 1) + 1)
          case measure => omega
          case rel => exact ⟨i + 1, by simp, by omega, Nat.le_refl _, HI4.out⟩
        · obtain rfl : i = N := by omega
          have k1 : ¬ (i : Int) < (i : Int) := by omega
          have hii := HII.out
          have HRF : Aside _ := hii.rf
          have HCH : Aside _ := hii.ch
          clear hii HII
          go_wp2
          go_ret
          have e : l.take i = l := by rw [← HL.out]; exact List.take_length
          have h5 := HRF.out
          rw [e] at h5
          exact ⟨rfl, h5, HCH.out⟩
  | false =>
    by_cases hrE : rc < E
    · have j1 : (rc : Int) < (E : Int) := by omega
      have HMX : Aside (max rc E = E) := by show _ = _; omega
      cases fin with
      | true =>
        have g2 := h2 rfl
        have j3 : ¬ (E : Int) < (rc : Int) := by omega
        have hset0 := Rf.set H.out 3 (.int .i64 E) rm p lm E fi false rfl
        have hset := Rf.set hset0.1 5 (.bool true) rm p lm E fi true rfl
        have hset2 := Rf.set hset.1 4 (.int .i64 E) rm p lm E E true rfl
        have HR1 : Aside (Rf (((w.setCell ⟨r, 3, none⟩ (.int .i64 E)).setCell ⟨r, 5, none⟩ (.bool true)).setCell ⟨r, 4, none⟩ (.int .i64 E)) r rm p lm (max rc E : Nat) (if (true : Bool) = true then ((E : Nat) : Int) else fi) (false || true) ca cc (came V p M)) := by rw [HMX.out]; exact hset2.1
        have HC1 : Aside (Chg (fun k => k = r) w (((w.setCell ⟨r, 3, none⟩ (.int .i64 E)).setCell ⟨r, 5, none⟩ (.bool true)).setCell ⟨r, 4, none⟩ (.int .i64 E))) := Chg.trans (Chg.trans hset0.2 hset.2) hset2.2
        clear hset0 hset hset2 hfi h1 h2 h3 g2
        go_enter Tryd.func11, Tryd.ntmps11
        go_wp2_with fail
        have HI : Aside (RpI w r rm lm (max rc E : Nat) _ p M o V _ l 0 _) := ⟨⟨ca, cc, HR1.out⟩, HC1.out⟩
        clear HR1 HC1
        go_loopg [10] (N + 1) (fun kx s10 wr => ∃ i : Nat, s10 = .int .i64 i ∧ i ≤ N ∧ N - i + 1 ≤ kx ∧ Aside (RpI w r rm lm (max rc E : Nat) (if (true : Bool) = true then ((E : Nat) : Int) else fi) p M o V ((false : Bool) || (true : Bool)) l i wr))
        case atStart => exact ⟨0, rfl, Nat.zero_le _, by omega, HI.out⟩
        case round =>
          obtain ⟨i, rfl, hi, hkx, HII⟩ := hrel
          by_cases hlt : i < N
          · have hil : i < l.length := by have := HL.out; omega
            obtain ⟨b', o', rfl, q⟩ := (Rf.sl H.out (HII.out).ch HS.out) i hil
            have k1 : (i : Int) < (N : Int) := by omega
            have k2 : IntKind.i64.wrap ((o : Int) + (i : Int)) = ((o + i : Nat) : Int) := by rw [IntKind.wrap_i64]; have := HE.out; omega
            have HC : Aside _ := RpI.next HII.out hil hM (by have := HL.out; have := HOM.out; omega)
            generalize (l[i].toNat : Int) = xv at q HC
            generalize ((o + i : Nat) : Int) = oi at k2 HC
            clear HII
            go_wp2_with fail
            refine Calls.mono HC.out ?_
            rintro e w3 ⟨rfl, h4⟩
            have HI4 : Aside _ := h4
            clear h4 HC
            go_wp2_with fail
            go_roundg (N - (i + 1) + 1)
            case measure => omega
            case rel => exact ⟨i + 1, by simp, by omega, Nat.le_refl _, HI4.out⟩
          · obtain rfl : i = N := by omega
            have k1 : ¬ (i : Int) < (i : Int) := by omega
            have hii := HII.out
            have HRF : Aside _ := hii.rf
            have HCH : Aside _ := hii.ch
            clear hii HII
            go_wp2
            go_ret
            have e : l.take i = l := by rw [← HL.out]; exact List.take_length
            have h5 := HRF.out
            rw [e] at h5
            exact ⟨rfl, h5, HCH.out⟩
      | false =>
        have hset0 := Rf.set H.out 3 (.int .i64 E) rm p lm E fi false rfl
        have HR1 : Aside (Rf (w.setCell ⟨r, 3, none⟩ (.int .i64 E)) r rm p lm (max rc E : Nat) (if (false : Bool) = true then ((E : Nat) : Int) else fi) (false || false) ca cc (came V p M)) := by rw [HMX.out]; exact hset0.1
        have HC1 : Aside (Chg (fun k => k = r) w (w.setCell ⟨r, 3, none⟩ (.int .i64 E))) := hset0.2
        clear hset0 hfi h1 h2 h3
        go_enter Tryd.func11, Tryd.ntmps11
        go_wp2_with fail
        have HI : Aside (RpI w r rm lm (max rc E : Nat) _ p M o V _ l 0 _) := ⟨⟨ca, cc, HR1.out⟩, HC1.out⟩
        clear HR1 HC1
        go_loopg [10] (N + 1) (fun kx s10 wr => ∃ i : Nat, s10 = .int .i64 i ∧ i ≤ N ∧ N - i + 1 ≤ kx ∧ Aside (RpI w r rm lm (max rc E : Nat) (if (false : Bool) = true then ((E : Nat) : Int) else fi) p M o V ((false : Bool) || (false : Bool)) l i wr))
        case atStart => exact ⟨0, rfl, Nat.zero_le _, by omega, HI.out⟩
        case round =>
          obtain ⟨i, rfl, hi, hkx, HII⟩ := hrel
          by_cases hlt : i < N
          · have hil : i < l.length := by have := HL.out; omega
            obtain ⟨b', o', rfl, q⟩ := (Rf.sl H.out (HII.out).ch HS.out) i hil
            have k1 : (i : Int) < (N : Int) := by omega
            have k2 : IntKind.i64.wrap ((o : Int) + (i : Int)) = ((o + i : Nat) : Int) := by rw [IntKind.wrap_i64]; have := HE.out; omega
            have HC : Aside _ := RpI.next HII.out hil hM (by have := HL.out; have := HOM.out; omega)
            generalize (l[i].toNat : Int) = xv at q HC
            generalize ((o + i : Nat) : Int) = oi at k2 HC
            clear HII
            go_wp2_with fail
            refine Calls.mono HC.out ?_
            rintro e w3 ⟨rfl, h4⟩
            have HI4 : Aside _ := h4
            clear h4 HC
            go_wp2_with fail
            go_roundg (N - (i + 1) + 1)
            case measure => omega
            case rel => exact ⟨i + 1, by simp, by omega, Nat.le_refl _, HI4.out⟩
          · obtain rfl : i = N := by omega
            have k1 : ¬ (i : Int) < (i : Int) := by omega
            have hii := HII.out
            have HRF : Aside _ := hii.rf
            have HCH : Aside _ := hii.ch
            clear hii HII
            go_wp2
            go_ret
            have e : l.take i = l := by rw [← HL.out]; exact List.take_length
            have h5 := HRF.out
            rw [e] at h5
            exact ⟨rfl, h5, HCH.out⟩
    · have j1 : ¬ (rc : Int) < (E : Int) := by omega
      have HMX : Aside (max rc E = rc) := by show _ = _; omega
      cases fin with
      | true =>
        have g2 := h2 rfl
        have j3 : ¬ (E : Int) < (rc : Int) := by omega
        have hset := Rf.set H.out 5 (.bool true) rm p lm rc fi true rfl
        have hset2 := Rf.set hset.1 4 (.int .i64 E) rm p lm rc E true rfl
        have HR1 : Aside (Rf ((w.setCell ⟨r, 5, none⟩ (.bool true)).setCell ⟨r, 4, none⟩ (.int .i64 E)) r rm p lm (max rc E : Nat) (if (true : Bool) = true then ((E : Nat) : Int) else fi) (false || true) ca cc (came V p M)) := by rw [HMX.out]; exact hset2.1
        have HC1 : Aside (Chg (fun k => k = r) w ((w.setCell ⟨r, 5, none⟩ (.bool true)).setCell ⟨r, 4, none⟩ (.int .i64 E))) := Chg.trans hset.2 hset2.2
        clear hset hset2 hfi h1 h2 h3 g2
        go_enter Tryd.func11, Tryd.ntmps11
        go_wp2_with fail
        have HI : Aside (RpI w r rm lm (max rc E : Nat) _ p M o V _ l 0 _) := ⟨⟨ca, cc, HR1.out⟩, HC1.out⟩
        clear HR1 HC1
        go_loopg [10] (N + 1) (fun kx s10 wr => ∃ i : Nat, s10 = .int .i64 i ∧ i ≤ N ∧ N - i + 1 ≤ kx ∧ Aside (RpI w r rm lm (max rc E : Nat) (if (true : Bool) = true then ((E : Nat) : Int) else fi) p M o V ((false : Bool) || (true : Bool)) l i wr))
        case atStart => exact ⟨0, rfl, Nat.zero_le _, by omega, HI.out⟩
        case round =>
          obtain ⟨i, rfl, hi, hkx, HII⟩ := hrel
          by_cases hlt : i < N
          · have hil : i < l.length := by have := HL.out; omega
            obtain ⟨b', o', rfl, q⟩ := (Rf.sl H.out (HII.out).ch HS.out) i hil
            have k1 : (i : Int) < (N : Int) := by omega
            have k2 : IntKind.i64.wrap ((o : Int) + (i : Int)) = ((o + i : Nat) : Int) := by rw [IntKind.wrap_i64]; have := HE.out; omega
            have HC : Aside _ := RpI.next HII.out hil hM (by have := HL.out; have := HOM.out; omega)
            generalize (l[i].toNat : Int) = xv at q HC
            generalize ((o + i : Nat) : Int) = oi at k2 HC
            clear HII
            go_wp2_with fail
            refine Calls.mono HC.out ?_
            rintro e w3 ⟨rfl, h4⟩
            have HI4 : Aside _ := h4
            clear h4 HC
            go_wp2_with fail
            go_roundg (N - (i + 1) + 1)
            case measure => omega
            case rel => exact ⟨i + 1, by simp, by omega, Nat.le_refl _, HI4.out⟩
          · obtain rfl : i = N := by omega
            have k1 : ¬ (i : Int) < (i : Int) := by omega
            have hii := HII.out
            have HRF : Aside _ := hii.rf
            have HCH : Aside _ := hii.ch
            clear hii HII
            go_wp2
            go_ret
            have e : l.take i = l := by rw [← HL.out]; exact List.take_length
            have h5 := HRF.out
            rw [e] at h5
            exact ⟨rfl, h5, HCH.out⟩
      | false =>
        have HR1 : Aside (Rf w r rm p lm (max rc E : Nat) (if (false : Bool) = true then ((E : Nat) : Int) else fi) (false || false) ca cc (came V p M)) := by rw [HMX.out]; exact H.out
        have HC1 : Aside (Chg (fun k => k = r) w w) := Chg.refl _ _
        clear hfi h1 h2 h3
        go_enter Tryd.func11, Tryd.ntmps11
        go_wp2_with fail
        have HI : Aside (RpI w r rm lm (max rc E : Nat) _ p M o V _ l 0 _) := ⟨⟨ca, cc, HR1.out⟩, HC1.out⟩
        clear HR1 HC1
        go_loopg [10] (N + 1) (fun kx s10 wr => ∃ i : Nat, s10 = .int .i64 i ∧ i ≤ N ∧ N - i + 1 ≤ kx ∧ Aside (RpI w r rm lm (max rc E : Nat) (if (false : Bool) = true then ((E : Nat) : Int) else fi) p M o V ((false : Bool) || (false : Bool)) l i wr))
        case atStart => exact ⟨0, rfl, Nat.zero_le _, by omega, HI.out⟩
        case round =>
          obtain ⟨i, rfl, hi, hkx, HII⟩ := hrel
          by_cases hlt : i < N
          · have hil : i < l.length := by have := HL.out; omega
            obtain ⟨b', o', rfl, q⟩ := (Rf.sl H.out (HII.out).ch HS.out) i hil
            have k1 : (i : Int) < (N : Int) := by omega
            have k2 : IntKind.i64.wrap ((o : Int) + (i : Int)) = ((o + i : Nat) : Int) := by rw [IntKind.wrap_i64]; have := HE.out; omega
            have HC : Aside _ := RpI.next HII.out hil hM (by have := HL.out; have := HOM.out; omega)
            generalize (l[i].toNat : Int) = xv at q HC
            generalize ((o + i : Nat) : Int) = oi at k2 HC
            clear HII
            go_wp2_with fail
            refine Calls.mono HC.out ?_
            rintro e w3 ⟨rfl, h4⟩
            have HI4 : Aside _ := h4
            clear h4 HC
            go_wp2_with fail
            go_roundg (N - (i + 1) + 1)
            case measure => omega
            case rel => exact ⟨i + 1, by simp, by omega, Nat.le_refl _, HI4.out⟩
          · obtain rfl : i = N := by omega
            have k1 : ¬ (i : Int) < (i : Int) := by omega
            have hii := HII.out
            have HRF : Aside _ := hii.rf
            have HCH : Aside _ := hii.ch
            clear hii HII
            go_wp2
            go_ret
            have e : l.take i = l := by rw [← HL.out]; exact List.take_length
            have h5 := HRF.out
            rw [e] at h5
            exact ⟨rfl, h5, HCH.out⟩
end Go.Proofs.YtpbiokcelglaaaaDoor
