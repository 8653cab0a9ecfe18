/- vault: Spied, the walk. -/
import Derived.Test.YthhoknkdmmldbaaSd
import Derived.Test.YthhoknkdmmldbaaBz
namespace Go.Proofs.Ythhoknkdmmldbaa
open Go.RowKit Go.Shelf Go.Lib
set_option linter.unusedVariables false

theorem wpList_append_run' {P : Program} {ops : Array Oper} {rest : List Oper} {o : Oper} {a : Act} {w : World} {Q : Exit → Act → World → Prop}
    (hg : o.guard = none) (d x : Operand) (dT sT : TypeId) (hop : o.op = Op.call { callee := Callee.builtin Builtin.append, args := #[d, x], argTypes := #[dT, sT] })
    (v u : Value) (hd : a.eval d = v) (hx : a.eval x = u) {v' : Value} {w' : World} (hr : (Builtin.append_ #[dT, sT] o.type #[v, u]).run P w = .ok v' w') (hK : wpList P ops Q rest (a.put o.dst v') w') :
    wpList P ops Q (o :: rest) a w :=
  wpList_plain hg fun K hK' => (by
    unfold Oper.wp
    simp [execOp, hop, resolve, invoke, builtin, hd, hx, hr, Result.andThen]
    exact hK' _ _ hK)
/-- How Spied ends. -/
def SpdP (n₀ : Nat) (w : World) (L : List Tm) (S : List (Option Addr × Nat × List UInt8)) (e : Ending) (w' : World) : Prop :=
  ∃ (o : Option Addr) (n c : Nat) (T : List (Nat × Nat × ByteArray)), e = .returned (.slice o n c) ∧ Spd L (vs S) L.length (T.map fun x => x.2.2) ∧ Tx n₀ w.heap.size w' o n c T ∧ n = T.length ∧ Below w.heap.size w w'
/-- Between two rounds. -/
structure SdR (n₀ : Nat) (W0 wr : World) (Mb V : Nat) (L : List Tm) (S : List (Option Addr × Nat × List UInt8)) (k : Nat) (o : Option Addr) (n c : Nat) (T : List (Nat × Nat × ByteArray)) : Prop where
  sp : Sp n₀ wr Mb V L S
  ch : Chg (fun k => k = Mb) W0 wr
  sd : Spd L (vs S) k (T.map fun x => x.2.2)
  tx : Tx n₀ W0.heap.size wr o n c T
  ln : n = T.length
section
variable {n₀ : Nat} {W0 wr w' : World} {Mb V : Nat} {L : List Tm} {S : List (Option Addr × Nat × List UInt8)} {k : Nat} {o : Option Addr} {n c : Nat} {T : List (Nat × Nat × ByteArray)}
theorem SdR.bel (h : SdR n₀ W0 wr Mb V L S k o n c T) (hb : Below wr.heap.size wr w') : SdR n₀ W0 w' Mb V L S k o n c T :=
  ⟨h.sp.bel hb, h.ch.trans (Chg.of_bel hb), h.sd, h.tx.bel hb, h.ln⟩
theorem SdR.chg (h : SdR n₀ W0 wr Mb V L S k o n c T) (hlt : Mb < W0.heap.size) (hsp : Sp n₀ w' Mb V L S) (hc : Chg (fun k => k = Mb) wr w') : SdR n₀ W0 w' Mb V L S k o n c T := by
  obtain ⟨cs, hcs⟩ := h.sp.at'
  exact ⟨hsp, h.ch.trans hc, h.sd, h.tx.chg h.sp.1 hlt hcs hc, h.ln⟩
theorem SdR.no {t : Tm} (h : SdR n₀ W0 wr Mb V L S k o n c T) (ht : L[k]? = some t) (hn : ¬ (t.kd = 6 ∧ Kn L (vs S) k ∧ Kn L (vs S) t.of')) : SdR n₀ W0 wr Mb V L S (k + 1) o n c T :=
  ⟨h.sp, h.ch, h.sd.no ht hn, h.tx, h.ln⟩
theorem Sp.stay (h : Sp n₀ wr Mb V L S) (hk : ∀ (b : Nat) (cs : Array Value) (t : Nat), wr.heap[b]? = some (Obj.cells cs t (0, 0)) → t ≠ 38 → w'.heap[b]? = some (Obj.cells cs t (0, 0))) : Sp n₀ w' Mb V L S := by
  refine ⟨h.1, ?_⟩
  rcases h.2 with h | ⟨La, Be, Kb, Xb, xc, A, B, K, h, h2⟩
  · exact .inl (hk _ _ _ h (by decide))
  · obtain ⟨R, r1, r2⟩ := h.hX
    exact .inr ⟨La, Be, Kb, Xb, xc, A, B, K, ⟨hk _ _ _ h.hM (by decide), hk _ _ _ h.hA (by decide), h.lA, hk _ _ _ h.hB (by decide), h.lB, hk _ _ _ h.hK (by decide), h.lK, ⟨R, hk _ _ _ r1 (by decide), r2⟩, h.ax, h.bx, h.nM, h.nK, h.nX⟩, h2⟩
theorem own_mono {w : World} {n₀ n₁ n e : Nat} {v : Value} {xs : List Value} (h : w.ownsRow n₁ e 1 v n xs) (hn : n₀ ≤ n₁) : w.ownsRow n₀ e 1 v n xs := by
  obtain ⟨h0, h | ⟨g, cap, cur, e, h1, h2, h3⟩⟩ := h
  · exact ⟨h0, .inl h⟩
  · exact ⟨h0, .inr ⟨g, cap, cur, e, Nat.le_trans hn h1, h2, h3⟩⟩
end
set_option maxRecDepth 100000 in
set_option maxHeartbeats 2000000 in
theorem spied_c (n₀ V G c M sc : Nat) (L : List Tm) (so : Option Addr) (S : List (Option Addr × Nat × List UInt8)) (w : World) (hv : Va n₀ w V G c M L) (hS : Se n₀ w so S) (hSm : Small L) (hle : L.length ≤ 1000000) (hSl : S.length ≤ 9223372036854775807) (hbd : tot S + 1 + L.length * (200000 + 2 * L.length * 65537) ≤ 4398046511104) :
    Calls Try.prog 23 #[.pointer (some ⟨V, 0, none⟩), .slice so S.length sc] w (SpdP n₀ w L S) := by
  have HV : Aside _ := hv
  have HS : Aside _ := hS
  have HSM : Aside _ := hSm
  have HLE : Aside _ := hle
  have HSL : Aside _ := hSl
  have HBD : Aside _ := hbd
  have lV := hv.lV
  have bV := hv.bV
  clear hv hS hSm hle hSl hbd
  obtain ⟨NS, hNS⟩ : ∃ NS, S.length = NS := ⟨_, rfl⟩
  rw [hNS]
  have HNS : Aside _ := hNS
  clear hNS
  obtain ⟨N, hN⟩ : ∃ N, L.length = N := ⟨_, rfl⟩
  have HLN : Aside _ := hN
  have hN6 : N ≤ 1000000 := by rw [← hN]; exact HLE.out
  clear hN
  go_enter Try.func23, Try.ntmps23
  go_wp2_with fail
  refine (some_none HV.out HLE.out).mono ?_
  rintro e w1 ⟨rfl, hw⟩
  subst w1
  go_wp2_with fail
  refine (spy_c _ _ _ _ _).mono ?_
  rintro e w1 ⟨rfl, hw⟩
  subst w1
  have hb0 : Below w.heap.size w ((w.alloc (.cells #[.slice so NS sc] 34)).alloc (.cells #[.pointer (some ⟨V, 0, none⟩), .slice none 0 0, .slice none 0 0, .slice none 0 0, .slice none 0 0] 113)) := (bel1 w _).alloc (by simp) _
  have hSb : ((w.alloc (.cells #[.slice so NS sc] 34)).alloc (.cells #[.pointer (some ⟨V, 0, none⟩), .slice none 0 0, .slice none 0 0, .slice none 0 0, .slice none 0 0] 113)).heap[w.heap.size]? = some (.cells #[.slice so NS sc] 34 (0, 0)) := nth' (new' rfl)
  have hMb : ((w.alloc (.cells #[.slice so NS sc] 34)).alloc (.cells #[.pointer (some ⟨V, 0, none⟩), .slice none 0 0, .slice none 0 0, .slice none 0 0, .slice none 0 0] 113)).heap[w.heap.size + 1]? = some (.cells #[.pointer (some ⟨V, 0, none⟩), .slice none 0 0, .slice none 0 0, .slice none 0 0, .slice none 0 0] 113 (0, 0)) := new' (by simp)
  have hz0 : ((w.alloc (.cells #[.slice so NS sc] 34)).alloc (.cells #[.pointer (some ⟨V, 0, none⟩), .slice none 0 0, .slice none 0 0, .slice none 0 0, .slice none 0 0] 113)).heap.size = w.heap.size + 1 + 1 := by simp
  have hV0 := HV.out.bel hb0
  have hS0 := HS.out.bel hb0
  generalize (w.alloc (.cells #[.slice so NS sc] 34)).alloc (.cells #[.pointer (some ⟨V, 0, none⟩), .slice none 0 0, .slice none 0 0, .slice none 0 0, .slice none 0 0] 113) = W0 at *
  obtain ⟨sz, hsz⟩ : ∃ sz, w.heap.size = sz := ⟨_, rfl⟩
  rw [hsz] at lV hSb hMb hz0 ⊢
  obtain ⟨Mb, hMbe⟩ : ∃ Mb, sz + 1 = Mb := ⟨_, rfl⟩
  rw [hMbe] at hMb hz0 ⊢
  have c0 := hV0.cV0
  rw [HLN.out] at c0
  have HST : Aside (SdR n₀ W0 W0 Mb V L S 0 none 0 0 []) := ⟨⟨by omega, .inl hMb⟩, Chg.refl _ _, Spd.nil, Tx.nil _ _ _, rfl⟩
  have HVC : Aside (∀ wr, Chg (fun k => k = Mb) W0 wr → Va n₀ wr V G c M L) := fun wr h => hV0.chg hMb h
  have HKN : Aside (∀ wr x, Sp n₀ wr Mb V L S → Chg (fun k => k = Mb) W0 wr → x < L.length → Calls Try.prog 61 #[.int .i64 (x : Int), .pointer (some ⟨Mb, 0, none⟩), .pointer (some ⟨sz, 0, none⟩)] wr (KwP n₀ wr Mb V L S x)) := by
    intro wr x h1 h2 hx
    refine knows_c n₀ Mb V G c M sz sc x L so S wr h1 (hV0.chg hMb h2) ?_ (hS0.chg (by omega) hMb h2) HSM.out HLE.out HSL.out HBD.out hx
    rw [HNS.out]
    exact cell1_of ((h2.2.2.2.2 sz (by omega) (by omega)).trans hSb)
  have HB0 : Aside _ := hb0
  have lMb : Mb < W0.heap.size := by omega
  have lsz : W0.heap.size = sz + 2 := by omega
  have lMs : sz < Mb := by omega
  have HR0 : Aside (n₀ ≤ W0.heap.size) := by show n₀ ≤ W0.heap.size; omega
  have HSZ : Aside _ := hsz
  clear hb0 hSb hMb hz0 hV0 hS0 hMbe hsz
  go_wp2_with fail
  go_loopg [5, 19] (N + 1) (fun kx s5 s19 wr => ∃ (k n cc : Nat) (o : Option Addr) (T : List (Nat × Nat × ByteArray)), s19 = .int .i64 (k : Int) ∧ s5 = .slice o n cc ∧ k ≤ N ∧ N - k ≤ kx ∧ n ≤ k ∧ Aside (SdR n₀ W0 wr Mb V L S k o n cc T))
  case atStart => exact ⟨0, 0, 0, none, [], rfl, rfl, by omega, by omega, by omega, HST.out⟩
  case round =>
    obtain ⟨k, n, cc, o, T, rfl, rfl, hk, hg, hnk, HR⟩ := hrel
    clear HST
    by_cases hlt : k < N
    · have hv := HVC.out wr HR.out.ch
      obtain ⟨t, ht⟩ : ∃ t, L[k]? = some t := ⟨L[k]'(by have := HLN.out; omega), by simp [HLN.out, hlt]⟩
      have t0 : wr.cell? ⟨G, k * 5, none⟩ = some (.int .i64 (t.kd : Int)) := hv.cT (j := 0) ht (by decide)
      have t1 : wr.cell? ⟨G, k * 5 + 1, none⟩ = some (.int .i64 (t.of' : Int)) := hv.cT (j := 1) ht (by decide)
      have t2 : wr.cell? ⟨G, k * 5 + 2, none⟩ = some (.int .i64 t.wi) := hv.cT (j := 2) ht (by decide)
      have t3 : wr.cell? ⟨G, k * 5 + 3, none⟩ = some (.string t.un) := hv.cT (j := 3) ht (by decide)
      have t4 : wr.cell? ⟨G, k * 5 + 4, none⟩ = some (.string t.by') := hv.cT (j := 4) ht (by decide)
      have i1 : (k : Int) < (N : Int) := by omega
      have i0 : (0 : Int) ≤ (k : Int) := by omega
      have iw : IntKind.i64.wrap ((k : Int) + 1) = (k : Int) + 1 := by rw [IntKind.wrap_i64]; omega
      have HT : Aside _ := ht
      have HKL : Aside (k < L.length) := by have := HLN.out; show k < L.length; omega
      have HGD : Aside _ := hv.good k t ht
      have HRT : Aside _ := hv.root
      clear hv ht
      by_cases h6 : t.kd = 6
      · have h60 : (t.kd : Int) = 6 := by omega
        have hof : t.of' < L.length := by
          have h0 : 0 < k := by
            rcases Nat.eq_zero_or_pos k with e | e
            · subst e
              obtain ⟨r, hr⟩ := HRT.out
              have := HT.out
              rw [hr] at this
              simp at this
              rw [← this] at h6
              cases h6
            · exact e
          have := (HGD.out h0).2.2.1 (by omega)
          have := HKL.out
          omega
        have HOF : Aside _ := hof
        rw [h60] at t0
        clear hof h60
        have HW1 : Aside (SdR n₀ W0 (wr.alloc (.cells #[.int .i64 6, .int .i64 (t.of' : Int), .int .i64 t.wi, .string t.un, .string t.by'] 64)) Mb V L S k o n cc T) := HR.out.bel (bel1 _ _)
        have hbx := heap_alloc_new wr (.cells #[.int .i64 6, .int .i64 (t.of' : Int), .int .i64 t.wi, .string t.un, .string t.by'] 64)
        have lTb : wr.heap.size ≠ Mb := by have := HR.out.ch.2.2.2.1; omega
        have lTs : wr.heap.size < (wr.alloc (.cells #[.int .i64 6, .int .i64 (t.of' : Int), .int .i64 t.wi, .string t.un, .string t.by'] 64)).heap.size := by simp
        go_wp2_with fail
        clear t0 t1 t2 t3 t4 HR
        generalize wr.alloc (.cells #[.int .i64 6, .int .i64 (t.of' : Int), .int .i64 t.wi, .string t.un, .string t.by'] 64) = wa at *
        generalize wr.heap.size = Tb at *
        refine Calls.mono (HKN.out wa k HW1.out.sp HW1.out.ch HKL.out) ?_
        rintro e W3 ⟨b, rfl, hb, hsp, hc⟩
        have HW3 : Aside (SdR n₀ W0 W3 Mb V L S k o n cc T) := HW1.out.chg lMb hsp hc
        have hbx3 := (hc.2.2.2.2 Tb lTs lTb).trans hbx
        have lTs3 : Tb < W3.heap.size := (Array.getElem?_eq_some_iff.1 hbx3).1
        clear hbx hsp hc HW1 lTs
        cases b with
        | false =>
          have HNX : Aside (SdR n₀ W0 W3 Mb V L S (k + 1) o n cc T) := HW3.out.no HT.out (fun h => absurd (hb.2 h.2.1) (by simp))
          clear hb hbx3 HW3
          go_wp2
          go_roundg (N - (k + 1))
          case measure => omega
          case rel => exact ⟨k + 1, n, cc, o, T, by simp, rfl, by omega, Nat.le_refl _, by omega, HNX.out⟩
        | true =>
          have HK1 : Aside (Kn L (vs S) k) := hb.1 rfl
          have q1 : W3.cell? ⟨Tb, 1, none⟩ = some (.int .i64 (t.of' : Int)) := by simp [World.cell?, hbx3]
          have HBX : Aside _ := hbx3
          clear hb hbx3
          go_wp2_with fail
          refine Calls.mono (HKN.out W3 t.of' HW3.out.sp HW3.out.ch HOF.out) ?_
          rintro e W4 ⟨b, rfl, hb, hsp, hc⟩
          have HW4 : Aside (SdR n₀ W0 W4 Mb V L S k o n cc T) := HW3.out.chg lMb hsp hc
          have hbx4 := (hc.2.2.2.2 Tb lTs3 lTb).trans HBX.out
          clear hsp hc HW3 HBX q1
          cases b with
          | false =>
            have HNX : Aside (SdR n₀ W0 W4 Mb V L S (k + 1) o n cc T) := HW4.out.no HT.out (fun h => absurd (hb.2 h.2.2) (by simp))
            clear hb hbx4 HW4
            go_wp2
            go_roundg (N - (k + 1))
            case measure => omega
            case rel => exact ⟨k + 1, n, cc, o, T, by simp, rfl, by omega, Nat.le_refl _, by omega, HNX.out⟩
          | true =>
            have HK2 : Aside (Kn L (vs S) t.of') := hb.1 rfl
            have q4 : W4.cell? ⟨Tb, 4, none⟩ = some (.string t.by') := by simp [World.cell?, hbx4]
            obtain ⟨cp, W5, hcv, hb5, hby⟩ := conv_string n₀ t.by' (by have := HSM.out k t HT.out h6; omega) W4
            obtain ⟨B5, hB5⟩ : ∃ B5, W4.heap.size = B5 := ⟨_, rfl⟩
            rw [hB5] at hby hcv
            have hbz : Below W5.heap.size W5 (W5.alloc (.cells #[.slice (some ⟨B5, 0, none⟩) t.by'.size cp] 38)) := bel1 _ _
            have h6b := HW4.out.bel (hb5.trans (hbz.mono hb5.size))
            obtain ⟨g, c', X', hrun, htx, hbX, hkeep⟩ := h6b.tx.app (x := (B5, cp, t.by')) (hby.bel hbz) (heap_alloc_new W5 _) (by have := HR0.out; omega) (by have := h6b.ch.2.2.2.1; omega) (by omega)
            have HNX : Aside (SdR n₀ W0 X' Mb V L S (k + 1) (some ⟨g, 0, none⟩) (n + 1) c' (T ++ [(B5, cp, t.by')])) := by
              refine ⟨?_, ?_, ?_, htx, by have := h6b.ln; simp; omega⟩
              · exact h6b.sp.stay hkeep
              · refine ⟨hbX.os.trans h6b.ch.1, hbX.tape.trans h6b.ch.2.1, hbX.output.trans h6b.ch.2.2.1, Nat.le_trans h6b.ch.2.2.2.1 hbX.size, fun j hj hx => (hbX.block j hj).trans (h6b.ch.2.2.2.2 j hj hx)⟩
              · rw [List.map_append]; exact h6b.sd.yes HT.out h6 HK1.out HK2.out
            clear hb hbx4 HW4 hb5 hby hbz h6b htx hbX hkeep hB5
            go_wp2_with (refine wpList_append_run' rfl _ _ 34 34 rfl _ _ rfl rfl hrun ?_)
            go_roundg (N - (k + 1))
            case measure => omega
            case rel => exact ⟨k + 1, n + 1, c', some ⟨g, 0, none⟩, _, by simp, rfl, by omega, Nat.le_refl _, by omega, HNX.out⟩
      · have hne : ¬ ((t.kd : Int) = 6) := by omega
        have hn2 : decide ((t.kd : Int) = 6) = false := by simpa using hne
        have hn3 : ((t.kd : Int) == 6) = false := by simpa using hne
        have HNX : Aside (∀ wx, Below wr.heap.size wr wx → SdR n₀ W0 wx Mb V L S (k + 1) o n cc T) := fun wx hb => (HR.out.bel hb).no HT.out (fun h => h6 h.1)
        go_wp2
        go_roundg (N - (k + 1))
        case measure => omega
        case rel => exact ⟨k + 1, n, cc, o, T, by simp, rfl, by omega, Nat.le_refl _, by omega, HNX.out _ (bel1 _ _)⟩
    · obtain rfl : k = N := by omega
      have hlt' : ¬ ((k : Int) < (k : Int)) := by omega
      go_wp2
      go_ret
      have h := HR.out
      refine ⟨o, n, cc, T, rfl, by rw [HLN.out]; exact h.sd, ?_, h.ln, ?_⟩
      · exact ⟨own_mono h.tx.own HB0.out.size, h.tx.by'⟩
      · have h1 := HSZ.out
        exact ⟨h.ch.1.trans HB0.out.os, h.ch.2.1.trans HB0.out.tape, h.ch.2.2.1.trans HB0.out.output, Nat.le_trans HB0.out.size h.ch.2.2.2.1, fun j hj => (h.ch.2.2.2.2 j (by omega) (by omega)).trans (HB0.out.block j hj)⟩
end Go.Proofs.Ythhoknkdmmldbaa
