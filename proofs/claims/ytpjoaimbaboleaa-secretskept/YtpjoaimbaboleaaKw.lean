/- vault: what a spy knows. -/
import Derived.Test.YtpjoaimbaboleaaBg
import Derived.Lib.SliceRun
namespace Go.Proofs.Ytpjoaimbaboleaa
open Go.RowKit Go.Shelf Go.Lib
set_option linter.unusedVariables false

/-- What is seen, as bytes. -/
def vs (S : List (Option Addr × Nat × List UInt8)) : List (List UInt8) := S.map fun x => x.2.2
theorem mem_sn {N x : Nat} {S : List (Option Addr × Nat × List UInt8)} : x ∈ sn N S ↔ ∃ b ∈ vs S, x ∈ wins b ∧ x < N := by
  unfold sn vs
  simp only [List.mem_flatMap, mem_fN, List.mem_map]
  constructor
  · rintro ⟨y, hy, h⟩; exact ⟨_, ⟨y, hy, rfl⟩, h⟩
  · rintro ⟨_, ⟨y, hy, rfl⟩, h⟩; exact ⟨y, hy, h⟩
theorem Iv.start (L : List Tm) (hp : 0 < L.length) (S : List (Option Addr × Nat × List UInt8)) : Iv L (vs S) (List.replicate L.length false) ([0] ++ sn L.length S) := by
  have no : ∀ i : Nat, (List.replicate L.length false)[i]? ≠ some true := by
    intro i h
    have := List.mem_of_getElem? h
    simp at this
  refine ⟨by simp, ?_, fun i h => absurd h (no i), .inr (by simp), ?_, fun m i t _ _ _ _ h => absurd h (no i), fun m t _ _ h => absurd h (no m)⟩
  · intro x hx
    rcases List.mem_append.1 hx with hx | hx
    · obtain rfl := List.mem_singleton.1 hx; exact ⟨hp, Kn.root⟩
    · obtain ⟨b, hb, h1, h2⟩ := mem_sn.1 hx; exact ⟨h2, Kn.seen hb h1 h2⟩
  · intro b hb x hx hl
    exact .inr (List.mem_append.2 (.inr (mem_sn.2 ⟨b, hb, hx, hl⟩)))
/-- A spy's mind: not begun, or at its end. -/
def Sp (n₀ : Nat) (w : World) (Mb V : Nat) (L : List Tm) (S : List (Option Addr × Nat × List UInt8)) : Prop :=
  n₀ ≤ Mb ∧ (M0 w Mb V ∨ ∃ La Be Kb Xb xc A B K, Mi n₀ w Mb V La Be Kb Xb xc L.length A B K [] ∧ Iv L (vs S) K [] ∧ Hr L (fun l => l / 2 < L.length) (2 * L.length) A B)
theorem Sp.at' {n₀ : Nat} {w : World} {Mb V : Nat} {L : List Tm} {S : List (Option Addr × Nat × List UInt8)} (h : Sp n₀ w Mb V L S) : ∃ cs, w.heap[Mb]? = some (.cells cs 106 (0, 0)) := by
  rcases h.2 with h | ⟨La, Be, Kb, Xb, xc, A, B, K, h, _⟩
  · exact ⟨_, h⟩
  · exact ⟨_, h.hM⟩
theorem Sp.bel {n₀ : Nat} {w w' : World} {Mb V : Nat} {L : List Tm} {S : List (Option Addr × Nat × List UInt8)} (h : Sp n₀ w Mb V L S) (hb : Below w.heap.size w w') : Sp n₀ w' Mb V L S := by
  refine ⟨h.1, ?_⟩
  rcases h.2 with h | ⟨La, Be, Kb, Xb, xc, A, B, K, h, h2⟩
  · exact .inl (heap_bel h hb)
  · exact .inr ⟨La, Be, Kb, Xb, xc, A, B, K, h.bel hb, h2⟩
theorem mul_step (u P : Nat) : (u + 1) * P = u * P + P := Nat.succ_mul u P
/-- Where a mind is while it learns. -/
def Lr (n₀ : Nat) (w wr : World) (Mb V N Pm kx : Nat) (L : List Tm) (S : List (Option Addr × Nat × List UInt8)) (Kb Xb xc : Nat) (A B : List Nat) (K : List Bool) (X : List Nat) : Prop :=
  ∃ La Be, Mi n₀ wr Mb V La Be Kb Xb xc N A B K X ∧ Iv L (vs S) K X ∧ Hr L (fun l => l / 2 < L.length) (2 * L.length) A B ∧ Chg (fun k => k = Mb) w wr ∧ ((w.heap.size ≤ Kb ∧ w.heap.size ≤ Xb) ∨ X = []) ∧ X.length + un K * Pm ≤ 28000000000000 ∧ un K * (Pm + 1) + X.length ≤ kx
/-- One lesson. -/
theorem Lr.learn {n₀ : Nat} {w wr : World} {Mb V G c M N Pm kx : Nat} {L : List Tm} {S : List (Option Addr × Nat × List UInt8)} {Kb Xb xc : Nat} {A B : List Nat} {K : List Bool} {X : List Nat} {cs : Array Value} (h : Lr n₀ w wr Mb V N Pm kx L S Kb Xb xc A B K X) (hv : Va n₀ w V G c M L) (hM : w.heap[Mb]? = some (.cells cs 106 (0, 0))) (hSm : Small L) (hLN : L.length = N) (hN : N ≤ 1000000) (hPm : Pm = 200000 + 2 * N * 65537) (hX : 0 < X.length) :
    Calls Try.prog 60 #[.pointer (some ⟨Mb, 0, none⟩)] wr fun e w' => e = .returned (.tuple #[]) ∧ ∃ Xb' xc' K' X' kx', kx' < kx ∧ Lr n₀ w w' Mb V N Pm kx' L S Kb Xb' xc' A B K' X' := by
  obtain ⟨La, Be, hmi, hiv, hhr, hch, hge, hb, hm⟩ := h
  obtain ⟨Y, n, rfl⟩ : ∃ Y n, X = Y ++ [n] := ⟨X.dropLast, X.getLast (by rintro rfl; simp at hX), (List.dropLast_concat_getLast _).symm⟩
  rw [List.length_append, List.length_singleton] at hb hm
  have hge' : w.heap.size ≤ Kb ∧ w.heap.size ≤ Xb := by
    rcases hge with h | h
    · exact h
    · simp at h
  obtain ⟨hnL, hnK⟩ := hiv.sX n (by simp)
  have tr : ∀ {Xb' : Nat} {w' : World}, Mc Mb Kb Xb wr Xb' w' → Chg (fun k => k = Mb) w w' ∧ w.heap.size ≤ Xb' := by
    intro Xb' w' hc
    have s := hch.2.2.2.1
    refine ⟨⟨hc.1.1.trans hch.1, hc.1.2.1.trans hch.2.1, hc.1.2.2.1.trans hch.2.2.1, Nat.le_trans s hc.1.2.2.2.1, fun k hk hx => ?_⟩, ?_⟩
    · exact (hc.1.2.2.2.2 k (by omega) (by rintro (e | e | e); exact hx e; omega; omega)).trans (hch.2.2.2.2 k hk hx)
    · rcases hc.2 with e | e
      · rw [e]; exact hge'.2
      · omega
  obtain ⟨b, hkb⟩ : ∃ b, K[n]? = some b := ⟨K[n]'(by rw [hiv.lK]; exact hnL), by simp [hiv.lK, hnL]⟩
  cases b with
  | true =>
    refine (learn_skip n₀ Mb V La Be Kb Xb xc N n A B K Y wr hmi hkb (by omega) hN).mono ?_
    rintro e w' ⟨rfl, h1, h2⟩
    obtain ⟨t1, t2⟩ := tr h2
    exact ⟨rfl, Xb, xc, K, Y, un K * (Pm + 1) + Y.length, by omega, La, Be, h1, hiv.skip hkb, hhr, t1, .inl ⟨hge'.1, t2⟩, by omega, Nat.le_refl _⟩
  | false =>
    obtain ⟨C, av, hav, hCh, hCl, hmem⟩ := hhr n hnL
    obtain ⟨t, ht⟩ : ∃ t, L[n]? = some t := ⟨L[n], by simp [hnL]⟩
    have hv1 := hv.chg hM hch
    have hu := un_set hkb
    have e1 : un K * Pm = un (K.set n true) * Pm + Pm := by rw [← hu]; exact mul_step _ _
    have e2 : un K * (Pm + 1) = un (K.set n true) * (Pm + 1) + (Pm + 1) := by rw [← hu]; exact mul_step _ _
    rw [hLN] at hCl
    refine (learn_new n₀ Mb V G c M La Be Kb Xb xc N n A B C av K Y L t wr hmi hv1 hLN hkb ht hSm hav hCh hCl hmem (by omega) hN).mono ?_
    rintro e w' ⟨rfl, Xb', xc', h1, h2⟩
    obtain ⟨t1, t2⟩ := tr h2
    have q1 := own_le hSm (K.set n true) N ht
    have q2 := flat_le hSm (K.set n true) N C
    have q3 : C.length * 65537 ≤ 2 * N * 65537 := Nat.mul_le_mul_right _ hCl
    have q4 := hiv.new hv.good hv.root hkb ht hmem
    rw [hLN] at q4
    have q5 : (Y ++ own (K.set n true) N t ++ C.flatMap (psh L (K.set n true) N)).length ≤ Y.length + Pm := by rw [List.length_append, List.length_append]; omega
    exact ⟨rfl, Xb', xc', K.set n true, _, un (K.set n true) * (Pm + 1) + (Y ++ own (K.set n true) N t ++ C.flatMap (psh L (K.set n true) N)).length, by omega, La, Be, h1, q4, hhr, t1, .inl ⟨hge'.1, t2⟩, by omega, Nat.le_refl _⟩
theorem nil104 (o : Option Addr) (l c : Nat) (W : World) : (binOp .eql 104 (.slice o l c) (.slice none 0 0)).run Try.prog W = .ok (.bool o.isNone) W := by
  exact Go.Lib.run_eql_slice_nil W 104 4 o l c 0 0 Try.underlying104
/-- How 'knows' ends. -/
def KwP (n₀ : Nat) (w : World) (Mb V : Nat) (L : List Tm) (S : List (Option Addr × Nat × List UInt8)) (n : Nat) (e : Ending) (w' : World) : Prop := ∃ b : Bool, e = .returned (.bool b) ∧ (b = true ↔ Kn L (vs S) n) ∧ Sp n₀ w' Mb V L S ∧ Chg (fun k => k = Mb) w w'
theorem un_rep (N : Nat) : un (List.replicate N false) = N := by simp [un]
set_option maxRecDepth 100000 in
set_option maxHeartbeats 2000000 in
/-- 'knows'. -/
theorem knows_c (n₀ Mb V G c M Sb sc n : Nat) (L : List Tm) (so : Option Addr) (S : List (Option Addr × Nat × List UInt8)) (w : World) (h : Sp n₀ w Mb V L S) (hv : Va n₀ w V G c M L) (hSb : w.cell? ⟨Sb, 0, none⟩ = some (.slice so S.length sc)) (hS : Se n₀ w so S) (hSm : Small L) (hle : L.length ≤ 1000000) (hSl : S.length ≤ 9223372036854775807) (hbd : (sn L.length S).length + 1 + L.length * (200000 + 2 * L.length * 65537) ≤ 28000000000000) (hn : n < L.length) :
    Calls Try.prog 58 #[.int .i64 (n : Int), .pointer (some ⟨Mb, 0, none⟩), .pointer (some ⟨Sb, 0, none⟩)] w (KwP n₀ w Mb V L S n) := by
  obtain ⟨cs, hcs⟩ := h.at'
  have HCS : Aside _ := hcs
  have HV : Aside _ := hv
  have HS : Aside _ := hS
  have HSM : Aside _ := hSm
  have HNM : Aside _ := h.1
  obtain ⟨Pm, hPm⟩ : ∃ Pm, Pm = 200000 + 2 * L.length * 65537 := ⟨_, rfl⟩
  rw [← hPm] at hbd
  have HPM : Aside _ := hPm
  have HBD : Aside _ := hbd
  have HP : Aside _ := hv.pos
  have HSP : Aside _ := h.2
  have HLE : Aside _ := hle
  have HSL : Aside _ := hSl
  obtain ⟨N, hN⟩ : ∃ N, L.length = N := ⟨_, rfl⟩
  have HLN : Aside _ := hN
  rw [hN] at HLE HPM HBD hn HP
  have hnN := hn
  clear hcs hv hS hSm h hPm hbd hle hSl hN
  have hnil0 : ∀ W, (binOp .eql 104 (.slice none 0 0) (.slice none 0 0)).run Try.prog W = .ok (.bool true) W := fun W => nil104 none 0 0 W
  have hnil1 : ∀ b l c W, (binOp .eql 104 (.slice (some ⟨b, 0, none⟩) l c) (.slice none 0 0)).run Try.prog W = .ok (.bool false) W := fun b l c W => nil104 (some ⟨b, 0, none⟩) l c W
  rcases HSP.out with hq | hq
  · have c3 := (ce113 (i := 3) hq rfl).1
    have HQ : Aside _ := hq
    clear hq HSP
    go_enter Try.func58, Try.ntmps58
    go_wp2_with fail
    refine (begin_c n₀ Mb V G c M sc L so S w HV.out HQ.out HNM.out HS.out (by rw [HLN.out]; exact HLE.out) (by have := HBD.out; rw [HLN.out]; omega) HSL.out).mono ?_
    rintro e w1 ⟨rfl, La, Be, Kb, Xb, xc, A, B, hmi, hhr, hch, gK, gX⟩
    have HST : Aside (∃ Kb Xb xc A B K X, Lr n₀ w w1 Mb V N Pm (N * (Pm + 1) + ([0] ++ sn N S).length) L S Kb Xb xc A B K X) := by
      refine ⟨Kb, Xb, xc, A, B, List.replicate L.length false, [0] ++ sn L.length S, La, Be, by rw [← HLN.out]; exact hmi, Iv.start L (by rw [HLN.out]; exact HP.out) S, hhr, hch, .inl ⟨gK, gX⟩, ?_, ?_⟩
      · rw [un_rep, HLN.out]
        have h2 := HBD.out
        simp only [List.length_append, List.length_singleton]
        omega
      · rw [un_rep, HLN.out]; exact Nat.le_refl _
    obtain ⟨KX0, hKX⟩ : ∃ KX0, N * (Pm + 1) + ([0] ++ sn N S).length = KX0 := ⟨_, rfl⟩
    rw [hKX] at HST
    clear hmi hhr hch gK gX hKX c3
    go_wp2_with fail
    go_loopg [] KX0 (fun kx wr => Aside (∃ Kb Xb xc A B K X, Lr n₀ w wr Mb V N Pm kx L S Kb Xb xc A B K X))
    case atStart => exact HST.out
    case round =>
      obtain ⟨Kb, Xb, xc, A, B, K, X, hlr⟩ := hrel.out
      have HLR : Aside _ := hlr
      obtain ⟨La, Be, hmi, hiv, -⟩ := hlr
      have c4 := hmi.c4
      clear hrel
      by_cases hlt : 0 < X.length
      · have HLN2 : Aside _ := Lr.learn HLR.out HV.out HCS.out HSM.out HLN.out HLE.out HPM.out hlt
        have j0 : (0 : Int) < (X.length : Int) := by omega
        have j1 : decide ((0 : Int) < (X.length : Int)) = true := by simpa using j0
        generalize X.length = NX at *
        clear hmi hiv HLR
        go_wp2_with fail
        refine Calls.mono HLN2.out ?_
        rintro e W3 ⟨rfl, Xb', xc', K', X', kx', hlt', hlr'⟩
        have HL3 : Aside _ := hlr'
        clear hlr' c4
        go_wp2_with fail
        go_roundg kx'
        case measure => omega
        case rel => exact ⟨Kb, Xb', xc', A, B, K', X', HL3.out⟩
      · obtain rfl : X = [] := by cases X; rfl; simp at hlt
        obtain ⟨b, hkb⟩ : ∃ b, K[n]? = some b := ⟨K[n]'(by rw [hmi.lK]; exact hnN), by simp [hmi.lK, hnN]⟩
        have c3 := hmi.c3
        have ck := hmi.kn hkb
        have HKB : Aside _ := hkb
        have HIV : Aside _ := hiv
        have i0 : (0 : Int) ≤ (n : Int) := by omega
        have i1 : (n : Int) < (N : Int) := by omega
        clear hmi hiv hlt hkb
        simp only [List.length_nil] at c4
        go_wp2_with fail
        go_ret
        obtain ⟨La, Be, hmi, hiv, hhr, hch, -⟩ := HLR.out
        refine ⟨b, rfl, ?_, ⟨HNM.out, .inr ⟨La, Be, Kb, Xb, xc, A, B, K, by rw [HLN.out]; exact hmi, hiv, hhr⟩⟩, hch⟩
        rw [← hiv.fin, HKB.out]
        simp
  · obtain ⟨La, Be, Kb, Xb, xc, A, B, K, hmi, hiv, hhr⟩ := hq
    have c3 := hmi.c3
    rw [HLN.out] at c3
    obtain ⟨KX0, hKX⟩ : ∃ KX0, un K * (Pm + 1) = KX0 := ⟨_, rfl⟩
    have HST : Aside (∃ Kb Xb xc A B K X, Lr n₀ w w Mb V N Pm KX0 L S Kb Xb xc A B K X) := by
      refine ⟨Kb, Xb, xc, A, B, K, [], La, Be, by rw [← HLN.out]; exact hmi, hiv, hhr, Chg.refl _ _, .inr rfl, ?_, by simp [hKX]⟩
      have h1 : un K ≤ N := by have := un_le K; rw [hiv.lK, HLN.out] at this; exact this
      have h2 := Nat.mul_le_mul_right Pm h1
      have h3 := HBD.out
      simp only [List.length_nil]
      omega
    clear hmi hiv hhr hKX HSP
    go_enter Try.func58, Try.ntmps58
    go_wp2_with fail
    go_loopg [] KX0 (fun kx wr => Aside (∃ Kb Xb xc A B K X, Lr n₀ w wr Mb V N Pm kx L S Kb Xb xc A B K X))
    case atStart => exact HST.out
    case round =>
      obtain ⟨Kb, Xb, xc, A, B, K, X, hlr⟩ := hrel.out
      have HLR : Aside _ := hlr
      obtain ⟨La, Be, hmi, hiv, -⟩ := hlr
      have c4 := hmi.c4
      clear hrel
      by_cases hlt : 0 < X.length
      · have HLN2 : Aside _ := Lr.learn HLR.out HV.out HCS.out HSM.out HLN.out HLE.out HPM.out hlt
        have j0 : (0 : Int) < (X.length : Int) := by omega
        have j1 : decide ((0 : Int) < (X.length : Int)) = true := by simpa using j0
        generalize X.length = NX at *
        clear hmi hiv HLR
        go_wp2_with fail
        refine Calls.mono HLN2.out ?_
        rintro e W3 ⟨rfl, Xb', xc', K', X', kx', hlt', hlr'⟩
        have HL3 : Aside _ := hlr'
        clear hlr' c4
        go_wp2_with fail
        go_roundg kx'
        case measure => omega
        case rel => exact ⟨Kb, Xb', xc', A, B, K', X', HL3.out⟩
      · obtain rfl : X = [] := by cases X; rfl; simp at hlt
        obtain ⟨b, hkb⟩ : ∃ b, K[n]? = some b := ⟨K[n]'(by rw [hmi.lK]; exact hnN), by simp [hmi.lK, hnN]⟩
        have c3 := hmi.c3
        have ck := hmi.kn hkb
        have HKB : Aside _ := hkb
        have HIV : Aside _ := hiv
        have i0 : (0 : Int) ≤ (n : Int) := by omega
        have i1 : (n : Int) < (N : Int) := by omega
        clear hmi hiv hlt hkb
        simp only [List.length_nil] at c4
        go_wp2_with fail
        go_ret
        obtain ⟨La, Be, hmi, hiv, hhr, hch, -⟩ := HLR.out
        refine ⟨b, rfl, ?_, ⟨HNM.out, .inr ⟨La, Be, Kb, Xb, xc, A, B, K, by rw [HLN.out]; exact hmi, hiv, hhr⟩⟩, hch⟩
        rw [← hiv.fin, HKB.out]
        simp
end Go.Proofs.Ytpjoaimbaboleaa
