/- The reference's inbox: put of one byte. -/
import Derived.Test.YtpbiokcelglaaaaDoorRf
import Derived.Laws.AppendOwnNone
import Derived.OwnWalk
namespace Go.Proofs.YtpbiokcelglaaaaDoor
open Go.RowKit Go.Maps
set_option linter.unusedVariables false

/-- Bytes with their places, cell by cell. -/
def fb : List (Nat × UInt8) → List Value
  | [] => []
  | y :: t => .int .i64 (y.1 : Int) :: .int .u8 (y.2.toNat : Int) :: fb t
@[simp] theorem fb_length (L : List (Nat × UInt8)) : (fb L).length = L.length * 2 := by
  induction L with
  | nil => rfl
  | cons y t ih => simp only [fb, List.length_cons, ih]; omega
theorem fb_append (L M : List (Nat × UInt8)) : fb (L ++ M) = fb L ++ fb M := by
  induction L with
  | nil => rfl
  | cons y t ih => simp only [List.cons_append, fb, ih]
theorem fb_one (L : List (Nat × UInt8)) : ∀ v ∈ fb L, v.oneCell' = true := by
  induction L with
  | nil => simp [fb]
  | cons y t ih =>
    intro v hv
    simp only [fb, List.mem_cons] at hv
    rcases hv with rfl | rfl | h
    · rfl
    · rfl
    · exact ih v h
theorem fb_get (L : List (Nat × UInt8)) (i : Nat) (h : i < L.length) : (fb L)[i * 2]? = some (.int .i64 (L[i].1 : Int)) ∧ (fb L)[i * 2 + 1]? = some (.int .u8 (L[i].2.toNat : Int)) := by
  induction L generalizing i with
  | nil => simp at h
  | cons p t ih =>
    cases i with
    | zero => simp [fb]
    | succ i =>
      rw [show (i + 1) * 2 = i * 2 + 1 + 1 by omega]
      simpa [fb] using ih i (by simpa using h)
theorem fb_at {L : List (Nat × UInt8)} {j : Nat} {u : Value} (h : (fb L)[j]? = some u) : ∃ i, ∃ hi : i < L.length, (j = i * 2 ∧ u = .int .i64 (L[i].1 : Int)) ∨ (j = i * 2 + 1 ∧ u = .int .u8 (L[i].2.toNat : Int)) := by
  have hj := (List.getElem?_eq_some_iff.1 h).1
  rw [fb_length] at hj
  refine ⟨j / 2, by omega, ?_⟩
  obtain ⟨h1, h2⟩ := fb_get L (j / 2) (by omega)
  rcases Nat.mod_two_eq_zero_or_one j with e | e
  · left
    refine ⟨by omega, ?_⟩
    rw [show j / 2 * 2 = j by omega, h] at h1
    exact Option.some.inj h1
  · right
    refine ⟨by omega, ?_⟩
    rw [show j / 2 * 2 + 1 = j by omega, h] at h2
    exact Option.some.inj h2
theorem Cm.src {w : World} {ca : Option Addr} {cc : Nat} {L : List (Nat × UInt8)} (h : Cm w ca cc L) : (ca = none ∧ L = [] ∧ cc = 0) ∨ ∃ ad, ca = some ad ∧ ∀ j u, (fb L)[j]? = some u → w.cell? (ad.add j) = some u := by
  rcases h.2 with h0 | ⟨g, off, cur, e, hg, hc⟩
  · exact .inl h0
  · refine .inr ⟨_, e, fun j u hj => ?_⟩
    obtain ⟨i, hi, h1 | h1⟩ := fb_at hj
    · obtain ⟨rfl, rfl⟩ := h1
      rw [Addr.add_lit]
      simp [World.cell?, hg, (hc i hi).1]
    · obtain ⟨rfl, rfl⟩ := h1
      rw [Addr.add_lit]
      simp [World.cell?, hg, ← Nat.add_assoc, (hc i hi).2]
theorem Cm.take {w : World} {ca : Option Addr} {cc : Nat} {L M : List (Nat × UInt8)} (h : Cm w ca cc (L ++ M)) : Cm w ca cc L := by
  obtain ⟨h1, h2⟩ := h
  rw [List.length_append] at h1
  refine ⟨by omega, ?_⟩
  rcases h2 with ⟨e1, e2, e3⟩ | ⟨g, off, cur, e, hg, hc⟩
  · exact .inl ⟨e1, (List.append_eq_nil_iff.1 e2).1, e3⟩
  · refine .inr ⟨g, off, cur, e, hg, fun i hi => ?_⟩
    have := hc i (by rw [List.length_append]; omega)
    rwa [List.getElem_append_left hi] at this
theorem Cm.drop {w : World} {ca : Option Addr} {cc : Nat} {L M : List (Nat × UInt8)} (h : Cm w ca cc (L ++ M)) : Cm w (if cc = L.length then ca else ca.map (·.add (L.length * 2))) (cc - L.length) M := by
  obtain ⟨h1, h2⟩ := h
  rw [List.length_append] at h1
  refine ⟨by omega, ?_⟩
  rcases h2 with ⟨e1, e2, e3⟩ | ⟨g, off, cur, e, hg, hc⟩
  · obtain ⟨rfl, rfl⟩ := List.append_eq_nil_iff.1 e2
    subst e1 e3
    exact .inl ⟨by simp, rfl, rfl⟩
  · subst e
    by_cases hcl : cc = L.length
    · rw [if_pos hcl]
      have : M = [] := List.eq_nil_of_length_eq_zero (by omega)
      subst this
      exact .inr ⟨g, off, cur, rfl, hg, fun i hi => absurd hi (by simp)⟩
    · rw [if_neg hcl]
      refine .inr ⟨g, off + L.length * 2, cur, ?_, hg, fun i hi => ?_⟩
      · simp only [Option.map_some, Addr.add]
        by_cases h0 : L.length * 2 = 0
        · rw [if_pos h0, h0]; rfl
        · rw [if_neg h0]
      · have := hc (L.length + i) (by rw [List.length_append]; omega)
        rw [List.getElem_append_right (by omega)] at this
        simp only [Nat.add_sub_cancel_left] at this
        rw [show off + L.length * 2 + i * 2 = off + (L.length + i) * 2 by omega]
        exact this
theorem Cm.own {w : World} {base : Nat} {v : Value} {n : Nat} {L : List (Nat × UInt8)} (h : w.ownsRow base 62 2 v n (fb L)) (hn : 0 < n) : ∃ ca cc, v = .slice ca L.length cc ∧ Cm w ca cc L ∧ L.length = n := by
  obtain ⟨h1, h2⟩ := h
  rw [fb_length] at h1
  have hl : L.length = n := by omega
  rcases h2 with ⟨_, rfl⟩ | ⟨g, cap, cur, hv, hb, hg, h3, h4, h5, h6⟩
  · omega
  · refine ⟨some ⟨g, 0, none⟩, cap, by rw [hv, hl], ⟨by omega, .inr ⟨g, 0, cur, rfl, hg, fun i hi => ?_⟩⟩, hl⟩
    obtain ⟨q1, q2⟩ := fb_get L i hi
    rw [← h6, List.getElem?_take, if_pos (by omega)] at q1 q2
    rw [Nat.zero_add]
    exact ⟨by simpa using q1, by simpa using q2⟩
theorem Cm.below {w w' : World} {ca : Option Addr} {cc : Nat} {L : List (Nat × UInt8)} (h : Cm w ca cc L) (hb : Below w.heap.size w w') : Cm w' ca cc L := by
  refine ⟨h.1, ?_⟩
  rcases h.2 with h0 | ⟨g, off, cur, e, hg, hcc⟩
  · exact .inl h0
  · exact .inr ⟨g, off, cur, e, (hb.block g (Array.getElem?_eq_some_iff.1 hg).1).trans hg, hcc⟩
theorem Rf.below {w w' : World} {r : Nat} {rm p lm rc fi : Int} {kn : Bool} {ca : Option Addr} {cc : Nat} {L : List (Nat × UInt8)} (h : Rf w r rm p lm rc fi kn ca cc L) (hb : Below w.heap.size w w') : Rf w' r rm p lm rc fi kn ca cc L :=
  ⟨(hb.block r h.lt).trans h.1, h.2.below hb⟩
theorem mkHid' {p : Prop} (h : p) : Hid p := h
theorem own_slice {w : World} {base e size : Nat} {v : Value} {n : Nat} {xs : List Value} (h : w.ownsRow base e size v n xs) : ∃ ao c, v = .slice ao n c := by
  rcases h.2 with ⟨h0, h00⟩ | ⟨g, cap, cur, hv, _⟩
  · exact ⟨none, 0, by rw [h0, h00]⟩
  · exact ⟨_, _, hv⟩
theorem own_bel {w w' : World} {base e size : Nat} {v : Value} {n : Nat} {xs : List Value} (h : w.ownsRow base e size v n xs) (hb : Below w.heap.size w w') : w'.ownsRow base e size v n xs := by
  obtain ⟨h1, h2⟩ := h
  refine ⟨h1, ?_⟩
  rcases h2 with h0 | ⟨g, cap, cur, hv, hb', hg, h3⟩
  · exact .inl h0
  · exact .inr ⟨g, cap, cur, hv, hb', (hb.block g (Array.getElem?_eq_some_iff.1 hg).1).trans hg, h3⟩
theorem info62 : (Tryd.prog.info? 62).map (fun i => (i.zero, i.size, i.bytes)) = some (some (.agg #[.int .i64 0, .int .u8 0]), 2, 16) := by kernel_rfl
/-- 'append(v, l...)', v the call's own, l bytes with their places, nil too. -/
theorem wpList_append_cm {w : World} {ops : Array Oper} {rest : List Oper} {o : Oper} {a : Act} {Q : Exit → Act → World → Prop} (hgd : o.guard = none) (s x : Operand)
    (ho : o.op = .call { callee := .builtin .append, args := #[s, x], argTypes := #[43, 43] })
    (base : Nat) (v : Value) (n : Nat) (xs : List Value) (hs : a.eval s = v) (hown : w.ownsRow base 62 2 v n xs)
    (ca : Option Addr) (m c : Nat) (L : List (Nat × UInt8)) (hx : a.eval x = .slice ca m c) (hl : L.length = m) (hcm : Cm w ca c L)
    (hb : n + m ≤ 100000000) (hbase : base ≤ w.heap.size)
    (h : ∀ v' w', w'.ownsRow base 62 2 v' (n + m) (xs ++ fb L) → w.grownBy w' v.ownBlock → wpList Tryd.prog ops Q rest (a.put o.dst v') w') : wpList Tryd.prog ops Q (o :: rest) a w := by
  obtain ⟨i, hi, hz, hsz, hby⟩ := info_parts info62
  rcases hcm.src with ⟨rfl, rfl, rfl⟩ | ⟨ad, rfl, hc⟩
  · obtain rfl : m = 0 := by simpa using hl.symm
    refine wpList_append_own_none hgd s x 43 ho base 62 i 2 Tryd.underlying43 hi v n xs hs hown hx ?_
    refine h v w ?_ ⟨rfl, rfl, rfl, Nat.le_refl _, fun _ _ _ => rfl⟩
    simpa [fb] using hown
  · refine wpList_append_own w hgd s x 43 ho base 62 i _ 2 16 Tryd.underlying43 hi hz hsz hby rfl (by decide) v n xs hs hown ad m c (fb L) hx (by rw [fb_length]; omega) hc (fb_one L) (by unfold maxLen; omega) (by omega) hbase ?_
    intro v' w' h1 h2 _
    exact h v' w' h1 h2
set_option maxRecDepth 100000 in
set_option maxHeartbeats 1000000 in
theorem rput_read {w : World} {r : Nat} {rm lm rc fi : Int} {p : Nat} {kn : Bool} {ca : Option Addr} {cc : Nat} {L1 L2 : List (Nat × UInt8)} (at' : Nat) (x : UInt8) (h : Rf w r rm p lm rc fi kn ca cc (L1 ++ L2)) (hL : (L1 ++ L2).length ≤ 10000000) (h2 : ∀ y ∈ L2, at' < y.1) (h1 : L1 = []) (hp : at' < p) :
    Calls Tryd.prog 27 #[.pointer (some ⟨r, 0, none⟩), .agg #[.int .i64 at', .int .u8 (x.toNat : Int)]] w fun e w' => e = .returned (.tuple #[]) ∧ Rf w' r rm p lm rc fi kn ca cc (L1 ++ L2) ∧ Chg (fun _ => False) w w' := by
  have H : Aside (Rf w r rm p lm rc fi kn ca cc (L1 ++ L2)) := h
  have H2 : Aside _ := h2
  have hrl := h.lt
  obtain ⟨W1, hW1⟩ : ∃ W1, w.alloc (.cells #[.int .i64 at', .int .u8 (x.toNat : Int)] 62) = W1 := ⟨_, rfl⟩
  have hB1 : W1.heap[w.heap.size]? = some (.cells #[.int .i64 at', .int .u8 (x.toNat : Int)] 62 (0, 0)) := by rw [← hW1]; exact heap_alloc_new w _
  have hC1 : Chg (fun _ => False) w W1 := by rw [← hW1]; exact (Chg.refl _ _).alloc _
  have hr1 : Rf W1 r rm p lm rc fi kn ca cc (L1 ++ L2) := h.kept hC1 (fun h => h) (fun _ _ _ h => h)
  have HR1 : Aside (Rf W1 r rm p lm rc fi kn ca cc (L1 ++ L2)) := hr1
  have HB1 : Aside _ := hB1
  have HC1 : Aside (Chg (fun _ => False) w W1) := hC1
  have c6 := hr1.c6
  have hlen : (L1 ++ L2).length = L1.length + L2.length := List.length_append
  have HLEN : Aside _ := hlen
  obtain ⟨N, hN⟩ : ∃ N, (L1 ++ L2).length = N := ⟨_, rfl⟩
  rw [hN] at c6 hL
  have HN : Aside ((L1 ++ L2).length = N) := hN
  have hk1 : L1.length ≤ N := by omega
  clear h h2 hB1 hC1 hr1 hlen hN
  generalize hX : w.heap.size = Bx at *
  go_enter Tryd.func27, Tryd.ntmps27
  go_wp2_with fail
  go_loopg [4] (N + 1) (fun kx s4 wr => ∃ k : Nat, s4 = .int .i64 k ∧ L1.length ≤ k ∧ k ≤ N ∧ k + 1 ≤ kx ∧ Aside (∃ nq, wr = W1.drewN nq))
  case atStart => exact ⟨N, rfl, hk1, Nat.le_refl _, Nat.le_refl _, 0, rfl⟩
  case round =>
    obtain ⟨k, rfl, hk, hkN, hkx, HW⟩ := hrel
    have hr : Rf wr r rm p lm rc fi kn ca cc (L1 ++ L2) := by obtain ⟨nq, rfl⟩ := HW.out; exact HR1.out
    have hbx : wr.heap[Bx]? = some (.cells #[.int .i64 at', .int .u8 (x.toNat : Int)] 62 (0, 0)) := by obtain ⟨nq, rfl⟩ := HW.out; exact HB1.out
    have HBX : Aside _ := hbx
    have HRR : Aside (Rf wr r rm p lm rc fi kn ca cc (L1 ++ L2)) := hr
    have d6 := hr.c6
    rw [HN.out] at d6
    have d1 := hr.c1
    have b0 : wr.cell? ⟨Bx, 0, none⟩ = some (.int .i64 at') := by simp [World.cell?, hbx]
    clear hbx
    by_cases hgt : L1.length < k
    · have hki : k - 1 < (L1 ++ L2).length := by have := HN.out; omega
      obtain ⟨g, off, rfl, q1, q2⟩ := hr.2.cells hki
      have hmem : (L1 ++ L2)[k - 1] ∈ L2 := by rw [List.getElem_append_right (by omega)]; exact List.getElem_mem _
      have hlt := H2.out _ hmem
      have i1 : (0 : Int) < (k : Int) := by omega
      have i0 : decide (0 < k) = true := by simp; omega
      have i00 : 0 < k := by omega
      have w1 : IntKind.i64.wrap ((k : Int) - 1) = ((k - 1 : Nat) : Int) := by rw [IntKind.wrap_i64]; omega
      have i2 : ((k - 1 : Nat) : Int) < (N : Int) := by omega
      have i3 : (0 : Int) ≤ ((k - 1 : Nat) : Int) := by omega
      have i4 : (at' : Int) < ((L1 ++ L2)[k - 1].1 : Int) := by omega
      generalize ((L1 ++ L2)[k - 1].1 : Int) = A at q1 i4
      clear hr q2 hmem hlt HBX HRR
      obtain ⟨k1, hk1'⟩ : ∃ k1 : Nat, k1 = k - 1 := ⟨_, rfl⟩
      rw [← hk1'] at q1 w1 i2 i3
      have HK1 : Aside _ := hk1'
      clear hk1' hki
      go_wp2_with fail
      go_quiet (fail)
      go_wp2_with fail
      go_roundg (k1 + 1)
      case measure => have := HK1.out; omega
      case rel => exact ⟨k1, rfl, by have := HK1.out; omega, by have := HK1.out; omega, Nat.le_refl _, by obtain ⟨k', hk'⟩ := HW.out; exact ⟨k' + nq, by rw [hk', World.drewN_drewN]⟩⟩
    · obtain rfl : k = L1.length := by omega
      have hz : L1.length = 0 := by rw [h1]; rfl
      have j1 : ¬ (0 : Int) < ((L1.length : Nat) : Int) := by omega
      have j2 : (at' : Int) < (p : Int) := by omega
      have j2n : decide (at' < p) = true := decide_eq_true (by omega)
      generalize L1.length = K at *
      clear hr
      go_wp2_with fail
      go_quiet (fail)
      go_wp2_with fail
      go_quiet (fail)
      go_wp2
      have hfin : ∀ n m, Rf ((wr.drewN n).drewN m) r rm p lm rc fi kn ca cc (L1 ++ L2) ∧ Chg (fun _ => False) w ((wr.drewN n).drewN m) := by
        intro n m
        obtain ⟨k', hk'⟩ := HW.out
        rw [hk']
        exact ⟨HR1.out, HC1.out.1, HC1.out.2.1, HC1.out.2.2.1, HC1.out.2.2.2.1, HC1.out.2.2.2.2⟩
      exact bodyPost_ret (results_none rfl _ _ _) rfl ⟨rfl, hfin _ _⟩
set_option maxRecDepth 100000 in
set_option maxHeartbeats 1000000 in
theorem rput_same {w : World} {r : Nat} {rm lm rc fi : Int} {p : Nat} {kn : Bool} {ca : Option Addr} {cc : Nat} {L1 L2 : List (Nat × UInt8)} (at' : Nat) (x : UInt8) (h : Rf w r rm p lm rc fi kn ca cc (L1 ++ L2)) (hL : (L1 ++ L2).length ≤ 10000000) (h2 : ∀ y ∈ L2, at' < y.1) (L0 : List (Nat × UInt8)) (y : Nat × UInt8) (h1 : L1 = L0 ++ [y]) (hy : y.1 = at') (hp : p ≤ at') :
    Calls Tryd.prog 27 #[.pointer (some ⟨r, 0, none⟩), .agg #[.int .i64 at', .int .u8 (x.toNat : Int)]] w fun e w' => e = .returned (.tuple #[]) ∧ Rf w' r rm p lm rc fi kn ca cc (L1 ++ L2) ∧ Chg (fun _ => False) w w' := by
  have H : Aside (Rf w r rm p lm rc fi kn ca cc (L1 ++ L2)) := h
  have H2 : Aside _ := h2
  have hrl := h.lt
  obtain ⟨W1, hW1⟩ : ∃ W1, w.alloc (.cells #[.int .i64 at', .int .u8 (x.toNat : Int)] 62) = W1 := ⟨_, rfl⟩
  have hB1 : W1.heap[w.heap.size]? = some (.cells #[.int .i64 at', .int .u8 (x.toNat : Int)] 62 (0, 0)) := by rw [← hW1]; exact heap_alloc_new w _
  have hC1 : Chg (fun _ => False) w W1 := by rw [← hW1]; exact (Chg.refl _ _).alloc _
  have hr1 : Rf W1 r rm p lm rc fi kn ca cc (L1 ++ L2) := h.kept hC1 (fun h => h) (fun _ _ _ h => h)
  have HR1 : Aside (Rf W1 r rm p lm rc fi kn ca cc (L1 ++ L2)) := hr1
  have HB1 : Aside _ := hB1
  have HC1 : Aside (Chg (fun _ => False) w W1) := hC1
  have c6 := hr1.c6
  have hlen : (L1 ++ L2).length = L1.length + L2.length := List.length_append
  have HLEN : Aside _ := hlen
  obtain ⟨N, hN⟩ : ∃ N, (L1 ++ L2).length = N := ⟨_, rfl⟩
  rw [hN] at c6 hL
  have HN : Aside ((L1 ++ L2).length = N) := hN
  have hk1 : L1.length ≤ N := by omega
  clear h h2 hB1 hC1 hr1 hlen hN
  generalize hX : w.heap.size = Bx at *
  go_enter Tryd.func27, Tryd.ntmps27
  go_wp2_with fail
  go_loopg [4] (N + 1) (fun kx s4 wr => ∃ k : Nat, s4 = .int .i64 k ∧ L1.length ≤ k ∧ k ≤ N ∧ k + 1 ≤ kx ∧ Aside (∃ nq, wr = W1.drewN nq))
  case atStart => exact ⟨N, rfl, hk1, Nat.le_refl _, Nat.le_refl _, 0, rfl⟩
  case round =>
    obtain ⟨k, rfl, hk, hkN, hkx, HW⟩ := hrel
    have hr : Rf wr r rm p lm rc fi kn ca cc (L1 ++ L2) := by obtain ⟨nq, rfl⟩ := HW.out; exact HR1.out
    have hbx : wr.heap[Bx]? = some (.cells #[.int .i64 at', .int .u8 (x.toNat : Int)] 62 (0, 0)) := by obtain ⟨nq, rfl⟩ := HW.out; exact HB1.out
    have HBX : Aside _ := hbx
    have HRR : Aside (Rf wr r rm p lm rc fi kn ca cc (L1 ++ L2)) := hr
    have d6 := hr.c6
    rw [HN.out] at d6
    have d1 := hr.c1
    have b0 : wr.cell? ⟨Bx, 0, none⟩ = some (.int .i64 at') := by simp [World.cell?, hbx]
    clear hbx
    by_cases hgt : L1.length < k
    · have hki : k - 1 < (L1 ++ L2).length := by have := HN.out; omega
      obtain ⟨g, off, rfl, q1, q2⟩ := hr.2.cells hki
      have hmem : (L1 ++ L2)[k - 1] ∈ L2 := by rw [List.getElem_append_right (by omega)]; exact List.getElem_mem _
      have hlt := H2.out _ hmem
      have i1 : (0 : Int) < (k : Int) := by omega
      have i0 : decide (0 < k) = true := by simp; omega
      have i00 : 0 < k := by omega
      have w1 : IntKind.i64.wrap ((k : Int) - 1) = ((k - 1 : Nat) : Int) := by rw [IntKind.wrap_i64]; omega
      have i2 : ((k - 1 : Nat) : Int) < (N : Int) := by omega
      have i3 : (0 : Int) ≤ ((k - 1 : Nat) : Int) := by omega
      have i4 : (at' : Int) < ((L1 ++ L2)[k - 1].1 : Int) := by omega
      generalize ((L1 ++ L2)[k - 1].1 : Int) = A at q1 i4
      clear hr q2 hmem hlt HBX HRR
      obtain ⟨k1, hk1'⟩ : ∃ k1 : Nat, k1 = k - 1 := ⟨_, rfl⟩
      rw [← hk1'] at q1 w1 i2 i3
      have HK1 : Aside _ := hk1'
      clear hk1' hki
      go_wp2_with fail
      go_quiet (fail)
      go_wp2_with fail
      go_roundg (k1 + 1)
      case measure => have := HK1.out; omega
      case rel => exact ⟨k1, rfl, by have := HK1.out; omega, by have := HK1.out; omega, Nat.le_refl _, by obtain ⟨k', hk'⟩ := HW.out; exact ⟨k' + nq, by rw [hk', World.drewN_drewN]⟩⟩
    · obtain rfl : k = L1.length := by omega
      have hki : L1.length - 1 < (L1 ++ L2).length := by rw [h1]; simp
      obtain ⟨g, off, hca, q1, q2⟩ := hr.2.cells hki
      rw [hca] at d6
      have HCA : Aside _ := hca
      clear hca
      have hval : (L1 ++ L2)[L1.length - 1] = y := by
        rw [List.getElem_append_left (by rw [h1]; simp)]
        simp [h1]
      rw [hval] at q1
      have hpos : 0 < L1.length := by rw [h1]; simp
      have i0 : decide (0 < L1.length) = true := by simp; omega
      have i00 : 0 < L1.length := hpos
      have i1 : (0 : Int) < ((L1.length : Nat) : Int) := by omega
      have w1 : IntKind.i64.wrap (((L1.length : Nat) : Int) - 1) = ((L1.length - 1 : Nat) : Int) := by rw [IntKind.wrap_i64]; omega
      have i2 : ((L1.length - 1 : Nat) : Int) < (N : Int) := by have := HN.out; omega
      have i3 : (0 : Int) ≤ ((L1.length - 1 : Nat) : Int) := by omega
      obtain ⟨k1, hk1'⟩ : ∃ k1 : Nat, k1 = L1.length - 1 := ⟨_, rfl⟩
      rw [← hk1'] at q1 w1 i2 i3
      clear hk1' hki hval q2
      have j2 : ¬ (at' : Int) < (p : Int) := by omega
      have j2n : decide (at' < p) = false := decide_eq_false (by omega)
      have j3 : ((y.1 : Int) == (at' : Int)) = true := by rw [hy]; simp
      have j4 : ¬ (at' : Int) < (y.1 : Int) := by omega
      generalize (y.1 : Int) = A at q1 j3 j4
      generalize hKK : L1.length = K at *
      clear hr hKK
      go_wp2_with fail
      go_quiet (fail)
      go_wp2_with fail
      go_quiet (fail)
      go_wp2
      have hfin : ∀ n m, Rf ((wr.drewN n).drewN m) r rm p lm rc fi kn ca cc (L1 ++ L2) ∧ Chg (fun _ => False) w ((wr.drewN n).drewN m) := by
        intro n m
        obtain ⟨k', hk'⟩ := HW.out
        rw [hk']
        exact ⟨HR1.out, HC1.out.1, HC1.out.2.1, HC1.out.2.2.1, HC1.out.2.2.2.1, HC1.out.2.2.2.2⟩
      exact bodyPost_ret (results_none rfl _ _ _) rfl ⟨rfl, hfin _ _⟩
set_option maxRecDepth 100000 in
set_option maxHeartbeats 1000000 in
theorem rput_first {w : World} {r : Nat} {rm lm rc fi : Int} {p : Nat} {kn : Bool} {ca : Option Addr} {cc : Nat} {L1 L2 : List (Nat × UInt8)} (at' : Nat) (x : UInt8) (h : Rf w r rm p lm rc fi kn ca cc (L1 ++ L2)) (hL : (L1 ++ L2).length ≤ 10000000) (h2 : ∀ y ∈ L2, at' < y.1) (h1 : L1 = []) (hp : p ≤ at') :
    Calls Tryd.prog 27 #[.pointer (some ⟨r, 0, none⟩), .agg #[.int .i64 at', .int .u8 (x.toNat : Int)]] w fun e w' => e = .returned (.tuple #[]) ∧ (∃ ca' cc', Rf w' r rm p lm rc fi kn ca' cc' (L1 ++ (at', x) :: L2)) ∧ Chg (fun k => k = r) w w' := by
  have H : Aside (Rf w r rm p lm rc fi kn ca cc (L1 ++ L2)) := h
  have H2 : Aside _ := h2
  have hrl := h.lt
  obtain ⟨W1, hW1⟩ : ∃ W1, w.alloc (.cells #[.int .i64 at', .int .u8 (x.toNat : Int)] 62) = W1 := ⟨_, rfl⟩
  have hB1 : W1.heap[w.heap.size]? = some (.cells #[.int .i64 at', .int .u8 (x.toNat : Int)] 62 (0, 0)) := by rw [← hW1]; exact heap_alloc_new w _
  have hC1 : Chg (fun _ => False) w W1 := by rw [← hW1]; exact (Chg.refl _ _).alloc _
  have hr1 : Rf W1 r rm p lm rc fi kn ca cc (L1 ++ L2) := h.kept hC1 (fun h => h) (fun _ _ _ h => h)
  have HR1 : Aside (Rf W1 r rm p lm rc fi kn ca cc (L1 ++ L2)) := hr1
  have HB1 : Aside _ := hB1
  have HC1 : Aside (Chg (fun _ => False) w W1) := hC1
  have c6 := hr1.c6
  have hlen : (L1 ++ L2).length = L1.length + L2.length := List.length_append
  have HLEN : Aside _ := hlen
  obtain ⟨N, hN⟩ : ∃ N, (L1 ++ L2).length = N := ⟨_, rfl⟩
  rw [hN] at c6 hL
  have HN : Aside ((L1 ++ L2).length = N) := hN
  have hk1 : L1.length ≤ N := by omega
  clear h h2 hB1 hC1 hr1 hlen hN
  generalize hX : w.heap.size = Bx at *
  go_enter Tryd.func27, Tryd.ntmps27
  go_wp2_with fail
  go_loopg [4] (N + 1) (fun kx s4 wr => ∃ k : Nat, s4 = .int .i64 k ∧ L1.length ≤ k ∧ k ≤ N ∧ k + 1 ≤ kx ∧ Aside (∃ nq, wr = W1.drewN nq))
  case atStart => exact ⟨N, rfl, hk1, Nat.le_refl _, Nat.le_refl _, 0, rfl⟩
  case round =>
    obtain ⟨k, rfl, hk, hkN, hkx, HW⟩ := hrel
    have hr : Rf wr r rm p lm rc fi kn ca cc (L1 ++ L2) := by obtain ⟨nq, rfl⟩ := HW.out; exact HR1.out
    have hbx : wr.heap[Bx]? = some (.cells #[.int .i64 at', .int .u8 (x.toNat : Int)] 62 (0, 0)) := by obtain ⟨nq, rfl⟩ := HW.out; exact HB1.out
    have HBX : Aside _ := hbx
    have HRR : Aside (Rf wr r rm p lm rc fi kn ca cc (L1 ++ L2)) := hr
    have d6 := hr.c6
    rw [HN.out] at d6
    have d1 := hr.c1
    have b0 : wr.cell? ⟨Bx, 0, none⟩ = some (.int .i64 at') := by simp [World.cell?, hbx]
    clear hbx
    by_cases hgt : L1.length < k
    · have hki : k - 1 < (L1 ++ L2).length := by have := HN.out; omega
      obtain ⟨g, off, rfl, q1, q2⟩ := hr.2.cells hki
      have hmem : (L1 ++ L2)[k - 1] ∈ L2 := by rw [List.getElem_append_right (by omega)]; exact List.getElem_mem _
      have hlt := H2.out _ hmem
      have i1 : (0 : Int) < (k : Int) := by omega
      have i0 : decide (0 < k) = true := by simp; omega
      have i00 : 0 < k := by omega
      have w1 : IntKind.i64.wrap ((k : Int) - 1) = ((k - 1 : Nat) : Int) := by rw [IntKind.wrap_i64]; omega
      have i2 : ((k - 1 : Nat) : Int) < (N : Int) := by omega
      have i3 : (0 : Int) ≤ ((k - 1 : Nat) : Int) := by omega
      have i4 : (at' : Int) < ((L1 ++ L2)[k - 1].1 : Int) := by omega
      generalize ((L1 ++ L2)[k - 1].1 : Int) = A at q1 i4
      clear hr q2 hmem hlt HBX HRR
      obtain ⟨k1, hk1'⟩ : ∃ k1 : Nat, k1 = k - 1 := ⟨_, rfl⟩
      rw [← hk1'] at q1 w1 i2 i3
      have HK1 : Aside _ := hk1'
      clear hk1' hki
      go_wp2_with fail
      go_quiet (fail)
      go_wp2_with fail
      go_roundg (k1 + 1)
      case measure => have := HK1.out; omega
      case rel => exact ⟨k1, rfl, by have := HK1.out; omega, by have := HK1.out; omega, Nat.le_refl _, by obtain ⟨k', hk'⟩ := HW.out; exact ⟨k' + nq, by rw [hk', World.drewN_drewN]⟩⟩
    · obtain rfl : k = L1.length := by omega
      have hz : L1.length = 0 := by rw [h1]; rfl
      have j1 : ¬ (0 : Int) < ((L1.length : Nat) : Int) := by omega
      have j2 : ¬ (at' : Int) < (p : Int) := by omega
      have j2n : decide (at' < p) = false := decide_eq_false (by omega)
      clear hr
      generalize hKK : L1.length = K at *
      obtain rfl : K = 0 := hz
      have HKK : Aside (L1.length = 0) := hKK
      clear hKK hk hgt j1 h1
      go_wp2_with fail
      go_quiet (fail)
      revert nq
      intro nq1
      go_wp2_with fail
      go_quiet (fail)
      have hW3 : ∀ n m, ∃ k', (wr.drewN n).drewN m = W1.drewN k' := fun n m => by
        obtain ⟨k', hk'⟩ := HW.out
        exact ⟨k' + (n + m), by rw [hk', World.drewN_drewN, World.drewN_drewN]⟩
      obtain ⟨kk, hkk⟩ := hW3 nq1 nq
      rw [hkk]
      obtain ⟨W3, hW3e⟩ : ∃ W3, W1.drewN kk = W3 := ⟨_, rfl⟩
      have hr3 : Rf W3 r rm p lm rc fi kn ca cc (L1 ++ L2) := by rw [← hW3e]; exact HR1.out
      have hb3 : W3.heap[Bx]? = some (.cells #[.int .i64 at', .int .u8 (x.toNat : Int)] 62 (0, 0)) := by rw [← hW3e]; exact HB1.out
      have hc3 : Chg (fun _ => False) w W3 := by rw [← hW3e]; exact ⟨HC1.out.1, HC1.out.2.1, HC1.out.2.2.1, HC1.out.2.2.2.1, HC1.out.2.2.2.2⟩
      rw [hW3e]
      clear hW3e hW3 hkk HW d6 d1 b0
      obtain ⟨Q, hQ⟩ : ∃ Q, W3.heap.size = Q := ⟨_, rfl⟩
      have hwQ : w.heap.size ≤ Q := by rw [← hQ]; exact hc3.2.2.2.1
      have hrQ : r < Q := by rw [← hQ]; exact hr3.lt
      have hBQ : Bx < Q := by rw [← hQ]; exact (Array.getElem?_eq_some_iff.1 hb3).1
      obtain ⟨W4, hW4⟩ : ∃ W4, W3.alloc (.cells #[] 62) = W4 := ⟨_, rfl⟩
      have hb4 : Below Q W3 W4 := by rw [← hW4, ← hQ]; exact (Below.refl _ _).alloc (Nat.le_refl _) _
      have ho4 : W4.ownsRow Q 62 2 (.slice (some ⟨Q, 0, none⟩) 0 0) 0 [] := by rw [← hW4, ← hQ]; exact World.ownsRow_made W3 #[] 0 (Nat.le_refl _) (by unfold maxLen; omega) rfl
      have hs4 : Q ≤ W4.heap.size := by rw [← hQ]; exact hb4.size
      have hr4 := hr3.below (hQ ▸ hb4)
      have g6 := hr4.c6
      rw [HN.out] at g6
      have hcc : N ≤ cc := by have := hr4.2.1; rw [HN.out] at this; exact this
      have HR3 : Aside (Rf W3 r rm p lm rc fi kn ca cc (L1 ++ L2)) := hr3
      have HB3 : Aside _ := hb3
      have HC3 : Aside (Chg (fun _ => False) w W3) := hc3
      have HB4 : Aside (Below Q W3 W4) := hb4
      have HO4 : Aside (W4.ownsRow Q 62 2 (.slice (some ⟨Q, 0, none⟩) 0 0) 0 []) := ho4
      have HCM4 : Aside (Cm W4 ca cc L1) := hr4.2.take
      have HQ : Aside (W3.heap.size = Q) := hQ
      have i5 : ((0 : Nat) : Int) ≤ (cc : Int) := by omega
      have i6 : (0 : Int) ≤ ((0 : Nat) : Int) := by omega
      clear hr3 hb3 hc3 hb4 ho4 hr4
      go_wp2_with (first | (at_builtin; refine wpList_append_cm rfl (.tmp 54) (.tmp 60) rfl Q (.slice (some ⟨Q, 0, none⟩) 0 0) 0 [] rfl HO4.out ca 0 cc L1 rfl HKK.out HCM4.out (by omega) hs4 ?_; intro v5 W5 hown5 hgr5; refine Hid.out ?_) | fail)
      rw [Nat.zero_add, List.nil_append] at hown5
      have hb5 : Below Q W3 W5 := HB4.out.grown hgr5 hs4 (by intro k hk; simp [Value.ownBlock] at hk; omega)
      obtain ⟨ao5, c5, hv5⟩ := own_slice hown5
      rw [hv5]
      rw [hv5] at hown5
      have hs5 : Q ≤ W5.heap.size := by rw [← HQ.out]; exact hb5.size
      have b50 : W5.cell? ⟨Bx, 0, none⟩ = some (.int .i64 at') := by simp [World.cell?, (hb5.block Bx hBQ).trans HB3.out]
      have b51 : W5.cell? ⟨Bx, 1, none⟩ = some (.int .u8 (x.toNat : Int)) := by simp [World.cell?, (hb5.block Bx hBQ).trans HB3.out]
      obtain ⟨W6, hW6⟩ : ∃ W6, W5.alloc (.cells #[.int .i64 at', .int .u8 (x.toNat : Int)] 62) = W6 := ⟨_, rfl⟩
      have hb56 : Below W5.heap.size W5 W6 := by rw [← hW6]; exact (Below.refl _ _).alloc (Nat.le_refl _) _
      have HO6 : Aside (W6.ownsRow Q 62 2 (.slice ao5 0 c5) 0 (fb L1)) := own_bel hown5 hb56
      have HCM6 : Aside (Cm W6 (some ⟨W5.heap.size, 0, none⟩) 1 [(at', x)]) := by
        refine ⟨by simp, .inr ⟨W5.heap.size, 0, _, rfl, by rw [← hW6]; exact heap_alloc_new W5 _, fun i hi => ?_⟩⟩
        obtain rfl : i = 0 := by simpa using hi
        exact ⟨rfl, rfl⟩
      have hb6 : Below Q W3 W6 := hb5.trans (hb56.mono hs5)
      have HB6 : Aside (Below Q W3 W6) := hb6
      have hs6 : Q ≤ W6.heap.size := Nat.le_trans hs5 hb56.size
      clear hown5 hgr5 hb5 hv5 hb56 hb6 g6
      refine mkHid' ?_
      go_wp2_with (first | (at_builtin; refine wpList_append_cm rfl (.tmp 62) (.tmp 64) rfl Q (.slice ao5 0 c5) 0 (fb L1) rfl HO6.out (some ⟨W5.heap.size, 0, none⟩) 1 1 [(at', x)] rfl rfl HCM6.out (by omega) hs6 ?_; intro v7 W7 hown7 hgr7; refine Hid.out ?_) | fail)
      have hb7 : Below Q W3 W7 := HB6.out.grown hgr7 hs6 (fun k hk => (HO6.out.lt k hk).1)
      obtain ⟨ao7, c7, hv7⟩ := own_slice hown7
      rw [Nat.zero_add] at hv7 hown7
      rw [hv7]
      rw [hv7] at hown7
      have hs7 : Q ≤ W7.heap.size := by rw [← HQ.out]; exact hb7.size
      have hr7 : Rf W7 r rm p lm rc fi kn ca cc (L1 ++ L2) := Rf.below HR3.out (HQ.out ▸ hb7)
      have g6 := hr7.c6
      rw [HN.out] at g6
      have f6 := hr7.fz 6
      have HO7 : Aside (W7.ownsRow Q 62 2 (.slice ao7 (1) c7) (1) (fb L1 ++ fb [(at', x)])) := hown7
      have HB7 : Aside (Below Q W3 W7) := hb7
      obtain ⟨la', hla⟩ : ∃ la', ca = la' := ⟨_, rfl⟩
      have HCM7 : Aside (Cm W7 la' cc L2) := by rw [← hla]; have h := hr7.2; rw [List.eq_nil_of_length_eq_zero HKK.out, List.nil_append] at h; exact h
      have hl2 : L2.length = N := by have h1 := HN.out; have h2 := HKK.out; rw [List.length_append] at h1; omega
      have HL2 : Aside (L2.length = N) := hl2
      obtain rfl := hla
      have i7 : ((0 : Nat) : Int) ≤ (N : Int) := by omega
      clear hown7 hgr7 hb7 hv7 hr7 hl2 b50 b51
      refine mkHid' ?_
      go_wp2_with (first | (at_builtin; refine wpList_append_cm rfl (.tmp 67) (.tmp 73) rfl Q (.slice ao7 (1) c7) (1) (fb L1 ++ fb [(at', x)]) rfl HO7.out ca N cc L2 rfl HL2.out HCM7.out (by omega) hs7 ?_; intro v8 W8 hown8 hgr8; refine Hid.out ?_) | fail)
      have hb8 : Below Q W3 W8 := HB7.out.grown hgr8 hs7 (fun k hk => (HO7.out.lt k hk).1)
      rw [← fb_append, ← fb_append, List.append_assoc, List.singleton_append] at hown8
      obtain ⟨ca', cc', hv8, hcm8, hlen8⟩ := Cm.own hown8 (by omega)
      rw [hv8]
      have hr8 : Rf W8 r rm p lm rc fi kn ca cc (L1 ++ L2) := Rf.below HR3.out (HQ.out ▸ hb8)
      have f8 := hr8.fz 6
      have g8 := hr8.c6
      have HF : Aside (Rf (W8.setCell ⟨r, 6, none⟩ (.slice ca' (L1 ++ (at', x) :: L2).length cc')) r rm p lm rc fi kn ca' cc' (L1 ++ (at', x) :: L2) ∧ Chg (fun k => k = r) w (W8.setCell ⟨r, 6, none⟩ (.slice ca' (L1 ++ (at', x) :: L2).length cc'))) := by
        have hch : Chg (fun k => k = r) W8 (W8.setCell ⟨r, 6, none⟩ (.slice ca' (L1 ++ (at', x) :: L2).length cc')) := by
          rw [setCell_eq_setRow W8 r 6 _ 45 (0, 0) _ hr8.1]
          exact ⟨rfl, rfl, rfl, by simp, fun k hk hx => setRow_other _ r k _ hx⟩
        refine ⟨⟨?_, hcm8.kept hch (fun g cur hg e => ?_)⟩, ?_⟩
        · rw [setCell_eq_setRow W8 r 6 _ 45 (0, 0) _ hr8.1, setRow_heap _ r _ _ 45 (0, 0) hr8.1]
          rfl
        · rw [e, hr8.1] at hg
          simp at hg
        · refine Chg.andThen (X := fun k => k = r) ?_ hch (fun j _ e => e)
          refine ⟨hb8.os.trans HC3.out.1, hb8.tape.trans HC3.out.2.1, hb8.output.trans HC3.out.2.2.1, Nat.le_trans HC3.out.2.2.2.1 hb8.size, fun j hj _ => ?_⟩
          exact (hb8.block j (by omega)).trans (HC3.out.2.2.2.2 j hj (fun h => h))
      clear hown8 hgr8 hb8 hv8 hcm8 hlen8 hr8
      generalize (L1 ++ (at', x) :: L2).length = NN at HF
      refine mkHid' ?_
      go_wp2
      exact bodyPost_end (results_none rfl _ _ _) rfl ⟨rfl, ⟨ca', cc', HF.out.1⟩, HF.out.2⟩
set_option maxRecDepth 100000 in
set_option maxHeartbeats 1000000 in
theorem rput_mid {w : World} {r : Nat} {rm lm rc fi : Int} {p : Nat} {kn : Bool} {ca : Option Addr} {cc : Nat} {L1 L2 : List (Nat × UInt8)} (at' : Nat) (x : UInt8) (h : Rf w r rm p lm rc fi kn ca cc (L1 ++ L2)) (hL : (L1 ++ L2).length ≤ 10000000) (h2 : ∀ y ∈ L2, at' < y.1) (L0 : List (Nat × UInt8)) (y : Nat × UInt8) (h1 : L1 = L0 ++ [y]) (hy : y.1 < at') (hp : p ≤ at') :
    Calls Tryd.prog 27 #[.pointer (some ⟨r, 0, none⟩), .agg #[.int .i64 at', .int .u8 (x.toNat : Int)]] w fun e w' => e = .returned (.tuple #[]) ∧ (∃ ca' cc', Rf w' r rm p lm rc fi kn ca' cc' (L1 ++ (at', x) :: L2)) ∧ Chg (fun k => k = r) w w' := by
  have H : Aside (Rf w r rm p lm rc fi kn ca cc (L1 ++ L2)) := h
  have H2 : Aside _ := h2
  have hrl := h.lt
  obtain ⟨W1, hW1⟩ : ∃ W1, w.alloc (.cells #[.int .i64 at', .int .u8 (x.toNat : Int)] 62) = W1 := ⟨_, rfl⟩
  have hB1 : W1.heap[w.heap.size]? = some (.cells #[.int .i64 at', .int .u8 (x.toNat : Int)] 62 (0, 0)) := by rw [← hW1]; exact heap_alloc_new w _
  have hC1 : Chg (fun _ => False) w W1 := by rw [← hW1]; exact (Chg.refl _ _).alloc _
  have hr1 : Rf W1 r rm p lm rc fi kn ca cc (L1 ++ L2) := h.kept hC1 (fun h => h) (fun _ _ _ h => h)
  have HR1 : Aside (Rf W1 r rm p lm rc fi kn ca cc (L1 ++ L2)) := hr1
  have HB1 : Aside _ := hB1
  have HC1 : Aside (Chg (fun _ => False) w W1) := hC1
  have c6 := hr1.c6
  have hlen : (L1 ++ L2).length = L1.length + L2.length := List.length_append
  have HLEN : Aside _ := hlen
  obtain ⟨N, hN⟩ : ∃ N, (L1 ++ L2).length = N := ⟨_, rfl⟩
  rw [hN] at c6 hL
  have HN : Aside ((L1 ++ L2).length = N) := hN
  have hk1 : L1.length ≤ N := by omega
  clear h h2 hB1 hC1 hr1 hlen hN
  generalize hX : w.heap.size = Bx at *
  go_enter Tryd.func27, Tryd.ntmps27
  go_wp2_with fail
  go_loopg [4] (N + 1) (fun kx s4 wr => ∃ k : Nat, s4 = .int .i64 k ∧ L1.length ≤ k ∧ k ≤ N ∧ k + 1 ≤ kx ∧ Aside (∃ nq, wr = W1.drewN nq))
  case atStart => exact ⟨N, rfl, hk1, Nat.le_refl _, Nat.le_refl _, 0, rfl⟩
  case round =>
    obtain ⟨k, rfl, hk, hkN, hkx, HW⟩ := hrel
    have hr : Rf wr r rm p lm rc fi kn ca cc (L1 ++ L2) := by obtain ⟨nq, rfl⟩ := HW.out; exact HR1.out
    have hbx : wr.heap[Bx]? = some (.cells #[.int .i64 at', .int .u8 (x.toNat : Int)] 62 (0, 0)) := by obtain ⟨nq, rfl⟩ := HW.out; exact HB1.out
    have HBX : Aside _ := hbx
    have HRR : Aside (Rf wr r rm p lm rc fi kn ca cc (L1 ++ L2)) := hr
    have d6 := hr.c6
    rw [HN.out] at d6
    have d1 := hr.c1
    have b0 : wr.cell? ⟨Bx, 0, none⟩ = some (.int .i64 at') := by simp [World.cell?, hbx]
    clear hbx
    by_cases hgt : L1.length < k
    · have hki : k - 1 < (L1 ++ L2).length := by have := HN.out; omega
      obtain ⟨g, off, rfl, q1, q2⟩ := hr.2.cells hki
      have hmem : (L1 ++ L2)[k - 1] ∈ L2 := by rw [List.getElem_append_right (by omega)]; exact List.getElem_mem _
      have hlt := H2.out _ hmem
      have i1 : (0 : Int) < (k : Int) := by omega
      have i0 : decide (0 < k) = true := by simp; omega
      have i00 : 0 < k := by omega
      have w1 : IntKind.i64.wrap ((k : Int) - 1) = ((k - 1 : Nat) : Int) := by rw [IntKind.wrap_i64]; omega
      have i2 : ((k - 1 : Nat) : Int) < (N : Int) := by omega
      have i3 : (0 : Int) ≤ ((k - 1 : Nat) : Int) := by omega
      have i4 : (at' : Int) < ((L1 ++ L2)[k - 1].1 : Int) := by omega
      generalize ((L1 ++ L2)[k - 1].1 : Int) = A at q1 i4
      clear hr q2 hmem hlt HBX HRR
      obtain ⟨k1, hk1'⟩ : ∃ k1 : Nat, k1 = k - 1 := ⟨_, rfl⟩
      rw [← hk1'] at q1 w1 i2 i3
      have HK1 : Aside _ := hk1'
      clear hk1' hki
      go_wp2_with fail
      go_quiet (fail)
      go_wp2_with fail
      go_roundg (k1 + 1)
      case measure => have := HK1.out; omega
      case rel => exact ⟨k1, rfl, by have := HK1.out; omega, by have := HK1.out; omega, Nat.le_refl _, by obtain ⟨k', hk'⟩ := HW.out; exact ⟨k' + nq, by rw [hk', World.drewN_drewN]⟩⟩
    · obtain rfl : k = L1.length := by omega
      have hki : L1.length - 1 < (L1 ++ L2).length := by rw [h1]; simp
      obtain ⟨g, off, hca, q1, q2⟩ := hr.2.cells hki
      rw [hca] at d6
      have HCA : Aside _ := hca
      clear hca
      have hval : (L1 ++ L2)[L1.length - 1] = y := by
        rw [List.getElem_append_left (by rw [h1]; simp)]
        simp [h1]
      rw [hval] at q1
      have hpos : 0 < L1.length := by rw [h1]; simp
      have i0 : decide (0 < L1.length) = true := by simp; omega
      have i00 : 0 < L1.length := hpos
      have i1 : (0 : Int) < ((L1.length : Nat) : Int) := by omega
      have w1 : IntKind.i64.wrap (((L1.length : Nat) : Int) - 1) = ((L1.length - 1 : Nat) : Int) := by rw [IntKind.wrap_i64]; omega
      have i2 : ((L1.length - 1 : Nat) : Int) < (N : Int) := by have := HN.out; omega
      have i3 : (0 : Int) ≤ ((L1.length - 1 : Nat) : Int) := by omega
      obtain ⟨k1, hk1'⟩ : ∃ k1 : Nat, k1 = L1.length - 1 := ⟨_, rfl⟩
      rw [← hk1'] at q1 w1 i2 i3
      clear hk1' hki hval q2
      have j2 : ¬ (at' : Int) < (p : Int) := by omega
      have j2n : decide (at' < p) = false := decide_eq_false (by omega)
      have j3 : ((y.1 : Int) == (at' : Int)) = false := by simp; omega
      have j4 : ¬ (at' : Int) < (y.1 : Int) := by omega
      generalize (y.1 : Int) = A at q1 j3 j4
      clear hr
      generalize hKK : L1.length = K at *
      have HKK : Aside (L1.length = K) := hKK
      clear hKK
      go_wp2_with fail
      go_quiet (fail)
      revert nq
      intro nq1
      go_wp2_with fail
      go_quiet (fail)
      have hW3 : ∀ n m, ∃ k', (wr.drewN n).drewN m = W1.drewN k' := fun n m => by
        obtain ⟨k', hk'⟩ := HW.out
        exact ⟨k' + (n + m), by rw [hk', World.drewN_drewN, World.drewN_drewN]⟩
      obtain ⟨kk, hkk⟩ := hW3 nq1 nq
      rw [hkk]
      obtain ⟨W3, hW3e⟩ : ∃ W3, W1.drewN kk = W3 := ⟨_, rfl⟩
      have hr3 : Rf W3 r rm p lm rc fi kn ca cc (L1 ++ L2) := by rw [← hW3e]; exact HR1.out
      have hb3 : W3.heap[Bx]? = some (.cells #[.int .i64 at', .int .u8 (x.toNat : Int)] 62 (0, 0)) := by rw [← hW3e]; exact HB1.out
      have hc3 : Chg (fun _ => False) w W3 := by rw [← hW3e]; exact ⟨HC1.out.1, HC1.out.2.1, HC1.out.2.2.1, HC1.out.2.2.2.1, HC1.out.2.2.2.2⟩
      rw [hW3e]
      clear hW3e hW3 hkk HW d6 d1 b0
      obtain ⟨Q, hQ⟩ : ∃ Q, W3.heap.size = Q := ⟨_, rfl⟩
      have hwQ : w.heap.size ≤ Q := by rw [← hQ]; exact hc3.2.2.2.1
      have hrQ : r < Q := by rw [← hQ]; exact hr3.lt
      have hBQ : Bx < Q := by rw [← hQ]; exact (Array.getElem?_eq_some_iff.1 hb3).1
      obtain ⟨W4, hW4⟩ : ∃ W4, W3.alloc (.cells #[] 62) = W4 := ⟨_, rfl⟩
      have hb4 : Below Q W3 W4 := by rw [← hW4, ← hQ]; exact (Below.refl _ _).alloc (Nat.le_refl _) _
      have ho4 : W4.ownsRow Q 62 2 (.slice (some ⟨Q, 0, none⟩) 0 0) 0 [] := by rw [← hW4, ← hQ]; exact World.ownsRow_made W3 #[] 0 (Nat.le_refl _) (by unfold maxLen; omega) rfl
      have hs4 : Q ≤ W4.heap.size := by rw [← hQ]; exact hb4.size
      have hr4 := hr3.below (hQ ▸ hb4)
      have g6 := hr4.c6
      rw [HN.out] at g6
      have hcc : N ≤ cc := by have := hr4.2.1; rw [HN.out] at this; exact this
      have HR3 : Aside (Rf W3 r rm p lm rc fi kn ca cc (L1 ++ L2)) := hr3
      have HB3 : Aside _ := hb3
      have HC3 : Aside (Chg (fun _ => False) w W3) := hc3
      have HB4 : Aside (Below Q W3 W4) := hb4
      have HO4 : Aside (W4.ownsRow Q 62 2 (.slice (some ⟨Q, 0, none⟩) 0 0) 0 []) := ho4
      have HCM4 : Aside (Cm W4 ca cc L1) := hr4.2.take
      have HQ : Aside (W3.heap.size = Q) := hQ
      have i5 : ((K : Nat) : Int) ≤ (cc : Int) := by omega
      have i6 : (0 : Int) ≤ ((K : Nat) : Int) := by omega
      clear hr3 hb3 hc3 hb4 ho4 hr4
      go_wp2_with (first | (at_builtin; refine wpList_append_cm rfl (.tmp 54) (.tmp 60) rfl Q (.slice (some ⟨Q, 0, none⟩) 0 0) 0 [] rfl HO4.out ca K cc L1 rfl HKK.out HCM4.out (by omega) hs4 ?_; intro v5 W5 hown5 hgr5; refine Hid.out ?_) | fail)
      rw [Nat.zero_add, List.nil_append] at hown5
      have hb5 : Below Q W3 W5 := HB4.out.grown hgr5 hs4 (by intro k hk; simp [Value.ownBlock] at hk; omega)
      obtain ⟨ao5, c5, hv5⟩ := own_slice hown5
      rw [hv5]
      rw [hv5] at hown5
      have hs5 : Q ≤ W5.heap.size := by rw [← HQ.out]; exact hb5.size
      have b50 : W5.cell? ⟨Bx, 0, none⟩ = some (.int .i64 at') := by simp [World.cell?, (hb5.block Bx hBQ).trans HB3.out]
      have b51 : W5.cell? ⟨Bx, 1, none⟩ = some (.int .u8 (x.toNat : Int)) := by simp [World.cell?, (hb5.block Bx hBQ).trans HB3.out]
      obtain ⟨W6, hW6⟩ : ∃ W6, W5.alloc (.cells #[.int .i64 at', .int .u8 (x.toNat : Int)] 62) = W6 := ⟨_, rfl⟩
      have hb56 : Below W5.heap.size W5 W6 := by rw [← hW6]; exact (Below.refl _ _).alloc (Nat.le_refl _) _
      have HO6 : Aside (W6.ownsRow Q 62 2 (.slice ao5 K c5) K (fb L1)) := own_bel hown5 hb56
      have HCM6 : Aside (Cm W6 (some ⟨W5.heap.size, 0, none⟩) 1 [(at', x)]) := by
        refine ⟨by simp, .inr ⟨W5.heap.size, 0, _, rfl, by rw [← hW6]; exact heap_alloc_new W5 _, fun i hi => ?_⟩⟩
        obtain rfl : i = 0 := by simpa using hi
        exact ⟨rfl, rfl⟩
      have hb6 : Below Q W3 W6 := hb5.trans (hb56.mono hs5)
      have HB6 : Aside (Below Q W3 W6) := hb6
      have hs6 : Q ≤ W6.heap.size := Nat.le_trans hs5 hb56.size
      clear hown5 hgr5 hb5 hv5 hb56 hb6 g6
      refine mkHid' ?_
      go_wp2_with (first | (at_builtin; refine wpList_append_cm rfl (.tmp 62) (.tmp 64) rfl Q (.slice ao5 K c5) K (fb L1) rfl HO6.out (some ⟨W5.heap.size, 0, none⟩) 1 1 [(at', x)] rfl rfl HCM6.out (by omega) hs6 ?_; intro v7 W7 hown7 hgr7; refine Hid.out ?_) | fail)
      have hb7 : Below Q W3 W7 := HB6.out.grown hgr7 hs6 (fun k hk => (HO6.out.lt k hk).1)
      obtain ⟨ao7, c7, hv7⟩ := own_slice hown7
      rw [hv7]
      rw [hv7] at hown7
      have hs7 : Q ≤ W7.heap.size := by rw [← HQ.out]; exact hb7.size
      have hr7 : Rf W7 r rm p lm rc fi kn ca cc (L1 ++ L2) := Rf.below HR3.out (HQ.out ▸ hb7)
      have g6 := hr7.c6
      rw [HN.out] at g6
      have f6 := hr7.fz 6
      have HO7 : Aside (W7.ownsRow Q 62 2 (.slice ao7 (K + 1) c7) (K + 1) (fb L1 ++ fb [(at', x)])) := hown7
      have HB7 : Aside (Below Q W3 W7) := hb7
      obtain ⟨la', hla⟩ : ∃ la', (if cc = K then ca else ca.map (·.add (K * 2))) = la' := ⟨_, rfl⟩
      have HCM7 : Aside (Cm W7 la' (cc - K) L2) := by have h := hr7.2.drop; rw [HKK.out, hla] at h; exact h
      have hl2 : L2.length = N - K := by have h1 := HN.out; have h2 := HKK.out; rw [List.length_append] at h1; omega
      have HL2 : Aside (L2.length = N - K) := hl2
      have i7 : ((K : Nat) : Int) ≤ (N : Int) := by omega
      clear hown7 hgr7 hb7 hv7 hr7 hl2 b50 b51
      refine mkHid' ?_
      go_wp2_with (first | (at_builtin; refine wpList_append_cm rfl (.tmp 67) (.tmp 73) rfl Q (.slice ao7 (K + 1) c7) (K + 1) (fb L1 ++ fb [(at', x)]) rfl HO7.out la' (N - K) (cc - K) L2 rfl HL2.out HCM7.out (by omega) hs7 ?_; intro v8 W8 hown8 hgr8; refine Hid.out ?_) | fail)
      have hb8 : Below Q W3 W8 := HB7.out.grown hgr8 hs7 (fun k hk => (HO7.out.lt k hk).1)
      rw [← fb_append, ← fb_append, List.append_assoc, List.singleton_append] at hown8
      obtain ⟨ca', cc', hv8, hcm8, hlen8⟩ := Cm.own hown8 (by omega)
      rw [hv8]
      have hr8 : Rf W8 r rm p lm rc fi kn ca cc (L1 ++ L2) := Rf.below HR3.out (HQ.out ▸ hb8)
      have f8 := hr8.fz 6
      have g8 := hr8.c6
      have HF : Aside (Rf (W8.setCell ⟨r, 6, none⟩ (.slice ca' (L1 ++ (at', x) :: L2).length cc')) r rm p lm rc fi kn ca' cc' (L1 ++ (at', x) :: L2) ∧ Chg (fun k => k = r) w (W8.setCell ⟨r, 6, none⟩ (.slice ca' (L1 ++ (at', x) :: L2).length cc'))) := by
        have hch : Chg (fun k => k = r) W8 (W8.setCell ⟨r, 6, none⟩ (.slice ca' (L1 ++ (at', x) :: L2).length cc')) := by
          rw [setCell_eq_setRow W8 r 6 _ 45 (0, 0) _ hr8.1]
          exact ⟨rfl, rfl, rfl, by simp, fun k hk hx => setRow_other _ r k _ hx⟩
        refine ⟨⟨?_, hcm8.kept hch (fun g cur hg e => ?_)⟩, ?_⟩
        · rw [setCell_eq_setRow W8 r 6 _ 45 (0, 0) _ hr8.1, setRow_heap _ r _ _ 45 (0, 0) hr8.1]
          rfl
        · rw [e, hr8.1] at hg
          simp at hg
        · refine Chg.andThen (X := fun k => k = r) ?_ hch (fun j _ e => e)
          refine ⟨hb8.os.trans HC3.out.1, hb8.tape.trans HC3.out.2.1, hb8.output.trans HC3.out.2.2.1, Nat.le_trans HC3.out.2.2.2.1 hb8.size, fun j hj _ => ?_⟩
          exact (hb8.block j (by omega)).trans (HC3.out.2.2.2.2 j hj (fun h => h))
      clear hown8 hgr8 hb8 hv8 hcm8 hlen8 hr8
      generalize (L1 ++ (at', x) :: L2).length = NN at HF
      refine mkHid' ?_
      go_wp2
      exact bodyPost_end (results_none rfl _ _ _) rfl ⟨rfl, ⟨ca', cc', HF.out.1⟩, HF.out.2⟩
end Go.Proofs.YtpbiokcelglaaaaDoor
