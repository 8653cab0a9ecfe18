/- The reference's Clear; a row of its packets grows. -/
import Derived.Test.YtkjcapmhjhnckaaRf
namespace Go.Proofs.Ytkjcapmhjhnckaa
open Go.RowKit Go.Maps Go.Shelf
set_option linter.unusedVariables false
set_option maxRecDepth 100000

def qk0 : Value := .agg #[.int .i64 0, .int .i64 0, .int .i64 0, .bool false, .int .i64 0]
theorem info37 : (Try.prog.info? 37).map (fun i => (i.zero, i.size, i.bytes)) = some (some qk0, 5, 40) := by kernel_rfl
theorem qc_one (x : Pk × Int) : ∀ v ∈ qc x, v.oneCell' = true := by
  intro v hv
  simp only [qc, List.mem_cons, List.not_mem_nil, or_false] at hv
  rcases hv with rfl | rfl | rfl | rfl | rfl <;> rfl
theorem Qr.nil (w : World) : Qr w none 0 [] := Rw.nil _ _ _
/-- One packet more. -/
theorem Qr.push {W : World} {o : Option Addr} {c : Nat} {L : List (Pk × Int)} (h : Qr W o c L) (x : Pk × Int) (hl : L.length ≤ 3000000000000) {X : World} (hX : X = W.alloc (.cells #[.int .i64 x.1.n, .int .i64 x.1.a, .int .i64 x.1.s, .bool x.1.e, .int .i64 x.2] 37) ∨ X = (W.alloc (.cells #[.int .i64 x.1.n, .int .i64 x.1.a, .int .i64 x.1.s, .bool x.1.e, .int .i64 x.2] 37)).drew) :
    ∃ g off c' w3, (∀ ty, (Builtin.append_ #[43, 43] ty #[.slice o L.length c, .slice (some ⟨W.heap.size, 0, none⟩) 1 1]).run Try.prog X = .ok (.slice (some ⟨g, off, none⟩) (L.length + 1) c') w3) ∧
      Qr w3 (some ⟨g, off, none⟩) c' (L ++ [x]) ∧ Chg (Blk o) W w3 ∧ (Blk o g ∨ W.heap.size ≤ g) := by
  obtain ⟨i, hq, hz, hi, hby⟩ := info_parts info37
  have hT : X.heap[W.heap.size]? = some (.cells #[.int .i64 x.1.n, .int .i64 x.1.a, .int .i64 x.1.s, .bool x.1.e, .int .i64 x.2] 37 (0, 0)) := by
    rcases hX with rfl | rfl <;> exact heap_alloc_new W _
  have hbX : Below W.heap.size W X := by
    rcases hX with rfl | rfl
    · exact bel1 W _
    · exact (bel1 W _).drew
  have hsX : W.heap.size ≤ X.heap.size := hbX.size
  have hs : Src Try.prog 5 43 (.slice (some ⟨W.heap.size, 0, none⟩) 1 1) 1 (qc x) X := Src.ofSlice _ Try.underlying43 ⟨W.heap.size, 0, none⟩ _ 1 (qc x) (by simp [qc]) (fun j u hu => by
    rw [Addr.add_lit]
    simp only [World.cell?, hT, Nat.zero_add]
    rw [if_neg (by simp)]
    simpa [qc] using hu) (qc_one x)
  obtain ⟨g, off, c', w3, h1, h2, h3, h4, h5⟩ := Rw.append Try.underlying43 hq hz hi hby rfl (Rw.bel h hbX) hs (by omega) (by omega) (by omega)
  refine ⟨g, off, c', w3, h1, ?_, (((Chg.refl (Blk o) W).below hbX).trans h3), ?_⟩
  · unfold Qr
    rw [qs_app, List.length_append]
    have : qs [x] = qc x := by simp [qs]
    rw [this]
    exact h2
  · rcases h4 with h4 | h4
    · exact .inl h4
    · right
      rw [h4]
      exact hsX
def rcl (L : List (Pk × Int)) : List (Pk × Int) := L.map fun x => if x.2 = 0 then (x.1, 2) else x
def rto (L : List (Pk × Int)) : List (Pk × Int) := L.filter fun x => decide (x.2 = 0)
theorem rcl_snoc (L : List (Pk × Int)) (x : Pk × Int) : rcl (L ++ [x]) = rcl L ++ [if x.2 = 0 then (x.1, 2) else x] := by unfold rcl; rw [List.map_append]; rfl
theorem rto_yes (L : List (Pk × Int)) {x : Pk × Int} (h : x.2 = 0) : rto (L ++ [x]) = rto L ++ [x] := by unfold rto; rw [List.filter_append, List.filter_cons_of_pos (by simpa using h)]; rfl
theorem rto_no (L : List (Pk × Int)) {x : Pk × Int} (h : x.2 ≠ 0) : rto (L ++ [x]) = rto L := by unfold rto; rw [List.filter_append, List.filter_cons_of_neg (by simpa using h)]; simp
theorem rcl_len (L : List (Pk × Int)) : (rcl L).length = L.length := by simp [rcl]
theorem mid_len {L : List (Pk × Int)} {k : Nat} (h : k ≤ L.length) : (rcl (L.take k) ++ L.drop k).length = L.length := by
  rw [List.length_append, rcl_len, List.length_take, List.length_drop]; omega
theorem mid_at {L : List (Pk × Int)} {k : Nat} (h : k < L.length) (h2 : k < (rcl (L.take k) ++ L.drop k).length) : (rcl (L.take k) ++ L.drop k)[k] = L[k] := by
  have e : (rcl (L.take k)).length = k := by rw [rcl_len, List.length_take]; omega
  rw [List.getElem_append_right (by omega)]
  simp only [List.getElem_drop]
  congr 1
  omega
theorem mid_set {L : List (Pk × Int)} {k : Nat} (h : k < L.length) (h0 : L[k].2 = 0) : (rcl (L.take k) ++ L.drop k).set k (L[k].1, 2) = rcl (L.take (k + 1)) ++ L.drop (k + 1) := by
  have e : (rcl (L.take k)).length = k := by rw [rcl_len, List.length_take]; omega
  rw [List.set_append_right _ _ (by omega), e, Nat.sub_self, List.drop_eq_getElem_cons h, List.set_cons_zero, List.take_succ_eq_append_getElem h, rcl_snoc, if_pos h0, List.append_assoc]
  rfl
theorem mid_skip {L : List (Pk × Int)} {k : Nat} (h : k < L.length) (h0 : L[k].2 ≠ 0) : rcl (L.take k) ++ L.drop k = rcl (L.take (k + 1)) ++ L.drop (k + 1) := by
  rw [List.drop_eq_getElem_cons h, List.take_succ_eq_append_getElem h, rcl_snoc, if_neg h0, List.append_assoc]
  rfl
structure RcI (W : World) (A : Ra) (R : Rs) (k : Nat) (o : Option Addr) (c : Nat) (X : World) : Prop where
  lg : Rl X A { R with L := rcl (R.L.take k) ++ R.L.drop k }
  st : Rp A A W X
  pr : Qr X o c (rto (R.L.take k))
  new : ∀ j, Blk o j → W.heap.size ≤ j
theorem RcI.push {W : World} {A : Ra} {R : Rs} {k : Nat} {o : Option Addr} {c : Nat} {X : World} (h : RcI W A R k o c X) (hlt : ∀ j, A.own j → j < W.heap.size) (hk : k < R.L.length) (hl : R.L.length ≤ 3000000000000) (h0 : R.L[k].2 = 0) {g off : Nat} (ho : A.o = some ⟨g, off, none⟩) :
    ∃ g' off' c' w3, (∀ ty, (Builtin.append_ #[43, 43] ty #[.slice o (rto (R.L.take k)).length c, .slice (some ⟨X.heap.size, 0, none⟩) 1 1]).run Try.prog (X.alloc (.cells #[.int .i64 R.L[k].1.n, .int .i64 R.L[k].1.a, .int .i64 R.L[k].1.s, .bool R.L[k].1.e, .int .i64 R.L[k].2] 37)) = .ok (.slice (some ⟨g', off', none⟩) ((rto (R.L.take k)).length + 1) c') w3) ∧
      w3.cell? ⟨A.b, 0, none⟩ = some (.slice A.o R.L.length A.c) ∧ (∃ v, w3.cell? ⟨g, off + k * 5 + 4, none⟩ = some v) ∧ w3.frozen? ⟨g, off + k * 5 + 4, none⟩ = false ∧ RcI W A R (k + 1) (some ⟨g', off', none⟩) c' (w3.setCell ⟨g, off + k * 5 + 4, none⟩ (.int .i64 2)) := by
  have hml := mid_len (L := R.L) (k := k) (by omega)
  have hrl : (rto (R.L.take k)).length ≤ R.L.length := by
    have := List.length_filter_le (fun x : Pk × Int => decide (x.2 = 0)) (R.L.take k)
    unfold rto
    rw [List.length_take] at this
    omega
  obtain ⟨g', off', c', w3, h1, h2, h3, h4⟩ := h.pr.push R.L[k] (by omega) (.inl rfl)
  have hown : ∀ j, A.own j → ¬ Blk o j := fun j hj hb => by have := h.new j hb; have := hlt j hj; omega
  have hl3 := h.lg.chg h3 hown
  have hm : k < ({ R with L := rcl (R.L.take k) ++ R.L.drop k } : Rs).L.length := by show k < (rcl (R.L.take k) ++ R.L.drop k).length; omega
  obtain ⟨g1, off1, e1, -, -, -, -, q4, f4⟩ := hl3.row.cells hm
  rw [ho] at e1
  injection e1 with e1
  injection e1 with e1 e2
  subst e1 e2
  obtain ⟨m1, m2⟩ := hl3.mark hm ho 2
  have hat : ({ R with L := rcl (R.L.take k) ++ R.L.drop k } : Rs).L[k] = R.L[k] := mid_at hk _
  rw [hat] at m1
  have e3 : ({ R with L := rcl (R.L.take k) ++ R.L.drop k } : Rs).L.set k (R.L[k].1, 2) = rcl (R.L.take (k + 1)) ++ R.L.drop (k + 1) := mid_set hk h0
  have hc0 := hl3.c0
  have e4 : ({ R with L := rcl (R.L.take k) ++ R.L.drop k } : Rs).L.length = R.L.length := hml
  rw [e4] at hc0
  have hgnew : W.heap.size ≤ g' := by
    rcases h4 with h4 | h4
    · exact h.new _ h4
    · exact Nat.le_trans h.st.chg.2.2.2.1 h4
  refine ⟨g', off', c', w3, h1, hc0, ⟨_, q4⟩, f4, ⟨?_, ?_, ?_, fun j hj => by rw [hj.of]; exact hgnew⟩⟩
  · have := m1
    simp only at this
    rw [show (rcl (R.L.take k) ++ R.L.drop k).set k (R.L[k].1, 2) = rcl (R.L.take (k + 1)) ++ R.L.drop (k + 1) from e3] at this
    exact this
  · exact ⟨rfl, (h.st.chg.andThen h3 (fun j hj hb => by have := h.new j hb; omega)).trans m2.chg, fun j hj => .inl hj⟩
  · have e5 : rto (R.L.take (k + 1)) = rto (R.L.take k) ++ [R.L[k]] := by
      rw [List.take_succ_eq_append_getElem hk, rto_yes _ h0]
    rw [e5]
    exact Rw.chg h2 m2.chg fun j hj hA => by
      rw [hj.of] at hA
      have := hlt _ hA
      omega
def RcR (W : World) (A : Ra) (R : Rs) (e : Ending) (w' : World) : Prop := ∃ o c, e = .returned (.slice o (rto R.L).length c) ∧ Rl w' A { R with L := rcl R.L } ∧ Rp A A W w' ∧ Qr w' o c (rto R.L) ∧ ∀ j, Blk o j → W.heap.size ≤ j
set_option maxHeartbeats 1000000 in
theorem rclear_c {W : World} {A : Ra} {R : Rs} (h : Rl W A R) (hl : R.L.length ≤ 3000000000000) : Calls Try.prog 19 #[.pointer (some ⟨A.b, 0, none⟩)] W (RcR W A R) := by
  have HI0 : Aside (RcI W A R 0 none 0 W) := ⟨by simpa [rcl] using h, Rp.refl _ _, Qr.nil _, fun j hj => hj.no.elim⟩
  have HLT : Aside (∀ j, A.own j → j < W.heap.size) := fun j hj => h.lt hj
  have HL : Aside _ := hl
  obtain ⟨N, hN⟩ : ∃ N, R.L.length = N := ⟨_, rfl⟩
  have HN : Aside _ := hN
  rw [hN] at hl
  have HR : Aside (∀ r w', RcR W A R r w' → RcR W A R r w') := fun _ _ h => h
  obtain ⟨RR, hRR⟩ : ∃ RR, RcR W A R = RR := ⟨_, rfl⟩
  rw [hRR]
  have HR : Aside (∀ r w', RcR W A R r w' → RR r w') := by subst hRR; exact fun _ _ h => h
  clear h hN hRR
  go_enter Try.func19, Try.ntmps19
  go_wp2_with fail
  go_loopg [3, 4] N (fun kx s3 s4 wr => ∃ (k n : Nat) (o : Option Addr) (c : Nat), s3 = .slice o n c ∧ s4 = .int .i64 (k : Int) ∧ k ≤ N ∧ N - k ≤ kx ∧ Aside (RcI W A R k o c wr ∧ n = (rto (R.L.take k)).length))
  case atStart => exact ⟨0, 0, none, 0, rfl, rfl, by omega, by omega, HI0.out, rfl⟩
  case round =>
    clear HI0
    obtain ⟨k, n, o, c, rfl, rfl, hk, hgk, HI⟩ := hrel
    have c0 : wr.cell? ⟨A.b, 0, none⟩ = some (.slice A.o N A.c) := by
      have := HI.out.1.lg.c0
      rw [show ({ R with L := rcl (R.L.take k) ++ R.L.drop k } : Rs).L.length = N by show (rcl (R.L.take k) ++ R.L.drop k).length = N; rw [mid_len (by rw [HN.out]; exact hk), HN.out]] at this
      exact this
    by_cases hlt : k < N
    · have hi : k < R.L.length := by rw [HN.out]; exact hlt
      have hm : k < ({ R with L := rcl (R.L.take k) ++ R.L.drop k } : Rs).L.length := by show k < (rcl (R.L.take k) ++ R.L.drop k).length; rw [mid_len (by omega)]; exact hi
      obtain ⟨g, off, ho, q0, q1, q2, q3, q4, -⟩ := HI.out.1.lg.row.cells hm
      have hat : ({ R with L := rcl (R.L.take k) ++ R.L.drop k } : Rs).L[k] = R.L[k] := mid_at hi _
      rw [hat] at q0 q1 q2 q3 q4
      have i1 : (k : Int) < N := by omega
      have iw : IntKind.i64.wrap ((k : Int) + 1) = (k : Int) + 1 := wrp _ (by omega) (by omega)
      by_cases h0 : R.L[k].2 = 0
      · obtain ⟨g', off', c', w3, hap, d0, ⟨dv, d1⟩, d2, hI3⟩ := HI.out.1.push HLT.out hi HL.out h0 ho
        rw [HN.out] at d0
        have HNL : Aside (n + 1 = (rto (R.L.take (k + 1))).length) := by
          show n + 1 = _
          rw [List.take_succ_eq_append_getElem hi, rto_yes _ h0, HI.out.2, List.length_append]; rfl
        have HAP : Aside ((Builtin.append_ #[43, 43] 43 #[.slice o n c, .slice (some ⟨wr.heap.size, 0, none⟩) 1 1]).run Try.prog (wr.alloc (.cells #[.int .i64 R.L[k].1.n, .int .i64 R.L[k].1.a, .int .i64 R.L[k].1.s, .bool R.L[k].1.e, .int .i64 R.L[k].2] 37)) = .ok (.slice (some ⟨g', off', none⟩) (n + 1) c') w3) := by
          have := hap 43
          rw [← HI.out.2] at this
          exact this
        have HI3 : Aside _ := hI3
        rw [h0] at q4 HAP
        clear hap hI3 h0
        generalize R.L[k] = x at *
        obtain ⟨⟨xn, xa, xz, xe⟩, st⟩ := x
        simp only at q0 q1 q2 q3 HAP
        clear hat hi hm HI
        generalize A.o = oo at *
        subst ho
        go_wp2_with (refine appr rfl _ _ 43 43 rfl _ _ rfl rfl HAP.out (Hid.out ?_))
        refine mkHid ?_
        go_wp2
        go_roundg (N - (k + 1))
        case measure => omega
        case rel => exact ⟨k + 1, n + 1, _, c', rfl, rfl, by omega, Nat.le_refl _, HI3.out, HNL.out⟩
      · have HI3 : Aside (RcI W A R (k + 1) o c wr ∧ n = (rto (R.L.take (k + 1))).length) := by
          have e5 : rto (R.L.take (k + 1)) = rto (R.L.take k) := by
            rw [List.take_succ_eq_append_getElem hi, rto_no _ h0]
          refine ⟨⟨?_, HI.out.1.st, by rw [e5]; exact HI.out.1.pr, HI.out.1.new⟩, by rw [e5]; exact HI.out.2⟩
          rw [← mid_skip hi h0]
          exact HI.out.1.lg
        generalize R.L[k] = x at *
        obtain ⟨⟨xn, xa, xz, xe⟩, st⟩ := x
        simp only at q0 q1 q2 q3 q4 h0
        clear hat hi hm HI
        generalize A.o = oo at *
        subst ho
        go_wp2
        go_roundg (N - (k + 1))
        case measure => omega
        case rel => exact ⟨k + 1, n, o, c, rfl, rfl, by omega, Nat.le_refl _, HI3.out⟩
    · obtain rfl : k = N := by omega
      have i1 : ¬ (k : Int) < k := by omega
      have HE : Aside (RR (.returned (.slice o n c)) wr) := by
        refine HR.out _ _ ?_
        have h1 := HI.out.1.lg
        have h2 := HI.out.1.pr
        have h3 := HI.out.2
        rw [← HN.out, List.take_length] at h2 h3
        rw [← HN.out, List.take_length, List.drop_length, List.append_nil] at h1
        exact ⟨o, c, by rw [h3], h1, HI.out.1.st, h2, HI.out.1.new⟩
      clear HI HR
      go_wp2
      exact HE.out
end Go.Proofs.Ytkjcapmhjhnckaa
