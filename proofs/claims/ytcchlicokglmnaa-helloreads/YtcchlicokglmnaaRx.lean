/- hello.Read. -/
import Derived.Test.YtcchlicokglmnaaIv
import Derived.Test.YtcchlicokglmnaaPt
namespace Go.Proofs.Ytcchlicokglmnaa
open Go.ChangeShapes Go.WideShapes Go.ChangeAt Go.RowKit Go.Lib
set_option linter.unusedVariables false

/-- The body of the message at a place. -/
def bdy (L : List UInt8) (a : Int) : List UInt8 := sub L (a.toNat + 4) (cutN L a)
def rdAt (L : List UInt8) (a : Int) : Sd × Msg := rd (getV L a 1) (bdy L a) (false, 0)
/-- The error of Read. -/
def readE (L : List UInt8) (a : Int) : Int :=
  if cutE L a ≠ 0 then cutE L a else if isK (getV L a 1) = false then 12 else if ((rdAt L a).1.1 || !(decide ((rdAt L a).1.2 = cutN L a))) = true then 11 else 0
structure ReadM (m : Msg) (B : Nat) (M : Msg) (w' : World) : Prop where
  pl : m.pl = M
  len : m.len
  nm : w'.ownsRow B 9 1 (.slice m.po m.protos.length m.pc) m.protos.length (m.protos.map .string)
  pa : By B w' (.slice m.ao m.params.length m.ac) m.params
  ti : By B w' (.slice m.to m.ticket.length m.tc) m.ticket
def ReadR (L : List UInt8) (a : Int) (w : World) (e : Ending) (w' : World) : Prop :=
  Below w.heap.size w w' ∧ (readE L a ≠ 0 → e = .returned (.tuple #[.agg (m0 0).cells.toArray, .int .i64 0, .int .i64 (readE L a)])) ∧
  (readE L a = 0 → ∃ m, e = .returned (.tuple #[.agg m.cells.toArray, .int .i64 (a + 4 + cutN L a), .int .i64 0]) ∧ ReadM m w.heap.size (rdAt L a).2 w')
theorem z27 (w : World) : (zeroValue 27).run Try.prog w = .ok (.agg (m0 0).cells.toArray) w := by kernel_rfl
theorem u27r : Try.prog.underlying 27 = some (.struct (Try.prog.fieldsOf 27)) := by kernel_rfl
theorem i27r : (Try.prog.info? 27).map (·.size) = some 72 := by kernel_rfl
theorem results_read {X : World} {g : Nat} {cs : Array Value} (tmps : Array Value) (hp : tmps.getD 4 undef = .pointer (some ⟨g, 0, none⟩)) (hg : X.heap[g]? = some (.cells cs 27 (0, 0))) (hc : cs.size = 72) : (results Try.f13 tmps).run Try.prog X = .ok (.tuple #[.agg cs, tmps.getD 5 undef, tmps.getD 6 undef]) X := by
  have hp' : tmps[4]?.getD undef = .pointer (some ⟨g, 0, none⟩) := by simpa using hp
  have hl := run_loadVar_row (P := Try.prog) X g 27 27 cs (0, 0) _ hg u27r rfl (by rw [hc]; exact i27r)
  simp [results, hp', asAddr, hl, Result.andThen]
theorem store_m {X : World} {g : Nat} {cs : Array Value} (hg : X.heap[g]? = some (.cells cs 27 (0, 0))) (hc : cs.size = 72) : (storeCells ⟨g, 0, none⟩ (m0 0).cells.toArray.toList).run Try.prog X = .ok () (X.setRow g (m0 0).cells.toArray) := by
  have h1 : ∀ v ∈ (m0 0).cells, v.oneCell' = true := by decide
  have := run_storeCells_from (P := Try.prog) g 27 (m0 0).cells 0 cs X hg (by rw [hc]; rfl) h1
  simpa using this
theorem cutN_le (L : List UInt8) (a : Int) : cutN L a ≤ 16777216 := by
  unfold cutN getV
  split
  · have h1 := num_lt (sub L (a + 1).toNat 3)
    have h2 : (sub L (a + 1).toNat 3).length ≤ 3 := by simp [sub]; omega
    have h3 : 256 ^ (sub L (a + 1).toNat 3).length ≤ 256 ^ 3 := Nat.pow_le_pow_right (by decide) h2
    omega
  · simp
theorem m0_len (k : Int) : (m0 k).len := ⟨rfl, rfl, rfl, rfl⟩
theorem m0_set (k : Int) : (m0 0).cells.toArray.setIfInBounds 0 (.int .i64 k) = (m0 k).cells.toArray := rfl
/-- The reader and the message as Read lays them. -/
theorem rd_start {w3 : World} {M : Nat} {o : Option Addr} {B : List UInt8} {cc : Nat} {k : Int} (hM : w3.heap[M]? = some (.cells (m0 0).cells.toArray 27 (0, 0))) (hs : Sl w3 o B) (hb : ∀ x, o = some x → B ≠ [] → x.block < M) (hl : B.length ≤ 16777216) (hc : B.length ≤ cc) (h63 : cc ≤ 9223372036854775807) (hn : o ≠ none) :
    Cr ((w3.setCell ⟨M, 0, none⟩ (.int .i64 k)).alloc (.cells #[.bool false, .slice o B.length cc, .int .i64 0] 64)) w3.heap.size o B M ∧ Im ((w3.setCell ⟨M, 0, none⟩ (.int .i64 k)).alloc (.cells #[.bool false, .slice o B.length cc, .int .i64 0] 64)) w3.heap.size o B cc M (false, 0) (m0 k) ((w3.setCell ⟨M, 0, none⟩ (.int .i64 k)).alloc (.cells #[.bool false, .slice o B.length cc, .int .i64 0] 64)) := by
  have hlt := lt_block hM
  have hsz : (w3.setCell ⟨M, 0, none⟩ (.int .i64 k)).heap.size = w3.heap.size := by simp
  have hM1 := heap_setCell_same w3 M 0 _ 27 (.int .i64 k) hM
  rw [m0_set] at hM1
  have hs1 : Sl (w3.setCell ⟨M, 0, none⟩ (.int .i64 k)) o B := by
    intro j hj
    obtain ⟨b, off, e, hcc⟩ := hs j hj
    refine ⟨b, off, e, ?_⟩
    have hbl := hb _ e (by intro h; subst h; simp at hj)
    have : b < M := hbl
    rw [← hcc]
    unfold World.cell?
    rw [Below.heap_setCell _ _ _ _ (show b ≠ M by omega)]
  generalize w3.setCell ⟨M, 0, none⟩ (.int .i64 k) = X at *
  have hb1 := bl1 X (.cells #[.bool false, .slice o B.length cc, .int .i64 0] 64)
  have hnew := heap_alloc_new X (.cells #[.bool false, .slice o B.length cc, .int .i64 0] 64)
  have hp := lt_block hnew
  rw [hsz] at hnew hp
  have hbl : Below X.heap.size X (X.alloc (.cells #[.bool false, .slice o B.length cc, .int .i64 0] 64)) := hb1
  refine ⟨⟨hp, by omega, by omega, hl, fun x hx hn => by have := hb x hx hn; omega⟩, ⟨⟨hnew, Sl_bel hs1 hbl, Nat.zero_le _, hc, hn, h63, fun x hx hn => by have := hb x hx hn; omega⟩, (hbl.block _ (lt_block hM1)).trans hM1, m0_len k, World.ownsRow_nil _ _ _ _, World.ownsRow_nil _ _ _ _, World.ownsRow_nil _ _ _ _, Gs.refl _ _⟩⟩
theorem cells_one' (m : Msg) : m.cells.toArray.all (·.oneCell') = true := by
  have hb : ∀ h : List UInt8, (bc h).all (·.oneCell') = true := by
    intro h
    rw [List.all_eq_true]
    intro v hv
    simp only [bc, List.mem_map] at hv
    obtain ⟨x, _, rfl⟩ := hv
    rfl
  simp [Msg.cells, hb]
  simp [Value.oneCell']
section
variable {w : World} {o : Option Addr} {L : List UInt8} {c : Nat} {a : Int}
set_option maxRecDepth 100000 in
set_option maxHeartbeats 2000000 in
theorem read_c (hs : Sl w o L) (hL : L.length ≤ 9223372036854000000) (hc : L.length ≤ c) (hc63 : c ≤ 9223372036854775807) : Calls Try.prog 13 #[.slice o L.length c, .int .i64 a] w (ReadR L a w) := by
  have HC : Hid (∀ X, Below w.heap.size w X → Calls Try.prog 22 #[.slice o L.length c, .int .i64 a] X (CutR o L c a X)) := fun X hX => cut_c (Sl_bel hs hX) (by omega) hc hc63
  have HK : Hid (∀ k X, Calls Try.prog 16 #[.int .i64 k] X (KdP k X)) := fun k X => isKind_c k X
  have HS : Hid (Sl w o L) := hs
  clear hs
  have hz := z27
  obtain ⟨A, hA⟩ : ∃ A, (m0 0).cells.toArray = A := ⟨_, rfl⟩
  rw [hA] at hz
  have HA : Hid _ := hA
  clear hA
  go_enter Try.func13, Try.ntmps13
  go_wp2_with fail
  have HB1 : Hid (Below w.heap.size w (w.alloc (.cells A 27))) := bl1 w _
  have HRW : Hid _ := heap_alloc_new w (.cells A 27)
  generalize w.alloc (.cells A 27) = w1 at *
  refine Calls.mono (HC.out w1 HB1.out) ?_
  rintro e w2 ⟨b2, c2, d2⟩
  have HB2 : Hid (Below w.heap.size w w2) := HB1.out.trans (b2.mono HB1.out.size)
  have HRW2 : Hid (w2.heap[w.heap.size]? = some (.cells A 27 (0, 0))) := (b2.block _ (lt_block HRW.out)).trans HRW.out
  have HD : Hid _ := d2
  have HD2 : Hid _ := b2
  clear HC HRW HB1 b2 d2
  by_cases e1 : cutE L a = 0
  · obtain ⟨o2, cc, rfl, a0, fit, sl, l1, l2, ne, blk⟩ := HD.out e1
    clear HD c2
    obtain ⟨k, hk⟩ : ∃ k, getV L a 1 = k := ⟨_, rfl⟩
    obtain ⟨n, hn⟩ : ∃ n, cutN L a = n := ⟨_, rfl⟩
    rw [hk, hn]
    rw [hn] at fit sl l1
    have hbl : (bdy L a).length = n := by unfold bdy; rw [hn]; exact sub_length L _ n fit
    have HSL : Hid (Sl w2 o2 (bdy L a)) := by
      unfold bdy; rw [hn]
      exact Sl_bel sl HD2.out
    have HBL : Hid (∀ x, o2 = some x → bdy L a ≠ [] → x.block < w.heap.size) := by
      intro x hx hnn
      obtain ⟨y, hy, hxy⟩ := blk x hx
      have hs0 := HS.out
      rw [hy] at hs0
      have : 0 < (bdy L a).length := List.length_pos_iff.2 hnn
      have := Sl_lt hs0 (by intro h; rw [h] at fit; simp at fit)
      omega
    have HNE : Hid (o2 ≠ none) := ne
    have HLN : Hid ((bdy L a).length = n ∧ n ≤ 16777216 ∧ n ≤ cc ∧ cc ≤ 9223372036854775807 ∧ 0 ≤ a ∧ a + 4 + n ≤ 9223372036854000000) := ⟨hbl, by rw [← hn]; exact cutN_le L a, l1, by omega, a0, by omega⟩
    clear ne blk sl HD2 hbl fit l1 l2
    as_aux_lemma =>
    go_wp2_with fail
    refine Calls.mono (HK.out k w2) ?_
    rintro e w3 ⟨rfl, hb3⟩
    have HB3 : Hid (Below w.heap.size w w3) := HB2.out.trans (hb3.mono HB2.out.size)
    have HRW3 : Hid (w3.heap[w.heap.size]? = some (.cells A 27 (0, 0))) := (hb3.block _ (lt_block HRW2.out)).trans HRW2.out
    have HSL3 : Hid (Sl w3 o2 (bdy L a)) := Sl_bel HSL.out hb3
    clear HK HB2 HRW2 HSL hb3
    have HZ : Hid (A.size = 72) := by show _ = _; rw [← HA.out]; rfl
    cases hkk : isK k
    · have HF : Hid (∀ X, Below w.heap.size w X → ReadR L a w (.returned (.tuple #[.agg A, .int .i64 0, .int .i64 12])) X) := by
        have hE : readE L a = 12 := by unfold readE; rw [if_neg (by simpa using e1), hk, if_pos hkk]
        exact fun X hX => ⟨hX, fun _ => by rw [hE, HA.out], fun h => by rw [hE] at h; cases h⟩
      have hst := store_m HRW3.out HZ.out
      rw [HA.out] at hst
      have HRS : Hid _ := setRow_heap w3 w.heap.size _ A 27 (0, 0) HRW3.out
      have HBF : Hid (Below w.heap.size w (w3.setRow w.heap.size A)) := below_setRow HB3.out (Nat.le_refl _) _
      clear hk hn hkk e1
      generalize ReadR L a w = R at *
      as_aux_lemma =>
      go_wp2_with fail
      refine bodyPost_ret (results_read (g := w.heap.size) _ rfl HRS.out HZ.out) rfl ?_
      exact HF.out _ HBF.out
    · have c0 : w3.cell? ⟨w.heap.size, 0, none⟩ = some (.int .i64 0) := by unfold World.cell?; rw [HRW3.out]; show A[0]? = _; rw [← HA.out]; rfl
      have f0 : w3.frozen? ⟨w.heap.size, 0, none⟩ = false := by unfold World.frozen?; rw [HRW3.out]; simp
      have HKK : Hid _ := hkk
      have HE1 : Hid _ := e1
      have HKE : Hid _ := hk
      have HNN : Hid _ := hn
      clear hk hn hkk e1
      have HST : Hid _ := rd_start (cc := cc) (k := k) (by rw [HA.out]; exact HRW3.out) HSL3.out HBL.out (by rw [HLN.out.1]; exact HLN.out.2.1) (by rw [HLN.out.1]; exact HLN.out.2.2.1) HLN.out.2.2.2.1 HNE.out
      rw [HLN.out.1] at HST
      go_wp2_with fail
      have HB5 : Hid (Below w.heap.size w ((w3.setCell ⟨w.heap.size, 0, none⟩ (.int .i64 k)).alloc (.cells #[.bool false, .slice o2 n cc, .int .i64 0] 64))) := by
        have h1 : Below w.heap.size w (w3.setCell ⟨w.heap.size, 0, none⟩ (.int .i64 k)) := HB3.out.trans ⟨rfl, rfl, rfl, by simp, fun i hi => Below.heap_setCell _ _ _ _ (show i ≠ w.heap.size by omega)⟩
        exact h1.trans ((bl1 _ _).mono h1.size)
      generalize (w3.setCell ⟨w.heap.size, 0, none⟩ (.int .i64 k)).alloc (.cells #[.bool false, .slice o2 n cc, .int .i64 0] 64) = W0 at *
      obtain ⟨p, hp⟩ : ∃ p, w3.heap.size = p := ⟨_, rfl⟩
      rw [hp] at HST ⊢
      have HPW : Hid (w.heap.size < p) := by show _ < _; rw [← hp]; exact lt_block HRW3.out
      refine Calls.mono (rw_all HST.out.1 HKK.out HST.out.2) ?_
      rintro e w4 ⟨rfl, m, h4, hpl⟩
      have H4 : Hid _ := h4
      have HPL : Hid _ := hpl
      have HCR : Hid _ := HST.out.1
      clear HST h4 hpl hp c0 f0 HB3 HRW3 HSL3
      obtain ⟨S, hS⟩ : ∃ S, rd k (bdy L a) (false, 0) = S := ⟨_, rfl⟩
      rw [hS] at H4 HPL
      have HSD : Hid _ := hS
      clear hS
      obtain ⟨⟨bad, pos⟩, ms⟩ := S
      have q2 := H4.out.rr.c2
      have q0 := H4.out.rr.c0
      go_wp2_with fail
      refine Calls.mono (ir_m H4.out HCR.out ((pos : Int) == (n : Int))) ?_
      rintro e w5 ⟨rfl, h5⟩
      clear H4 q0 q2
      have HBF : Hid (Below w.heap.size w w5) := by
        have hg := h5.gs
        have h1 := HPW.out
        exact ⟨hg.os.trans HB5.out.os, hg.tape.trans HB5.out.tape, hg.output.trans HB5.out.output, Nat.le_trans HB5.out.size hg.size, fun i hi => (hg.block i (Nat.lt_of_lt_of_le hi HB5.out.size) (by rintro (h2 | h2) <;> omega)).trans (HB5.out.block i hi)⟩
      obtain ⟨bd, hbd⟩ : ∃ bd, (bad || !((pos : Int) == (n : Int))) = bd := ⟨_, rfl⟩
      rw [show ((bad, pos) : Sd).1 = bad from rfl, hbd] at h5
      have q0 := h5.rr.c0
      have H5 : Hid _ := h5
      have HBD : Hid (readE L a = if bd = true then 11 else 0) := by
        have e1 : (decide (pos = n)) = ((pos : Int) == (n : Int)) := by
          by_cases h : pos = n
          · subst h; simp
          · have : ¬ (pos : Int) = (n : Int) := by omega
            simp [h, this]
        have e2 : (rdAt L a).1 = (bad, pos) := by unfold rdAt; rw [HKE.out, HSD.out]
        show readE L a = _
        unfold readE
        rw [if_neg (by simpa using HE1.out), HKE.out, HKK.out, e2, HNN.out, e1, hbd]
        rfl
      clear hbd h5 HB5
      cases bd
      · have HF : Hid (ReadR L a w (.returned (.tuple #[.agg m.cells.toArray, .int .i64 (a + 4 + n), .int .i64 0])) w5) := by
          have hE : readE L a = 0 := HBD.out
          have e2 : (rdAt L a).2 = ms := by unfold rdAt; rw [HKE.out, HSD.out]
          have hB : w.heap.size ≤ W0.heap.size := Nat.le_of_lt HCR.out.ml
          exact ⟨HBF.out, fun h => absurd hE h, fun _ => ⟨m, by rw [HNN.out], by rw [e2]; exact HPL.out, H5.out.len, own_low H5.out.nm hB, own_low H5.out.pa hB, own_low H5.out.ti hB⟩⟩
        have HR5 : Hid _ := H5.out.row
        have hone := cells_one' m
        have hsz := Msg.cells_size H5.out.len
        have h0 := HLN.out.2.2.2.2
        have wr1 : IntKind.i64.wrap (a + 1) = a + 1 := by rw [IntKind.wrap_i64]; omega
        have wr2 : IntKind.i64.wrap (a + 1 + 3) = a + 4 := by rw [IntKind.wrap_i64]; omega
        have wr3 : IntKind.i64.wrap (a + 4 + n) = a + 4 + n := by rw [IntKind.wrap_i64]; omega
        have m27 : (Try.prog.info? 27).map (·.size) = some m.cells.toArray.size := i27r.trans (by rw [hsz])
        have HSELF : Hid _ := setRow_self w5 w.heap.size _ 27 (0, 0) HR5.out
        have HUS : Hid _ := u27r
        clear h0 H5 HBD HBF HCR HPL HSD HE1 HKE HNN HKK
        generalize ReadR L a w = R at *
        generalize m.cells.toArray = C at *
        as_aux_lemma =>
        refine mkHid ?_
        go_wp2_with (refine wpList_load_row rfl 27 (.tmp 4) rfl w.heap.size rfl 27 C (0, 0) _ HR5.out u27r rfl m27 (Hid.out ?_))
        refine mkHid ?_
        go_wp2_with (refine wpList_store_row rfl 27 (.tmp 4) (.tmp 42) rfl w.heap.size C rfl rfl 27 C HR5.out m27 rfl hone (Hid.out ?_))
        rw [HSELF.out]
        refine mkHid ?_
        go_wp2_with fail
        refine bodyPost_ret (results_read (g := w.heap.size) _ rfl HR5.out hsz) rfl ?_
        exact HF.out
      · have HF : Hid (∀ X, Below w.heap.size w X → ReadR L a w (.returned (.tuple #[.agg A, .int .i64 0, .int .i64 11])) X) := by
          have hE : readE L a = 11 := HBD.out
          exact fun X hX => ⟨hX, fun _ => by rw [hE, HA.out], fun h => by rw [hE] at h; cases h⟩
        have hst := store_m H5.out.row (Msg.cells_size H5.out.len)
        rw [HA.out] at hst
        have HRS : Hid _ := setRow_heap w5 w.heap.size _ A 27 (0, 0) H5.out.row
        have HBG : Hid (Below w.heap.size w (w5.setRow w.heap.size A)) := below_setRow HBF.out (Nat.le_refl _) _
        clear H5 HBD HBF
        generalize ReadR L a w = R at *
        as_aux_lemma =>
        go_wp2_with fail
        refine bodyPost_ret (results_read (g := w.heap.size) _ rfl HRS.out HZ.out) rfl ?_
        exact HF.out _ HBG.out
  · obtain rfl := c2 e1
    clear c2 HD
    have e1d : ¬ cutE L a = 0 := e1
    have HF : Hid (∀ X, Below w.heap.size w X → ReadR L a w (.returned (.tuple #[.agg A, .int .i64 0, .int .i64 (cutE L a)])) X) := by
      have hE : readE L a = cutE L a := by unfold readE; rw [if_pos e1]
      exact fun X hX => ⟨hX, fun _ => by rw [hE, HA.out], fun h => absurd (hE ▸ h) e1⟩
    generalize cutE L a = E at *
    generalize ReadR L a w = R at *
    have hst := store_m HRW2.out (by rw [← HA.out]; rfl)
    rw [HA.out] at hst
    have HRS : Hid _ := setRow_heap w2 w.heap.size _ A 27 (0, 0) HRW2.out
    have HBF : Hid (Below w.heap.size w (w2.setRow w.heap.size A)) := below_setRow HB2.out (Nat.le_refl _) _
    have HZ : Hid (A.size = 72) := by show _ = _; rw [← HA.out]; rfl
    have hne : (E != 0) = true := by simpa using e1
    as_aux_lemma =>
    go_wp2_with fail
    refine bodyPost_ret (results_read (g := w.heap.size) _ rfl HRS.out HZ.out) rfl ?_
    exact HF.out _ HBF.out
end
end Go.Proofs.Ytcchlicokglmnaa
