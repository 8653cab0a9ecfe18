/- The reference's Put and Bare. -/
import Derived.Test.YtcchlicokglmnaaEs
import Derived.Test.YtcchlicokglmnaaRd
import Derived.Test.YtcchlicokglmnaaRe
import Derived.Test.YtcchlicokglmnaaBr
namespace Go.Proofs.Ytcchlicokglmnaa
open Go.ChangeShapes Go.WideShapes Go.ChangeAt Go.RowKit Go.Lib
set_option linter.unusedVariables false

theorem u34s : Try.prog.underlying 34 = some (.struct (Try.prog.fieldsOf 34)) := by kernel_rfl
theorem i34s : (Try.prog.info? 34).map (·.size) = some 72 := by kernel_rfl
theorem head4 (k : Int) (N : Nat) (h1 : 1 ≤ k) (h2 : k ≤ 20) (hN : N ≤ 90000) : (bc ([UInt8.ofNat k.toNat] ++ be 3 (uN (N : Int)))).toArray = #[.int .u8 k, .int .u8 ((N : Int) / 65536), .int .u8 ((N : Int) / 256 % 256), .int .u8 ((N : Int) % 256)] := by
  rw [uN_nat N (by omega)]
  simp only [be, bc, List.map_cons, List.map_nil, List.cons_append, List.nil_append, UInt8.toNat_ofNat']
  congr 1
  simp only [List.cons.injEq, Value.int.injEq, true_and, and_true]
  refine ⟨?_, ?_, ?_, ?_⟩ <;> omega
theorem may_c (m : Msg) (w : World) (hok : m.ok w) (h63 : m.protos.length ≤ 9223372036854775806) : Calls Try.prog 20 #[.agg m.cells.toArray] w fun e w' => e = .returned (.bool (mayB m)) ∧ Below w.heap.size w w' := by
  by_cases h1 : m.kind = 1
  · exact may_1 m w hok h63 h1
  by_cases h4 : m.kind = 4
  · exact may_4 m w hok h63 h4
  by_cases h8 : m.kind = 8
  · exact may_8 m w hok h63 h8
  by_cases h11 : m.kind = 11
  · exact may_11 m w hok h63 h11
  exact may_0 m w hok h63 h1 h4 h8 h11
set_option maxRecDepth 100000 in
set_option maxHeartbeats 2000000 in
theorem rput_c (m : Msg) (w : World) (hok : m.ok w) (h63 : m.protos.length ≤ 9223372036854775806) (hbody : ∀ X, m.ok X → isK m.kind = true → mayB m = true → Calls Try.prog 21 #[.agg m.cells.toArray] X (RbR X m (bodyS m).1)) : Calls Try.prog 9 #[.agg m.cells.toArray] w (PutR m w) := by
  have hrow := heap_alloc_new w (.cells m.cells.toArray 34)
  have hb1 := bl1 w (.cells m.cells.toArray 34)
  have c0 : (w.alloc (.cells m.cells.toArray 34)).cell? ⟨w.heap.size, 0, none⟩ = some (.int .i64 m.kind) := by unfold World.cell?; rw [hrow]; simpa using (Msg.get hok.ln).1
  have HMAY : Hid _ := may_c m _ (hok.bel hb1) h63
  have HBD : Hid (∀ X, Below w.heap.size w X → isK m.kind = true → mayB m = true → Calls Try.prog 21 #[.agg m.cells.toArray] X (RbR X m (bodyS m).1)) := fun X hX => hbody X (hok.bel hX)
  have hA0 : m.cells.toArray[0]? = some (.int .i64 m.kind) := by simpa using (Msg.get hok.ln).1
  have HROW : Hid _ := hrow
  have m72 : (Try.prog.info? 34).map (·.size) = some m.cells.toArray.toList.length := i34s.trans (by simp [cells_len hok.ln])
  have hu := u34s
  have HB : Hid (Below w.heap.size w (w.alloc (.cells m.cells.toArray 34))) := hb1
  have HLN : Hid _ := bodyS_len m hok.ln
  clear hrow hb1 hok hbody h63
  generalize m.cells.toArray = A at *
  go_enter Try.func9, Try.ntmps9
  go_wp2_with fail
  generalize w.alloc (.cells A 34) = W1 at *
  refine Calls.mono (known_c m.kind W1) ?_
  rintro e W1' ⟨rfl, rfl⟩
  as_aux_lemma =>
  cases hk : isK m.kind
  · as_aux_lemma =>
    have HF : Hid (PutR m w (.returned (.tuple #[.slice none 0 0, .int .i64 12])) W1') := putR_no (by simp [putE, hk]) (by decide) HB.out
    clear hk
    go_wp2_with fail
    go_ret2
    exact HF.out
  · have hmi := may_iff m hk
    have hkv := isK_vals hk
    go_wp2_with (refine wpList_load_row rfl 34 (.tmp 1) rfl w.heap.size rfl 34 _ (0, 0) _ HROW.out hu rfl m72 (Hid.out ?_))
    refine mkHid ?_
    go_wp2_with fail
    refine Calls.mono HMAY.out ?_
    rintro e W2 ⟨rfl, hb2⟩
    have HB2 : Hid (Below w.heap.size w W2) := HB.out.trans (hb2.mono HB.out.size)
    have HROW2 : Hid (W2.heap[w.heap.size]? = some (.cells A 34 (0, 0))) := (hb2.block _ (lt_block HROW.out)).trans HROW.out
    clear hb2 HMAY HROW HB c0
    cases hm : mayB m
    · as_aux_lemma =>
      have HF : Hid (PutR m w (.returned (.tuple #[.slice none 0 0, .int .i64 2])) W2) := putR_no (by simp [putE, hk, hmi, hm]) (by decide) HB2.out
      clear hk hmi hm
      go_wp2_with fail
      go_ret2
      exact HF.out
    · have HBY : Hid _ := HBD.out W2 HB2.out hk hm
      have hE0 : putE m = 0 := by simp [putE, hk, hmi, hm]
      clear hk hmi hm HBD
      as_aux_lemma =>
      go_wp2_with (refine wpList_load_row rfl 34 (.tmp 1) rfl w.heap.size rfl 34 _ (0, 0) _ HROW2.out hu rfl m72 (Hid.out ?_))
      refine mkHid ?_
      go_wp2_with fail
      refine Calls.mono HBY.out ?_
      rintro e W3 ⟨o, c, rfl, hy, hb3⟩
      have HB3 : Hid (Below w.heap.size w W3) := HB2.out.trans (hb3.mono HB2.out.size)
      have hrow3 : W3.heap[w.heap.size]? = some (.cells A 34 (0, 0)) := (hb3.block _ (lt_block HROW2.out)).trans HROW2.out
      have c3 : W3.cell? ⟨w.heap.size, 0, none⟩ = some (.int .i64 m.kind) := by unfold World.cell?; rw [hrow3]; exact hA0
      have HY : Hid _ := hy
      have hw8 : IntKind.u8.wrap m.kind = m.kind := by rw [IntKind.wrap_u8]; omega
      have hln := HLN.out
      clear hy hb3 HBY HROW2 hrow3
      have HPL : Hid (putE m = 0 → putL m = ([UInt8.ofNat m.kind.toNat] ++ be 3 (uN (bodyS m).1.length)) ++ (bodyS m).1) := fun h => by unfold putL putB; rw [if_pos h]
      generalize (bodyS m).1 = Y at *
      obtain ⟨N, hN⟩ : ∃ N, Y.length = N := ⟨_, rfl⟩
      rw [hN] at HPL hln ⊢
      have hb4 := bl1 W3 (.cells #[.int .u8 m.kind, .int .u8 ((N : Int) / 65536), .int .u8 ((N : Int) / 256 % 256), .int .u8 ((N : Int) % 256)] 5)
      have hrow4 := heap_alloc_new W3 (.cells #[.int .u8 m.kind, .int .u8 ((N : Int) / 65536), .int .u8 ((N : Int) / 256 % 256), .int .u8 ((N : Int) % 256)] 5)
      rw [← head4 m.kind N hkv.1 hkv.2 hln] at hrow4
      have hlen4 : ([UInt8.ofNat m.kind.toNat] ++ be 3 (uN (N : Int))).length = 4 := by simp [be_length]
      have hown := own_of hrow4 HB3.out.size (by rw [hlen4]; omega)
      rw [head4 m.kind N hkv.1 hkv.2 hln] at hown
      have hsl := By.sl HY.out
      obtain ⟨o7, c7, Z7, r7, y7, g7⟩ := app_b (n := w.heap.size) (l := [UInt8.ofNat m.kind.toNat] ++ be 3 (uN (N : Int))) hown (Nat.le_trans HB3.out.size hb4.size) o c Y (Sl_bel hsl.1 hb4) hsl.2 (by rw [hlen4, hN]; omega)
      rw [hlen4, hN] at r7
      have HRN : Hid _ := r7
      have HF : Hid (PutR m w (.returned (.tuple #[.slice o7 ([UInt8.ofNat m.kind.toNat] ++ be 3 (uN (N : Int)) ++ Y).length c7, .int .i64 0])) Z7) := by
        refine ⟨_, by rw [hE0], ?_, (HB3.out.trans (hb4.mono HB3.out.size)).trans (g7.below (Nat.le_trans HB3.out.size hb4.size) (Nat.le_refl _))⟩
        have e : putL m = [UInt8.ofNat m.kind.toNat] ++ be 3 (uN (N : Int)) ++ Y := HPL.out hE0
        rw [e]
        exact y7
      clear r7 y7 g7 hown hsl hrow4 hb4 hlen4 HY hA0 HB3 HPL
      generalize ([UInt8.ofNat m.kind.toNat] ++ be 3 (uN (N : Int)) ++ Y).length = NN at *
      as_aux_lemma =>
      go_wp2_with (refine appr rfl _ _ 25 25 rfl _ _ rfl rfl HRN.out (Hid.out ?_))
      refine mkHid ?_
      go_wp2_with fail
      go_ret2
      exact HF.out
end Go.Proofs.Ytcchlicokglmnaa
