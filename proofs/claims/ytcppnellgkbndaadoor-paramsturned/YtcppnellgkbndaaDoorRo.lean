/- params: the reference: one: a number, a length and a text. -/
import Derived.Test.YtcppnellgkbndaaDoorRn
import Derived.Test.YtcppnellgkbndaaDoorMl
import Derived.Lib.AppendStr
namespace Go.Proofs.YtcppnellgkbndaaDoor
open Go.ChangeShapes Go.WideShapes Go.ChangeAt Go.RowKit Go.Lib
set_option linter.unusedVariables false
set_option maxRecDepth 100000

theorem un9 : Tryd.prog.underlying 9 = some .string := by kernel_rfl
set_option maxHeartbeats 1000000 in
theorem one_core (k : Int) (s : ByteArray) (A C : List UInt8) (AN CN SN : Nat) (w : World)
    (hp1 : Calls Tryd.prog 23 #[.int .i64 k] w fun e w' => ∃ x, e = .returned (.tuple #[x, .int .i64 0]) ∧ Res w.heap.size w' x 0 A ∧ Below w.heap.size w w')
    (HP2 : Aside (∀ (X : World), Calls Tryd.prog 23 #[.int .i64 SN] X fun e w' => ∃ x, e = .returned (.tuple #[x, .int .i64 0]) ∧ Res X.heap.size w' x 0 C ∧ Below X.heap.size X w'))
    (hsn : s.size = SN) (HAN : Aside (A.length = AN)) (HCN : Aside (C.length = CN)) (HSZ : Aside (AN + CN + SN ≤ 140737488355328)) :
    Calls Tryd.prog 24 #[.int .i64 k, .string s] w fun e w' => ∃ x, e = .returned x ∧ w'.ownsRow w.heap.size 5 1 x (AN + CN + SN) (bc A ++ bc C ++ strCells s) ∧ 0 < AN ∧ Below w.heap.size w w' := by
  obtain ⟨i0, hi, hz0, hz1, hz2⟩ := info_parts info5
  go_enter Tryd.func24, Tryd.ntmps24
  go_wp2_with fail
  refine hp1.mono ?_
  rintro e W1 ⟨x, rfl, hres, hb1⟩
  obtain ⟨hA0, hown⟩ := res_ok hres
  rw [HAN.out] at hown hA0
  obtain ⟨g, cap1, rfl, hsl, hg1, hg2, hg3⟩ := own_sl hown HAN.out hA0
  have hp2 := HP2.out W1
  have HB1 : Aside (Below w.heap.size w W1) := hb1
  have HO1 : Aside (W1.ownsRow w.heap.size 5 1 (.slice (some ⟨g, 0, none⟩) AN cap1) AN (bc A)) := hown
  have HG1 : Aside (w.heap.size ≤ g ∧ g < W1.heap.size) := ⟨hg1, hg2⟩
  clear hres hown hb1 hsl hp1 HP2 hg1 hg2 hg3
  go_wp2_with fail
  refine hp2.mono ?_
  rintro e W2 ⟨x, rfl, hres, hb2⟩
  obtain ⟨hC0, hown⟩ := res_ok hres
  rw [HCN.out] at hown hC0
  obtain ⟨g2, cap2, rfl, hsl, hh1, hh2, hh3⟩ := own_sl hown HCN.out hC0
  have HO2 : Aside (W2.ownsRow w.heap.size 5 1 (.slice (some ⟨g, 0, none⟩) AN cap1) AN (bc A)) := own_bel HO1.out hb2
  have HB2 : Aside (Below w.heap.size w W2) := HB1.out.trans (hb2.mono HB1.out.size)
  have HV2 : Aside (Sl W2 (some ⟨g2, 0, none⟩) C) := hsl
  clear hres hown hb2 hsl hp2 hh1 hh2 hh3 HO1
  have HS2 : Aside (AN + CN ≤ 140737488355328) := by have := HSZ.out; show _ ≤ _; omega
  go_wp2_with (first
    | (at_builtin; (refine wpList_append_bytes rfl (.tmp 20) (.tmp 21) rfl w.heap.size i0 Tryd.underlying22 hi hz0 hz1 hz2 (.slice (some ⟨g, 0, none⟩) AN cap1) AN (bc A) rfl HO2.out (some ⟨g2, 0, none⟩) CN cap2 C rfl HCN.out (fun h => by cases h) HV2.out HS2.out HB2.out.size ?_; intro v3 W3 hown hgrow; have HO3 : Aside (W3.ownsRow w.heap.size 5 1 v3 (AN + CN) (bc A ++ bc C)) := hown; have HB3 : Aside (Below w.heap.size w W3) := HB2.out.grown hgrow HB2.out.size (by intro k hk; have h2 := HG1.out.1; simp only [Value.ownBlock, Option.some.injEq] at hk; omega); clear hown hgrow))
    | (at_builtin; (refine wpList_append_own_string W3 rfl (.tmp 22) (.tmp 23) 22 9 rfl w.heap.size 5 i0 Tryd.underlying22 un9 hi hz0 hz1 hz2 v3 (AN + CN) (bc A ++ bc C) rfl HO3.out s rfl (by have := HSZ.out; unfold maxLen; rw [hsn]; omega) (by have := HSZ.out; rw [hsn]; omega) HB3.out.size ?_; intro v4 W4 hown hgrow _; have HO4 : Aside (W4.ownsRow w.heap.size 5 1 v4 (AN + CN + s.size) (bc A ++ bc C ++ strCells s)) := hown; have HB4 : Aside (Below w.heap.size w W4) := HB3.out.grown hgrow HB3.out.size (fun k hk => (HO3.out.lt k hk).1); clear hown hgrow)))
  go_ret
  refine ⟨v4, rfl, ?_, hA0, HB4.out⟩
  have := HO4.out
  rw [hsn] at this
  exact this
theorem one_c (k : Int) (s : ByteArray) (w : World) (h0 : 0 ≤ k) (h1 : k ≤ 1000) (hs : s.size ≤ 1000) : Calls Tryd.prog 24 #[.int .i64 k, .string s] w fun e w' => ∃ x, e = .returned x ∧ w'.ownsRow w.heap.size 5 1 x (layB k s.data.toList).length (bc (layB k s.data.toList)) ∧ 0 < (layB k s.data.toList).length ∧ Below w.heap.size w w' := by
  have hsz : s.data.toList.length = s.size := by show s.data.toList.length = s.data.size; exact Array.length_toList
  have hp1 := rvar_any k w
  rw [vaE_ok (v := k) (by omega)] at hp1
  have a := szN_le k
  have b := szN_le s.size
  refine (one_core k s (enc (szN k) k) (enc (szN s.size) s.size) _ _ s.size w hp1 (fun X => ?_) rfl rfl rfl (by show _ ≤ _; rw [enc_length, enc_length]; omega)).mono ?_
  · have := rvar_any s.size X
    rw [vaE_ok (v := (s.size : Int)) (by omega)] at this
    exact this
  · rintro e w' ⟨x, rfl, h1, h2, h3⟩
    have e1 : bc (layB k s.data.toList) = bc (enc (szN k) k) ++ bc (enc (szN s.size) s.size) ++ strCells s := by
      unfold layB
      rw [bc_app, bc_app, hsz, List.append_assoc]
      rfl
    have e2 : (layB k s.data.toList).length = (enc (szN k) k).length + (enc (szN s.size) s.size).length + s.size := by
      unfold layB
      rw [List.length_append, List.length_append, hsz, Nat.add_assoc]
    refine ⟨x, rfl, ?_, ?_, h3⟩
    · rw [e1, e2]; exact h1
    · rw [e2]; omega
end Go.Proofs.YtcppnellgkbndaaDoor
