/- The walk of caravellaw01.OctetPuts, where n is no count of bytes. -/
import Derived.Test.YtkhoohceikjbmaaDoorPuts
namespace Go.Proofs.YtkhoohceikjbmaaDoor
open Go.ChangeShapes Go.WideShapes Go.ChangeAt Go.RowKit
set_option linter.unusedVariables false

set_option maxRecDepth 10000 in
set_option maxHeartbeats 1000000 in
theorem puts_lo (ao : Option Addr) (l : List UInt8) (cap : Nat) (v n : Int) (w : World) (ht : Tb w) (hs : Sl w ao l) (hl : l.length ≤ 140737488351232) (hcap : l.length ≤ cap) (hcm : cap ≤ 9223372036854775807) (hnil : ao = none → l.length = 0 ∧ cap = 0) (hn : n < 1) :
    Calls Tryd.prog 3 #[.slice ao l.length cap, .int .i64 v, .int .i64 n] w fun e w' => e = .returned (.bool true) ∧ Below w.heap.size w w' := by
  obtain ⟨i0, hi, hz0, hz1, hz2⟩ := info_parts info5
  obtain ⟨hU0, hU1⟩ := wrap_bounds v
  obtain ⟨U, hU⟩ : ∃ U, IntKind.u64.wrap v = U := ⟨_, rfl⟩
  rw [hU] at hU0 hU1
  have HT := mkHid ht
  have HS := mkHid hs
  have HN := mkHid hnil
  clear ht hs hnil
  go_enter Tryd.func3, Tryd.ntmps3
  go_wp2_with (first
    | (at_builtin; refine wpList_append_bytes rfl (.tmp 20) (.tmp 21) rfl w.heap.size i0 Tryd.underlying22 hi hz0 hz1 hz2 _ 0 [] rfl (World.ownsRow_made w #[] 0 (Nat.le_refl _) (by decide) rfl) ao l.length cap l rfl rfl HN.out (Sl_alloc HS.out _) (by omega) (by simp) ?_; intro v1 w1 hown hgrow; have HO1 := mkHid hown; have HG1 := mkHid hgrow; clear hown hgrow)
    | (at_builtin; refine wpList_append_bytes rfl (.tmp 22) (.tmp 23) rfl w.heap.size i0 Tryd.underlying22 hi hz0 hz1 hz2 v1 (0 + l.length) ([] ++ bc l) rfl (HO1.out.alloc _) (some ⟨w1.heap.size, 0, none⟩) 1 1 [90] rfl rfl (fun h => by cases h) (Sl_new w1 90) (by omega) (by have := HG1.out.size; simp at this ⊢; omega) ?_; intro v2 w2 hown hgrow; obtain ⟨g, cp, cur, hmi⟩ := made_in HO1.out HG1.out hown hgrow; have HM := mkHid hmi; clear hown hgrow hmi HO1 HG1; have hv2 := HM.out.val; subst hv2; have hroom := HM.out.room; have hmost := HM.out.most))
  have HS0 : Hid (St w2 ao g l) := ⟨Tb_below HT.out HM.out.below (Tb_pos HT.out), HM.out.sl, Sl_below HS.out HM.out.below, HM.out.all⟩
  clear HT HS
  refine (putv_any _ l cp v _ HS0.out.tab HS0.out.own hl).mono ?_
  rintro e w3 ⟨x1, rfl, hr, hb⟩
  have HX1 := mkHid hr
  have HB3 := mkHid hb
  have HS3 := mkHid (HS0.out.on hb)
  clear hr hb
  go_wp2_with fail
  refine (putv_any _ l cp v _ HS3.out.tab HS3.out.own hl).mono ?_
  rintro e w4 ⟨y1, rfl, hr, hb⟩
  have HY1 := mkHid hr
  have HB4 := mkHid hb
  have HS4 := mkHid (HS3.out.on hb)
  clear hr hb
  go_wp2_with fail
  refine (rvar_any v _).mono ?_
  rintro e w5 ⟨t1, rfl, hr, hb⟩
  have HW1 := mkHid hr
  have HB5 := mkHid hb
  have HS5 := mkHid (HS4.out.on hb)
  clear hr hb
  go_wp2_with fail
  refine (behind_any ao l (enc (szN v) v) cap w2.heap.size w3.heap.size w4.heap.size x1 y1 t1 (vaE v) _ HS5.out.arg HN.out ?hlen1 (Res_below (C := 0) (Res_below (C := 0) HX1.out HB4.out) HB5.out) (Res_below (C := 0) HY1.out HB5.out) HW1.out (Res_lt HX1.out)).mono ?_
  case hlen1 => intro _; rw [List.length_append, enc_length]; have := szN_le v; omega
  rintro e w6 ⟨rfl, hb⟩
  have HC6 := mkHid (chain4 HB3.out HB4.out HB5.out hb)
  have HS6 := mkHid (HS0.out.on HC6.out)
  clear hb HX1 HY1 HW1 HB3 HB4 HB5 HS3 HS4 HS5 HS0
  go_wp2_with fail
  refine (putw_any _ l cp v n _ HS6.out.tab HS6.out.own hl).mono ?_
  rintro e w7 ⟨x2, rfl, hr, hb⟩
  have HX2 := mkHid hr
  have HB7 := mkHid hb
  have HS7 := mkHid (HS6.out.on hb)
  clear hr hb
  go_wp2_with fail
  refine (putw_any _ l cp v n _ HS7.out.tab HS7.out.own hl).mono ?_
  rintro e w8 ⟨y2, rfl, hr, hb⟩
  have HY2 := mkHid hr
  have HB8 := mkHid hb
  have HS8 := mkHid (HS7.out.on hb)
  clear hr hb
  go_wp2_with fail
  refine (rwide_any v n _).mono ?_
  rintro e w9 ⟨t2, rfl, hr, hb⟩
  have HW2 := mkHid hr
  have HB9 := mkHid hb
  have HS9 := mkHid (HS8.out.on hb)
  clear hr hb
  go_wp2_with fail
  refine (behind_any ao l (enc n v) cap w6.heap.size w7.heap.size w8.heap.size x2 y2 t2 (wiE v n) _ HS9.out.arg HN.out ?hlen2 (Res_below (C := 0) (Res_below (C := 0) HX2.out HB8.out) HB9.out) (Res_below (C := 0) HY2.out HB9.out) HW2.out (Res_lt HX2.out)).mono ?_
  case hlen2 => intro h; rw [List.length_append, enc_length]; have := wiE_len h; omega
  rintro e w10 ⟨rfl, hb⟩
  have HC10 := mkHid (chain4 HB7.out HB8.out HB9.out hb)
  have HS10 := mkHid (HS6.out.on HC10.out)
  clear hb HX2 HY2 HW2 HB7 HB8 HB9 HS7 HS8 HS9 HS6
  go_wp2_with fail
  refine (put_no _ l.length cp U n _ (by omega)).mono ?_
  rintro e w11 ⟨rfl, rfl⟩
  go_wp2_with fail
  refine (put_no _ l.length cp U n _ (by omega)).mono ?_
  rintro e w12 ⟨rfl, rfl⟩
  go_wp2_with fail
  refine (size_any v _ HS10.out.tab).mono ?_
  rintro e w' ⟨rfl, rfl⟩
  go_wp2_with fail
  refine (rsize_any v _).mono ?_
  rintro e w' ⟨rfl, rfl⟩
  go_wp2_with fail
  refine (behind_any ao l [] cap w'.heap.size w'.heap.size w'.heap.size _ _ _ 2 _ HS10.out.arg HN.out (fun h => by cases h) (Res_nil (by decide)) (Res_nil (by decide)) (Res_nil (by decide)) (fun _ _ _ h => by cases h)).mono ?_
  rintro e w14 ⟨rfl, hb⟩
  have HC14 := mkHid hb
  have HS14 := mkHid (HS10.out.on HC14.out)
  clear hb
  have cx := str_any (cap := cp) (m := l.length + 1) HS14.out.all (by simp) (fun h => by cases h)
  have cy := str_any (cap := cap) HS14.out.arg rfl HN.out
  have hbnd : l.length + 1 ≤ 9223372036854775807 := by omega
  have hadd : ((⟨l.toArray⟩ : ByteArray) ++ ⟨#[90]⟩) = ⟨(l ++ [90]).toArray⟩ := ByteArray.mk_append_mk l [90]
  go_wp2_with fail
  refine (names_any _).mono ?_
  rintro e w' ⟨rfl, rfl⟩
  go_wp2
  go_ret
  have k6 := HM.out.below.trans (HC6.out.mono HM.out.below.size)
  have k10 := k6.trans (HC10.out.mono k6.size)
  exact ⟨rfl, k10.trans (HC14.out.mono k10.size)⟩

set_option maxRecDepth 10000 in
set_option maxHeartbeats 1000000 in
theorem puts_hi (ao : Option Addr) (l : List UInt8) (cap : Nat) (v n : Int) (w : World) (ht : Tb w) (hs : Sl w ao l) (hl : l.length ≤ 140737488351232) (hcap : l.length ≤ cap) (hcm : cap ≤ 9223372036854775807) (hnil : ao = none → l.length = 0 ∧ cap = 0) (hn1 : 1 ≤ n) (hn : 8 < n) :
    Calls Tryd.prog 3 #[.slice ao l.length cap, .int .i64 v, .int .i64 n] w fun e w' => e = .returned (.bool true) ∧ Below w.heap.size w w' := by
  obtain ⟨i0, hi, hz0, hz1, hz2⟩ := info_parts info5
  obtain ⟨hU0, hU1⟩ := wrap_bounds v
  obtain ⟨U, hU⟩ : ∃ U, IntKind.u64.wrap v = U := ⟨_, rfl⟩
  rw [hU] at hU0 hU1
  have HT := mkHid ht
  have HS := mkHid hs
  have HN := mkHid hnil
  clear ht hs hnil
  go_enter Tryd.func3, Tryd.ntmps3
  go_wp2_with (first
    | (at_builtin; refine wpList_append_bytes rfl (.tmp 20) (.tmp 21) rfl w.heap.size i0 Tryd.underlying22 hi hz0 hz1 hz2 _ 0 [] rfl (World.ownsRow_made w #[] 0 (Nat.le_refl _) (by decide) rfl) ao l.length cap l rfl rfl HN.out (Sl_alloc HS.out _) (by omega) (by simp) ?_; intro v1 w1 hown hgrow; have HO1 := mkHid hown; have HG1 := mkHid hgrow; clear hown hgrow)
    | (at_builtin; refine wpList_append_bytes rfl (.tmp 22) (.tmp 23) rfl w.heap.size i0 Tryd.underlying22 hi hz0 hz1 hz2 v1 (0 + l.length) ([] ++ bc l) rfl (HO1.out.alloc _) (some ⟨w1.heap.size, 0, none⟩) 1 1 [90] rfl rfl (fun h => by cases h) (Sl_new w1 90) (by omega) (by have := HG1.out.size; simp at this ⊢; omega) ?_; intro v2 w2 hown hgrow; obtain ⟨g, cp, cur, hmi⟩ := made_in HO1.out HG1.out hown hgrow; have HM := mkHid hmi; clear hown hgrow hmi HO1 HG1; have hv2 := HM.out.val; subst hv2; have hroom := HM.out.room; have hmost := HM.out.most))
  have HS0 : Hid (St w2 ao g l) := ⟨Tb_below HT.out HM.out.below (Tb_pos HT.out), HM.out.sl, Sl_below HS.out HM.out.below, HM.out.all⟩
  clear HT HS
  refine (putv_any _ l cp v _ HS0.out.tab HS0.out.own hl).mono ?_
  rintro e w3 ⟨x1, rfl, hr, hb⟩
  have HX1 := mkHid hr
  have HB3 := mkHid hb
  have HS3 := mkHid (HS0.out.on hb)
  clear hr hb
  go_wp2_with fail
  refine (putv_any _ l cp v _ HS3.out.tab HS3.out.own hl).mono ?_
  rintro e w4 ⟨y1, rfl, hr, hb⟩
  have HY1 := mkHid hr
  have HB4 := mkHid hb
  have HS4 := mkHid (HS3.out.on hb)
  clear hr hb
  go_wp2_with fail
  refine (rvar_any v _).mono ?_
  rintro e w5 ⟨t1, rfl, hr, hb⟩
  have HW1 := mkHid hr
  have HB5 := mkHid hb
  have HS5 := mkHid (HS4.out.on hb)
  clear hr hb
  go_wp2_with fail
  refine (behind_any ao l (enc (szN v) v) cap w2.heap.size w3.heap.size w4.heap.size x1 y1 t1 (vaE v) _ HS5.out.arg HN.out ?hlen1 (Res_below (C := 0) (Res_below (C := 0) HX1.out HB4.out) HB5.out) (Res_below (C := 0) HY1.out HB5.out) HW1.out (Res_lt HX1.out)).mono ?_
  case hlen1 => intro _; rw [List.length_append, enc_length]; have := szN_le v; omega
  rintro e w6 ⟨rfl, hb⟩
  have HC6 := mkHid (chain4 HB3.out HB4.out HB5.out hb)
  have HS6 := mkHid (HS0.out.on HC6.out)
  clear hb HX1 HY1 HW1 HB3 HB4 HB5 HS3 HS4 HS5 HS0
  go_wp2_with fail
  refine (putw_any _ l cp v n _ HS6.out.tab HS6.out.own hl).mono ?_
  rintro e w7 ⟨x2, rfl, hr, hb⟩
  have HX2 := mkHid hr
  have HB7 := mkHid hb
  have HS7 := mkHid (HS6.out.on hb)
  clear hr hb
  go_wp2_with fail
  refine (putw_any _ l cp v n _ HS7.out.tab HS7.out.own hl).mono ?_
  rintro e w8 ⟨y2, rfl, hr, hb⟩
  have HY2 := mkHid hr
  have HB8 := mkHid hb
  have HS8 := mkHid (HS7.out.on hb)
  clear hr hb
  go_wp2_with fail
  refine (rwide_any v n _).mono ?_
  rintro e w9 ⟨t2, rfl, hr, hb⟩
  have HW2 := mkHid hr
  have HB9 := mkHid hb
  have HS9 := mkHid (HS8.out.on hb)
  clear hr hb
  go_wp2_with fail
  refine (behind_any ao l (enc n v) cap w6.heap.size w7.heap.size w8.heap.size x2 y2 t2 (wiE v n) _ HS9.out.arg HN.out ?hlen2 (Res_below (C := 0) (Res_below (C := 0) HX2.out HB8.out) HB9.out) (Res_below (C := 0) HY2.out HB9.out) HW2.out (Res_lt HX2.out)).mono ?_
  case hlen2 => intro h; rw [List.length_append, enc_length]; have := wiE_len h; omega
  rintro e w10 ⟨rfl, hb⟩
  have HC10 := mkHid (chain4 HB7.out HB8.out HB9.out hb)
  have HS10 := mkHid (HS6.out.on HC10.out)
  clear hb HX2 HY2 HW2 HB7 HB8 HB9 HS7 HS8 HS9 HS6
  go_wp2_with fail
  refine (put_no _ l.length cp U n _ (by omega)).mono ?_
  rintro e w11 ⟨rfl, rfl⟩
  go_wp2_with fail
  refine (put_no _ l.length cp U n _ (by omega)).mono ?_
  rintro e w12 ⟨rfl, rfl⟩
  go_wp2_with fail
  refine (size_any v _ HS10.out.tab).mono ?_
  rintro e w' ⟨rfl, rfl⟩
  go_wp2_with fail
  refine (rsize_any v _).mono ?_
  rintro e w' ⟨rfl, rfl⟩
  go_wp2_with fail
  refine (behind_any ao l [] cap w'.heap.size w'.heap.size w'.heap.size _ _ _ 2 _ HS10.out.arg HN.out (fun h => by cases h) (Res_nil (by decide)) (Res_nil (by decide)) (Res_nil (by decide)) (fun _ _ _ h => by cases h)).mono ?_
  rintro e w14 ⟨rfl, hb⟩
  have HC14 := mkHid hb
  have HS14 := mkHid (HS10.out.on HC14.out)
  clear hb
  have cx := str_any (cap := cp) (m := l.length + 1) HS14.out.all (by simp) (fun h => by cases h)
  have cy := str_any (cap := cap) HS14.out.arg rfl HN.out
  have hbnd : l.length + 1 ≤ 9223372036854775807 := by omega
  have hadd : ((⟨l.toArray⟩ : ByteArray) ++ ⟨#[90]⟩) = ⟨(l ++ [90]).toArray⟩ := ByteArray.mk_append_mk l [90]
  go_wp2_with fail
  refine (names_any _).mono ?_
  rintro e w' ⟨rfl, rfl⟩
  go_wp2
  go_ret
  have k6 := HM.out.below.trans (HC6.out.mono HM.out.below.size)
  have k10 := k6.trans (HC10.out.mono k6.size)
  exact ⟨rfl, k10.trans (HC14.out.mono k10.size)⟩

theorem puts_walk (ao : Option Addr) (l : List UInt8) (cap : Nat) (v n : Int) (w : World) (ht : Tb w) (hs : Sl w ao l) (hl : l.length ≤ 140737488351232) (hcap : l.length ≤ cap) (hcm : cap ≤ 9223372036854775807) (hnil : ao = none → l.length = 0 ∧ cap = 0) :
    Calls Tryd.prog 3 #[.slice ao l.length cap, .int .i64 v, .int .i64 n] w fun e w' => e = .returned (.bool true) ∧ Below w.heap.size w w' := by
  by_cases hn : n < 1 ∨ 8 < n
  · by_cases hn1 : n < 1
    · exact puts_lo ao l cap v n w ht hs hl hcap hcm hnil hn1
    · exact puts_hi ao l cap v n w ht hs hl hcap hcm hnil (by omega) (by omega)
  · exact puts_in ao l cap v n w ht hs hl hcap hcm hnil (by omega) (by omega)
end Go.Proofs.YtkhoohceikjbmaaDoor
