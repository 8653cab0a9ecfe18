/- The walk of caravellaw01.OctetPuts. -/
import Derived.Test.YtkhoohceikjbmaaDoorBehind
namespace Go.Proofs.YtkhoohceikjbmaaDoor
open Go.ChangeShapes Go.WideShapes Go.ChangeAt Go.RowKit
set_option linter.unusedVariables false

def siN (v : Int) : Int := if v < 0 ∨ 4611686018427387903 < v then 0 else szN v
theorem size_any (v : Int) (w : World) (ht : Tb w) :
    Calls Tryd.prog 14 #[.int .i64 v] w fun e w' => e = .returned (.tuple #[.int .i64 (siN v), .int .i64 (vaE v)]) ∧ w' = w := by
  by_cases h : v < 0 ∨ 4611686018427387903 < v
  · rw [vaE_no h, show siN v = 0 from if_pos h]; exact size_no v w ht h
  · rw [vaE_ok h, show siN v = szN v from if_neg h]; exact size_yes v w ht (by omega) (by omega)
theorem rsize_any (v : Int) (w : World) :
    Calls Tryd.prog 15 #[.int .i64 v] w fun e w' => e = .returned (.tuple #[.int .i64 (siN v), .int .i64 (vaE v)]) ∧ w' = w := by
  by_cases h : v < 0 ∨ 4611686018427387903 < v
  · rw [vaE_no h, show siN v = 0 from if_pos h]; exact rsize_no v w h
  · rw [vaE_ok h, show siN v = szN v from if_neg h]; exact rsize_yes v w (by omega) (by omega)
theorem wrap_bounds (v : Int) : 0 ≤ IntKind.u64.wrap v ∧ IntKind.u64.wrap v < 18446744073709551616 := by rw [IntKind.wrap_u64]; omega

/-- what the law's calls need of the world -/
structure St (W : World) (ao : Option Addr) (g : Nat) (l : List UInt8) : Prop where
  tab : Tb W
  own : Sl W (some ⟨g, 0, none⟩) l
  arg : Sl W ao l
  all : Sl W (some ⟨g, 0, none⟩) (l ++ [90])
theorem St.on {W W' : World} {ao : Option Addr} {g : Nat} {l : List UInt8} (h : St W ao g l) (hb : Below W.heap.size W W') : St W' ao g l :=
  ⟨Tb_below h.tab hb (Tb_pos h.tab), Sl_below h.own hb, Sl_below h.arg hb, Sl_below h.all hb⟩
theorem Res_lt {B : Nat} {w : World} {v : Value} {E : Int} {X : List UInt8} (h : Res B w v E X) : ∀ g n c, v = .slice (some ⟨g, 0, none⟩) n c → g < w.heap.size := by
  intro g n c he
  rcases h with ⟨_, _, ho⟩ | ⟨_, hn⟩
  · exact (ho.lt g (by rw [he]; rfl)).2
  · rw [hn] at he; cases he
theorem szN_le (v : Int) : (szN v).toNat ≤ 8 := by
  unfold szN
  by_cases h1 : v < 64
  · rw [if_pos h1]; decide
  · rw [if_neg h1]
    by_cases h2 : v < 16384
    · rw [if_pos h2]; decide
    · rw [if_neg h2]
      by_cases h3 : v < 1073741824
      · rw [if_pos h3]; decide
      · rw [if_neg h3]; decide
theorem wiE_len {v n : Int} (h : wiE v n = 0) : n.toNat ≤ 8 := by
  by_cases ha : v < 0 ∨ 4611686018427387903 < v ∨ mB n = false
  · rw [wiE_arg ha] at h; cases h
  · rcases mB_cases (n := n) (fun h => ha (.inr (.inr h))) with rfl | rfl | rfl | rfl <;> decide
theorem chain4 {a b c d e : World} (h1 : Below a.heap.size a b) (h2 : Below b.heap.size b c) (h3 : Below c.heap.size c d) (h4 : Below a.heap.size d e) : Below a.heap.size a e :=
  ((h1.trans (h2.mono h1.size)).trans (h3.mono (Nat.le_trans h1.size h2.size))).trans h4

set_option maxRecDepth 10000 in
set_option maxHeartbeats 1000000 in
theorem puts_in (ao : Option Addr) (l : List UInt8) (cap : Nat) (v n : Int) (w : World) (ht : Tb w) (hs : Sl w ao l) (hl : l.length ≤ 140737488351232) (hcap : l.length ≤ cap) (hcm : cap ≤ 9223372036854775807) (hnil : ao = none → l.length = 0 ∧ cap = 0) (hn1 : 1 ≤ n) (hn8 : n ≤ 8) :
    Calls Tryd.prog 3 #[.slice ao l.length cap, .int .i64 v, .int .i64 n] w fun e w' => e = .returned (.bool true) ∧ Below w.heap.size w w' := by
  obtain ⟨i0, hi, hz0, hz1, hz2⟩ := info_parts info5
  obtain ⟨hU0, hU1⟩ := wrap_bounds v
  obtain ⟨U, hU⟩ : ∃ U, IntKind.u64.wrap v = U := ⟨_, rfl⟩
  rw [hU] at hU0 hU1
  have HT := mkHid ht
  have HS := mkHid hs
  have HN := mkHid hnil
  clear ht hs hnil
  go_enter Tryd.func3, Tryd.ntmps3
  go_wp2_with (first
    | (at_builtin; refine wpList_append_bytes rfl (.tmp 20) (.tmp 21) rfl w.heap.size i0 Tryd.underlying22 hi hz0 hz1 hz2 _ 0 [] rfl (World.ownsRow_made w #[] 0 (Nat.le_refl _) (by decide) rfl) ao l.length cap l rfl rfl HN.out (Sl_alloc HS.out _) (by omega) (by simp) ?_; intro v1 w1 hown hgrow; have HO1 := mkHid hown; have HG1 := mkHid hgrow; clear hown hgrow)
    | (at_builtin; refine wpList_append_bytes rfl (.tmp 22) (.tmp 23) rfl w.heap.size i0 Tryd.underlying22 hi hz0 hz1 hz2 v1 (0 + l.length) ([] ++ bc l) rfl (HO1.out.alloc _) (some ⟨w1.heap.size, 0, none⟩) 1 1 [90] rfl rfl (fun h => by cases h) (Sl_new w1 90) (by omega) (by have := HG1.out.size; simp at this ⊢; omega) ?_; intro v2 w2 hown hgrow; obtain ⟨g, cp, cur, hmi⟩ := made_in HO1.out HG1.out hown hgrow; have HM := mkHid hmi; clear hown hgrow hmi HO1 HG1; have hv2 := HM.out.val; subst hv2; have hroom := HM.out.room; have hmost := HM.out.most))
  have HS0 : Hid (St w2 ao g l) := ⟨Tb_below HT.out HM.out.below (Tb_pos HT.out), HM.out.sl, Sl_below HS.out HM.out.below, HM.out.all⟩
  clear HT HS
  refine (putv_any _ l cp v _ HS0.out.tab HS0.out.own hl).mono ?_
  rintro e w3 ⟨x1, rfl, hr, hb⟩
  have HX1 := mkHid hr
  have HB3 := mkHid hb
  have HS3 := mkHid (HS0.out.on hb)
  clear hr hb
  go_wp2_with fail
  refine (putv_any _ l cp v _ HS3.out.tab HS3.out.own hl).mono ?_
  rintro e w4 ⟨y1, rfl, hr, hb⟩
  have HY1 := mkHid hr
  have HB4 := mkHid hb
  have HS4 := mkHid (HS3.out.on hb)
  clear hr hb
  go_wp2_with fail
  refine (rvar_any v _).mono ?_
  rintro e w5 ⟨t1, rfl, hr, hb⟩
  have HW1 := mkHid hr
  have HB5 := mkHid hb
  have HS5 := mkHid (HS4.out.on hb)
  clear hr hb
  go_wp2_with fail
  refine (behind_any ao l (enc (szN v) v) cap w2.heap.size w3.heap.size w4.heap.size x1 y1 t1 (vaE v) _ HS5.out.arg HN.out ?hlen1 (Res_below (C := 0) (Res_below (C := 0) HX1.out HB4.out) HB5.out) (Res_below (C := 0) HY1.out HB5.out) HW1.out (Res_lt HX1.out)).mono ?_
  case hlen1 => intro _; rw [List.length_append, enc_length]; have := szN_le v; omega
  rintro e w6 ⟨rfl, hb⟩
  have HC6 := mkHid (chain4 HB3.out HB4.out HB5.out hb)
  have HS6 := mkHid (HS0.out.on HC6.out)
  clear hb HX1 HY1 HW1 HB3 HB4 HB5 HS3 HS4 HS5 HS0
  go_wp2_with fail
  refine (putw_any _ l cp v n _ HS6.out.tab HS6.out.own hl).mono ?_
  rintro e w7 ⟨x2, rfl, hr, hb⟩
  have HX2 := mkHid hr
  have HB7 := mkHid hb
  have HS7 := mkHid (HS6.out.on hb)
  clear hr hb
  go_wp2_with fail
  refine (putw_any _ l cp v n _ HS7.out.tab HS7.out.own hl).mono ?_
  rintro e w8 ⟨y2, rfl, hr, hb⟩
  have HY2 := mkHid hr
  have HB8 := mkHid hb
  have HS8 := mkHid (HS7.out.on hb)
  clear hr hb
  go_wp2_with fail
  refine (rwide_any v n _).mono ?_
  rintro e w9 ⟨t2, rfl, hr, hb⟩
  have HW2 := mkHid hr
  have HB9 := mkHid hb
  have HS9 := mkHid (HS8.out.on hb)
  clear hr hb
  go_wp2_with fail
  refine (behind_any ao l (enc n v) cap w6.heap.size w7.heap.size w8.heap.size x2 y2 t2 (wiE v n) _ HS9.out.arg HN.out ?hlen2 (Res_below (C := 0) (Res_below (C := 0) HX2.out HB8.out) HB9.out) (Res_below (C := 0) HY2.out HB9.out) HW2.out (Res_lt HX2.out)).mono ?_
  case hlen2 => intro h; rw [List.length_append, enc_length]; have := wiE_len h; omega
  rintro e w10 ⟨rfl, hb⟩
  have HC10 := mkHid (chain4 HB7.out HB8.out HB9.out hb)
  have HS10 := mkHid (HS6.out.on HC10.out)
  clear hb HX2 HY2 HW2 HB7 HB8 HB9 HS7 HS8 HS9 HS6
  go_wp2_with fail
  refine (put_yes _ l cp U n _ HS10.out.own hl hU0 hU1 hn1 hn8).mono ?_
  rintro e w11 ⟨x3, rfl, hr, hb⟩
  have HX3 := mkHid hr
  have HB11 := mkHid hb
  have HS11 := mkHid (HS10.out.on hb)
  clear hr hb
  go_wp2_with fail
  refine (put_yes _ l cp U n _ HS11.out.own hl hU0 hU1 hn1 hn8).mono ?_
  rintro e w12 ⟨y3, rfl, hr, hb⟩
  have HY3 := mkHid hr
  have HB12 := mkHid hb
  have HS12 := mkHid (HS11.out.on hb)
  clear hr hb
  go_wp2_with fail
  refine (bytes_int U n _ hU0 hU1 hn1 hn8).mono ?_
  rintro e w13 ⟨t3, rfl, ho, hb⟩
  have HW3 : Hid (Res w12.heap.size w13 t3 0 (be n.toNat U.toNat)) := .inl ⟨rfl, by rw [be_length]; omega, by rw [be_length]; exact ho⟩
  have HB13 := mkHid hb
  have HS13 := mkHid (HS12.out.on hb)
  clear ho hb
  go_wp2_with fail
  refine (size_any v _ HS13.out.tab).mono ?_
  rintro e w' ⟨rfl, rfl⟩
  go_wp2_with fail
  refine (rsize_any v _).mono ?_
  rintro e w' ⟨rfl, rfl⟩
  go_wp2_with fail
  refine (behind_any ao l (be n.toNat U.toNat) cap w10.heap.size w11.heap.size w12.heap.size x3 y3 t3 0 _ HS13.out.arg HN.out ?hlen3 (Res_below (C := 0) (Res_below (C := 0) HX3.out HB12.out) HB13.out) (Res_below (C := 0) HY3.out HB13.out) HW3.out (Res_lt HX3.out)).mono ?_
  case hlen3 => intro _; rw [List.length_append, be_length]; omega
  rintro e w14 ⟨rfl, hb⟩
  have HC14 := mkHid (chain4 HB11.out HB12.out HB13.out hb)
  have HS14 := mkHid (HS10.out.on HC14.out)
  clear hb
  have cx := str_any (cap := cp) (m := l.length + 1) HS14.out.all (by simp) (fun h => by cases h)
  have cy := str_any (cap := cap) HS14.out.arg rfl HN.out
  have hbnd : l.length + 1 ≤ 9223372036854775807 := by omega
  have hadd : ((⟨l.toArray⟩ : ByteArray) ++ ⟨#[90]⟩) = ⟨(l ++ [90]).toArray⟩ := ByteArray.mk_append_mk l [90]
  go_wp2_with fail
  refine (names_any _).mono ?_
  rintro e w' ⟨rfl, rfl⟩
  go_wp2
  go_ret
  have k6 := HM.out.below.trans (HC6.out.mono HM.out.below.size)
  have k10 := k6.trans (HC10.out.mono k6.size)
  exact ⟨rfl, k10.trans (HC14.out.mono k10.size)⟩
end Go.Proofs.YtkhoohceikjbmaaDoor
