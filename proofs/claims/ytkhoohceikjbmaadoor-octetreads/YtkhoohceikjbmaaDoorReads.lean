/- The walk of caravellaw01.OctetReads. -/
import Derived.Test.YtkhoohceikjbmaaDoorVarAny
import Derived.Test.YtkhoohceikjbmaaDoorIn
import Derived.Test.YtkhoohceikjbmaaDoorBack
namespace Go.Proofs.YtkhoohceikjbmaaDoor
open Go.ChangeShapes Go.WideShapes Go.ChangeAt Go.RowKit
set_option linter.unusedVariables false

set_option maxRecDepth 10000 in
theorem reads_walk (ao : Option Addr) (l : List UInt8) (cap : Nat) (a n : Int) (w : World) (ht : Tb w) (hs : Sl w ao l) (hl : l.length ≤ 140737488351232) (hcap : l.length ≤ cap) (hcm : cap ≤ 9223372036854775807) (hnil : ao = none → l.length = 0 ∧ cap = 0) :
    Calls Tryd.prog 4 #[.slice ao l.length cap, .int .i64 a, .int .i64 n] w fun e w' => e = .returned (.bool true) ∧ Below w.heap.size w w' := by
  obtain ⟨i0, hi, hz0, hz1, hz2⟩ := info_parts info5
  have HT := mkHid ht
  have HS := mkHid hs
  have HN := mkHid hnil
  clear ht hs hnil
  go_enter Tryd.func4, Tryd.ntmps4
  go_wp2_with (first
    | (at_builtin; refine wpList_append_bytes rfl (.tmp 20) (.tmp 21) rfl w.heap.size i0 Tryd.underlying22 hi hz0 hz1 hz2 _ 0 [] rfl (World.ownsRow_made w #[] 0 (Nat.le_refl _) (by decide) rfl) ao l.length cap l rfl rfl HN.out (Sl_alloc HS.out _) (by omega) (by simp) ?_; intro v1 w1 hown hgrow; have HO1 := mkHid hown; have HG1 := mkHid hgrow; clear hown hgrow)
    | (at_builtin; refine wpList_append_bytes rfl (.tmp 22) (.tmp 23) rfl w.heap.size i0 Tryd.underlying22 hi hz0 hz1 hz2 v1 (0 + l.length) ([] ++ bc l) rfl (HO1.out.alloc _) (some ⟨w1.heap.size, 0, none⟩) 1 1 [90] rfl rfl (fun h => by cases h) (Sl_new w1 90) (by omega) (by have := HG1.out.size; simp at this ⊢; omega) ?_; intro v2 w2 hown hgrow; obtain ⟨g, cp, cur, hmi⟩ := made_in HO1.out HG1.out hown hgrow; have HM := mkHid hmi; clear hown hgrow hmi HO1 HG1; have hv2 := HM.out.val; subst hv2; have hroom := HM.out.room; have hmost := HM.out.most))
  have HT2 := mkHid (Tb_below HT.out HM.out.below (Tb_pos HT.out))
  have HS2 := mkHid (Sl_below HS.out HM.out.below)
  refine (var_any _ l cp a _ HT2.out HM.out.sl (by omega)).mono ?_
  rintro e w' ⟨rfl, rfl⟩
  go_wp2_with fail
  refine (rread_any ao l cap a _ HS2.out (by omega) hcap hcm).mono ?_
  rintro e w3 ⟨rfl, hb3⟩
  have HB3 := mkHid hb3
  clear hb3
  have HI3 := mkHid (Sl_below HM.out.sl HB3.out)
  have HS3 := mkHid (Sl_below HS2.out HB3.out)
  have HA3 := mkHid (Sl_below HM.out.all HB3.out)
  go_wp2_with fail
  refine (get_any _ l cp a n _ HI3.out (by omega)).mono ?_
  rintro e w' ⟨rfl, rfl⟩
  go_wp2_with fail
  refine (rget_any ao l cap a n _ HS3.out (by omega) hcap hcm).mono ?_
  rintro e w' ⟨rfl, rfl⟩
  have cx := str_any (cap := cp) (m := l.length + 1) HA3.out (by simp) (fun h => by cases h)
  have cy := str_any (cap := cap) HS3.out rfl HN.out
  have hb : l.length + 1 ≤ 9223372036854775807 := by omega
  have hadd : ((⟨l.toArray⟩ : ByteArray) ++ ⟨#[90]⟩) = ⟨(l ++ [90]).toArray⟩ := ByteArray.mk_append_mk l [90]
  go_wp2_with fail
  refine (names_any _).mono ?_
  rintro e w' ⟨rfl, rfl⟩
  go_wp2
  go_ret
  exact ⟨rfl, HM.out.below.trans (HB3.out.mono HM.out.below.size)⟩
end Go.Proofs.YtkhoohceikjbmaaDoor
