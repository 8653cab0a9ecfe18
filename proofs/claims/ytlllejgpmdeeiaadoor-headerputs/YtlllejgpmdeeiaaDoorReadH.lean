/- What header.Read answers: a contract. -/
import Derived.Test.YtlllejgpmdeeiaaDoorReadP
import Derived.Deep.RegionWith
namespace Go.Proofs.YtlllejgpmdeeiaaDoor
open Go.ChangeShapes Go.WideShapes Go.ChangeAt Go.RowKit
set_option linter.unusedVariables false

theorem Hd.below {w w' : World} {H : Nat} {k ver : Int} {dst src tok : Value} {len : Int} {ph : Bool} {lst : Value} {tg : List Value} (h : Hd w H k ver dst src tok len ph lst tg) (hb : Below w.heap.size w w') : Hd w' H k ver dst src tok len ph lst tg :=
  ⟨(hb.block H h.lt).trans h.1, h.2⟩
theorem By.other {B H : Nat} {w w' : World} {v : Value} {X : List UInt8} (h : By B w v X) (hHB : H < B) (hk : ∀ k, k ≠ H → w'.heap[k]? = w.heap[k]?) : By B w' v X := by
  obtain ⟨hl, hc | ⟨g, cap, cur, he, k1, k2, k3⟩⟩ := h
  · exact ⟨hl, .inl hc⟩
  · exact ⟨hl, .inr ⟨g, cap, cur, he, k1, (hk g (by omega)).trans k2, k3⟩⟩
theorem Lv.below {B : Nat} {w w' : World} {v : Value} {lst : List Int} (h : Lv B w v lst) (hb : Below w.heap.size w w') : Lv B w' v lst := by
  rcases h with h | ⟨h1, h2⟩
  · exact .inl h
  · refine .inr ⟨h1, h2.1, ?_⟩
    rcases h2.2 with k | ⟨g, cap, cur, he, k1, k2, k3⟩
    · exact .inl k
    · exact .inr ⟨g, cap, cur, he, k1, (hb.block g (lt_block k2)).trans k2, k3⟩
/-- three fields laid anew, and the row laid again -/
theorem read_blocks (w6 : World) (H : Nat) (v1 v2 v3 : Value) (cs : Array Value) : ∀ k, k ≠ H → (((((w6.setCell ⟨H, 2, none⟩ v1).setCell ⟨H, 3, none⟩ v2).setCell ⟨H, 4, none⟩ v3).setRow H cs).heap[k]?) = w6.heap[k]? := by
  intro k hk
  rw [setRow_other _ _ _ _ hk, Below.heap_setCell _ _ _ _ hk, Below.heap_setCell _ _ _ _ hk, Below.heap_setCell _ _ _ _ hk]
theorem read_end {w w2 W3 w4 w5 w6 : World} {l : List UInt8} {ids : Int} {p : PH} {lv : Value} {cs0 : Array Value} {oa1 oa2 oa3 : Option Addr} {d2 s2 t2 cp1 cp2 cp3 : Nat}
    (hW3 : W3 = w2.setRow w.heap.size cs0) (hB3 : Below w.heap.size w W3) (hlt : w.heap.size < W3.heap.size) (h4 : Below W3.heap.size W3 w4) (h5 : Below w4.heap.size w4 w5) (h6 : Below w5.heap.size w5 w6)
    (hp : parse l ids = some p) (hy1 : By W3.heap.size w4 (.slice oa1 d2 cp1) (piece l p.d)) (hy2 : By w4.heap.size w5 (.slice oa2 s2 cp2) (piece l p.s)) (hy3 : By w5.heap.size w6 (.slice oa3 t2 cp3) (piece l p.t)) (hlv : Lv (w.heap.size + 1) w2 lv p.lst) (cs : Array Value)
    (hcs : cs = (hc p.k p.ver (.slice oa1 d2 cp1) (.slice oa2 s2 cp2) (.slice oa3 t2 cp3) p.len p.ph lv (bc p.tag)).toArray) :
    ReadP w ((((w6.setCell ⟨w.heap.size, 2, none⟩ (.slice oa1 d2 cp1)).setCell ⟨w.heap.size, 3, none⟩ (.slice oa2 s2 cp2)).setCell ⟨w.heap.size, 4, none⟩ (.slice oa3 t2 cp3)).setRow w.heap.size cs) l ids cs p.at' 0 := by
  have hbk := read_blocks w6 w.heap.size (.slice oa1 d2 cp1) (.slice oa2 s2 cp2) (.slice oa3 t2 cp3) cs
  have s34 := h4.size
  have s45 := h5.size
  have s56 := h6.size
  have h46 : Below w4.heap.size w4 w6 := h5.trans (h6.mono s45)
  have h36 : Below W3.heap.size W3 w6 := h4.trans (h46.mono s34)
  refine ⟨?_, .inr ⟨rfl, p, _, _, _, lv, hp, hcs, rfl, ?_, ?_, ?_, ?_⟩⟩
  · exact below_setRow ((((hB3.trans (h36.mono (by omega))).setCell (Nat.le_refl _) _).setCell (Nat.le_refl _) _).setCell (Nat.le_refl _) _) (Nat.le_refl _) _
  · exact ((hy1.below h46).other (H := w.heap.size) (by omega) hbk).mono (by omega)
  · exact ((hy2.below h6).other (H := w.heap.size) (by omega) hbk).mono (by omega)
  · exact (hy3.other (H := w.heap.size) (by omega) hbk).mono (by omega)
  · have a1 : Lv (w.heap.size + 1) W3 lv p.lst := by rw [hW3]; exact hlv.other (H := 0) (fun k hk => setRow_other w2 _ k _ (by omega))
    exact ((a1.below h36).other (H := 0) (fun k hk => hbk k (by omega))).mono (by omega)

set_option maxRecDepth 10000 in
set_option maxHeartbeats 8000000 in
theorem read_any (ao : Option Addr) (l : List UInt8) (cap : Nat) (ids : Int) (w : World) (hs : Sl w ao l) (ht : Tb w) (hl : l.length ≤ 140737488355327) (hc' : l.length ≤ cap) (hcm : cap ≤ 9223372036854775807)
    (hv : num (sub l 1 4) = 0 → l.length ≤ 70368744177664) (b off : Nat) (hao : 0 < l.length → ao = some ⟨b, off, none⟩) :
    Calls Tryd.prog 16 #[.slice ao l.length cap, .int .i64 ids] w fun e w' => ∃ cs a E, e = .returned (.tuple #[.agg cs, .int .i64 a, .int .i64 E]) ∧ ReadP w w' l ids cs a E := by
  obtain ⟨d26, hd26⟩ := hu26
  have HS := mkHid hs
  have HT := mkHid ht
  have Hv := mkHid hv
  have HA := mkHid hao
  clear hs ht hv hao
  go_enter Tryd.func16, Tryd.ntmps16
  go_wp2_with fail
  refine (look_any ao l cap ids _ ?_ ?_ hl hc' hcm Hv.out b off HA.out).mono ?_
  · exact Sl_alloc HS.out _
  · exact Tb_below HT.out ((Below.refl w.heap.size w).alloc (Nat.le_refl _) _) (Tb_pos HT.out)
  rintro e w2 ⟨cs, a, E, rfl, hB, ⟨k, ver, d, s, t, len, ph, lv, tg, hcs, htg, hone⟩, hres⟩
  have HB : Hid (Below (w.alloc (.cells zr 26)).heap.size (w.alloc (.cells zr 26)) w2) := hB
  have HG : Hid (w2.heap[w.heap.size]? = some (.cells zr 26 (0, 0))) := (hB.block w.heap.size (by simp)).trans (heap_alloc_new w _)
  have HZ : Hid (cs.size = 24) := by rw [hcs]; exact hc_size htg
  have HONE : Hid (cs.all (·.oneCell') = true) := by rw [hcs]; show (hc k ver d s t len ph lv tg).toArray.all (·.oneCell') = true; simpa using hone
  have HRES := mkHid hres
  clear hB hcs htg hone hres
  by_cases hE : E = 0
  · subst hE
    go_wp2_with (first
      | (refine wpList_store_row rfl 26 (.tmp 4) (.tmp 11) rfl w.heap.size cs rfl rfl 26 zr HG.out (by rw [HZ.out]; exact sz26) (by rw [HZ.out]; rfl) HONE.out ?_))
    rcases HRES.out with ⟨h, _⟩ | ⟨_, p, lv', hp, hcs, rfl, hlv⟩
    · exact absurd rfl h
    obtain ⟨hrd, hrs, hrt, _, _⟩ := parse_range hp
    have hpos : 0 < l.length := by
      by_cases h : l.length = 0
      · unfold parse at hp; rw [if_pos (.inr (.inr h))] at hp; cases hp
      · omega
    obtain rfl := HA.out hpos
    have blt : b < w.heap.size := by
      obtain ⟨b', off', he, hx⟩ := HS.out 0 hpos
      simp only [Option.some.injEq, Addr.mk.injEq, and_true] at he
      obtain ⟨rfl, rfl⟩ := he
      exact World.block_lt_of_cell? w _ hx
    obtain ⟨W3, hW3⟩ : ∃ W3, W3 = w2.setRow w.heap.size cs := ⟨_, rfl⟩
    have HD3 : Hid (Hd W3 w.heap.size p.k p.ver (pv b off p.d) (pv b off p.s) (pv b off p.t) p.len p.ph lv' (bc p.tag)) := by
      refine ⟨?_, ?_⟩
      · rw [hW3, ← hcs]; exact setRow_heap _ _ _ _ 26 _ HG.out
      · have := HZ.out; rw [hcs, Array.size, hc_length] at this; omega
    have HB3 : Hid (Below w.heap.size w W3) := by rw [hW3]; exact below_setRow (((Below.refl w.heap.size w).alloc (Nat.le_refl _) (.cells zr 26)).trans (HB.out.mono (by simp))) (Nat.le_refl _) _
    have HS3 : Hid (Sl W3 (some ⟨b, off, none⟩) l) := Sl_below HS.out HB3.out
    have c2 := HD3.out.c2
    have c3 := HD3.out.c3
    have c4 := HD3.out.c4
    have c0 := HD3.out.c0
    have f3 := HD3.out.fr
    have K1 := fun W h1 h2 => clone_c w.heap.size b off l p.d W3 W HS3.out hrd hl blt h1 h2
    have K2 := fun W h1 h2 => clone_c w.heap.size b off l p.s W3 W HS3.out hrs hl blt h1 h2
    have K3 := fun W h1 h2 => clone_c w.heap.size b off l p.t W3 W HS3.out hrt hl blt h1 h2
    rw [← hW3]
    unfold pv at c2 c3 c4
    obtain ⟨d1, hd1⟩ : ∃ x, pvo b off p.d = x := ⟨_, rfl⟩
    obtain ⟨d2, hd2⟩ : ∃ x, pvn p.d = x := ⟨_, rfl⟩
    obtain ⟨s1, hs1⟩ : ∃ x, pvo b off p.s = x := ⟨_, rfl⟩
    obtain ⟨s2, hs2⟩ : ∃ x, pvn p.s = x := ⟨_, rfl⟩
    obtain ⟨t1, ht1⟩ : ∃ x, pvo b off p.t = x := ⟨_, rfl⟩
    obtain ⟨t2, ht2⟩ : ∃ x, pvn p.t = x := ⟨_, rfl⟩
    rw [hd1, hd2] at c2 K1
    rw [hs1, hs2] at c3 K2
    rw [ht1, ht2] at c4 K3
    have HK1 := mkHid K1
    have HK2 := mkHid K2
    have HK3 := mkHid K3
    have HP := mkHid hp
    have HCS := mkHid hcs
    have HLV := mkHid hlv
    have HHD := mkHid (And.intro hd1 hd2)
    have HHS := mkHid (And.intro hs1 hs2)
    have HHT := mkHid (And.intro ht1 ht2)
    have HW3 := mkHid hW3
    clear K1 K2 K3 hp hcs hlv hrd hrs hrt hd1 hd2 hs1 hs2 ht1 ht2 hW3 HRES
    obtain ⟨A, hA⟩ : ∃ A, p.at' = A := ⟨_, rfl⟩
    rw [hA]
    have HAT := mkHid hA
    clear hA
    go_region_with ((first
      | (go_at_call_of 28 d1; refine (HK1.out _ ?_ ?_).mono ?_; · simp [*]
         · intro j; simp [*]
         rintro e w4 ⟨oa1, cp1, rfl, r1, r1', r1'', HY1, HB4⟩)
      | (go_at_call_of 28 s1; refine (HK2.out _ ?_ ?_).mono ?_; · simp [*]
         · intro j; simp [*]
         rintro e w5 ⟨oa2, cp2, rfl, r2, r2', r2'', HY2, HB5⟩)
      | (go_at_call_of 28 t1; refine (HK3.out _ ?_ ?_).mono ?_; · simp [*]
         · intro j; simp [*]
         rintro e w6 ⟨oa3, cp3, rfl, r3, r3', r3'', HY3, HB6⟩)))
    all_goals
      have h4 : Below W3.heap.size W3 w4 := ⟨HB4.out.os, HB4.out.tape, HB4.out.output, HB4.out.size, HB4.out.block⟩
      have hy1 : By W3.heap.size w4 (.slice oa1 d2 cp1) (piece l p.d) := HY1.out
      have h36 : Below W3.heap.size W3 w6 := h4.trans ((HB5.out.trans (HB6.out.mono HB5.out.size)).mono h4.size)
      obtain ⟨cs', hcs'⟩ : ∃ cs', cs' = (hc p.k p.ver (.slice oa1 d2 cp1) (.slice oa2 s2 cp2) (.slice oa3 t2 cp3) p.len p.ph lv' (bc p.tag)).toArray := ⟨_, rfl⟩
      have hrow := ((((HD3.out.below h36).set2 (.slice oa1 d2 cp1)).set3 (.slice oa2 s2 cp2)).set4 (.slice oa3 t2 cp3)).1
      rw [← hcs'] at hrow
      have HROW := mkHid hrow
      have HZ' : Hid (cs'.size = 24) := by rw [hcs']; exact hc_size HD3.out.2
      have HONE' : Hid (cs'.all (·.oneCell') = true) := by
        rw [hcs']
        show (hc p.k p.ver (.slice oa1 d2 cp1) (.slice oa2 s2 cp2) (.slice oa3 t2 cp3) p.len p.ph lv' (bc p.tag)).toArray.all (·.oneCell') = true
        have hl1 := HLV.out.one
        have hb1 := bc_all p.tag
        simp only [hc, List.all_toArray, List.all_append, List.all_cons, List.all_nil, hl1, hb1]
        rfl
      have HEND := mkHid (read_end (cs0 := cs) HW3.out HB3.out HD3.out.lt h4 HB5.out HB6.out HP.out hy1 HY2.out HY3.out (by simpa using HLV.out) cs' hcs')
      rw [HAT.out] at HEND
      clear h4 hy1 h36 hcs' hrow HB4 HB5 HB6 HY1 HY2 HY3
      go_wp2_with (first
        | (refine wpList_load_row rfl 26 (.tmp 4) rfl w.heap.size rfl 26 cs' (0, 0) (.struct d26) HROW.out hd26 rfl (by rw [HZ'.out]; exact sz26) ?_)
        | (refine wpList_store_row rfl 26 (.tmp 4) (.tmp 30) rfl w.heap.size cs' rfl rfl 26 cs' HROW.out (by rw [HZ'.out]; exact sz26) rfl HONE'.out ?_))
      refine bodyPost_ret (v := .tuple #[.agg cs', .int .i64 A, .int .i64 0]) (results_cell2 (fn := Tryd.f16) (p := 4) (u := 5) (v := 6) (ty := 26) rfl _ _ w.heap.size 26 cs' (0, 0) d26 rfl (setRow_heap _ _ _ _ 26 _ HROW.out) hd26 (by rw [HZ'.out]; exact sz26)) rfl ?_
      exact ⟨cs', A, 0, rfl, HEND.out⟩
  · rcases HRES.out with ⟨_, hp⟩ | ⟨h, _⟩
    · have HP := mkHid hp
      have HE := mkHid hE
      have hb : (E != 0) = true := by simp [hE]
      clear hp HRES hE
      go_wp2_with (first
        | (refine wpList_store_row rfl 26 (.tmp 4) (.tmp 11) rfl w.heap.size cs rfl rfl 26 zr HG.out (by rw [HZ.out]; exact sz26) (by rw [HZ.out]; rfl) HONE.out ?_)
        | (refine wpList_store_row rfl 26 (.tmp 4) (.tmp 16) rfl w.heap.size zr rfl rfl 26 cs (setRow_heap _ _ _ _ 26 _ HG.out) sz26 (by rw [HZ.out]; rfl) zr_one ?_))
      refine bodyPost_ret (v := .tuple #[.agg zr, .int .i64 0, .int .i64 E]) (results_cell2 (fn := Tryd.f16) (p := 4) (u := 5) (v := 6) (ty := 26) rfl _ _ w.heap.size 26 zr (0, 0) d26 rfl (setRow_heap _ _ _ _ 26 _ (setRow_heap _ _ _ _ 26 _ HG.out)) hd26 sz26) rfl ?_
      exact ⟨zr, 0, E, rfl, below_setRow (below_setRow (((Below.refl _ _).alloc (Nat.le_refl _) (.cells zr 26)).trans (HB.out.mono (by simp))) (Nat.le_refl _) _) (Nat.le_refl _) _, .inl ⟨HE.out, HP.out, rfl, rfl⟩⟩
    · exact absurd h hE
end Go.Proofs.YtlllejgpmdeeiaaDoor
