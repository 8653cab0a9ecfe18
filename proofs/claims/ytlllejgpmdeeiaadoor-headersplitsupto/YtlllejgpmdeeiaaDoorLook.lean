/- What header.look answers: a contract. -/
import Derived.Test.YtlllejgpmdeeiaaDoorLong
import Derived.Test.YtlllejgpmdeeiaaDoorSh
import Derived.Laws.Tables
import Derived.Laws.Rows
namespace Go.Proofs.YtlllejgpmdeeiaaDoor
open Go.ChangeShapes Go.WideShapes Go.ChangeAt Go.RowKit
set_option linter.unusedVariables false

theorem hu26 : ∃ fs, Tryd.prog.underlying 26 = some (.struct fs) := ⟨_, Tryd.underlying26⟩
theorem sz26 : (Tryd.prog.info? 26).map (·.size) = some 24 := by kernel_rfl
theorem hc_size {k ver : Int} {dst src tok : Value} {len : Int} {ph : Bool} {lst : Value} {tg : List Value} (h : tg.length = 16) : (hc k ver dst src tok len ph lst tg).toArray.size = 24 := by simp [hc, h]

theorem results_cell2 {P : Program} {fn : Func} {p u v : Tmp} {ty : TypeId} (h : fn.results = #[.cell p ty, .tmp u, .tmp v]) (tmps : Array Value) (w : World) (g : Nat) (t : TypeId) (cs : Array Value) (fr : Nat × Nat) (fs : Array Field)
    (hp : tmps.getD p undef = .pointer (some ⟨g, 0, none⟩)) (hg : w.heap[g]? = some (.cells cs t fr))
    (hu : P.underlying ty = some (.struct fs)) (hi : (P.info? ty).map (·.size) = some cs.size) :
    (results fn tmps).run P w = .ok (.tuple #[.agg cs, tmps.getD u undef, tmps.getD v undef]) w := by
  have hp' : tmps[p]?.getD undef = .pointer (some ⟨g, 0, none⟩) := by simpa using hp
  simp [results, h, hp', asAddr, run_loadVar_row w g t ty cs fr _ hg hu rfl hi]

/-- What look answers. -/
def LookP (w w' : World) (b off : Nat) (l : List UInt8) (ids : Int) (cs : Array Value) (a E : Int) : Prop :=
  Below w.heap.size w w' ∧ (∃ k ver d s t len ph lv tg, cs = (hc k ver d s t len ph lv tg).toArray ∧ tg.length = 16 ∧ (hc k ver d s t len ph lv tg).all (·.oneCell') = true) ∧
  ((E ≠ 0 ∧ parse l ids = none) ∨ (E = 0 ∧ ∃ p lv, parse l ids = some p ∧ cs = (hc p.k p.ver (pv b off p.d) (pv b off p.s) (pv b off p.t) p.len p.ph lv (bc p.tag)).toArray ∧ a = p.at' ∧ Lv w.heap.size w' lv p.lst))

theorem Two.setRow {R H : Nat} {a w : World} (h : Two R H a w) (cs : Array Value) : Two R H a (w.setRow H cs) :=
  h.trans ⟨rfl, rfl, rfl, by simp [World.setRow], fun k _ _ hk => setRow_other w H k cs hk⟩
theorem Lv.other {B H : Nat} {w w' : World} {v : Value} {lst : List Int} (h : Lv B w v lst) (hB : ∀ k, B ≤ k → w'.heap[k]? = w.heap[k]?) : Lv B w' v lst := by
  rcases h with h | ⟨h1, h2⟩
  · exact .inl h
  · refine .inr ⟨h1, h2.1, ?_⟩
    rcases h2.2 with k | ⟨g, cap, cur, he, k1, k2, k3⟩
    · exact .inl k
    · exact .inr ⟨g, cap, cur, he, k1, (hB g k1).trans k2, k3⟩

theorem look_end {w w1 w' : World} {b off cap : Nat} {l : List UInt8} {ids E : Int} {k ver : Int} {d s t : Value} {len : Int} {ph : Bool} {lv : Value} {tg : List Value} {a : Int} {lk : Bool}
    (hw : Below w.heap.size w w1) (hsz : w1.heap.size = w.heap.size + 2) (h : Done w1 w' (w.heap.size + 1) w.heap.size b off cap l E (parse l ids)) (hd : Hd w' w.heap.size k ver d s t len ph lv tg) (ho : (hc k ver d s t len ph lv tg).all (·.oneCell') = true)
    (hr : Rd w' (w.heap.size + 1) (.slice (some ⟨b, off, none⟩) l.length cap) a lk) :
    LookP w (w'.setRow w.heap.size (hc k ver d s t len ph lv tg).toArray) b off l ids (hc k ver d s t len ph lv tg).toArray a E := by
  refine ⟨hw.trans ((h.two.setRow _).below (B := w.heap.size) (by omega) (by omega) (by omega)), ⟨k, ver, d, s, t, len, ph, lv, tg, rfl, hd.2, ho⟩, ?_⟩
  rcases h.res with h | ⟨h1, p, lv', h2, h3, h4, lk', h5⟩
  · exact .inl h
  · refine .inr ⟨h1, p, lv', h2, ?_, ?_, ?_⟩
    · have := hd.1.symm.trans h3.1
      simp only [Option.some.injEq, Obj.cells.injEq] at this
      exact this.1
    · have := Eq.trans (Eq.symm hr) h5
      simp at this
      exact this.1
    · exact (h4.other (H := 0) (fun k hk => setRow_other w' _ k _ (by omega))).mono (by omega)

theorem look_start {w : World} {b off cap : Nat} {l : List UInt8} (hs : Sl w (some ⟨b, off, none⟩) l) (ht : Tb w) (blt : b < w.heap.size) (W : World)
    (hW : W = (w.alloc (.cells (hc 0 0 (.slice none 0 0) (.slice none 0 0) (.slice none 0 0) 0 false (.slice none 0 0) (bc zs)).toArray 26)).alloc (.cells #[.slice (some ⟨b, off, none⟩) l.length cap, .int .i64 1, .bool false] 85)) :
    In W (w.heap.size + 1) w.heap.size b off cap l ∧ Rd W (w.heap.size + 1) (.slice (some ⟨b, off, none⟩) l.length cap) 1 false ∧
    Hd W w.heap.size 0 0 (.slice none 0 0) (.slice none 0 0) (.slice none 0 0) 0 false (.slice none 0 0) (bc zs) ∧ Below w.heap.size w W ∧ W.heap.size = w.heap.size + 2 := by
  have hb : Below w.heap.size w W := by
    rw [hW]
    exact ((Below.refl w.heap.size w).alloc (Nat.le_refl _) _).alloc (by simp) _
  have h0 := Tb_pos ht
  refine ⟨⟨Sl_below hs hb, Tb_below ht hb h0, by omega, by omega, by omega, by omega, by omega⟩, ?_, ⟨?_, bc_zs⟩, hb, by rw [hW]; simp⟩
  · rw [hW]
    have e := heap_alloc_new (w.alloc (.cells (hc 0 0 (.slice none 0 0) (.slice none 0 0) (.slice none 0 0) 0 false (.slice none 0 0) (bc zs)).toArray 26)) (.cells #[.slice (some ⟨b, off, none⟩) l.length cap, .int .i64 1, .bool false] 85)
    unfold Rd
    simpa using e
  · rw [hW, Below.heap_alloc _ _ _ (by simp)]
    exact heap_alloc_new w _

set_option maxRecDepth 10000 in
set_option maxHeartbeats 400000 in
theorem look_in (b off cap : Nat) (l : List UInt8) (ids : Int) (w : World) (hs : Sl w (some ⟨b, off, none⟩) l) (ht : Tb w) (hp : 0 < l.length) (hl : l.length ≤ 140737488355327) (hc' : l.length ≤ cap) (hcm : cap ≤ 9223372036854775807) (hi0 : 0 ≤ ids) (hi1 : ids ≤ 20)
    (hv : num (sub l 1 4) = 0 → l.length ≤ 70368744177664) (hlong : fb l / 128 % 2 = 1) :
    Calls Tryd.prog 31 #[.slice (some ⟨b, off, none⟩) l.length cap, .int .i64 ids] w fun e w' => ∃ cs a E, e = .returned (.tuple #[.agg cs, .int .i64 a, .int .i64 E]) ∧ LookP w w' b off l ids cs a E := by
  obtain ⟨d26, hd26⟩ := hu26
  have hpar : Hid (parse l ids = pLong l) := by
    unfold Hid parse
    rw [if_neg (by omega), if_neg (by omega)]
  obtain ⟨b', off', he, hx⟩ := hs 0 hp
  simp only [Option.some.injEq, Addr.mk.injEq, and_true] at he
  obtain ⟨rfl, rfl⟩ := he
  have blt : b < w.heap.size := World.block_lt_of_cell? w _ hx
  obtain ⟨x, hxx⟩ : ∃ x : Nat, fb l = x := ⟨_, rfl⟩
  have hx8 : x < 256 := by rw [← hxx]; exact fb_lt l
  rw [show l[0].toNat = x by rw [← hxx]; unfold fb; simp [List.getD, hp], Nat.add_zero] at hx
  have e128 := and128 x hx8
  rw [hxx] at hlong
  rw [hlong] at e128
  have HS := mkHid hs
  have HT := mkHid ht
  have Hv := mkHid hv
  have HX := mkHid hxx
  clear hs ht hv hxx hlong
  go_enter Tryd.func31, Tryd.ntmps31
  go_wp2_with fail
  refine (long_rd (w.heap.size + 1) w.heap.size b off cap l _ ?_ ?_ ?_ hp hl hc' hcm Hv.out).mono ?_
  · exact (look_start HS.out HT.out blt _ rfl).1
  · exact (look_start HS.out HT.out blt _ rfl).2.1
  · exact (look_start HS.out HT.out blt _ rfl).2.2.1
  rintro e w2 ⟨E, rfl, g⟩
  rw [← hpar.out] at g
  obtain ⟨k, ver, d, s, t, len, ph, lv, tg, hhd, ho⟩ := g.hd
  obtain ⟨a, lk, hrd⟩ := g.rd
  obtain ⟨W1, hW1⟩ : ∃ W1 : World, W1 = (w.alloc (.cells (hc 0 0 (.slice none 0 0) (.slice none 0 0) (.slice none 0 0) 0 false (.slice none 0 0) (bc zs)).toArray 26)).alloc (.cells #[.slice (some ⟨b, off, none⟩) l.length cap, .int .i64 1, .bool false] 85) := ⟨_, rfl⟩
  have g' : Done W1 w2 (w.heap.size + 1) w.heap.size b off cap l E (parse l ids) := by rw [hW1]; exact g
  obtain ⟨_, _, _, hB, hS⟩ := look_start HS.out HT.out blt W1 hW1
  have HEND := mkHid (look_end hB hS g' hhd ho hrd)
  have r1 := hrd.c1
  obtain ⟨cs, hcs⟩ : ∃ cs, cs = (hc k ver d s t len ph lv tg).toArray := ⟨_, rfl⟩
  have HG : Hid (w2.heap[w.heap.size]? = some (.cells cs 26 (0, 0))) := by rw [hcs]; exact hhd.1
  have HZ : Hid (cs.size = 24) := by rw [hcs]; exact hc_size hhd.2
  have HONE : Hid (cs.all (·.oneCell') = true) := by rw [hcs]; show (hc k ver d s t len ph lv tg).toArray.all (·.oneCell') = true; simpa using ho
  rw [← hcs] at HEND
  clear g g' hhd ho hrd hcs hB hS hW1
  go_wp2_with (first
    | (refine wpList_load_row rfl 26 (.tmp 4) rfl w.heap.size rfl 26 cs (0, 0) (.struct d26) HG.out hd26 rfl (by rw [HZ.out]; exact sz26) ?_)
    | (refine wpList_store_row rfl 26 (.tmp 4) (.tmp 29) rfl w.heap.size cs rfl rfl 26 cs HG.out (by rw [HZ.out]; exact sz26) rfl HONE.out ?_))
  refine bodyPost_ret (v := .tuple #[.agg cs, .int .i64 a, .int .i64 E]) (results_cell2 (fn := Tryd.f31) (p := 4) (u := 5) (v := 6) (ty := 26) rfl _ _ w.heap.size 26 cs (0, 0) d26 rfl (setRow_heap w2 _ _ _ 26 _ HG.out) hd26 (by rw [HZ.out]; exact sz26)) rfl ?_
  exact ⟨cs, a, E, rfl, HEND.out⟩
set_option maxRecDepth 10000 in
set_option maxHeartbeats 400000 in
theorem look_sh (b off cap : Nat) (l : List UInt8) (ids : Int) (w : World) (hs : Sl w (some ⟨b, off, none⟩) l) (ht : Tb w) (hp : 0 < l.length) (hl : l.length ≤ 140737488355327) (hc' : l.length ≤ cap) (hcm : cap ≤ 9223372036854775807) (hi0 : 0 ≤ ids) (hi1 : ids ≤ 20)
    (hlong : fb l / 128 % 2 = 0) :
    Calls Tryd.prog 31 #[.slice (some ⟨b, off, none⟩) l.length cap, .int .i64 ids] w fun e w' => ∃ cs a E, e = .returned (.tuple #[.agg cs, .int .i64 a, .int .i64 E]) ∧ LookP w w' b off l ids cs a E := by
  obtain ⟨d26, hd26⟩ := hu26
  have hpar : Hid (parse l ids = pShort l ids) := by
    unfold Hid parse
    rw [if_neg (by omega), if_pos hlong]
  obtain ⟨b', off', he, hx⟩ := hs 0 hp
  simp only [Option.some.injEq, Addr.mk.injEq, and_true] at he
  obtain ⟨rfl, rfl⟩ := he
  have blt : b < w.heap.size := World.block_lt_of_cell? w _ hx
  obtain ⟨x, hxx⟩ : ∃ x : Nat, fb l = x := ⟨_, rfl⟩
  have hx8 : x < 256 := by rw [← hxx]; exact fb_lt l
  rw [show l[0].toNat = x by rw [← hxx]; unfold fb; simp [List.getD, hp], Nat.add_zero] at hx
  have e128 := and128 x hx8
  rw [hxx] at hlong
  rw [hlong] at e128
  have HS := mkHid hs
  have HT := mkHid ht
  have HX := mkHid hxx
  clear hs ht hxx hlong
  go_enter Tryd.func31, Tryd.ntmps31
  go_wp2_with fail
  refine (short_rd (w.heap.size + 1) w.heap.size b off cap l ids _ ?_ ?_ ?_ hp hi0 hi1 hl hc' hcm).mono ?_
  · exact (look_start HS.out HT.out blt _ rfl).1
  · exact (look_start HS.out HT.out blt _ rfl).2.1
  · exact (look_start HS.out HT.out blt _ rfl).2.2.1
  generalize shE l ids = E
  rintro e w2 ⟨rfl, g⟩
  rw [← hpar.out] at g
  obtain ⟨k, ver, d, s, t, len, ph, lv, tg, hhd, ho⟩ := g.hd
  obtain ⟨a, lk, hrd⟩ := g.rd
  obtain ⟨W1, hW1⟩ : ∃ W1 : World, W1 = (w.alloc (.cells (hc 0 0 (.slice none 0 0) (.slice none 0 0) (.slice none 0 0) 0 false (.slice none 0 0) (bc zs)).toArray 26)).alloc (.cells #[.slice (some ⟨b, off, none⟩) l.length cap, .int .i64 1, .bool false] 85) := ⟨_, rfl⟩
  have g' : Done W1 w2 (w.heap.size + 1) w.heap.size b off cap l E (parse l ids) := by rw [hW1]; exact g
  obtain ⟨_, _, _, hB, hS⟩ := look_start HS.out HT.out blt W1 hW1
  have HEND := mkHid (look_end hB hS g' hhd ho hrd)
  have r1 := hrd.c1
  obtain ⟨cs, hcs⟩ : ∃ cs, cs = (hc k ver d s t len ph lv tg).toArray := ⟨_, rfl⟩
  have HG : Hid (w2.heap[w.heap.size]? = some (.cells cs 26 (0, 0))) := by rw [hcs]; exact hhd.1
  have HZ : Hid (cs.size = 24) := by rw [hcs]; exact hc_size hhd.2
  have HONE : Hid (cs.all (·.oneCell') = true) := by rw [hcs]; show (hc k ver d s t len ph lv tg).toArray.all (·.oneCell') = true; simpa using ho
  rw [← hcs] at HEND
  clear g g' hhd ho hrd hcs hB hS hW1
  go_wp2_with (first
    | (refine wpList_load_row rfl 26 (.tmp 4) rfl w.heap.size rfl 26 cs (0, 0) (.struct d26) HG.out hd26 rfl (by rw [HZ.out]; exact sz26) ?_)
    | (refine wpList_store_row rfl 26 (.tmp 4) (.tmp 29) rfl w.heap.size cs rfl rfl 26 cs HG.out (by rw [HZ.out]; exact sz26) rfl HONE.out ?_))
  refine bodyPost_ret (v := .tuple #[.agg cs, .int .i64 a, .int .i64 E]) (results_cell2 (fn := Tryd.f31) (p := 4) (u := 5) (v := 6) (ty := 26) rfl _ _ w.heap.size 26 cs (0, 0) d26 rfl (setRow_heap w2 _ _ _ 26 _ HG.out) hd26 (by rw [HZ.out]; exact sz26)) rfl ?_
  exact ⟨cs, a, E, rfl, HEND.out⟩

def zr : Array Value := (hc 0 0 (.slice none 0 0) (.slice none 0 0) (.slice none 0 0) 0 false (.slice none 0 0) (bc zs)).toArray
theorem zr_one : zr.all (·.oneCell') = true := by decide +kernel
theorem zr_end {w : World} {b off : Nat} {l : List UInt8} {ids E : Int} (hE : E ≠ 0) (hp : parse l ids = none) : LookP w ((w.alloc (.cells zr 26)).setRow w.heap.size zr) b off l ids zr 0 E :=
  ⟨below_setRow ((Below.refl _ _).alloc (Nat.le_refl _) _) (Nat.le_refl _) _, ⟨_, _, _, _, _, _, _, _, _, rfl, bc_zs, by decide⟩, .inl ⟨hE, hp⟩⟩

set_option maxRecDepth 10000 in
set_option maxHeartbeats 400000 in
theorem look_lo (ao : Option Addr) (b off cap : Nat) (l : List UInt8) (ids : Int) (w : World) (h : ids < 0) :
    Calls Tryd.prog 31 #[.slice ao l.length cap, .int .i64 ids] w fun e w' => ∃ cs a E, e = .returned (.tuple #[.agg cs, .int .i64 a, .int .i64 E]) ∧ LookP w w' b off l ids cs a E := by
  obtain ⟨d26, hd26⟩ := hu26
  have HP : Hid (parse l ids = none) := if_pos (by omega)
  go_enter Tryd.func31, Tryd.ntmps31
  go_wp2_with (first
    | (refine wpList_load_row rfl 26 (.tmp 4) rfl w.heap.size rfl 26 zr (0, 0) (.struct d26) (heap_alloc_new w (.cells zr 26)) hd26 rfl sz26 ?_)
    | (refine wpList_store_row rfl 26 (.tmp 4) (.tmp 14) rfl w.heap.size zr rfl rfl 26 zr (heap_alloc_new w (.cells zr 26)) sz26 rfl zr_one ?_))
  refine bodyPost_ret (v := .tuple #[.agg zr, .int .i64 0, .int .i64 2]) (results_cell2 (fn := Tryd.f31) (p := 4) (u := 5) (v := 6) (ty := 26) rfl _ _ w.heap.size 26 zr (0, 0) d26 rfl (setRow_heap _ _ _ _ 26 _ (heap_alloc_new w (.cells zr 26))) hd26 sz26) rfl ?_
  exact ⟨zr, 0, 2, rfl, zr_end (by decide) HP.out⟩

set_option maxRecDepth 10000 in
set_option maxHeartbeats 400000 in
theorem look_hi (ao : Option Addr) (b off cap : Nat) (l : List UInt8) (ids : Int) (w : World) (h0 : 0 ≤ ids) (h : 20 < ids) :
    Calls Tryd.prog 31 #[.slice ao l.length cap, .int .i64 ids] w fun e w' => ∃ cs a E, e = .returned (.tuple #[.agg cs, .int .i64 a, .int .i64 E]) ∧ LookP w w' b off l ids cs a E := by
  obtain ⟨d26, hd26⟩ := hu26
  have HP : Hid (parse l ids = none) := if_pos (by omega)
  go_enter Tryd.func31, Tryd.ntmps31
  go_wp2_with (first
    | (refine wpList_load_row rfl 26 (.tmp 4) rfl w.heap.size rfl 26 zr (0, 0) (.struct d26) (heap_alloc_new w (.cells zr 26)) hd26 rfl sz26 ?_)
    | (refine wpList_store_row rfl 26 (.tmp 4) (.tmp 14) rfl w.heap.size zr rfl rfl 26 zr (heap_alloc_new w (.cells zr 26)) sz26 rfl zr_one ?_))
  refine bodyPost_ret (v := .tuple #[.agg zr, .int .i64 0, .int .i64 2]) (results_cell2 (fn := Tryd.f31) (p := 4) (u := 5) (v := 6) (ty := 26) rfl _ _ w.heap.size 26 zr (0, 0) d26 rfl (setRow_heap _ _ _ _ 26 _ (heap_alloc_new w (.cells zr 26))) hd26 sz26) rfl ?_
  exact ⟨zr, 0, 2, rfl, zr_end (by decide) HP.out⟩

set_option maxRecDepth 10000 in
set_option maxHeartbeats 400000 in
theorem look_none (ao : Option Addr) (b off cap : Nat) (l : List UInt8) (ids : Int) (w : World) (h0 : 0 ≤ ids) (h1 : ids ≤ 20) (hl : l.length = 0) :
    Calls Tryd.prog 31 #[.slice ao l.length cap, .int .i64 ids] w fun e w' => ∃ cs a E, e = .returned (.tuple #[.agg cs, .int .i64 a, .int .i64 E]) ∧ LookP w w' b off l ids cs a E := by
  obtain ⟨d26, hd26⟩ := hu26
  have HP : Hid (parse l ids = none) := if_pos (by omega)
  go_enter Tryd.func31, Tryd.ntmps31
  go_wp2_with (first
    | (refine wpList_load_row rfl 26 (.tmp 4) rfl w.heap.size rfl 26 zr (0, 0) (.struct d26) (heap_alloc_new w (.cells zr 26)) hd26 rfl sz26 ?_)
    | (refine wpList_store_row rfl 26 (.tmp 4) (.tmp 18) rfl w.heap.size zr rfl rfl 26 zr (heap_alloc_new w (.cells zr 26)) sz26 rfl zr_one ?_))
  refine bodyPost_ret (v := .tuple #[.agg zr, .int .i64 0, .int .i64 10]) (results_cell2 (fn := Tryd.f31) (p := 4) (u := 5) (v := 6) (ty := 26) rfl _ _ w.heap.size 26 zr (0, 0) d26 rfl (setRow_heap _ _ _ _ 26 _ (heap_alloc_new w (.cells zr 26))) hd26 sz26) rfl ?_
  exact ⟨zr, 0, 10, rfl, zr_end (by decide) HP.out⟩

theorem look_any (ao : Option Addr) (l : List UInt8) (cap : Nat) (ids : Int) (w : World) (hs : Sl w ao l) (ht : Tb w) (hl : l.length ≤ 140737488355327) (hc' : l.length ≤ cap) (hcm : cap ≤ 9223372036854775807)
    (hv : num (sub l 1 4) = 0 → l.length ≤ 70368744177664) (b off : Nat) (hao : 0 < l.length → ao = some ⟨b, off, none⟩) :
    Calls Tryd.prog 31 #[.slice ao l.length cap, .int .i64 ids] w fun e w' => ∃ cs a E, e = .returned (.tuple #[.agg cs, .int .i64 a, .int .i64 E]) ∧ LookP w w' b off l ids cs a E := by
  by_cases h0 : ids < 0
  · exact look_lo ao b off cap l ids w h0
  · by_cases h1 : 20 < ids
    · exact look_hi ao b off cap l ids w (by omega) h1
    · by_cases hz : l.length = 0
      · exact look_none ao b off cap l ids w (by omega) (by omega) hz
      · obtain rfl := hao (by omega)
        have hq : fb l / 128 % 2 = 0 ∨ fb l / 128 % 2 = 1 := by omega
        rcases hq with hq | hq
        · exact look_sh b off cap l ids w hs ht (by omega) hl hc' hcm (by omega) (by omega) hq
        · exact look_in b off cap l ids w hs ht (by omega) hl hc' hcm (by omega) (by omega) hv hq
end Go.Proofs.YtlllejgpmdeeiaaDoor
