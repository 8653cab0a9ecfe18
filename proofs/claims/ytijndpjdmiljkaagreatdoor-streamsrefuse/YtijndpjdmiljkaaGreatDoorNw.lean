/- streams: newKind, New: a table as it lies when it is made. -/
import Derived.Test.YtijndpjdmiljkaaGreatDoorNe
import Derived.Deep.RegionHeld
import Derived.Deep.RegionHeld3
import Derived.Deep.Cut
namespace Go.Proofs.YtijndpjdmiljkaaGreatDoor
open Go.RowKit
set_option linter.unusedVariables false

/-- A table's cells. -/
def tcs (srv : Bool) (own peer : Lm) (sb eb nb : Nat) (vg vt : Value) (g0 t0 g1 t1 : Nat) (l0 l1 : Int) (ws : Value) (turn : Int) : List Value := [.bool srv, .int .i64 own.d, .int .i64 own.l, .int .i64 own.r, .int .i64 own.u, .int .i64 own.b, .int .i64 own.s, .int .i64 peer.d, .int .i64 peer.l, .int .i64 peer.r, .int .i64 peer.u, .int .i64 peer.b, .int .i64 peer.s, .map (some sb), .map (some eb), vg, vt, .pointer (some ⟨g0, 0, none⟩), .int .i64 l0, .pointer (some ⟨t0, 0, none⟩), .pointer (some ⟨g1, 0, none⟩), .int .i64 l1, .pointer (some ⟨t1, 0, none⟩), ws, .map (some nb), .int .i64 turn]
theorem u85 : Tryz.prog.underlying 85 = some (.struct (Tryz.prog.fieldsOf 85)) := by kernel_rfl
theorem i85 : (Tryz.prog.info? 85).map (·.size) = some 3 := by kernel_rfl
theorem rt_bel {T : Nat} {cs : Array Value} {w w' : World} {b : Nat} (h : Rt T cs w b) (hb : Below w.heap.size w w') : Rt T cs w' b := heap_bel h hb
set_option maxRecDepth 100000 in
theorem newKind_c (n m : Int) (w : World) (hn : mayt n = true) (hm : may m = true) : Calls Tryz.prog 44 #[.int .i64 n, .int .i64 m] w fun e w' => ∃ g t, e = .returned (.agg #[.pointer (some ⟨g, 0, none⟩), .int .i64 0, .pointer (some ⟨t, 0, none⟩)]) ∧ Rt 174 (gv0 m).p w' g ∧ Rt 176 (tv0 n).p w' t ∧ w.heap.size ≤ g ∧ g < t ∧ t < w'.heap.size ∧ Below w.heap.size w w' := by
  have HR : Hid _ := heap_alloc_new w (.cells #[.pointer none, .int .i64 0, .pointer none] 85)
  have HB : Hid _ := bel1 w (.cells #[.pointer none, .int .i64 0, .pointer none] 85)
  have HG : Hid _ := fun X => newg_c m X hm
  have HT : Hid _ := fun X => newt_c n X hn
  have hs1 : (w.alloc (.cells #[.pointer none, .int .i64 0, .pointer none] 85)).heap.size = w.heap.size + 1 := World.size_alloc _ _
  clear hn hm
  go_enter Tryz.func44, Tryz.ntmps44
  go_wp2_with fail
  generalize w.alloc (.cells #[.pointer none, .int .i64 0, .pointer none] 85) = X0 at *
  refine (HG.out _).mono ?_
  rintro e X1 ⟨rfl, hg, hb1⟩
  have h1 := hb1.size
  have h2 := hg.lt
  have HR1 : Hid _ := heap_bel HR.out hb1
  have HB1 : Hid (Below w.heap.size w X1) := bel_trans HB.out hb1
  obtain ⟨g, hge⟩ : ∃ g, X0.heap.size = g := ⟨_, rfl⟩
  have HG1 : Hid _ := hg
  have HSZ : Hid (g = w.heap.size + 1 ∧ g < X1.heap.size) := ⟨hge.symm.trans hs1, hge ▸ h2⟩
  rw [hge] at *
  clear hg hb1 h1 h2 hs1 HR HB hge
  go_wp2_with fail
  refine (HT.out _).mono ?_
  rintro e X2 ⟨rfl, ht, hb2⟩
  have HR2 : Hid _ := heap_bel HR1.out hb2
  have HB2 : Hid (Below w.heap.size w X2) := bel_trans HB1.out hb2
  have HG2 : Hid _ := rt_bel HG1.out hb2
  obtain ⟨t, hte⟩ : ∃ t, X1.heap.size = t := ⟨_, rfl⟩
  have h4 := ht.lt
  have HT2 : Hid _ := ht
  have HSZ2 : Hid (g = w.heap.size + 1 ∧ g < t ∧ t < X2.heap.size) := ⟨HSZ.out.1, hte ▸ HSZ.out.2, hte ▸ h4⟩
  rw [hte] at *
  clear ht hb2 h4 hte HB1 HG1 HR1 HG HT HSZ
  go_wp2_with (refine wpList_store_row rfl 85 (.tmp 4) (.tmp 21) rfl w.heap.size #[.pointer (some ⟨g, 0, none⟩), .int .i64 0, .pointer (some ⟨t, 0, none⟩)] rfl rfl 85 _ HR2.out i85 rfl (by kernel_rfl) ?_)
  have HS2 : Hid _ := setRow_heap X2 w.heap.size _ #[.pointer (some ⟨g, 0, none⟩), .int .i64 0, .pointer (some ⟨t, 0, none⟩)] 85 (0, 0) HR2.out
  obtain ⟨s0, s1, s2⟩ := HSZ2.out
  refine bodyPost_ret (v := .agg #[.pointer (some ⟨g, 0, none⟩), .int .i64 0, .pointer (some ⟨t, 0, none⟩)]) (results_cell_row (fn := Tryz.f44) (p := 4) rfl _ _ w.heap.size 85 _ (0, 0) _ rfl HS2.out u85 rfl i85) rfl ?_
  refine ⟨g, t, rfl, ?_, ?_, by omega, s1, by simpa using s2, bel_set HB2.out (Nat.le_refl _) _⟩
  · exact (setRow_other _ _ _ _ (by omega)).trans HG2.out
  · exact (setRow_other _ _ _ _ (by omega)).trans HT2.out
structure Ls (x y : Lm) (w : World) (B : Nat) (Y : World) : Prop where
  a : Y.heap[B]? = some (.cells x.v.toArray 23 (0, 0))
  b : Y.heap[B + 1]? = some (.cells y.v.toArray 23 (0, 0))
  bel : Below w.heap.size w Y
theorem Ls.go {x y : Lm} {w : World} {B : Nat} {Y Z : World} (h : Ls x y w B Y) (hb : Below Y.heap.size Y Z) : Ls x y w B Z := ⟨heap_bel h.a hb, heap_bel h.b hb, bel_trans h.bel hb⟩
theorem rng23 {X : World} {B : Nat} {x : Lm} (h : X.heap[B]? = some (.cells x.v.toArray 23 (0, 0))) : X.rangeAt B 0 x.v := by
  intro j v hv
  unfold World.cell?
  simp only [h]
  simpa using hv
/-- A table as it lies when it is made, but for give and get. -/
structure Tq (srv : Bool) (x y : Lm) (vg vt : Value) (W : World) (T sb eb nb g0 t0 g1 t1 : Nat) : Prop where
  tab : Rt 89 (tcs srv x y sb eb nb vg vt g0 t0 g1 t1 0 0 (.slice none 0 0) (-1)).toArray W T
  sm : W.heap[sb]? = some (.map #[] 0)
  em : W.heap[eb]? = some (.map #[] 0)
  nm : W.heap[nb]? = some (.map #[] 0)
  hg0 : Rt 174 (gv0 y.b).p W g0
  ht0 : Rt 176 (tv0 x.b).p W t0
  hg1 : Rt 174 (gv0 y.s).p W g1
  ht1 : Rt 176 (tv0 x.s).p W t1
  nd : [T, sb, eb, nb, g0, t0, g1, t1].Nodup
theorem Tq.go {srv : Bool} {x y : Lm} {vg vt : Value} {W : World} {T sb eb nb g0 t0 g1 t1 : Nat} (h : Tq srv x y vg vt W T sb eb nb g0 t0 g1 t1) {Z : World} (hb : Below W.heap.size W Z) : Tq srv x y vg vt Z T sb eb nb g0 t0 g1 t1 :=
  ⟨rt_bel h.tab hb, heap_bel h.sm hb, heap_bel h.em hb, heap_bel h.nm hb, rt_bel h.hg0 hb, rt_bel h.ht0 hb, rt_bel h.hg1 hb, rt_bel h.ht1 hb, h.nd⟩
theorem heap_set {W : World} {T : Nat} {cs : Array Value} {t : Nat} (h : Rt t cs W T) (j : Nat) (v : Value) {k : Nat} (hk : k ≠ T) : (W.setCell ⟨T, j, none⟩ v).heap[k]? = W.heap[k]? := by
  rw [setCell_eq_setRow W T j _ t (0, 0) _ h]
  exact setRow_other _ _ _ _ hk
theorem bel_setc {a W : World} {n T : Nat} {cs : Array Value} {t : Nat} (h : Rt t cs W T) (j : Nat) (v : Value) (hb : Below n a W) (hn : n ≤ T) : Below n a (W.setCell ⟨T, j, none⟩ v) := by
  rw [setCell_eq_setRow W T j _ t (0, 0) _ h]
  exact bel_set hb hn _
theorem Tq.lt {srv : Bool} {x y : Lm} {vg vt : Value} {W : World} {T sb eb nb g0 t0 g1 t1 : Nat} (h : Tq srv x y vg vt W T sb eb nb g0 t0 g1 t1) : ∀ b ∈ [T, sb, eb, nb, g0, t0, g1, t1], b < W.heap.size := by
  intro b hb
  simp only [List.mem_cons, List.not_mem_nil, or_false] at hb
  rcases hb with rfl | rfl | rfl | rfl | rfl | rfl | rfl | rfl
  · exact h.tab.lt
  · exact (Array.getElem?_eq_some_iff.1 h.sm).1
  · exact (Array.getElem?_eq_some_iff.1 h.em).1
  · exact (Array.getElem?_eq_some_iff.1 h.nm).1
  · exact h.hg0.lt
  · exact h.ht0.lt
  · exact h.hg1.lt
  · exact h.ht1.lt
theorem Tq.set {srv : Bool} {x y : Lm} {vg vt vg' vt' : Value} {W : World} {T sb eb nb g0 t0 g1 t1 : Nat} (h : Tq srv x y vg vt W T sb eb nb g0 t0 g1 t1) (j : Nat) (v : Value)
    (hj : (tcs srv x y sb eb nb vg vt g0 t0 g1 t1 0 0 (.slice none 0 0) (-1)).toArray.setIfInBounds j v = (tcs srv x y sb eb nb vg' vt' g0 t0 g1 t1 0 0 (.slice none 0 0) (-1)).toArray) : Tq srv x y vg' vt' (W.setCell ⟨T, j, none⟩ v) T sb eb nb g0 t0 g1 t1 := by
  have hn := h.nd
  simp only [List.nodup_cons, List.mem_cons, not_or] at hn
  obtain ⟨⟨n1, n2, n3, n4, n5, n6, n7, _⟩, _⟩ := hn
  refine ⟨?_, (heap_set h.tab j v (fun e => n1 e.symm)).trans h.sm, (heap_set h.tab j v (fun e => n2 e.symm)).trans h.em, (heap_set h.tab j v (fun e => n3 e.symm)).trans h.nm, (heap_set h.tab j v (fun e => n4 e.symm)).trans h.hg0, (heap_set h.tab j v (fun e => n5 e.symm)).trans h.ht0, (heap_set h.tab j v (fun e => n6 e.symm)).trans h.hg1, (heap_set h.tab j v (fun e => n7 e.symm)).trans h.ht1, h.nd⟩
  have := h.tab.set j v
  rwa [hj] at this
theorem Ls.ne {x y : Lm} {w : World} {B : Nat} {Y : World} (h : Ls x y w B Y) {T : Nat} {cs : Array Value} (ht : Rt 89 cs Y T) : B ≠ T ∧ B + 1 ≠ T := by
  have h' : Y.heap[T]? = _ := ht
  constructor
  · rintro rfl
    rw [h.a] at h'
    simp at h'
  · rintro rfl
    rw [h.b] at h'
    simp at h'
theorem Ls.set {x y : Lm} {w : World} {B : Nat} {Y : World} (h : Ls x y w B Y) {T : Nat} {cs : Array Value} (ht : Rt 89 cs Y T) (hn : w.heap.size ≤ T) (j : Nat) (v : Value) : Ls x y w B (Y.setCell ⟨T, j, none⟩ v) :=
  ⟨(heap_set ht j v (h.ne ht).1).trans h.a, (heap_set ht j v (h.ne ht).2).trans h.b, bel_setc ht j v h.bel hn⟩
theorem mmap (t : Nat) (ht : t = 80 ∨ t = 81 ∨ t = 87) (w : World) : (Instr.makeMap t none).run Tryz.prog w = .ok (.map (some w.heap.size)) (w.alloc (.map #[] 0)) := by
  rcases ht with rfl | rfl | rfl <;> kernel_rfl
/-- What was made so far, the newest first: each of its objects lies, and no two are one. -/
structure Mk (n0 : Nat) (X : World) (l : List (Nat × Obj)) : Prop where
  at_ : ∀ p ∈ l, X.heap[p.1]? = some p.2
  nd : (l.map Prod.fst).Nodup
  lo : ∀ p ∈ l, n0 ≤ p.1
theorem Mk.nil (X : World) (n0 : Nat) : Mk n0 X [] := ⟨fun p hp => (List.not_mem_nil hp).elim, List.Pairwise.nil, fun p hp => (List.not_mem_nil hp).elim⟩
theorem Mk.lt {n0 : Nat} {X : World} {l : List (Nat × Obj)} (h : Mk n0 X l) : ∀ p ∈ l, p.1 < X.heap.size := fun p hp => (Array.getElem?_eq_some_iff.1 (h.at_ p hp)).1
theorem Mk.go {n0 : Nat} {X Y : World} {l : List (Nat × Obj)} (h : Mk n0 X l) (hb : Below X.heap.size X Y) : Mk n0 Y l := ⟨fun p hp => heap_bel (h.at_ p hp) hb, h.nd, h.lo⟩
theorem Mk.one {n0 : Nat} {X Y : World} {l : List (Nat × Obj)} (h : Mk n0 X l) (hn : n0 ≤ X.heap.size) (hb : Below X.heap.size X Y) {b : Nat} {o : Obj} (hx : X.heap.size ≤ b) (ho : Y.heap[b]? = some o) : Mk n0 Y ((b, o) :: l) := by
  refine ⟨fun p hp => ?_, ?_, fun p hp => ?_⟩
  · rcases List.mem_cons.1 hp with rfl | hp
    · exact ho
    · exact heap_bel (h.at_ p hp) hb
  · rw [List.map_cons, List.nodup_cons]
    refine ⟨fun hm => ?_, h.nd⟩
    obtain ⟨p, hp, he⟩ := List.mem_map.1 hm
    have := h.lt p hp
    omega
  · rcases List.mem_cons.1 hp with rfl | hp
    · omega
    · exact h.lo p hp
theorem Mk.two {n0 : Nat} {X Y : World} {l : List (Nat × Obj)} (h : Mk n0 X l) (hn : n0 ≤ X.heap.size) (hb : Below X.heap.size X Y) {b c : Nat} {o q : Obj} (hx : X.heap.size ≤ b) (hc : b < c) (ho : Y.heap[b]? = some o) (hq : Y.heap[c]? = some q) : Mk n0 Y ((c, q) :: (b, o) :: l) := by
  have h1 := h.one hn hb hx ho
  refine ⟨fun p hp => ?_, ?_, fun p hp => ?_⟩
  · rcases List.mem_cons.1 hp with rfl | hp
    · exact hq
    · exact h1.at_ p hp
  · rw [List.map_cons, List.nodup_cons]
    refine ⟨fun hm => ?_, h1.nd⟩
    obtain ⟨p, hp, he⟩ := List.mem_map.1 hm
    simp only at he
    rcases List.mem_cons.1 hp with rfl | hp
    · simp only at he; omega
    · have := h.lt p hp
      omega
  · rcases List.mem_cons.1 hp with rfl | hp
    · show n0 ≤ c
      omega
    · exact h1.lo p hp
set_option maxRecDepth 100000 in
set_option maxHeartbeats 4000000 in
theorem tnew_no1 (srv : Bool) (x y : Lm) (w : World) (hx : x.le ownM = false) : Calls Tryz.prog 15 #[.bool srv, .agg x.v.toArray, .agg y.v.toArray] w fun e w' => e = .returned (.tuple #[.pointer none, .int .i64 2]) ∧ Below w.heap.size w w' := by
  obtain ⟨X0, hX0, hb0, ha0, hc0⟩ := two_lims x y w
  obtain ⟨B, hB⟩ : ∃ B, w.heap.size = B := ⟨_, rfl⟩
  have HY0 : Hid (Ls x y w B X0) := ⟨hB ▸ ha0, hB ▸ hc0, hb0⟩
  have HW1 : Hid (∀ X, _) := within_c x ownM
  have HW2 : Hid (∀ X, _) := within_c y peerM
  rw [hx] at HW1
  clear ha0 hc0 hb0
  go_enter Tryz.func15, Tryz.ntmps15
  go_upto_region 1 with fail
  clear hX0 hB
  refine wp_region_held_drew (S := fun X => Ls x y w B X) (by kernel_rfl) (HY0.out.go (bel_drew _)) (fun hHeld => ?_)
  have HYX : Hid _ := HY0.out.go (bel_drew _)
  generalize X0.drew = X at *
  refine wpAnyH_take (i := 0) (v := .agg x.v.toArray) rfl (by kernel_rfl) (by kernel_rfl) (by kernel_rfl) (fun _ _ _ h => h) (yieldsIf_load_mid rfl 23 (.tmp 4) rfl (B) 0 rfl x.v _ (fun X hX => rng23 (Ls.a hX)) u23 rfl i23) hHeld ?_
  refine norm_any' (fun K hK => ?_); go_simp; refine hK _ _ ?_; clear hK K
  refine wpAnyH_ready (rs := [1]) (by kernel_rfl) (by simp) (AllReadyH.cons rfl (fun K hK => ?_) AllReadyH.nil)
  go_simp
  refine Calls.mono (ownMost_c _) ?_
  rintro e Y1 ⟨rfl, hbx⟩
  have HZ1 : Hid _ := HYX.out.go hbx
  clear hbx
  refine hK.out _ _ HZ1.out (fun hHeld => ?_)
  clear hK K
  refine norm_any' (fun K hK => ?_); go_simp; refine hK _ _ ?_; clear hK K
  refine wpAnyH_ready (rs := [2]) (by kernel_rfl) (by simp) (AllReadyH.cons rfl (fun K hK => ?_) AllReadyH.nil)
  go_simp
  refine Calls.mono (HW1.out _) ?_
  rintro e Y2 ⟨rfl, hbx⟩
  have HZ2 : Hid _ := HZ1.out.go hbx
  clear hbx
  refine hK.out _ _ HZ2.out (fun hHeld => ?_)
  clear hK K
  refine norm_any' (fun K hK => ?_); go_simp; refine hK _ _ ?_; clear hK K
  refine wpAnyH_take (i := 3) (v := .bool true) rfl (by kernel_rfl) (by kernel_rfl) (by kernel_rfl) (fun _ _ _ h => h) (Or.inl ⟨by rfl, by intro w hs; go_simp⟩) hHeld ?_
  refine norm_any' (fun K hK => ?_); go_simp; refine hK _ _ ?_; clear hK K
  refine wpAnyH_take (i := 4) (v := .bool true) rfl (by kernel_rfl) (by kernel_rfl) (by kernel_rfl) (fun _ _ _ h => h) (Or.inl ⟨by rfl, by intro w hs; go_simp⟩) hHeld ?_
  refine norm_any' (fun K hK => ?_); go_simp; refine hK _ _ ?_; clear hK K
  refine wpAnyH_take (i := 5) (v := undef) rfl (by kernel_rfl) (by kernel_rfl) (by kernel_rfl) (fun _ _ _ h => h) (Or.inr ⟨by rfl, rfl⟩) hHeld ?_
  refine norm_any' (fun K hK => ?_); go_simp; refine hK _ _ ?_; clear hK K
  refine wpAnyH_take (i := 6) (v := undef) rfl (by kernel_rfl) (by kernel_rfl) (by kernel_rfl) (fun _ _ _ h => h) (Or.inr ⟨by rfl, rfl⟩) hHeld ?_
  refine norm_any' (fun K hK => ?_); go_simp; refine hK _ _ ?_; clear hK K
  refine wpAnyH_take (i := 7) (v := undef) rfl (by kernel_rfl) (by kernel_rfl) (by kernel_rfl) (fun _ _ _ h => h) (Or.inr ⟨by rfl, rfl⟩) hHeld ?_
  refine norm_any' (fun K hK => ?_); go_simp; refine hK _ _ ?_; clear hK K
  refine wpAnyH_take (i := 8) (v := undef) rfl (by kernel_rfl) (by kernel_rfl) (by kernel_rfl) (fun _ _ _ h => h) (Or.inr ⟨by rfl, rfl⟩) hHeld ?_
  refine norm_any' (fun K hK => ?_); go_simp; refine hK _ _ ?_; clear hK K
  refine wpAnyH_take (i := 9) (v := .bool true) rfl (by kernel_rfl) (by kernel_rfl) (by kernel_rfl) (fun _ _ _ h => h) (Or.inl ⟨by rfl, by intro w hs; go_simp⟩) hHeld ?_
  refine norm_any' (fun K hK => ?_); go_simp; refine hK _ _ ?_; clear hK K
  refine wpAnyH_done (by kernel_rfl) ?_ _
  go_wp2
  go_ret2
  exact ⟨rfl, HZ2.out.bel⟩
set_option maxRecDepth 100000 in
set_option maxHeartbeats 4000000 in
theorem tnew_no2 (srv : Bool) (x y : Lm) (w : World) (hx : x.le ownM = true) (hy : y.le peerM = false) : Calls Tryz.prog 15 #[.bool srv, .agg x.v.toArray, .agg y.v.toArray] w fun e w' => e = .returned (.tuple #[.pointer none, .int .i64 2]) ∧ Below w.heap.size w w' := by
  obtain ⟨X0, hX0, hb0, ha0, hc0⟩ := two_lims x y w
  obtain ⟨B, hB⟩ : ∃ B, w.heap.size = B := ⟨_, rfl⟩
  have HY0 : Hid (Ls x y w B X0) := ⟨hB ▸ ha0, hB ▸ hc0, hb0⟩
  have HW1 : Hid (∀ X, _) := within_c x ownM
  have HW2 : Hid (∀ X, _) := within_c y peerM
  rw [hx] at HW1
  rw [hy] at HW2
  clear ha0 hc0 hb0
  go_enter Tryz.func15, Tryz.ntmps15
  go_upto_region 1 with fail
  clear hX0 hB
  refine wp_region_held_drew (S := fun X => Ls x y w B X) (by kernel_rfl) (HY0.out.go (bel_drew _)) (fun hHeld => ?_)
  have HYX : Hid _ := HY0.out.go (bel_drew _)
  generalize X0.drew = X at *
  refine wpAnyH_take (i := 0) (v := .agg x.v.toArray) rfl (by kernel_rfl) (by kernel_rfl) (by kernel_rfl) (fun _ _ _ h => h) (yieldsIf_load_mid rfl 23 (.tmp 4) rfl (B) 0 rfl x.v _ (fun X hX => rng23 (Ls.a hX)) u23 rfl i23) hHeld ?_
  refine norm_any' (fun K hK => ?_); go_simp; refine hK _ _ ?_; clear hK K
  refine wpAnyH_ready (rs := [1]) (by kernel_rfl) (by simp) (AllReadyH.cons rfl (fun K hK => ?_) AllReadyH.nil)
  go_simp
  refine Calls.mono (ownMost_c _) ?_
  rintro e Y1 ⟨rfl, hbx⟩
  have HZ1 : Hid _ := HYX.out.go hbx
  clear hbx
  refine hK.out _ _ HZ1.out (fun hHeld => ?_)
  clear hK K
  refine norm_any' (fun K hK => ?_); go_simp; refine hK _ _ ?_; clear hK K
  refine wpAnyH_ready (rs := [2]) (by kernel_rfl) (by simp) (AllReadyH.cons rfl (fun K hK => ?_) AllReadyH.nil)
  go_simp
  refine Calls.mono (HW1.out _) ?_
  rintro e Y2 ⟨rfl, hbx⟩
  have HZ2 : Hid _ := HZ1.out.go hbx
  clear hbx
  refine hK.out _ _ HZ2.out (fun hHeld => ?_)
  clear hK K
  refine norm_any' (fun K hK => ?_); go_simp; refine hK _ _ ?_; clear hK K
  refine wpAnyH_take (i := 3) (v := .bool false) rfl (by kernel_rfl) (by kernel_rfl) (by kernel_rfl) (fun _ _ _ h => h) (Or.inl ⟨by rfl, by intro w hs; go_simp⟩) hHeld ?_
  refine norm_any' (fun K hK => ?_); go_simp; refine hK _ _ ?_; clear hK K
  refine wpAnyH_take (i := 4) (v := .bool false) rfl (by kernel_rfl) (by kernel_rfl) (by kernel_rfl) (fun _ _ _ h => h) (Or.inl ⟨by rfl, by intro w hs; go_simp⟩) hHeld ?_
  refine norm_any' (fun K hK => ?_); go_simp; refine hK _ _ ?_; clear hK K
  refine wpAnyH_take (i := 5) (v := .agg y.v.toArray) rfl (by kernel_rfl) (by kernel_rfl) (by kernel_rfl) (fun _ _ _ h => h) (yieldsIf_load_mid rfl 23 (.tmp 5) rfl (B + 1) 0 rfl y.v _ (fun X hX => rng23 (Ls.b hX)) u23 rfl i23) hHeld ?_
  refine norm_any' (fun K hK => ?_); go_simp; refine hK _ _ ?_; clear hK K
  refine wpAnyH_ready (rs := [6]) (by kernel_rfl) (by simp) (AllReadyH.cons rfl (fun K hK => ?_) AllReadyH.nil)
  go_simp
  refine Calls.mono (peerMost_c _) ?_
  rintro e Y3 ⟨rfl, hbx⟩
  have HZ3 : Hid _ := HZ2.out.go hbx
  clear hbx
  refine hK.out _ _ HZ3.out (fun hHeld => ?_)
  clear hK K
  refine norm_any' (fun K hK => ?_); go_simp; refine hK _ _ ?_; clear hK K
  refine wpAnyH_ready (rs := [7]) (by kernel_rfl) (by simp) (AllReadyH.cons rfl (fun K hK => ?_) AllReadyH.nil)
  go_simp
  refine Calls.mono (HW2.out _) ?_
  rintro e Y4 ⟨rfl, hbx⟩
  have HZ4 : Hid _ := HZ3.out.go hbx
  clear hbx
  refine hK.out _ _ HZ4.out (fun hHeld => ?_)
  clear hK K
  refine norm_any' (fun K hK => ?_); go_simp; refine hK _ _ ?_; clear hK K
  refine wpAnyH_take (i := 8) (v := .bool true) rfl (by kernel_rfl) (by kernel_rfl) (by kernel_rfl) (fun _ _ _ h => h) (Or.inl ⟨by rfl, by intro w hs; go_simp⟩) hHeld ?_
  refine norm_any' (fun K hK => ?_); go_simp; refine hK _ _ ?_; clear hK K
  refine wpAnyH_take (i := 9) (v := .bool true) rfl (by kernel_rfl) (by kernel_rfl) (by kernel_rfl) (fun _ _ _ h => h) (Or.inl ⟨by rfl, by intro w hs; go_simp⟩) hHeld ?_
  refine norm_any' (fun K hK => ?_); go_simp; refine hK _ _ ?_; clear hK K
  refine wpAnyH_done (by kernel_rfl) ?_ _
  go_wp2
  go_ret2
  exact ⟨rfl, HZ4.out.bel⟩
/-- The blocks of a table. -/
structure Bks where
  T : Nat
  sb : Nat
  eb : Nat
  nb : Nat
  g : Nat
  t : Nat
  g0 : Nat
  t0 : Nat
  g1 : Nat
  t1 : Nat
def Bks.l (k : Bks) : List Nat := [k.t, k.g, k.T, k.sb, k.eb, k.nb, k.g0, k.t0, k.g1, k.t1]
/-- What turns in a table, but for its maps. -/
structure Tst where
  g : Gv
  t : Tv
  g0 : Gv
  t0 : Tv
  g1 : Gv
  t1 : Tv
  l0 : Int
  l1 : Int
  ws : Value
  turn : Int
def ptr (b : Nat) : Value := .pointer (some ⟨b, 0, none⟩)
/-- A table as it lies, but for its maps. -/
structure Tb (srv : Bool) (x y : Lm) (k : Bks) (s : Tst) (W : World) : Prop where
  tab : Rt 89 (tcs srv x y k.sb k.eb k.nb (ptr k.g) (ptr k.t) k.g0 k.t0 k.g1 k.t1 s.l0 s.l1 s.ws s.turn).toArray W k.T
  hg : Rt 174 s.g.p W k.g
  ht : Rt 176 s.t.p W k.t
  hg0 : Rt 174 s.g0.p W k.g0
  ht0 : Rt 176 s.t0.p W k.t0
  hg1 : Rt 174 s.g1.p W k.g1
  ht1 : Rt 176 s.t1.p W k.t1
  nd : k.l.Nodup
def Tst.begin (x y : Lm) : Tst := ⟨gv0 y.d, tv0 x.d, gv0 y.b, tv0 x.b, gv0 y.s, tv0 x.s, 0, 0, .slice none 0 0, -1⟩
theorem isin_ok {n m : Int} (h : isin n m = true) : 0 ≤ n ∧ n ≤ m := by
  simpa [isin] using h
theorem le_ok {x y : Lm} (h : x.le y = true) : (0 ≤ x.d ∧ x.d ≤ y.d) ∧ (0 ≤ x.l ∧ x.l ≤ y.l) ∧ (0 ≤ x.r ∧ x.r ≤ y.r) ∧ (0 ≤ x.u ∧ x.u ≤ y.u) ∧ (0 ≤ x.b ∧ x.b ≤ y.b) ∧ (0 ≤ x.s ∧ x.s ≤ y.s) := by
  simp only [Lm.le, Bool.and_eq_true] at h
  obtain ⟨⟨⟨⟨⟨h0, h1⟩, h2⟩, h3⟩, h4⟩, h5⟩ := h
  exact ⟨isin_ok h0, isin_ok h1, isin_ok h2, isin_ok h3, isin_ok h4, isin_ok h5⟩
theorem mayt_ok {n : Int} (h0 : 0 ≤ n) (h1 : n ≤ 1073741824) : mayt n = true := by simp [mayt, h0, h1]
theorem may_ok {n : Int} (h0 : 0 ≤ n) (h1 : n ≤ 4611686018427387903) : may n = true := by simp [may, h0, h1]
theorem ls_cells {x y : Lm} {w : World} {B : Nat} {Y : World} (h : Ls x y w B Y) : Y.cell? ⟨B, 4, none⟩ = some (.int .i64 x.b) ∧ Y.cell? ⟨B, 5, none⟩ = some (.int .i64 x.s) ∧ Y.cell? ⟨B + 1, 4, none⟩ = some (.int .i64 y.b) ∧ Y.cell? ⟨B + 1, 5, none⟩ = some (.int .i64 y.s) := by
  obtain ⟨_, _, _, _, a4, a5⟩ := lim_cells h.a
  obtain ⟨_, _, _, _, b4, b5⟩ := lim_cells h.b
  exact ⟨a4, a5, b4, b5⟩
end Go.Proofs.YtijndpjdmiljkaaGreatDoor
