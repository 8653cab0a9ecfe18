/- params: Refs: the program's parameters as the reference has them. -/
import Derived.Test.YtcppnellgkbndaaDoorRs
import Derived.Test.YtcppnellgkbndaaDoorLt
import Derived.Deep.MidRow
namespace Go.Proofs.YtcppnellgkbndaaDoor
open Go.ChangeShapes Go.WideShapes Go.ChangeAt Go.RowKit Go.Shelf
set_option linter.unusedVariables false
set_option maxRecDepth 100000

/-- What surrounds Refs: the parameters in P, the reference's in Q, the result's room in R. -/
structure Rf (w : World) (p : Ps) (P Q R : Nat) (q : Rq) (Y : World) : Prop where
  r : Y.heap[P]? = some (.cells p.cells.toArray 25 (0, 0))
  q : Rr Y Q q
  z : Y.heap[R]? = some (.cells Tryd.zeroCells34 34 (0, 0))
  b : Below w.heap.size w Y
theorem Rf.setN {w Y : World} {p : Ps} {P Q R : Nat} {q : Rq} (h : Rf w p P Q R q Y) (hP : P ≠ Q) (hR : R ≠ Q) (hQ : w.heap.size ≤ Q) (k : Nat) (v : Int) (hk : k < 33) : Rf w p P Q R (q.setN k v) (Y.setCell ⟨Q, k, none⟩ (.int .i64 v)) :=
  ⟨(h.q.other k _ hP).trans h.r, h.q.setN k v hk, (h.q.other k _ hR).trans h.z, h.q.bel h.b hQ k _⟩
theorem Rf.setT {w Y : World} {p : Ps} {P Q R : Nat} {q : Rq} (h : Rf w p P Q R q Y) (hP : P ≠ Q) (hR : R ≠ Q) (hQ : w.heap.size ≤ Q) (k : Nat) (v : ByteArray) (hk : k < 33) : Rf w p P Q R (q.setT k v) (Y.setCell ⟨Q, 33 + k, none⟩ (.string v)) :=
  ⟨(h.q.other (33 + k) _ hP).trans h.r, h.q.setT k v hk, (h.q.other (33 + k) _ hR).trans h.z, h.q.bel h.b hQ (33 + k) _⟩
theorem Rf.drew {w Y : World} {p : Ps} {P Q R : Nat} {q : Rq} (h : Rf w p P Q R q Y) : Rf w p P Q R q Y.drew := ⟨h.r, h.q, h.z, h.b.drew⟩
theorem Rf.cell {w Y : World} {p : Ps} {P Q R : Nat} {q : Rq} (h : Rf w p P Q R q Y) (j : Nat) (v : Value) (hv : p.cells[j]? = some v) : Y.cell? ⟨P, j, none⟩ = some v := cellb h.r (by simpa using hv)
theorem Rf.cv {w Y : World} {p : Ps} {P Q R : Nat} {q : Rq} (h : Rf w p P Q R q Y) (hl : Pl w p) :
    (convert 22 9 (.slice p.orig.o p.orig.l.length p.orig.c)).run Tryd.prog Y = .ok (.string (bt p.orig.l)) Y ∧ (convert 22 9 (.slice (some ⟨P, 17, none⟩) 16 16)).run Tryd.prog Y = .ok (.string (bt p.reset)) Y ∧ (convert 22 9 (.slice p.first.o p.first.l.length p.first.c)).run Tryd.prog Y = .ok (.string (bt p.first.l)) Y ∧ (convert 22 9 (.slice p.again.o p.again.l.length p.again.c)).run Tryd.prog Y = .ok (.string (bt p.again.l)) Y := by
  have hY := hl.bel h.b
  have hpm : Pm Y P p := ⟨h.r, hY.orig, hY.first, hY.again, hY.r16⟩
  have e2 := conv_bytes hpm.rs 16
  rw [hY.r16] at e2
  exact ⟨conv_bytes hY.orig.1 _, e2, conv_bytes hY.first.1 _, conv_bytes hY.again.1 _⟩
theorem bq (a b : Bool) : (Tryd.zeroCells34.setIfInBounds 66 (.bool a)).setIfInBounds 67 (.bool b) = (Rq.cells ⟨fun _ => 0, fun _ => ⟨#[]⟩, a, b⟩).toArray := by kernel_rfl

theorem rqZ_cells (p : Ps) : ((((((((((((((((((⟨fun _ => 0, fun _ => ⟨#[]⟩, p.hasAgain, p.hasReset⟩ : Rq).setN 1 p.idle).setN 3 p.payload).setN 4 p.data).setN 5 p.bl).setN 6 p.br).setN 7 p.un).setN 8 p.sb).setN 9 p.su).setN 10 p.ex).setN 11 p.de).setN 12 (if p.still then 1 else 0)).setN 14 p.ids).setN 32 p.dg).setT 0 (bt p.orig.l)).setT 2 (bt p.reset)).setT 15 (bt p.first.l)).setT 16 (bt p.again.l)).cells = (refq p).cells := by rfl
set_option maxHeartbeats 8000000 in
theorem refs_c (p : Ps) (w : World) (h : Pl w p) : Calls Tryd.prog 10 #[.agg p.cells.toArray] w fun e w' => e = .returned (.agg (refq p).cells.toArray) ∧ Below w.heap.size w w' := by
  obtain ⟨QA, hQA⟩ : ∃ QA, (Tryd.zeroCells34.setIfInBounds 66 (.bool p.hasAgain)).setIfInBounds 67 (.bool p.hasReset) = QA := ⟨_, rfl⟩
  have hQB := bq p.hasAgain p.hasReset
  rw [hQA] at hQB
  obtain ⟨W0, hW0⟩ : ∃ W0, (w.alloc (.cells p.cells.toArray 25)).alloc (.cells Tryd.zeroCells34 34) = W0 := ⟨_, rfl⟩
  have h0 : W0.heap.size = w.heap.size + 1 + 1 := by rw [← hW0]; simp
  have hb0 : Below w.heap.size w W0 := by rw [← hW0]; exact bel_trans (bel1 w _) (bel1 _ _)
  have hp0 : W0.heap[w.heap.size]? = some (.cells p.cells.toArray 25 (0, 0)) := by
    rw [← hW0]
    exact ((bel1 (w.alloc (.cells p.cells.toArray 25)) _).block w.heap.size (by simp)).trans (heap_alloc_new w _)
  have hz0 : W0.heap[w.heap.size + 1]? = some (.cells Tryd.zeroCells34 34 (0, 0)) := by
    rw [← hW0]
    have := heap_alloc_new (w.alloc (.cells p.cells.toArray 25)) (.cells Tryd.zeroCells34 34)
    simpa using this
  obtain ⟨WZ, hWZ⟩ : ∃ WZ, W0.alloc (.cells Tryd.zeroCells34 34) = WZ := ⟨_, rfl⟩
  have hbz : Below W0.heap.size W0 WZ := by rw [← hWZ]; exact bel1 _ _
  have hqz : WZ.heap[w.heap.size + 1 + 1]? = some (.cells Tryd.zeroCells34 34 (0, 0)) := by rw [← h0, ← hWZ]; exact heap_alloc_new W0 _
  have HZ : Aside (WZ.heap[w.heap.size + 1 + 1]? = some (.cells Tryd.zeroCells34 34 (0, 0))) := hqz
  obtain ⟨W1, hW1⟩ : ∃ W1, WZ.setRow (w.heap.size + 1 + 1) QA = W1 := ⟨_, rfl⟩
  have ho : ∀ k, k ≠ w.heap.size + 1 + 1 → W1.heap[k]? = WZ.heap[k]? := fun k hk => by rw [← hW1]; exact setRow_other WZ _ k _ hk
  have hb1 : Below w.heap.size w W1 := by rw [← hW1]; exact (bel_trans hb0 hbz).trans ⟨rfl, rfl, rfl, by simp, fun j hj => setRow_other WZ _ j _ (by omega)⟩
  have HF0 : Aside (Rf w p w.heap.size (w.heap.size + 1 + 1) (w.heap.size + 1) ⟨fun _ => 0, fun _ => ⟨#[]⟩, p.hasAgain, p.hasReset⟩ W1) := by
    refine ⟨(ho _ (by omega)).trans ((hbz.block _ (by omega)).trans hp0), ?_, (ho _ (by omega)).trans ((hbz.block _ (by omega)).trans hz0), hb1⟩
    show W1.heap[_]? = _
    rw [← hW1, ← hQB]
    exact setRow_heap WZ _ _ _ 34 (0, 0) hqz
  have HI : Aside ((Tryd.prog.info? 34).map (·.size) = some QA.size) := by rw [hQB]; exact hi34q _
  have HSZ : Aside (Tryd.zeroCells34.size = QA.size) := by show _ = _; rw [hQB, zQ_eq, Rq.size, Rq.size]
  have HON : Aside (QA.all (·.oneCell') = true) := by rw [hQB]; exact Rq.one _
  have HW1 : Aside (WZ.setRow (w.heap.size + 1 + 1) QA = W1) := hW1
  have a16 : W0.cell? ⟨w.heap.size, 16, none⟩ = some (.bool p.hasAgain) := cellb hp0 (by rfl)
  have a33 : W0.cell? ⟨w.heap.size, 33, none⟩ = some (.bool p.hasReset) := cellb hp0 (by simpa using p.last h.r16)
  have HPL : Aside (Pl w p) := h
  have HEND : Aside (((((((((((((((((((⟨fun _ => 0, fun _ => ⟨#[]⟩, p.hasAgain, p.hasReset⟩ : Rq).setN 1 p.idle).setN 3 p.payload).setN 4 p.data).setN 5 p.bl).setN 6 p.br).setN 7 p.un).setN 8 p.sb).setN 9 p.su).setN 10 p.ex).setN 11 p.de).setN 12 (if p.still then 1 else 0)).setN 14 p.ids).setN 32 p.dg).setT 0 (bt p.orig.l)).setT 2 (bt p.reset)).setT 15 (bt p.first.l)).setT 16 (bt p.again.l)).cells = (refq p).cells) := rqZ_cells p
  have HPQ : Aside (w.heap.size ≠ w.heap.size + 1 + 1) := by show _ ≠ _; omega
  have HRQ : Aside (w.heap.size + 1 ≠ w.heap.size + 1 + 1) := by show _ ≠ _; omega
  have HQ0 : Aside (w.heap.size ≤ w.heap.size + 1 + 1) := by show _ ≤ _; omega
  have HR0 : Aside (w.heap.size ≤ w.heap.size + 1) := by show _ ≤ _; omega
  clear hb0 hp0 hz0 hb1 h hbz hqz ho hQB hW1
  obtain ⟨q0, hq0⟩ : ∃ q0 : Rq, (⟨fun _ => 0, fun _ => ⟨#[]⟩, p.hasAgain, p.hasReset⟩ : Rq) = q0 := ⟨_, rfl⟩
  rw [hq0] at HF0 HEND
  clear hq0
  obtain ⟨sv, hsv⟩ : ∃ sv : Int, (if p.still then (1 : Int) else 0) = sv := ⟨_, rfl⟩
  have HST : Aside (∀ X, Calls Tryd.prog 25 #[.bool p.still] X fun e w' => e = .returned (.int .i64 sv) ∧ w' = X) := fun X => by have := still_c p.still X; rwa [hsv] at this
  rw [hsv] at HEND
  clear hsv
  generalize hcs : p.cells.toArray = cs at hW0
  go_enter Tryd.func10, Tryd.ntmps10
  go_upto_region 2 with (refine wpList_store_row rfl 34 (.tmp 3) (.tmp 8) rfl (w.heap.size + 1 + 1) QA rfl rfl 34 _ HZ.out HI.out HSZ.out HON.out ?_)
  rw [HW1.out]
  rw [show ∀ (a : Act), a.put none undef = a from fun _ => rfl]
  clear HW1 HZ HI HSZ HON hW0 hWZ hQA a16 a33 h0
  have HFd : Aside (Rf w p (w.heap.size) (w.heap.size + 1 + 1) (w.heap.size + 1) q0 W1.drew) := HF0.out.drew
  have HSd : Aside ((fun Z => Z.cell? ⟨w.heap.size, 0, none⟩ = some (.int .i64 p.idle) ∧ Z.cell? ⟨w.heap.size, 1, none⟩ = some (.int .i64 p.payload) ∧ Z.cell? ⟨w.heap.size, 2, none⟩ = some (.int .i64 p.data) ∧ Z.cell? ⟨w.heap.size, 3, none⟩ = some (.int .i64 p.bl) ∧ Z.cell? ⟨w.heap.size, 4, none⟩ = some (.int .i64 p.br) ∧ Z.cell? ⟨w.heap.size, 5, none⟩ = some (.int .i64 p.un)) W1.drew) := ⟨HFd.out.cell 0 _ (by rfl), HFd.out.cell 1 _ (by rfl), HFd.out.cell 2 _ (by rfl), HFd.out.cell 3 _ (by rfl), HFd.out.cell 4 _ (by rfl), HFd.out.cell 5 _ (by rfl)⟩
  go_wp2_with fail
  refine wp_region_held_drew (S := fun Z => Z.cell? ⟨w.heap.size, 0, none⟩ = some (.int .i64 p.idle) ∧ Z.cell? ⟨w.heap.size, 1, none⟩ = some (.int .i64 p.payload) ∧ Z.cell? ⟨w.heap.size, 2, none⟩ = some (.int .i64 p.data) ∧ Z.cell? ⟨w.heap.size, 3, none⟩ = some (.int .i64 p.bl) ∧ Z.cell? ⟨w.heap.size, 4, none⟩ = some (.int .i64 p.br) ∧ Z.cell? ⟨w.heap.size, 5, none⟩ = some (.int .i64 p.un)) (by kernel_rfl) HSd.out (fun hHeld => ?_)
  refine wpAnyH_take (i := 0) (v := .pointer (some ⟨w.heap.size, 0, none⟩)) rfl (by kernel_rfl) (by kernel_rfl) (by kernel_rfl) (fun _ _ _ h => h) (Or.inl ⟨by rfl, by intro w hs; go_simp⟩) hHeld ?_
  refine norm_any' (fun K hK => ?_)
  go_simp
  refine hK _ _ ?_
  clear hK K
  refine wpAnyH_take (i := 1) (v := .int .i64 p.idle) rfl (by kernel_rfl) (by kernel_rfl) (by kernel_rfl) (fun _ _ _ h => h) (Or.inl ⟨by rfl, by rintro w ⟨s0, s1, s2, s3, s4, s5⟩; go_simp⟩) hHeld ?_
  refine norm_any' (fun K hK => ?_)
  go_simp
  refine hK _ _ ?_
  clear hK K
  refine wpAnyH_take (i := 2) (v := .pointer (some ⟨w.heap.size, 1, none⟩)) rfl (by kernel_rfl) (by kernel_rfl) (by kernel_rfl) (fun _ _ _ h => h) (Or.inl ⟨by rfl, by intro w hs; go_simp⟩) hHeld ?_
  refine norm_any' (fun K hK => ?_)
  go_simp
  refine hK _ _ ?_
  clear hK K
  refine wpAnyH_take (i := 3) (v := .int .i64 p.payload) rfl (by kernel_rfl) (by kernel_rfl) (by kernel_rfl) (fun _ _ _ h => h) (Or.inl ⟨by rfl, by rintro w ⟨s0, s1, s2, s3, s4, s5⟩; go_simp⟩) hHeld ?_
  refine norm_any' (fun K hK => ?_)
  go_simp
  refine hK _ _ ?_
  clear hK K
  refine wpAnyH_take (i := 4) (v := .pointer (some ⟨w.heap.size, 2, none⟩)) rfl (by kernel_rfl) (by kernel_rfl) (by kernel_rfl) (fun _ _ _ h => h) (Or.inl ⟨by rfl, by intro w hs; go_simp⟩) hHeld ?_
  refine norm_any' (fun K hK => ?_)
  go_simp
  refine hK _ _ ?_
  clear hK K
  refine wpAnyH_take (i := 5) (v := .int .i64 p.data) rfl (by kernel_rfl) (by kernel_rfl) (by kernel_rfl) (fun _ _ _ h => h) (Or.inl ⟨by rfl, by rintro w ⟨s0, s1, s2, s3, s4, s5⟩; go_simp⟩) hHeld ?_
  refine norm_any' (fun K hK => ?_)
  go_simp
  refine hK _ _ ?_
  clear hK K
  refine wpAnyH_take (i := 6) (v := .pointer (some ⟨w.heap.size, 3, none⟩)) rfl (by kernel_rfl) (by kernel_rfl) (by kernel_rfl) (fun _ _ _ h => h) (Or.inl ⟨by rfl, by intro w hs; go_simp⟩) hHeld ?_
  refine norm_any' (fun K hK => ?_)
  go_simp
  refine hK _ _ ?_
  clear hK K
  refine wpAnyH_take (i := 7) (v := .int .i64 p.bl) rfl (by kernel_rfl) (by kernel_rfl) (by kernel_rfl) (fun _ _ _ h => h) (Or.inl ⟨by rfl, by rintro w ⟨s0, s1, s2, s3, s4, s5⟩; go_simp⟩) hHeld ?_
  refine norm_any' (fun K hK => ?_)
  go_simp
  refine hK _ _ ?_
  clear hK K
  refine wpAnyH_take (i := 8) (v := .pointer (some ⟨w.heap.size, 4, none⟩)) rfl (by kernel_rfl) (by kernel_rfl) (by kernel_rfl) (fun _ _ _ h => h) (Or.inl ⟨by rfl, by intro w hs; go_simp⟩) hHeld ?_
  refine norm_any' (fun K hK => ?_)
  go_simp
  refine hK _ _ ?_
  clear hK K
  refine wpAnyH_take (i := 9) (v := .int .i64 p.br) rfl (by kernel_rfl) (by kernel_rfl) (by kernel_rfl) (fun _ _ _ h => h) (Or.inl ⟨by rfl, by rintro w ⟨s0, s1, s2, s3, s4, s5⟩; go_simp⟩) hHeld ?_
  refine norm_any' (fun K hK => ?_)
  go_simp
  refine hK _ _ ?_
  clear hK K
  refine wpAnyH_take (i := 10) (v := .pointer (some ⟨w.heap.size, 5, none⟩)) rfl (by kernel_rfl) (by kernel_rfl) (by kernel_rfl) (fun _ _ _ h => h) (Or.inl ⟨by rfl, by intro w hs; go_simp⟩) hHeld ?_
  refine norm_any' (fun K hK => ?_)
  go_simp
  refine hK _ _ ?_
  clear hK K
  refine wpAnyH_take (i := 11) (v := .int .i64 p.un) rfl (by kernel_rfl) (by kernel_rfl) (by kernel_rfl) (fun _ _ _ h => h) (Or.inl ⟨by rfl, by rintro w ⟨s0, s1, s2, s3, s4, s5⟩; go_simp⟩) hHeld ?_
  refine norm_any' (fun K hK => ?_)
  go_simp
  refine hK _ _ ?_
  clear hK K
  refine wpAnyH_take (i := 12) (v := .pointer (some ⟨w.heap.size + 1 + 1, 0, none⟩)) rfl (by kernel_rfl) (by kernel_rfl) (by kernel_rfl) (fun _ _ _ h => h) (Or.inl ⟨by rfl, by intro w hs; go_simp⟩) hHeld ?_
  refine norm_any' (fun K hK => ?_)
  go_simp
  refine hK _ _ ?_
  clear hK K
  refine wpAnyH_take (i := 13) (v := .pointer (some ⟨w.heap.size + 1 + 1, 1, none⟩)) rfl (by kernel_rfl) (by kernel_rfl) (by kernel_rfl) (fun _ _ _ h => h) (Or.inl ⟨by rfl, by intro w hs; go_simp⟩) hHeld ?_
  refine norm_any' (fun K hK => ?_)
  go_simp
  refine hK _ _ ?_
  clear hK K
  refine wpAnyH_take (i := 15) (v := .pointer (some ⟨w.heap.size + 1 + 1, 0, none⟩)) rfl (by kernel_rfl) (by kernel_rfl) (by kernel_rfl) (fun _ _ _ h => h) (Or.inl ⟨by rfl, by intro w hs; go_simp⟩) hHeld ?_
  refine norm_any' (fun K hK => ?_)
  go_simp
  refine hK _ _ ?_
  clear hK K
  refine wpAnyH_take (i := 18) (v := .pointer (some ⟨w.heap.size + 1 + 1, 0, none⟩)) rfl (by kernel_rfl) (by kernel_rfl) (by kernel_rfl) (fun _ _ _ h => h) (Or.inl ⟨by rfl, by intro w hs; go_simp⟩) hHeld ?_
  refine norm_any' (fun K hK => ?_)
  go_simp
  refine hK _ _ ?_
  clear hK K
  refine wpAnyH_take (i := 21) (v := .pointer (some ⟨w.heap.size + 1 + 1, 0, none⟩)) rfl (by kernel_rfl) (by kernel_rfl) (by kernel_rfl) (fun _ _ _ h => h) (Or.inl ⟨by rfl, by intro w hs; go_simp⟩) hHeld ?_
  refine norm_any' (fun K hK => ?_)
  go_simp
  refine hK _ _ ?_
  clear hK K
  refine wpAnyH_take (i := 24) (v := .pointer (some ⟨w.heap.size + 1 + 1, 0, none⟩)) rfl (by kernel_rfl) (by kernel_rfl) (by kernel_rfl) (fun _ _ _ h => h) (Or.inl ⟨by rfl, by intro w hs; go_simp⟩) hHeld ?_
  refine norm_any' (fun K hK => ?_)
  go_simp
  refine hK _ _ ?_
  clear hK K
  refine wpAnyH_take (i := 27) (v := .pointer (some ⟨w.heap.size + 1 + 1, 0, none⟩)) rfl (by kernel_rfl) (by kernel_rfl) (by kernel_rfl) (fun _ _ _ h => h) (Or.inl ⟨by rfl, by intro w hs; go_simp⟩) hHeld ?_
  refine norm_any' (fun K hK => ?_)
  go_simp
  refine hK _ _ ?_
  clear hK K
  obtain ⟨Y1, hY⟩ : ∃ Y, (W1.setCell ⟨w.heap.size + 1 + 1, 1, none⟩ (.int .i64 p.idle)).drew = Y := ⟨_, rfl⟩
  have HF1 : Aside (Rf w p (w.heap.size) (w.heap.size + 1 + 1) (w.heap.size + 1) (q0.setN 1 p.idle) Y1) := by rw [← hY]; exact (HF0.out.setN HPQ.out HRQ.out HQ0.out 1 p.idle (by decide)).drew
  have fk2 : W1.drew.frozen? ⟨w.heap.size + 1 + 1, 1, none⟩ = false := HF0.out.q.frozen 1
  have ck2 : W1.drew.cell? ⟨w.heap.size + 1 + 1, 1, none⟩ = _ := HF0.out.q.rc.n 1 (by decide)
  have fk : W1.frozen? ⟨w.heap.size + 1 + 1, 1, none⟩ = false := HF0.out.q.frozen 1
  have ck : W1.cell? ⟨w.heap.size + 1 + 1, 1, none⟩ = _ := HF0.out.q.rc.n 1 (by decide)
  obtain ⟨q1, hq⟩ : ∃ q, q0.setN 1 p.idle = q := ⟨_, rfl⟩
  rw [hq] at HF1 HEND
  clear hq
  have HSn : Aside ((fun Z => Z.cell? ⟨w.heap.size, 0, none⟩ = some (.int .i64 p.idle) ∧ Z.cell? ⟨w.heap.size, 1, none⟩ = some (.int .i64 p.payload) ∧ Z.cell? ⟨w.heap.size, 2, none⟩ = some (.int .i64 p.data) ∧ Z.cell? ⟨w.heap.size, 3, none⟩ = some (.int .i64 p.bl) ∧ Z.cell? ⟨w.heap.size, 4, none⟩ = some (.int .i64 p.br) ∧ Z.cell? ⟨w.heap.size, 5, none⟩ = some (.int .i64 p.un)) Y1) := ⟨HF1.out.cell 0 _ (by rfl), HF1.out.cell 1 _ (by rfl), HF1.out.cell 2 _ (by rfl), HF1.out.cell 3 _ (by rfl), HF1.out.cell 4 _ (by rfl), HF1.out.cell 5 _ (by rfl)⟩
  refine wpAnyH_ready (rs := [14]) (by kernel_rfl) (by simp) (AllReadyH.cons rfl (fun K hK => ?_) AllReadyH.nil)
  go_simp
  refine hK.out _ _ HSn.out (fun hHeld => ?_)
  clear hK K
  refine norm_any' (fun K hK => ?_)
  go_simp
  refine hK _ _ ?_
  clear hK K
  clear hY fk ck HSn fk2 ck2 HFd HSd HF0
  refine wpAnyH_take (i := 16) (v := .pointer (some ⟨w.heap.size + 1 + 1, 3, none⟩)) rfl (by kernel_rfl) (by kernel_rfl) (by kernel_rfl) (fun _ _ _ h => h) (Or.inl ⟨by rfl, by intro w hs; go_simp⟩) hHeld ?_
  refine norm_any' (fun K hK => ?_)
  go_simp
  refine hK _ _ ?_
  clear hK K
  obtain ⟨Y2, hY⟩ : ∃ Y, Y1.setCell ⟨w.heap.size + 1 + 1, 3, none⟩ (.int .i64 p.payload) = Y := ⟨_, rfl⟩
  have HF2 : Aside (Rf w p (w.heap.size) (w.heap.size + 1 + 1) (w.heap.size + 1) (q1.setN 3 p.payload) Y2) := by rw [← hY]; exact HF1.out.setN HPQ.out HRQ.out HQ0.out 3 p.payload (by decide)
  have fk : Y1.frozen? ⟨w.heap.size + 1 + 1, 3, none⟩ = false := HF1.out.q.frozen 3
  have ck : Y1.cell? ⟨w.heap.size + 1 + 1, 3, none⟩ = _ := HF1.out.q.rc.n 3 (by decide)
  obtain ⟨q2, hq⟩ : ∃ q, q1.setN 3 p.payload = q := ⟨_, rfl⟩
  rw [hq] at HF2 HEND
  clear hq
  have HSn : Aside ((fun Z => Z.cell? ⟨w.heap.size, 0, none⟩ = some (.int .i64 p.idle) ∧ Z.cell? ⟨w.heap.size, 1, none⟩ = some (.int .i64 p.payload) ∧ Z.cell? ⟨w.heap.size, 2, none⟩ = some (.int .i64 p.data) ∧ Z.cell? ⟨w.heap.size, 3, none⟩ = some (.int .i64 p.bl) ∧ Z.cell? ⟨w.heap.size, 4, none⟩ = some (.int .i64 p.br) ∧ Z.cell? ⟨w.heap.size, 5, none⟩ = some (.int .i64 p.un)) Y2) := ⟨HF2.out.cell 0 _ (by rfl), HF2.out.cell 1 _ (by rfl), HF2.out.cell 2 _ (by rfl), HF2.out.cell 3 _ (by rfl), HF2.out.cell 4 _ (by rfl), HF2.out.cell 5 _ (by rfl)⟩
  refine wpAnyH_ready (rs := [17]) (by kernel_rfl) (by simp) (AllReadyH.cons rfl (fun K hK => ?_) AllReadyH.nil)
  go_simp
  refine hK.out _ _ HSn.out (fun hHeld => ?_)
  clear hK K
  refine norm_any' (fun K hK => ?_)
  go_simp
  refine hK _ _ ?_
  clear hK K
  clear hY fk ck HSn HF1
  refine wpAnyH_take (i := 19) (v := .pointer (some ⟨w.heap.size + 1 + 1, 4, none⟩)) rfl (by kernel_rfl) (by kernel_rfl) (by kernel_rfl) (fun _ _ _ h => h) (Or.inl ⟨by rfl, by intro w hs; go_simp⟩) hHeld ?_
  refine norm_any' (fun K hK => ?_)
  go_simp
  refine hK _ _ ?_
  clear hK K
  obtain ⟨Y3, hY⟩ : ∃ Y, Y2.setCell ⟨w.heap.size + 1 + 1, 4, none⟩ (.int .i64 p.data) = Y := ⟨_, rfl⟩
  have HF3 : Aside (Rf w p (w.heap.size) (w.heap.size + 1 + 1) (w.heap.size + 1) (q2.setN 4 p.data) Y3) := by rw [← hY]; exact HF2.out.setN HPQ.out HRQ.out HQ0.out 4 p.data (by decide)
  have fk : Y2.frozen? ⟨w.heap.size + 1 + 1, 4, none⟩ = false := HF2.out.q.frozen 4
  have ck : Y2.cell? ⟨w.heap.size + 1 + 1, 4, none⟩ = _ := HF2.out.q.rc.n 4 (by decide)
  obtain ⟨q3, hq⟩ : ∃ q, q2.setN 4 p.data = q := ⟨_, rfl⟩
  rw [hq] at HF3 HEND
  clear hq
  have HSn : Aside ((fun Z => Z.cell? ⟨w.heap.size, 0, none⟩ = some (.int .i64 p.idle) ∧ Z.cell? ⟨w.heap.size, 1, none⟩ = some (.int .i64 p.payload) ∧ Z.cell? ⟨w.heap.size, 2, none⟩ = some (.int .i64 p.data) ∧ Z.cell? ⟨w.heap.size, 3, none⟩ = some (.int .i64 p.bl) ∧ Z.cell? ⟨w.heap.size, 4, none⟩ = some (.int .i64 p.br) ∧ Z.cell? ⟨w.heap.size, 5, none⟩ = some (.int .i64 p.un)) Y3) := ⟨HF3.out.cell 0 _ (by rfl), HF3.out.cell 1 _ (by rfl), HF3.out.cell 2 _ (by rfl), HF3.out.cell 3 _ (by rfl), HF3.out.cell 4 _ (by rfl), HF3.out.cell 5 _ (by rfl)⟩
  refine wpAnyH_ready (rs := [20]) (by kernel_rfl) (by simp) (AllReadyH.cons rfl (fun K hK => ?_) AllReadyH.nil)
  go_simp
  refine hK.out _ _ HSn.out (fun hHeld => ?_)
  clear hK K
  refine norm_any' (fun K hK => ?_)
  go_simp
  refine hK _ _ ?_
  clear hK K
  clear hY fk ck HSn HF2
  refine wpAnyH_take (i := 22) (v := .pointer (some ⟨w.heap.size + 1 + 1, 5, none⟩)) rfl (by kernel_rfl) (by kernel_rfl) (by kernel_rfl) (fun _ _ _ h => h) (Or.inl ⟨by rfl, by intro w hs; go_simp⟩) hHeld ?_
  refine norm_any' (fun K hK => ?_)
  go_simp
  refine hK _ _ ?_
  clear hK K
  obtain ⟨Y4, hY⟩ : ∃ Y, Y3.setCell ⟨w.heap.size + 1 + 1, 5, none⟩ (.int .i64 p.bl) = Y := ⟨_, rfl⟩
  have HF4 : Aside (Rf w p (w.heap.size) (w.heap.size + 1 + 1) (w.heap.size + 1) (q3.setN 5 p.bl) Y4) := by rw [← hY]; exact HF3.out.setN HPQ.out HRQ.out HQ0.out 5 p.bl (by decide)
  have fk : Y3.frozen? ⟨w.heap.size + 1 + 1, 5, none⟩ = false := HF3.out.q.frozen 5
  have ck : Y3.cell? ⟨w.heap.size + 1 + 1, 5, none⟩ = _ := HF3.out.q.rc.n 5 (by decide)
  obtain ⟨q4, hq⟩ : ∃ q, q3.setN 5 p.bl = q := ⟨_, rfl⟩
  rw [hq] at HF4 HEND
  clear hq
  have HSn : Aside ((fun Z => Z.cell? ⟨w.heap.size, 0, none⟩ = some (.int .i64 p.idle) ∧ Z.cell? ⟨w.heap.size, 1, none⟩ = some (.int .i64 p.payload) ∧ Z.cell? ⟨w.heap.size, 2, none⟩ = some (.int .i64 p.data) ∧ Z.cell? ⟨w.heap.size, 3, none⟩ = some (.int .i64 p.bl) ∧ Z.cell? ⟨w.heap.size, 4, none⟩ = some (.int .i64 p.br) ∧ Z.cell? ⟨w.heap.size, 5, none⟩ = some (.int .i64 p.un)) Y4) := ⟨HF4.out.cell 0 _ (by rfl), HF4.out.cell 1 _ (by rfl), HF4.out.cell 2 _ (by rfl), HF4.out.cell 3 _ (by rfl), HF4.out.cell 4 _ (by rfl), HF4.out.cell 5 _ (by rfl)⟩
  refine wpAnyH_ready (rs := [23]) (by kernel_rfl) (by simp) (AllReadyH.cons rfl (fun K hK => ?_) AllReadyH.nil)
  go_simp
  refine hK.out _ _ HSn.out (fun hHeld => ?_)
  clear hK K
  refine norm_any' (fun K hK => ?_)
  go_simp
  refine hK _ _ ?_
  clear hK K
  clear hY fk ck HSn HF3
  refine wpAnyH_take (i := 25) (v := .pointer (some ⟨w.heap.size + 1 + 1, 6, none⟩)) rfl (by kernel_rfl) (by kernel_rfl) (by kernel_rfl) (fun _ _ _ h => h) (Or.inl ⟨by rfl, by intro w hs; go_simp⟩) hHeld ?_
  refine norm_any' (fun K hK => ?_)
  go_simp
  refine hK _ _ ?_
  clear hK K
  obtain ⟨Y5, hY⟩ : ∃ Y, Y4.setCell ⟨w.heap.size + 1 + 1, 6, none⟩ (.int .i64 p.br) = Y := ⟨_, rfl⟩
  have HF5 : Aside (Rf w p (w.heap.size) (w.heap.size + 1 + 1) (w.heap.size + 1) (q4.setN 6 p.br) Y5) := by rw [← hY]; exact HF4.out.setN HPQ.out HRQ.out HQ0.out 6 p.br (by decide)
  have fk : Y4.frozen? ⟨w.heap.size + 1 + 1, 6, none⟩ = false := HF4.out.q.frozen 6
  have ck : Y4.cell? ⟨w.heap.size + 1 + 1, 6, none⟩ = _ := HF4.out.q.rc.n 6 (by decide)
  obtain ⟨q5, hq⟩ : ∃ q, q4.setN 6 p.br = q := ⟨_, rfl⟩
  rw [hq] at HF5 HEND
  clear hq
  have HSn : Aside ((fun Z => Z.cell? ⟨w.heap.size, 0, none⟩ = some (.int .i64 p.idle) ∧ Z.cell? ⟨w.heap.size, 1, none⟩ = some (.int .i64 p.payload) ∧ Z.cell? ⟨w.heap.size, 2, none⟩ = some (.int .i64 p.data) ∧ Z.cell? ⟨w.heap.size, 3, none⟩ = some (.int .i64 p.bl) ∧ Z.cell? ⟨w.heap.size, 4, none⟩ = some (.int .i64 p.br) ∧ Z.cell? ⟨w.heap.size, 5, none⟩ = some (.int .i64 p.un)) Y5) := ⟨HF5.out.cell 0 _ (by rfl), HF5.out.cell 1 _ (by rfl), HF5.out.cell 2 _ (by rfl), HF5.out.cell 3 _ (by rfl), HF5.out.cell 4 _ (by rfl), HF5.out.cell 5 _ (by rfl)⟩
  refine wpAnyH_ready (rs := [26]) (by kernel_rfl) (by simp) (AllReadyH.cons rfl (fun K hK => ?_) AllReadyH.nil)
  go_simp
  refine hK.out _ _ HSn.out (fun hHeld => ?_)
  clear hK K
  refine norm_any' (fun K hK => ?_)
  go_simp
  refine hK _ _ ?_
  clear hK K
  clear hY fk ck HSn HF4
  refine wpAnyH_take (i := 28) (v := .pointer (some ⟨w.heap.size + 1 + 1, 7, none⟩)) rfl (by kernel_rfl) (by kernel_rfl) (by kernel_rfl) (fun _ _ _ h => h) (Or.inl ⟨by rfl, by intro w hs; go_simp⟩) hHeld ?_
  refine norm_any' (fun K hK => ?_)
  go_simp
  refine hK _ _ ?_
  clear hK K
  obtain ⟨Y6, hY⟩ : ∃ Y, Y5.setCell ⟨w.heap.size + 1 + 1, 7, none⟩ (.int .i64 p.un) = Y := ⟨_, rfl⟩
  have HF6 : Aside (Rf w p (w.heap.size) (w.heap.size + 1 + 1) (w.heap.size + 1) (q5.setN 7 p.un) Y6) := by rw [← hY]; exact HF5.out.setN HPQ.out HRQ.out HQ0.out 7 p.un (by decide)
  have fk : Y5.frozen? ⟨w.heap.size + 1 + 1, 7, none⟩ = false := HF5.out.q.frozen 7
  have ck : Y5.cell? ⟨w.heap.size + 1 + 1, 7, none⟩ = _ := HF5.out.q.rc.n 7 (by decide)
  obtain ⟨q6, hq⟩ : ∃ q, q5.setN 7 p.un = q := ⟨_, rfl⟩
  rw [hq] at HF6 HEND
  clear hq
  have HSn : Aside ((fun Z => Z.cell? ⟨w.heap.size, 0, none⟩ = some (.int .i64 p.idle) ∧ Z.cell? ⟨w.heap.size, 1, none⟩ = some (.int .i64 p.payload) ∧ Z.cell? ⟨w.heap.size, 2, none⟩ = some (.int .i64 p.data) ∧ Z.cell? ⟨w.heap.size, 3, none⟩ = some (.int .i64 p.bl) ∧ Z.cell? ⟨w.heap.size, 4, none⟩ = some (.int .i64 p.br) ∧ Z.cell? ⟨w.heap.size, 5, none⟩ = some (.int .i64 p.un)) Y6) := ⟨HF6.out.cell 0 _ (by rfl), HF6.out.cell 1 _ (by rfl), HF6.out.cell 2 _ (by rfl), HF6.out.cell 3 _ (by rfl), HF6.out.cell 4 _ (by rfl), HF6.out.cell 5 _ (by rfl)⟩
  refine wpAnyH_ready (rs := [29]) (by kernel_rfl) (by simp) (AllReadyH.cons rfl (fun K hK => ?_) AllReadyH.nil)
  go_simp
  refine hK.out _ _ HSn.out (fun hHeld => ?_)
  clear hK K
  refine norm_any' (fun K hK => ?_)
  go_simp
  refine hK _ _ ?_
  clear hK K
  clear hY fk ck HSn HF5
  refine wpAnyH_done (by kernel_rfl) ?_ _
  clear hHeld
  have HFd : Aside (Rf w p (w.heap.size) (w.heap.size + 1 + 1) (w.heap.size + 1) q6 Y6.drew) := HF6.out.drew
  have HSd : Aside ((fun Z => Z.cell? ⟨w.heap.size, 6, none⟩ = some (.int .i64 p.sb) ∧ Z.cell? ⟨w.heap.size, 7, none⟩ = some (.int .i64 p.su) ∧ Z.cell? ⟨w.heap.size, 8, none⟩ = some (.int .i64 p.ex) ∧ Z.cell? ⟨w.heap.size, 9, none⟩ = some (.int .i64 p.de) ∧ Z.cell? ⟨w.heap.size, 10, none⟩ = some (.bool p.still) ∧ Z.cell? ⟨w.heap.size, 11, none⟩ = some (.int .i64 p.ids) ∧ Z.cell? ⟨w.heap.size, 12, none⟩ = some (.int .i64 p.dg)) Y6.drew) := ⟨HFd.out.cell 6 _ (by rfl), HFd.out.cell 7 _ (by rfl), HFd.out.cell 8 _ (by rfl), HFd.out.cell 9 _ (by rfl), HFd.out.cell 10 _ (by rfl), HFd.out.cell 11 _ (by rfl), HFd.out.cell 12 _ (by rfl)⟩
  go_wp2_with fail
  refine wp_region_held_drew (S := fun Z => Z.cell? ⟨w.heap.size, 6, none⟩ = some (.int .i64 p.sb) ∧ Z.cell? ⟨w.heap.size, 7, none⟩ = some (.int .i64 p.su) ∧ Z.cell? ⟨w.heap.size, 8, none⟩ = some (.int .i64 p.ex) ∧ Z.cell? ⟨w.heap.size, 9, none⟩ = some (.int .i64 p.de) ∧ Z.cell? ⟨w.heap.size, 10, none⟩ = some (.bool p.still) ∧ Z.cell? ⟨w.heap.size, 11, none⟩ = some (.int .i64 p.ids) ∧ Z.cell? ⟨w.heap.size, 12, none⟩ = some (.int .i64 p.dg)) (by kernel_rfl) HSd.out (fun hHeld => ?_)
  refine wpAnyH_take (i := 0) (v := .pointer (some ⟨w.heap.size, 6, none⟩)) rfl (by kernel_rfl) (by kernel_rfl) (by kernel_rfl) (fun _ _ _ h => h) (Or.inl ⟨by rfl, by intro w hs; go_simp⟩) hHeld ?_
  refine norm_any' (fun K hK => ?_)
  go_simp
  refine hK _ _ ?_
  clear hK K
  refine wpAnyH_take (i := 1) (v := .int .i64 p.sb) rfl (by kernel_rfl) (by kernel_rfl) (by kernel_rfl) (fun _ _ _ h => h) (Or.inl ⟨by rfl, by rintro w ⟨s0, s1, s2, s3, s4, s5, s6⟩; go_simp⟩) hHeld ?_
  refine norm_any' (fun K hK => ?_)
  go_simp
  refine hK _ _ ?_
  clear hK K
  refine wpAnyH_take (i := 2) (v := .pointer (some ⟨w.heap.size, 7, none⟩)) rfl (by kernel_rfl) (by kernel_rfl) (by kernel_rfl) (fun _ _ _ h => h) (Or.inl ⟨by rfl, by intro w hs; go_simp⟩) hHeld ?_
  refine norm_any' (fun K hK => ?_)
  go_simp
  refine hK _ _ ?_
  clear hK K
  refine wpAnyH_take (i := 3) (v := .int .i64 p.su) rfl (by kernel_rfl) (by kernel_rfl) (by kernel_rfl) (fun _ _ _ h => h) (Or.inl ⟨by rfl, by rintro w ⟨s0, s1, s2, s3, s4, s5, s6⟩; go_simp⟩) hHeld ?_
  refine norm_any' (fun K hK => ?_)
  go_simp
  refine hK _ _ ?_
  clear hK K
  refine wpAnyH_take (i := 4) (v := .pointer (some ⟨w.heap.size, 8, none⟩)) rfl (by kernel_rfl) (by kernel_rfl) (by kernel_rfl) (fun _ _ _ h => h) (Or.inl ⟨by rfl, by intro w hs; go_simp⟩) hHeld ?_
  refine norm_any' (fun K hK => ?_)
  go_simp
  refine hK _ _ ?_
  clear hK K
  refine wpAnyH_take (i := 5) (v := .int .i64 p.ex) rfl (by kernel_rfl) (by kernel_rfl) (by kernel_rfl) (fun _ _ _ h => h) (Or.inl ⟨by rfl, by rintro w ⟨s0, s1, s2, s3, s4, s5, s6⟩; go_simp⟩) hHeld ?_
  refine norm_any' (fun K hK => ?_)
  go_simp
  refine hK _ _ ?_
  clear hK K
  refine wpAnyH_take (i := 6) (v := .pointer (some ⟨w.heap.size, 9, none⟩)) rfl (by kernel_rfl) (by kernel_rfl) (by kernel_rfl) (fun _ _ _ h => h) (Or.inl ⟨by rfl, by intro w hs; go_simp⟩) hHeld ?_
  refine norm_any' (fun K hK => ?_)
  go_simp
  refine hK _ _ ?_
  clear hK K
  refine wpAnyH_take (i := 7) (v := .int .i64 p.de) rfl (by kernel_rfl) (by kernel_rfl) (by kernel_rfl) (fun _ _ _ h => h) (Or.inl ⟨by rfl, by rintro w ⟨s0, s1, s2, s3, s4, s5, s6⟩; go_simp⟩) hHeld ?_
  refine norm_any' (fun K hK => ?_)
  go_simp
  refine hK _ _ ?_
  clear hK K
  refine wpAnyH_take (i := 8) (v := .pointer (some ⟨w.heap.size, 10, none⟩)) rfl (by kernel_rfl) (by kernel_rfl) (by kernel_rfl) (fun _ _ _ h => h) (Or.inl ⟨by rfl, by intro w hs; go_simp⟩) hHeld ?_
  refine norm_any' (fun K hK => ?_)
  go_simp
  refine hK _ _ ?_
  clear hK K
  refine wpAnyH_take (i := 9) (v := .bool p.still) rfl (by kernel_rfl) (by kernel_rfl) (by kernel_rfl) (fun _ _ _ h => h) (Or.inl ⟨by rfl, by rintro w ⟨s0, s1, s2, s3, s4, s5, s6⟩; go_simp⟩) hHeld ?_
  refine norm_any' (fun K hK => ?_)
  go_simp
  refine hK _ _ ?_
  clear hK K
  refine wpAnyH_take (i := 11) (v := .pointer (some ⟨w.heap.size, 11, none⟩)) rfl (by kernel_rfl) (by kernel_rfl) (by kernel_rfl) (fun _ _ _ h => h) (Or.inl ⟨by rfl, by intro w hs; go_simp⟩) hHeld ?_
  refine norm_any' (fun K hK => ?_)
  go_simp
  refine hK _ _ ?_
  clear hK K
  refine wpAnyH_take (i := 12) (v := .int .i64 p.ids) rfl (by kernel_rfl) (by kernel_rfl) (by kernel_rfl) (fun _ _ _ h => h) (Or.inl ⟨by rfl, by rintro w ⟨s0, s1, s2, s3, s4, s5, s6⟩; go_simp⟩) hHeld ?_
  refine norm_any' (fun K hK => ?_)
  go_simp
  refine hK _ _ ?_
  clear hK K
  refine wpAnyH_take (i := 13) (v := .pointer (some ⟨w.heap.size, 12, none⟩)) rfl (by kernel_rfl) (by kernel_rfl) (by kernel_rfl) (fun _ _ _ h => h) (Or.inl ⟨by rfl, by intro w hs; go_simp⟩) hHeld ?_
  refine norm_any' (fun K hK => ?_)
  go_simp
  refine hK _ _ ?_
  clear hK K
  refine wpAnyH_take (i := 14) (v := .int .i64 p.dg) rfl (by kernel_rfl) (by kernel_rfl) (by kernel_rfl) (fun _ _ _ h => h) (Or.inl ⟨by rfl, by rintro w ⟨s0, s1, s2, s3, s4, s5, s6⟩; go_simp⟩) hHeld ?_
  refine norm_any' (fun K hK => ?_)
  go_simp
  refine hK _ _ ?_
  clear hK K
  refine wpAnyH_take (i := 15) (v := .pointer (some ⟨w.heap.size + 1 + 1, 0, none⟩)) rfl (by kernel_rfl) (by kernel_rfl) (by kernel_rfl) (fun _ _ _ h => h) (Or.inl ⟨by rfl, by intro w hs; go_simp⟩) hHeld ?_
  refine norm_any' (fun K hK => ?_)
  go_simp
  refine hK _ _ ?_
  clear hK K
  refine wpAnyH_take (i := 16) (v := .pointer (some ⟨w.heap.size + 1 + 1, 8, none⟩)) rfl (by kernel_rfl) (by kernel_rfl) (by kernel_rfl) (fun _ _ _ h => h) (Or.inl ⟨by rfl, by intro w hs; go_simp⟩) hHeld ?_
  refine norm_any' (fun K hK => ?_)
  go_simp
  refine hK _ _ ?_
  clear hK K
  refine wpAnyH_take (i := 18) (v := .pointer (some ⟨w.heap.size + 1 + 1, 0, none⟩)) rfl (by kernel_rfl) (by kernel_rfl) (by kernel_rfl) (fun _ _ _ h => h) (Or.inl ⟨by rfl, by intro w hs; go_simp⟩) hHeld ?_
  refine norm_any' (fun K hK => ?_)
  go_simp
  refine hK _ _ ?_
  clear hK K
  refine wpAnyH_take (i := 21) (v := .pointer (some ⟨w.heap.size + 1 + 1, 0, none⟩)) rfl (by kernel_rfl) (by kernel_rfl) (by kernel_rfl) (fun _ _ _ h => h) (Or.inl ⟨by rfl, by intro w hs; go_simp⟩) hHeld ?_
  refine norm_any' (fun K hK => ?_)
  go_simp
  refine hK _ _ ?_
  clear hK K
  refine wpAnyH_take (i := 24) (v := .pointer (some ⟨w.heap.size + 1 + 1, 0, none⟩)) rfl (by kernel_rfl) (by kernel_rfl) (by kernel_rfl) (fun _ _ _ h => h) (Or.inl ⟨by rfl, by intro w hs; go_simp⟩) hHeld ?_
  refine norm_any' (fun K hK => ?_)
  go_simp
  refine hK _ _ ?_
  clear hK K
  refine wpAnyH_take (i := 27) (v := .pointer (some ⟨w.heap.size + 1 + 1, 0, none⟩)) rfl (by kernel_rfl) (by kernel_rfl) (by kernel_rfl) (fun _ _ _ h => h) (Or.inl ⟨by rfl, by intro w hs; go_simp⟩) hHeld ?_
  refine norm_any' (fun K hK => ?_)
  go_simp
  refine hK _ _ ?_
  clear hK K
  refine wpAnyH_take (i := 30) (v := .pointer (some ⟨w.heap.size + 1 + 1, 0, none⟩)) rfl (by kernel_rfl) (by kernel_rfl) (by kernel_rfl) (fun _ _ _ h => h) (Or.inl ⟨by rfl, by intro w hs; go_simp⟩) hHeld ?_
  refine norm_any' (fun K hK => ?_)
  go_simp
  refine hK _ _ ?_
  clear hK K
  refine wpAnyH_take (i := 33) (v := .pointer (some ⟨w.heap.size + 1 + 1, 0, none⟩)) rfl (by kernel_rfl) (by kernel_rfl) (by kernel_rfl) (fun _ _ _ h => h) (Or.inl ⟨by rfl, by intro w hs; go_simp⟩) hHeld ?_
  refine norm_any' (fun K hK => ?_)
  go_simp
  refine hK _ _ ?_
  clear hK K
  refine wpAnyH_ready (rs := [10]) (by kernel_rfl) (by simp) (AllReadyH.cons rfl (fun K hK => ?_) AllReadyH.nil)
  go_simp
  refine Calls.mono (HST.out _) ?_
  rintro e w4 ⟨rfl, hw4⟩
  subst w4
  refine hK.out _ _ hHeld (fun hHeld => ?_)
  clear hK K
  refine norm_any' (fun K hK => ?_)
  go_simp
  refine hK _ _ ?_
  clear hK K
  obtain ⟨Y7, hY⟩ : ∃ Y, (Y6.setCell ⟨w.heap.size + 1 + 1, 8, none⟩ (.int .i64 p.sb)).drew = Y := ⟨_, rfl⟩
  have HF7 : Aside (Rf w p (w.heap.size) (w.heap.size + 1 + 1) (w.heap.size + 1) (q6.setN 8 p.sb) Y7) := by rw [← hY]; exact (HF6.out.setN HPQ.out HRQ.out HQ0.out 8 p.sb (by decide)).drew
  have fk2 : Y6.drew.frozen? ⟨w.heap.size + 1 + 1, 8, none⟩ = false := HF6.out.q.frozen 8
  have ck2 : Y6.drew.cell? ⟨w.heap.size + 1 + 1, 8, none⟩ = _ := HF6.out.q.rc.n 8 (by decide)
  have fk : Y6.frozen? ⟨w.heap.size + 1 + 1, 8, none⟩ = false := HF6.out.q.frozen 8
  have ck : Y6.cell? ⟨w.heap.size + 1 + 1, 8, none⟩ = _ := HF6.out.q.rc.n 8 (by decide)
  obtain ⟨q7, hq⟩ : ∃ q, q6.setN 8 p.sb = q := ⟨_, rfl⟩
  rw [hq] at HF7 HEND
  clear hq
  have HSn : Aside ((fun Z => Z.cell? ⟨w.heap.size, 6, none⟩ = some (.int .i64 p.sb) ∧ Z.cell? ⟨w.heap.size, 7, none⟩ = some (.int .i64 p.su) ∧ Z.cell? ⟨w.heap.size, 8, none⟩ = some (.int .i64 p.ex) ∧ Z.cell? ⟨w.heap.size, 9, none⟩ = some (.int .i64 p.de) ∧ Z.cell? ⟨w.heap.size, 10, none⟩ = some (.bool p.still) ∧ Z.cell? ⟨w.heap.size, 11, none⟩ = some (.int .i64 p.ids) ∧ Z.cell? ⟨w.heap.size, 12, none⟩ = some (.int .i64 p.dg)) Y7) := ⟨HF7.out.cell 6 _ (by rfl), HF7.out.cell 7 _ (by rfl), HF7.out.cell 8 _ (by rfl), HF7.out.cell 9 _ (by rfl), HF7.out.cell 10 _ (by rfl), HF7.out.cell 11 _ (by rfl), HF7.out.cell 12 _ (by rfl)⟩
  refine wpAnyH_ready (rs := [17]) (by kernel_rfl) (by simp) (AllReadyH.cons rfl (fun K hK => ?_) AllReadyH.nil)
  go_simp
  refine hK.out _ _ HSn.out (fun hHeld => ?_)
  clear hK K
  refine norm_any' (fun K hK => ?_)
  go_simp
  refine hK _ _ ?_
  clear hK K
  clear hY fk ck HSn fk2 ck2 HFd HSd HF6
  refine wpAnyH_take (i := 19) (v := .pointer (some ⟨w.heap.size + 1 + 1, 9, none⟩)) rfl (by kernel_rfl) (by kernel_rfl) (by kernel_rfl) (fun _ _ _ h => h) (Or.inl ⟨by rfl, by intro w hs; go_simp⟩) hHeld ?_
  refine norm_any' (fun K hK => ?_)
  go_simp
  refine hK _ _ ?_
  clear hK K
  obtain ⟨Y8, hY⟩ : ∃ Y, Y7.setCell ⟨w.heap.size + 1 + 1, 9, none⟩ (.int .i64 p.su) = Y := ⟨_, rfl⟩
  have HF8 : Aside (Rf w p (w.heap.size) (w.heap.size + 1 + 1) (w.heap.size + 1) (q7.setN 9 p.su) Y8) := by rw [← hY]; exact HF7.out.setN HPQ.out HRQ.out HQ0.out 9 p.su (by decide)
  have fk : Y7.frozen? ⟨w.heap.size + 1 + 1, 9, none⟩ = false := HF7.out.q.frozen 9
  have ck : Y7.cell? ⟨w.heap.size + 1 + 1, 9, none⟩ = _ := HF7.out.q.rc.n 9 (by decide)
  obtain ⟨q8, hq⟩ : ∃ q, q7.setN 9 p.su = q := ⟨_, rfl⟩
  rw [hq] at HF8 HEND
  clear hq
  have HSn : Aside ((fun Z => Z.cell? ⟨w.heap.size, 6, none⟩ = some (.int .i64 p.sb) ∧ Z.cell? ⟨w.heap.size, 7, none⟩ = some (.int .i64 p.su) ∧ Z.cell? ⟨w.heap.size, 8, none⟩ = some (.int .i64 p.ex) ∧ Z.cell? ⟨w.heap.size, 9, none⟩ = some (.int .i64 p.de) ∧ Z.cell? ⟨w.heap.size, 10, none⟩ = some (.bool p.still) ∧ Z.cell? ⟨w.heap.size, 11, none⟩ = some (.int .i64 p.ids) ∧ Z.cell? ⟨w.heap.size, 12, none⟩ = some (.int .i64 p.dg)) Y8) := ⟨HF8.out.cell 6 _ (by rfl), HF8.out.cell 7 _ (by rfl), HF8.out.cell 8 _ (by rfl), HF8.out.cell 9 _ (by rfl), HF8.out.cell 10 _ (by rfl), HF8.out.cell 11 _ (by rfl), HF8.out.cell 12 _ (by rfl)⟩
  refine wpAnyH_ready (rs := [20]) (by kernel_rfl) (by simp) (AllReadyH.cons rfl (fun K hK => ?_) AllReadyH.nil)
  go_simp
  refine hK.out _ _ HSn.out (fun hHeld => ?_)
  clear hK K
  refine norm_any' (fun K hK => ?_)
  go_simp
  refine hK _ _ ?_
  clear hK K
  clear hY fk ck HSn HF7
  refine wpAnyH_take (i := 22) (v := .pointer (some ⟨w.heap.size + 1 + 1, 10, none⟩)) rfl (by kernel_rfl) (by kernel_rfl) (by kernel_rfl) (fun _ _ _ h => h) (Or.inl ⟨by rfl, by intro w hs; go_simp⟩) hHeld ?_
  refine norm_any' (fun K hK => ?_)
  go_simp
  refine hK _ _ ?_
  clear hK K
  obtain ⟨Y9, hY⟩ : ∃ Y, Y8.setCell ⟨w.heap.size + 1 + 1, 10, none⟩ (.int .i64 p.ex) = Y := ⟨_, rfl⟩
  have HF9 : Aside (Rf w p (w.heap.size) (w.heap.size + 1 + 1) (w.heap.size + 1) (q8.setN 10 p.ex) Y9) := by rw [← hY]; exact HF8.out.setN HPQ.out HRQ.out HQ0.out 10 p.ex (by decide)
  have fk : Y8.frozen? ⟨w.heap.size + 1 + 1, 10, none⟩ = false := HF8.out.q.frozen 10
  have ck : Y8.cell? ⟨w.heap.size + 1 + 1, 10, none⟩ = _ := HF8.out.q.rc.n 10 (by decide)
  obtain ⟨q9, hq⟩ : ∃ q, q8.setN 10 p.ex = q := ⟨_, rfl⟩
  rw [hq] at HF9 HEND
  clear hq
  have HSn : Aside ((fun Z => Z.cell? ⟨w.heap.size, 6, none⟩ = some (.int .i64 p.sb) ∧ Z.cell? ⟨w.heap.size, 7, none⟩ = some (.int .i64 p.su) ∧ Z.cell? ⟨w.heap.size, 8, none⟩ = some (.int .i64 p.ex) ∧ Z.cell? ⟨w.heap.size, 9, none⟩ = some (.int .i64 p.de) ∧ Z.cell? ⟨w.heap.size, 10, none⟩ = some (.bool p.still) ∧ Z.cell? ⟨w.heap.size, 11, none⟩ = some (.int .i64 p.ids) ∧ Z.cell? ⟨w.heap.size, 12, none⟩ = some (.int .i64 p.dg)) Y9) := ⟨HF9.out.cell 6 _ (by rfl), HF9.out.cell 7 _ (by rfl), HF9.out.cell 8 _ (by rfl), HF9.out.cell 9 _ (by rfl), HF9.out.cell 10 _ (by rfl), HF9.out.cell 11 _ (by rfl), HF9.out.cell 12 _ (by rfl)⟩
  refine wpAnyH_ready (rs := [23]) (by kernel_rfl) (by simp) (AllReadyH.cons rfl (fun K hK => ?_) AllReadyH.nil)
  go_simp
  refine hK.out _ _ HSn.out (fun hHeld => ?_)
  clear hK K
  refine norm_any' (fun K hK => ?_)
  go_simp
  refine hK _ _ ?_
  clear hK K
  clear hY fk ck HSn HF8
  refine wpAnyH_take (i := 25) (v := .pointer (some ⟨w.heap.size + 1 + 1, 11, none⟩)) rfl (by kernel_rfl) (by kernel_rfl) (by kernel_rfl) (fun _ _ _ h => h) (Or.inl ⟨by rfl, by intro w hs; go_simp⟩) hHeld ?_
  refine norm_any' (fun K hK => ?_)
  go_simp
  refine hK _ _ ?_
  clear hK K
  obtain ⟨Y10, hY⟩ : ∃ Y, Y9.setCell ⟨w.heap.size + 1 + 1, 11, none⟩ (.int .i64 p.de) = Y := ⟨_, rfl⟩
  have HF10 : Aside (Rf w p (w.heap.size) (w.heap.size + 1 + 1) (w.heap.size + 1) (q9.setN 11 p.de) Y10) := by rw [← hY]; exact HF9.out.setN HPQ.out HRQ.out HQ0.out 11 p.de (by decide)
  have fk : Y9.frozen? ⟨w.heap.size + 1 + 1, 11, none⟩ = false := HF9.out.q.frozen 11
  have ck : Y9.cell? ⟨w.heap.size + 1 + 1, 11, none⟩ = _ := HF9.out.q.rc.n 11 (by decide)
  obtain ⟨q10, hq⟩ : ∃ q, q9.setN 11 p.de = q := ⟨_, rfl⟩
  rw [hq] at HF10 HEND
  clear hq
  have HSn : Aside ((fun Z => Z.cell? ⟨w.heap.size, 6, none⟩ = some (.int .i64 p.sb) ∧ Z.cell? ⟨w.heap.size, 7, none⟩ = some (.int .i64 p.su) ∧ Z.cell? ⟨w.heap.size, 8, none⟩ = some (.int .i64 p.ex) ∧ Z.cell? ⟨w.heap.size, 9, none⟩ = some (.int .i64 p.de) ∧ Z.cell? ⟨w.heap.size, 10, none⟩ = some (.bool p.still) ∧ Z.cell? ⟨w.heap.size, 11, none⟩ = some (.int .i64 p.ids) ∧ Z.cell? ⟨w.heap.size, 12, none⟩ = some (.int .i64 p.dg)) Y10) := ⟨HF10.out.cell 6 _ (by rfl), HF10.out.cell 7 _ (by rfl), HF10.out.cell 8 _ (by rfl), HF10.out.cell 9 _ (by rfl), HF10.out.cell 10 _ (by rfl), HF10.out.cell 11 _ (by rfl), HF10.out.cell 12 _ (by rfl)⟩
  refine wpAnyH_ready (rs := [26]) (by kernel_rfl) (by simp) (AllReadyH.cons rfl (fun K hK => ?_) AllReadyH.nil)
  go_simp
  refine hK.out _ _ HSn.out (fun hHeld => ?_)
  clear hK K
  refine norm_any' (fun K hK => ?_)
  go_simp
  refine hK _ _ ?_
  clear hK K
  clear hY fk ck HSn HF9
  refine wpAnyH_take (i := 28) (v := .pointer (some ⟨w.heap.size + 1 + 1, 12, none⟩)) rfl (by kernel_rfl) (by kernel_rfl) (by kernel_rfl) (fun _ _ _ h => h) (Or.inl ⟨by rfl, by intro w hs; go_simp⟩) hHeld ?_
  refine norm_any' (fun K hK => ?_)
  go_simp
  refine hK _ _ ?_
  clear hK K
  obtain ⟨Y11, hY⟩ : ∃ Y, Y10.setCell ⟨w.heap.size + 1 + 1, 12, none⟩ (.int .i64 sv) = Y := ⟨_, rfl⟩
  have HF11 : Aside (Rf w p (w.heap.size) (w.heap.size + 1 + 1) (w.heap.size + 1) (q10.setN 12 sv) Y11) := by rw [← hY]; exact HF10.out.setN HPQ.out HRQ.out HQ0.out 12 sv (by decide)
  have fk : Y10.frozen? ⟨w.heap.size + 1 + 1, 12, none⟩ = false := HF10.out.q.frozen 12
  have ck : Y10.cell? ⟨w.heap.size + 1 + 1, 12, none⟩ = _ := HF10.out.q.rc.n 12 (by decide)
  obtain ⟨q11, hq⟩ : ∃ q, q10.setN 12 sv = q := ⟨_, rfl⟩
  rw [hq] at HF11 HEND
  clear hq
  have HSn : Aside ((fun Z => Z.cell? ⟨w.heap.size, 6, none⟩ = some (.int .i64 p.sb) ∧ Z.cell? ⟨w.heap.size, 7, none⟩ = some (.int .i64 p.su) ∧ Z.cell? ⟨w.heap.size, 8, none⟩ = some (.int .i64 p.ex) ∧ Z.cell? ⟨w.heap.size, 9, none⟩ = some (.int .i64 p.de) ∧ Z.cell? ⟨w.heap.size, 10, none⟩ = some (.bool p.still) ∧ Z.cell? ⟨w.heap.size, 11, none⟩ = some (.int .i64 p.ids) ∧ Z.cell? ⟨w.heap.size, 12, none⟩ = some (.int .i64 p.dg)) Y11) := ⟨HF11.out.cell 6 _ (by rfl), HF11.out.cell 7 _ (by rfl), HF11.out.cell 8 _ (by rfl), HF11.out.cell 9 _ (by rfl), HF11.out.cell 10 _ (by rfl), HF11.out.cell 11 _ (by rfl), HF11.out.cell 12 _ (by rfl)⟩
  refine wpAnyH_ready (rs := [29]) (by kernel_rfl) (by simp) (AllReadyH.cons rfl (fun K hK => ?_) AllReadyH.nil)
  go_simp
  refine hK.out _ _ HSn.out (fun hHeld => ?_)
  clear hK K
  refine norm_any' (fun K hK => ?_)
  go_simp
  refine hK _ _ ?_
  clear hK K
  clear hY fk ck HSn HF10
  refine wpAnyH_take (i := 31) (v := .pointer (some ⟨w.heap.size + 1 + 1, 14, none⟩)) rfl (by kernel_rfl) (by kernel_rfl) (by kernel_rfl) (fun _ _ _ h => h) (Or.inl ⟨by rfl, by intro w hs; go_simp⟩) hHeld ?_
  refine norm_any' (fun K hK => ?_)
  go_simp
  refine hK _ _ ?_
  clear hK K
  obtain ⟨Y12, hY⟩ : ∃ Y, Y11.setCell ⟨w.heap.size + 1 + 1, 14, none⟩ (.int .i64 p.ids) = Y := ⟨_, rfl⟩
  have HF12 : Aside (Rf w p (w.heap.size) (w.heap.size + 1 + 1) (w.heap.size + 1) (q11.setN 14 p.ids) Y12) := by rw [← hY]; exact HF11.out.setN HPQ.out HRQ.out HQ0.out 14 p.ids (by decide)
  have fk : Y11.frozen? ⟨w.heap.size + 1 + 1, 14, none⟩ = false := HF11.out.q.frozen 14
  have ck : Y11.cell? ⟨w.heap.size + 1 + 1, 14, none⟩ = _ := HF11.out.q.rc.n 14 (by decide)
  obtain ⟨q12, hq⟩ : ∃ q, q11.setN 14 p.ids = q := ⟨_, rfl⟩
  rw [hq] at HF12 HEND
  clear hq
  have HSn : Aside ((fun Z => Z.cell? ⟨w.heap.size, 6, none⟩ = some (.int .i64 p.sb) ∧ Z.cell? ⟨w.heap.size, 7, none⟩ = some (.int .i64 p.su) ∧ Z.cell? ⟨w.heap.size, 8, none⟩ = some (.int .i64 p.ex) ∧ Z.cell? ⟨w.heap.size, 9, none⟩ = some (.int .i64 p.de) ∧ Z.cell? ⟨w.heap.size, 10, none⟩ = some (.bool p.still) ∧ Z.cell? ⟨w.heap.size, 11, none⟩ = some (.int .i64 p.ids) ∧ Z.cell? ⟨w.heap.size, 12, none⟩ = some (.int .i64 p.dg)) Y12) := ⟨HF12.out.cell 6 _ (by rfl), HF12.out.cell 7 _ (by rfl), HF12.out.cell 8 _ (by rfl), HF12.out.cell 9 _ (by rfl), HF12.out.cell 10 _ (by rfl), HF12.out.cell 11 _ (by rfl), HF12.out.cell 12 _ (by rfl)⟩
  refine wpAnyH_ready (rs := [32]) (by kernel_rfl) (by simp) (AllReadyH.cons rfl (fun K hK => ?_) AllReadyH.nil)
  go_simp
  refine hK.out _ _ HSn.out (fun hHeld => ?_)
  clear hK K
  refine norm_any' (fun K hK => ?_)
  go_simp
  refine hK _ _ ?_
  clear hK K
  clear hY fk ck HSn HF11
  refine wpAnyH_take (i := 34) (v := .pointer (some ⟨w.heap.size + 1 + 1, 32, none⟩)) rfl (by kernel_rfl) (by kernel_rfl) (by kernel_rfl) (fun _ _ _ h => h) (Or.inl ⟨by rfl, by intro w hs; go_simp⟩) hHeld ?_
  refine norm_any' (fun K hK => ?_)
  go_simp
  refine hK _ _ ?_
  clear hK K
  obtain ⟨Y13, hY⟩ : ∃ Y, Y12.setCell ⟨w.heap.size + 1 + 1, 32, none⟩ (.int .i64 p.dg) = Y := ⟨_, rfl⟩
  have HF13 : Aside (Rf w p (w.heap.size) (w.heap.size + 1 + 1) (w.heap.size + 1) (q12.setN 32 p.dg) Y13) := by rw [← hY]; exact HF12.out.setN HPQ.out HRQ.out HQ0.out 32 p.dg (by decide)
  have fk : Y12.frozen? ⟨w.heap.size + 1 + 1, 32, none⟩ = false := HF12.out.q.frozen 32
  have ck : Y12.cell? ⟨w.heap.size + 1 + 1, 32, none⟩ = _ := HF12.out.q.rc.n 32 (by decide)
  obtain ⟨q13, hq⟩ : ∃ q, q12.setN 32 p.dg = q := ⟨_, rfl⟩
  rw [hq] at HF13 HEND
  clear hq
  have HSn : Aside ((fun Z => Z.cell? ⟨w.heap.size, 6, none⟩ = some (.int .i64 p.sb) ∧ Z.cell? ⟨w.heap.size, 7, none⟩ = some (.int .i64 p.su) ∧ Z.cell? ⟨w.heap.size, 8, none⟩ = some (.int .i64 p.ex) ∧ Z.cell? ⟨w.heap.size, 9, none⟩ = some (.int .i64 p.de) ∧ Z.cell? ⟨w.heap.size, 10, none⟩ = some (.bool p.still) ∧ Z.cell? ⟨w.heap.size, 11, none⟩ = some (.int .i64 p.ids) ∧ Z.cell? ⟨w.heap.size, 12, none⟩ = some (.int .i64 p.dg)) Y13) := ⟨HF13.out.cell 6 _ (by rfl), HF13.out.cell 7 _ (by rfl), HF13.out.cell 8 _ (by rfl), HF13.out.cell 9 _ (by rfl), HF13.out.cell 10 _ (by rfl), HF13.out.cell 11 _ (by rfl), HF13.out.cell 12 _ (by rfl)⟩
  refine wpAnyH_ready (rs := [35]) (by kernel_rfl) (by simp) (AllReadyH.cons rfl (fun K hK => ?_) AllReadyH.nil)
  go_simp
  refine hK.out _ _ HSn.out (fun hHeld => ?_)
  clear hK K
  refine norm_any' (fun K hK => ?_)
  go_simp
  refine hK _ _ ?_
  clear hK K
  clear hY fk ck HSn HF12
  refine wpAnyH_done (by kernel_rfl) ?_ _
  clear hHeld
  have HFd : Aside (Rf w p (w.heap.size) (w.heap.size + 1 + 1) (w.heap.size + 1) q13 Y13.drew) := HF13.out.drew
  have HSd : Aside ((fun Z => Z.cell? ⟨w.heap.size, 13, none⟩ = some (.slice p.orig.o p.orig.l.length p.orig.c) ∧ Z.cell? ⟨w.heap.size, 14, none⟩ = some (.slice p.first.o p.first.l.length p.first.c) ∧ Z.cell? ⟨w.heap.size, 15, none⟩ = some (.slice p.again.o p.again.l.length p.again.c) ∧ (convert 22 9 (.slice p.orig.o p.orig.l.length p.orig.c)).run Tryd.prog Z = .ok (.string (bt p.orig.l)) Z ∧ (convert 22 9 (.slice (some ⟨w.heap.size, 17, none⟩) 16 16)).run Tryd.prog Z = .ok (.string (bt p.reset)) Z ∧ (convert 22 9 (.slice p.first.o p.first.l.length p.first.c)).run Tryd.prog Z = .ok (.string (bt p.first.l)) Z ∧ (convert 22 9 (.slice p.again.o p.again.l.length p.again.c)).run Tryd.prog Z = .ok (.string (bt p.again.l)) Z) Y13.drew) := ⟨HFd.out.cell 13 _ (by rfl), HFd.out.cell 14 _ (by rfl), HFd.out.cell 15 _ (by rfl), (HFd.out.cv HPL.out).1, (HFd.out.cv HPL.out).2.1, (HFd.out.cv HPL.out).2.2.1, (HFd.out.cv HPL.out).2.2.2⟩
  go_wp2_with fail
  refine wp_region_held_drew (S := fun Z => Z.cell? ⟨w.heap.size, 13, none⟩ = some (.slice p.orig.o p.orig.l.length p.orig.c) ∧ Z.cell? ⟨w.heap.size, 14, none⟩ = some (.slice p.first.o p.first.l.length p.first.c) ∧ Z.cell? ⟨w.heap.size, 15, none⟩ = some (.slice p.again.o p.again.l.length p.again.c) ∧ (convert 22 9 (.slice p.orig.o p.orig.l.length p.orig.c)).run Tryd.prog Z = .ok (.string (bt p.orig.l)) Z ∧ (convert 22 9 (.slice (some ⟨w.heap.size, 17, none⟩) 16 16)).run Tryd.prog Z = .ok (.string (bt p.reset)) Z ∧ (convert 22 9 (.slice p.first.o p.first.l.length p.first.c)).run Tryd.prog Z = .ok (.string (bt p.first.l)) Z ∧ (convert 22 9 (.slice p.again.o p.again.l.length p.again.c)).run Tryd.prog Z = .ok (.string (bt p.again.l)) Z) (by kernel_rfl) HSd.out (fun hHeld => ?_)
  refine wpAnyH_take (i := 0) (v := .pointer (some ⟨w.heap.size, 13, none⟩)) rfl (by kernel_rfl) (by kernel_rfl) (by kernel_rfl) (fun _ _ _ h => h) (Or.inl ⟨by rfl, by intro w hs; go_simp⟩) hHeld ?_
  refine norm_any' (fun K hK => ?_)
  go_simp
  refine hK _ _ ?_
  clear hK K
  refine wpAnyH_take (i := 1) (v := .slice p.orig.o p.orig.l.length p.orig.c) rfl (by kernel_rfl) (by kernel_rfl) (by kernel_rfl) (fun _ _ _ h => h) (Or.inl ⟨by rfl, by rintro w ⟨s0, s1, s2, s3, s4, s5, s6⟩; go_simp⟩) hHeld ?_
  refine norm_any' (fun K hK => ?_)
  go_simp
  refine hK _ _ ?_
  clear hK K
  refine wpAnyH_take (i := 2) (v := .string (bt p.orig.l)) rfl (by kernel_rfl) (by kernel_rfl) (by kernel_rfl) (fun _ _ _ h => h) (Or.inl ⟨by rfl, by rintro w ⟨s0, s1, s2, s3, s4, s5, s6⟩; go_simp⟩) hHeld ?_
  refine norm_any' (fun K hK => ?_)
  go_simp
  refine hK _ _ ?_
  clear hK K
  refine wpAnyH_take (i := 3) (v := .pointer (some ⟨w.heap.size, 17, none⟩)) rfl (by kernel_rfl) (by kernel_rfl) (by kernel_rfl) (fun _ _ _ h => h) (Or.inl ⟨by rfl, by intro w hs; go_simp⟩) hHeld ?_
  refine norm_any' (fun K hK => ?_)
  go_simp
  refine hK _ _ ?_
  clear hK K
  refine wpAnyH_take (i := 4) (v := .slice (some ⟨w.heap.size, 17, none⟩) 16 16) rfl (by kernel_rfl) (by kernel_rfl) (by kernel_rfl) (fun _ _ _ h => h) (Or.inl ⟨by rfl, by intro w hs; go_simp⟩) hHeld ?_
  refine norm_any' (fun K hK => ?_)
  go_simp
  refine hK _ _ ?_
  clear hK K
  refine wpAnyH_take (i := 5) (v := .string (bt p.reset)) rfl (by kernel_rfl) (by kernel_rfl) (by kernel_rfl) (fun _ _ _ h => h) (Or.inl ⟨by rfl, by rintro w ⟨s0, s1, s2, s3, s4, s5, s6⟩; go_simp⟩) hHeld ?_
  refine norm_any' (fun K hK => ?_)
  go_simp
  refine hK _ _ ?_
  clear hK K
  refine wpAnyH_take (i := 6) (v := .pointer (some ⟨w.heap.size, 14, none⟩)) rfl (by kernel_rfl) (by kernel_rfl) (by kernel_rfl) (fun _ _ _ h => h) (Or.inl ⟨by rfl, by intro w hs; go_simp⟩) hHeld ?_
  refine norm_any' (fun K hK => ?_)
  go_simp
  refine hK _ _ ?_
  clear hK K
  refine wpAnyH_take (i := 7) (v := .slice p.first.o p.first.l.length p.first.c) rfl (by kernel_rfl) (by kernel_rfl) (by kernel_rfl) (fun _ _ _ h => h) (Or.inl ⟨by rfl, by rintro w ⟨s0, s1, s2, s3, s4, s5, s6⟩; go_simp⟩) hHeld ?_
  refine norm_any' (fun K hK => ?_)
  go_simp
  refine hK _ _ ?_
  clear hK K
  refine wpAnyH_take (i := 8) (v := .string (bt p.first.l)) rfl (by kernel_rfl) (by kernel_rfl) (by kernel_rfl) (fun _ _ _ h => h) (Or.inl ⟨by rfl, by rintro w ⟨s0, s1, s2, s3, s4, s5, s6⟩; go_simp⟩) hHeld ?_
  refine norm_any' (fun K hK => ?_)
  go_simp
  refine hK _ _ ?_
  clear hK K
  refine wpAnyH_take (i := 9) (v := .pointer (some ⟨w.heap.size, 15, none⟩)) rfl (by kernel_rfl) (by kernel_rfl) (by kernel_rfl) (fun _ _ _ h => h) (Or.inl ⟨by rfl, by intro w hs; go_simp⟩) hHeld ?_
  refine norm_any' (fun K hK => ?_)
  go_simp
  refine hK _ _ ?_
  clear hK K
  refine wpAnyH_take (i := 10) (v := .slice p.again.o p.again.l.length p.again.c) rfl (by kernel_rfl) (by kernel_rfl) (by kernel_rfl) (fun _ _ _ h => h) (Or.inl ⟨by rfl, by rintro w ⟨s0, s1, s2, s3, s4, s5, s6⟩; go_simp⟩) hHeld ?_
  refine norm_any' (fun K hK => ?_)
  go_simp
  refine hK _ _ ?_
  clear hK K
  refine wpAnyH_take (i := 11) (v := .string (bt p.again.l)) rfl (by kernel_rfl) (by kernel_rfl) (by kernel_rfl) (fun _ _ _ h => h) (Or.inl ⟨by rfl, by rintro w ⟨s0, s1, s2, s3, s4, s5, s6⟩; go_simp⟩) hHeld ?_
  refine norm_any' (fun K hK => ?_)
  go_simp
  refine hK _ _ ?_
  clear hK K
  refine wpAnyH_take (i := 12) (v := .pointer (some ⟨w.heap.size + 1 + 1, 33, none⟩)) rfl (by kernel_rfl) (by kernel_rfl) (by kernel_rfl) (fun _ _ _ h => h) (Or.inl ⟨by rfl, by intro w hs; go_simp⟩) hHeld ?_
  refine norm_any' (fun K hK => ?_)
  go_simp
  refine hK _ _ ?_
  clear hK K
  refine wpAnyH_take (i := 13) (v := .pointer (some ⟨w.heap.size + 1 + 1, 33, none⟩)) rfl (by kernel_rfl) (by kernel_rfl) (by kernel_rfl) (fun _ _ _ h => h) (Or.inl ⟨by rfl, by intro w hs; go_simp⟩) hHeld ?_
  refine norm_any' (fun K hK => ?_)
  go_simp
  refine hK _ _ ?_
  clear hK K
  refine wpAnyH_take (i := 15) (v := .pointer (some ⟨w.heap.size + 1 + 1, 33, none⟩)) rfl (by kernel_rfl) (by kernel_rfl) (by kernel_rfl) (fun _ _ _ h => h) (Or.inl ⟨by rfl, by intro w hs; go_simp⟩) hHeld ?_
  refine norm_any' (fun K hK => ?_)
  go_simp
  refine hK _ _ ?_
  clear hK K
  refine wpAnyH_take (i := 18) (v := .pointer (some ⟨w.heap.size + 1 + 1, 33, none⟩)) rfl (by kernel_rfl) (by kernel_rfl) (by kernel_rfl) (fun _ _ _ h => h) (Or.inl ⟨by rfl, by intro w hs; go_simp⟩) hHeld ?_
  refine norm_any' (fun K hK => ?_)
  go_simp
  refine hK _ _ ?_
  clear hK K
  refine wpAnyH_take (i := 21) (v := .pointer (some ⟨w.heap.size + 1 + 1, 33, none⟩)) rfl (by kernel_rfl) (by kernel_rfl) (by kernel_rfl) (fun _ _ _ h => h) (Or.inl ⟨by rfl, by intro w hs; go_simp⟩) hHeld ?_
  refine norm_any' (fun K hK => ?_)
  go_simp
  refine hK _ _ ?_
  clear hK K
  obtain ⟨Y14, hY⟩ : ∃ Y, (Y13.setCell ⟨w.heap.size + 1 + 1, 33, none⟩ (.string (bt p.orig.l))).drew = Y := ⟨_, rfl⟩
  have HF14 : Aside (Rf w p (w.heap.size) (w.heap.size + 1 + 1) (w.heap.size + 1) (q13.setT 0 (bt p.orig.l)) Y14) := by rw [← hY]; exact (HF13.out.setT HPQ.out HRQ.out HQ0.out 0 (bt p.orig.l) (by decide)).drew
  have fk2 : Y13.drew.frozen? ⟨w.heap.size + 1 + 1, 33, none⟩ = false := HF13.out.q.frozen 33
  have ck2 : Y13.drew.cell? ⟨w.heap.size + 1 + 1, 33, none⟩ = _ := HF13.out.q.rc.t 0 (by decide)
  have fk : Y13.frozen? ⟨w.heap.size + 1 + 1, 33, none⟩ = false := HF13.out.q.frozen 33
  have ck : Y13.cell? ⟨w.heap.size + 1 + 1, 33, none⟩ = _ := HF13.out.q.rc.t 0 (by decide)
  obtain ⟨q14, hq⟩ : ∃ q, q13.setT 0 (bt p.orig.l) = q := ⟨_, rfl⟩
  rw [hq] at HF14 HEND
  clear hq
  have HSn : Aside ((fun Z => Z.cell? ⟨w.heap.size, 13, none⟩ = some (.slice p.orig.o p.orig.l.length p.orig.c) ∧ Z.cell? ⟨w.heap.size, 14, none⟩ = some (.slice p.first.o p.first.l.length p.first.c) ∧ Z.cell? ⟨w.heap.size, 15, none⟩ = some (.slice p.again.o p.again.l.length p.again.c) ∧ (convert 22 9 (.slice p.orig.o p.orig.l.length p.orig.c)).run Tryd.prog Z = .ok (.string (bt p.orig.l)) Z ∧ (convert 22 9 (.slice (some ⟨w.heap.size, 17, none⟩) 16 16)).run Tryd.prog Z = .ok (.string (bt p.reset)) Z ∧ (convert 22 9 (.slice p.first.o p.first.l.length p.first.c)).run Tryd.prog Z = .ok (.string (bt p.first.l)) Z ∧ (convert 22 9 (.slice p.again.o p.again.l.length p.again.c)).run Tryd.prog Z = .ok (.string (bt p.again.l)) Z) Y14) := ⟨HF14.out.cell 13 _ (by rfl), HF14.out.cell 14 _ (by rfl), HF14.out.cell 15 _ (by rfl), (HF14.out.cv HPL.out).1, (HF14.out.cv HPL.out).2.1, (HF14.out.cv HPL.out).2.2.1, (HF14.out.cv HPL.out).2.2.2⟩
  refine wpAnyH_ready (rs := [14]) (by kernel_rfl) (by simp) (AllReadyH.cons rfl (fun K hK => ?_) AllReadyH.nil)
  go_simp
  refine hK.out _ _ HSn.out (fun hHeld => ?_)
  clear hK K
  refine norm_any' (fun K hK => ?_)
  go_simp
  refine hK _ _ ?_
  clear hK K
  clear hY fk ck HSn fk2 ck2 HFd HSd HF13
  refine wpAnyH_take (i := 16) (v := .pointer (some ⟨w.heap.size + 1 + 1, 35, none⟩)) rfl (by kernel_rfl) (by kernel_rfl) (by kernel_rfl) (fun _ _ _ h => h) (Or.inl ⟨by rfl, by intro w hs; go_simp⟩) hHeld ?_
  refine norm_any' (fun K hK => ?_)
  go_simp
  refine hK _ _ ?_
  clear hK K
  obtain ⟨Y15, hY⟩ : ∃ Y, Y14.setCell ⟨w.heap.size + 1 + 1, 35, none⟩ (.string (bt p.reset)) = Y := ⟨_, rfl⟩
  have HF15 : Aside (Rf w p (w.heap.size) (w.heap.size + 1 + 1) (w.heap.size + 1) (q14.setT 2 (bt p.reset)) Y15) := by rw [← hY]; exact HF14.out.setT HPQ.out HRQ.out HQ0.out 2 (bt p.reset) (by decide)
  have fk : Y14.frozen? ⟨w.heap.size + 1 + 1, 35, none⟩ = false := HF14.out.q.frozen 35
  have ck : Y14.cell? ⟨w.heap.size + 1 + 1, 35, none⟩ = _ := HF14.out.q.rc.t 2 (by decide)
  obtain ⟨q15, hq⟩ : ∃ q, q14.setT 2 (bt p.reset) = q := ⟨_, rfl⟩
  rw [hq] at HF15 HEND
  clear hq
  have HSn : Aside ((fun Z => Z.cell? ⟨w.heap.size, 13, none⟩ = some (.slice p.orig.o p.orig.l.length p.orig.c) ∧ Z.cell? ⟨w.heap.size, 14, none⟩ = some (.slice p.first.o p.first.l.length p.first.c) ∧ Z.cell? ⟨w.heap.size, 15, none⟩ = some (.slice p.again.o p.again.l.length p.again.c) ∧ (convert 22 9 (.slice p.orig.o p.orig.l.length p.orig.c)).run Tryd.prog Z = .ok (.string (bt p.orig.l)) Z ∧ (convert 22 9 (.slice (some ⟨w.heap.size, 17, none⟩) 16 16)).run Tryd.prog Z = .ok (.string (bt p.reset)) Z ∧ (convert 22 9 (.slice p.first.o p.first.l.length p.first.c)).run Tryd.prog Z = .ok (.string (bt p.first.l)) Z ∧ (convert 22 9 (.slice p.again.o p.again.l.length p.again.c)).run Tryd.prog Z = .ok (.string (bt p.again.l)) Z) Y15) := ⟨HF15.out.cell 13 _ (by rfl), HF15.out.cell 14 _ (by rfl), HF15.out.cell 15 _ (by rfl), (HF15.out.cv HPL.out).1, (HF15.out.cv HPL.out).2.1, (HF15.out.cv HPL.out).2.2.1, (HF15.out.cv HPL.out).2.2.2⟩
  refine wpAnyH_ready (rs := [17]) (by kernel_rfl) (by simp) (AllReadyH.cons rfl (fun K hK => ?_) AllReadyH.nil)
  go_simp
  refine hK.out _ _ HSn.out (fun hHeld => ?_)
  clear hK K
  refine norm_any' (fun K hK => ?_)
  go_simp
  refine hK _ _ ?_
  clear hK K
  clear hY fk ck HSn HF14
  refine wpAnyH_take (i := 19) (v := .pointer (some ⟨w.heap.size + 1 + 1, 48, none⟩)) rfl (by kernel_rfl) (by kernel_rfl) (by kernel_rfl) (fun _ _ _ h => h) (Or.inl ⟨by rfl, by intro w hs; go_simp⟩) hHeld ?_
  refine norm_any' (fun K hK => ?_)
  go_simp
  refine hK _ _ ?_
  clear hK K
  obtain ⟨Y16, hY⟩ : ∃ Y, Y15.setCell ⟨w.heap.size + 1 + 1, 48, none⟩ (.string (bt p.first.l)) = Y := ⟨_, rfl⟩
  have HF16 : Aside (Rf w p (w.heap.size) (w.heap.size + 1 + 1) (w.heap.size + 1) (q15.setT 15 (bt p.first.l)) Y16) := by rw [← hY]; exact HF15.out.setT HPQ.out HRQ.out HQ0.out 15 (bt p.first.l) (by decide)
  have fk : Y15.frozen? ⟨w.heap.size + 1 + 1, 48, none⟩ = false := HF15.out.q.frozen 48
  have ck : Y15.cell? ⟨w.heap.size + 1 + 1, 48, none⟩ = _ := HF15.out.q.rc.t 15 (by decide)
  obtain ⟨q16, hq⟩ : ∃ q, q15.setT 15 (bt p.first.l) = q := ⟨_, rfl⟩
  rw [hq] at HF16 HEND
  clear hq
  have HSn : Aside ((fun Z => Z.cell? ⟨w.heap.size, 13, none⟩ = some (.slice p.orig.o p.orig.l.length p.orig.c) ∧ Z.cell? ⟨w.heap.size, 14, none⟩ = some (.slice p.first.o p.first.l.length p.first.c) ∧ Z.cell? ⟨w.heap.size, 15, none⟩ = some (.slice p.again.o p.again.l.length p.again.c) ∧ (convert 22 9 (.slice p.orig.o p.orig.l.length p.orig.c)).run Tryd.prog Z = .ok (.string (bt p.orig.l)) Z ∧ (convert 22 9 (.slice (some ⟨w.heap.size, 17, none⟩) 16 16)).run Tryd.prog Z = .ok (.string (bt p.reset)) Z ∧ (convert 22 9 (.slice p.first.o p.first.l.length p.first.c)).run Tryd.prog Z = .ok (.string (bt p.first.l)) Z ∧ (convert 22 9 (.slice p.again.o p.again.l.length p.again.c)).run Tryd.prog Z = .ok (.string (bt p.again.l)) Z) Y16) := ⟨HF16.out.cell 13 _ (by rfl), HF16.out.cell 14 _ (by rfl), HF16.out.cell 15 _ (by rfl), (HF16.out.cv HPL.out).1, (HF16.out.cv HPL.out).2.1, (HF16.out.cv HPL.out).2.2.1, (HF16.out.cv HPL.out).2.2.2⟩
  refine wpAnyH_ready (rs := [20]) (by kernel_rfl) (by simp) (AllReadyH.cons rfl (fun K hK => ?_) AllReadyH.nil)
  go_simp
  refine hK.out _ _ HSn.out (fun hHeld => ?_)
  clear hK K
  refine norm_any' (fun K hK => ?_)
  go_simp
  refine hK _ _ ?_
  clear hK K
  clear hY fk ck HSn HF15
  refine wpAnyH_take (i := 22) (v := .pointer (some ⟨w.heap.size + 1 + 1, 49, none⟩)) rfl (by kernel_rfl) (by kernel_rfl) (by kernel_rfl) (fun _ _ _ h => h) (Or.inl ⟨by rfl, by intro w hs; go_simp⟩) hHeld ?_
  refine norm_any' (fun K hK => ?_)
  go_simp
  refine hK _ _ ?_
  clear hK K
  obtain ⟨Y17, hY⟩ : ∃ Y, Y16.setCell ⟨w.heap.size + 1 + 1, 49, none⟩ (.string (bt p.again.l)) = Y := ⟨_, rfl⟩
  have HF17 : Aside (Rf w p (w.heap.size) (w.heap.size + 1 + 1) (w.heap.size + 1) (q16.setT 16 (bt p.again.l)) Y17) := by rw [← hY]; exact HF16.out.setT HPQ.out HRQ.out HQ0.out 16 (bt p.again.l) (by decide)
  have fk : Y16.frozen? ⟨w.heap.size + 1 + 1, 49, none⟩ = false := HF16.out.q.frozen 49
  have ck : Y16.cell? ⟨w.heap.size + 1 + 1, 49, none⟩ = _ := HF16.out.q.rc.t 16 (by decide)
  obtain ⟨q17, hq⟩ : ∃ q, q16.setT 16 (bt p.again.l) = q := ⟨_, rfl⟩
  rw [hq] at HF17 HEND
  clear hq
  have HSn : Aside ((fun Z => Z.cell? ⟨w.heap.size, 13, none⟩ = some (.slice p.orig.o p.orig.l.length p.orig.c) ∧ Z.cell? ⟨w.heap.size, 14, none⟩ = some (.slice p.first.o p.first.l.length p.first.c) ∧ Z.cell? ⟨w.heap.size, 15, none⟩ = some (.slice p.again.o p.again.l.length p.again.c) ∧ (convert 22 9 (.slice p.orig.o p.orig.l.length p.orig.c)).run Tryd.prog Z = .ok (.string (bt p.orig.l)) Z ∧ (convert 22 9 (.slice (some ⟨w.heap.size, 17, none⟩) 16 16)).run Tryd.prog Z = .ok (.string (bt p.reset)) Z ∧ (convert 22 9 (.slice p.first.o p.first.l.length p.first.c)).run Tryd.prog Z = .ok (.string (bt p.first.l)) Z ∧ (convert 22 9 (.slice p.again.o p.again.l.length p.again.c)).run Tryd.prog Z = .ok (.string (bt p.again.l)) Z) Y17) := ⟨HF17.out.cell 13 _ (by rfl), HF17.out.cell 14 _ (by rfl), HF17.out.cell 15 _ (by rfl), (HF17.out.cv HPL.out).1, (HF17.out.cv HPL.out).2.1, (HF17.out.cv HPL.out).2.2.1, (HF17.out.cv HPL.out).2.2.2⟩
  refine wpAnyH_ready (rs := [23]) (by kernel_rfl) (by simp) (AllReadyH.cons rfl (fun K hK => ?_) AllReadyH.nil)
  go_simp
  refine hK.out _ _ HSn.out (fun hHeld => ?_)
  clear hK K
  refine norm_any' (fun K hK => ?_)
  go_simp
  refine hK _ _ ?_
  clear hK K
  clear hY fk ck HSn HF16
  refine wpAnyH_done (by kernel_rfl) ?_ _
  clear hHeld
  have HRW : Aside ((Y17.setRow (w.heap.size + 1) q17.cells.toArray).heap[w.heap.size + 1]? = some (.cells q17.cells.toArray 34 (0, 0))) := setRow_heap Y17 _ _ _ 34 (0, 0) HF17.out.z
  have HBB : Aside (Below w.heap.size w (Y17.setRow (w.heap.size + 1) q17.cells.toArray)) := HF17.out.b.trans ⟨rfl, rfl, rfl, by simp, fun j hj => setRow_other Y17 _ j _ (by omega)⟩
  have HQR : Aside (Y17.heap[w.heap.size + 1 + 1]? = some (.cells q17.cells.toArray 34 (0, 0))) := HF17.out.q
  have HRR : Aside (Y17.heap[w.heap.size + 1]? = some (.cells Tryd.zeroCells34 34 (0, 0))) := HF17.out.z
  have HI : Aside ((Tryd.prog.info? 34).map (·.size) = some q17.cells.toArray.size) := hi34q _
  have HSZ : Aside (Tryd.zeroCells34.size = q17.cells.toArray.size) := by show _ = _; rw [zQ_eq, Rq.size, Rq.size]
  have HON : Aside (q17.cells.toArray.all (·.oneCell') = true) := Rq.one _
  have HE : Aside (q17.cells.toArray = (refq p).cells.toArray) := by show _ = _; rw [HEND.out]
  rw [HE.out] at HRW HBB HQR HI HSZ HON
  clear HE HEND HPL HF17 HST
  obtain ⟨D, hD⟩ : ∃ D, (refq p).cells.toArray = D := ⟨_, rfl⟩
  rw [hD] at HRW HBB HQR HI HSZ HON
  have HD : Aside ((refq p).cells.toArray = D) := hD
  clear hD
  go_wp2_with (first
    | (refine wpList_load_row rfl 34 (.tmp 3) rfl (w.heap.size + 1 + 1) rfl 34 _ (0, 0) _ HQR.out hu34 rfl HI.out ?_)
    | (refine wpList_store_row rfl 34 (.tmp 2) (.tmp 82) rfl (w.heap.size + 1) D rfl rfl 34 _ HRR.out HI.out HSZ.out HON.out ?_))
  refine bodyPost_ret (results_cell_row (fn := Tryd.f10) (p := 2) (ty := 34) rfl _ _ (w.heap.size + 1) 34 _ (0, 0) _ rfl HRW.out hu34 rfl HI.out) rfl ?_
  exact ⟨by rw [HD.out], HBB.out⟩
end Go.Proofs.YtcppnellgkbndaaDoor
