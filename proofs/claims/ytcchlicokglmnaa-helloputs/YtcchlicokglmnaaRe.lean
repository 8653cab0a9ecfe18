/- The reference's body. -/
import Derived.Test.YtcchlicokglmnaaRc
namespace Go.Proofs.Ytcchlicokglmnaa
open Go.ChangeShapes Go.WideShapes Go.ChangeAt Go.RowKit Go.Lib
set_option linter.unusedVariables false

theorem step_app {P : Program} {ops : Array Oper} {o : Oper} {a : Act} {w : World} {K : Act → World → Prop} {Q : Exit → Act → World → Prop} {E : Prop}
    (hw : Region.wanted o (yielded ops a.tmps) = true) (d x : Operand) (dT sT : TypeId) (hop : o.op = Op.call { callee := Callee.builtin Builtin.append, args := #[d, x], argTypes := #[dT, sT] })
    (v u : Value) (hd : a.eval d = v) (hx : a.eval x = u) {v' : Value} {w' : World} (hr : (Builtin.append_ #[dT, sT] o.type #[v, u]).run P w = .ok v' w') (hK : K (a.put o.dst v') w') :
    if Region.wanted o (yielded ops a.tmps) = true then Oper.wp P o a w K Q else E := by
  rw [if_pos hw]
  unfold Oper.wp
  simp [execOp, hop, resolve, invoke, builtin, hd, hx, hr, Result.andThen]
  exact hK
/-- The message's cells as the reference reads them. -/
def Mc (M : Nat) (m : Msg) (X : World) : Prop := X.cell? ⟨M, 33, none⟩ = some (.string m.name) ∧ X.cell? ⟨M, 34, none⟩ = some (.slice m.po m.protos.length m.pc) ∧ X.cell? ⟨M, 35, none⟩ = some (.slice m.ao m.params.length m.ac) ∧ X.cell? ⟨M, 36, none⟩ = some (.slice m.to m.ticket.length m.tc) ∧ X.cell? ⟨M, 53, none⟩ = some (.bool m.early) ∧ X.cell? ⟨M, 54, none⟩ = some (.bool m.again) ∧ X.cell? ⟨M, 71, none⟩ = some (.int .i64 m.life)
/-- While the reference lays a body: the message's box, and all else that was there, stays. -/
structure Rm (w : World) (m : Msg) (X : World) : Prop where
  bel : Below w.heap.size w X
  row : X.heap[w.heap.size]? = some (.cells m.cells.toArray 34 (0, 0))
section
variable {w X Y : World} {m : Msg}
theorem Rm.on (h : Rm w m X) (hg : Gq (w.heap.size + 1) X Y) : Rm w m Y := ⟨h.bel.trans (hg.below h.bel.size (by omega)), hg.heap h.row (by decide)⟩
theorem Rm.go (h : Rm w m X) (hb : Below X.heap.size X Y) : Rm w m Y := h.on (Gq.of_below hb)
theorem Rm.mc (h : Rm w m X) (hl : m.len) : Mc w.heap.size m X := by
  obtain ⟨g0, g33, g34, g35, g36, g53, g54, g71⟩ := Msg.get hl
  have cell : ∀ j v, m.cells[j]? = some v → X.cell? ⟨w.heap.size, j, none⟩ = some v := fun j v hj => by unfold World.cell?; rw [h.row]; simpa using hj
  exact ⟨cell _ _ g33, cell _ _ g34, cell _ _ g35, cell _ _ g36, cell _ _ g53, cell _ _ g54, cell _ _ g71⟩
theorem Rm.sz (h : Rm w m X) : w.heap.size + 1 ≤ X.heap.size := lt_block h.row
/-- A step: the bytes that were laid, laid on. -/
def Ap (w : World) (m : Msg) (l l' : List UInt8) (v2 : Value) (t2 : Nat) : Prop := ∀ X o c, Rm w m X → By (w.heap.size + 1) X (.slice o l.length c) l → ∃ o' c' X', (Builtin.append_ #[25, t2] 25 #[.slice o l.length c, v2]).run Try.prog X = .ok (.slice o' l'.length c') X' ∧ By (w.heap.size + 1) X' (.slice o' l'.length c') l' ∧ Rm w m X'
def Cp (w : World) (m : Msg) (l l' : List UInt8) (f : Nat) (args : List Value) : Prop := ∀ X o c, Rm w m X → By (w.heap.size + 1) X (.slice o l.length c) l → Calls Try.prog f (.slice o l.length c :: args).toArray X fun e X' => ∃ o' c', e = .returned (.slice o' l'.length c') ∧ By (w.heap.size + 1) X' (.slice o' l'.length c') l' ∧ Rm w m X'
theorem ap_h (hl : m.len) (l h : List UInt8) (off : Nat) (hs : ∀ X, Rm w m X → Sl X (some ⟨w.heap.size, off, none⟩) h) (h16 : h.length = 16) (hb : l.length ≤ 500000) : Ap w m l (l ++ h) (.slice (some ⟨w.heap.size, off, none⟩) 16 16) 25 := fun X o c hr hy => by
  obtain ⟨o', c', X', r, b, g⟩ := app_b hy hr.sz (some ⟨w.heap.size, off, none⟩) 16 h (hs X hr) (fun h => by cases h) (by omega)
  rw [h16] at r
  exact ⟨o', c', X', r, b, hr.on g⟩
theorem cp_s (l : List UInt8) (S : ByteArray) (hb : l.length + S.size ≤ 500000) : Cp w m l (l ++ [UInt8.ofNat S.size] ++ S.data.toList) 33 [.string S] := fun X o c hr hy =>
  (rshort_c hy hr.sz S (by omega)).mono fun e X' ⟨o', c', h1, h2, h3⟩ => ⟨o', c', h1, h2, hr.on h3⟩
theorem cp_l (l S : List UInt8) (ao : Option Addr) (cp : Nat) (hs : Sl w ao S) (hnil : ao = none → S.length = 0 ∧ cp = 0) (hb : l.length + S.length ≤ 500000) : Cp w m l (l ++ [UInt8.ofNat (S.length / 256), UInt8.ofNat S.length] ++ S) 35 [.slice ao S.length cp] := fun X o c hr hy =>
  (rlong_c hy hr.sz ao cp S (Sl_bel hs hr.bel) hnil (fun a e hn => by subst e; have := Sl_lt hs hn; omega) (by omega)).mono fun e X' ⟨o', c', h1, h2, h3⟩ => ⟨o', c', h1, h2, hr.on h3⟩
theorem cp_f (l : List UInt8) (x y : Bool) (hb : l.length ≤ 500000) : Cp w m l (l ++ [UInt8.ofNat (bitN x 1 + bitN y 2)]) 34 [.bool x, .bool y] := fun X o c hr hy =>
  (rflag_c hy hr.sz x y (by omega)).mono fun e X' ⟨o', c', h1, h2, h3⟩ => ⟨o', c', h1, h2, hr.on h3⟩
/-- What body leaves. -/
def RbR (w : World) (m : Msg) (l : List UInt8) (e : Ending) (w' : World) : Prop := ∃ o c, e = .returned (.slice o l.length c) ∧ By w.heap.size w' (.slice o l.length c) l ∧ Below w.heap.size w w'
theorem By.less {B B' : Nat} {w : World} {v : Value} {X : List UInt8} (h : By B w v X) (hb : B' ≤ B) : By B' w v X := by
  obtain ⟨h0, h1 | ⟨g, cap, cur, e, h1, h2⟩⟩ := h
  · exact ⟨h0, .inl h1⟩
  · exact ⟨h0, .inr ⟨g, cap, cur, e, by omega, h2⟩⟩
theorem RbR.mk {l : List UInt8} {o : Option Addr} {c : Nat} (hr : Rm w m X) (hy : By (w.heap.size + 1) X (.slice o l.length c) l) : RbR w m l (.returned (.slice o l.length c)) X := ⟨o, c, rfl, hy.less (by omega), hr.bel⟩
end
section
variable {w : World} {m : Msg}
set_option maxRecDepth 100000 in
set_option maxHeartbeats 1000000 in
theorem rb2 (hok : m.ok w) (hk : m.kind = 2) 
    (L1 L2 L3 : List UInt8) (s1 : Ap w m [] L1 (.slice (some ⟨w.heap.size, 1, none⟩) 16 16) 25) (s2 : Ap w m L1 L2 (.slice (some ⟨w.heap.size, 17, none⟩) 16 16) 25) (s3 : Cp w m L2 L3 34 [.bool m.again, .bool false]) (LF : List UInt8) (hLF : L3 = LF) : Calls Try.prog 21 #[.agg m.cells.toArray] w (RbR w m LF) := by
  have hrow := heap_alloc_new w (.cells m.cells.toArray 34)
  have HR0 : Hid (Rm w m (w.alloc (.cells m.cells.toArray 34))) := ⟨bl1 w _, hrow⟩
  have HY0 : Hid (By (w.heap.size + 1) (w.alloc (.cells m.cells.toArray 34)) (.slice none 0 0) []) := World.ownsRow_nil _ _ _ _
  have c0 : (w.alloc (.cells m.cells.toArray 34)).cell? ⟨w.heap.size, 0, none⟩ = some (.int .i64 2) := by unfold World.cell?; rw [hrow, ← hk]; simpa using (Msg.get hok.ln).1
  have HLN : Hid _ := hok.ln
  obtain ⟨NA, hNA⟩ : ∃ NA, m.params.length = NA := ⟨_, rfl⟩
  obtain ⟨NT, hNT⟩ : ∃ NT, m.ticket.length = NT := ⟨_, rfl⟩
  obtain ⟨NP, hNP⟩ : ∃ NP, m.protos.length = NP := ⟨_, rfl⟩
  have HMC : Hid (∀ X, Rm w m X → Mc w.heap.size m X) := fun X h => h.mc hok.ln
  unfold Mc at HMC
  simp only [hNA, hNT, hNP] at HMC
  have S1 : Hid _ := s1
  have S2 : Hid _ := s2
  have S3 : Hid _ := s3
  clear s1 s2 s3
  have HA : Hid _ := hNA
  have HT : Hid _ := hNT
  have HP : Hid _ := hNP
  have HFIN : Hid _ := hLF
  clear hrow hNA hNT hNP hok hLF
  generalize m.cells.toArray = A at *
  go_enter Try.func21, Try.ntmps21
  go_wp2_with fail
  have HRd : Hid (Rm w m (w.alloc (.cells A 34)).drew) := HR0.out.go (bld (w.alloc (.cells A 34)))
  have HYd : Hid (By (w.heap.size + 1) (w.alloc (.cells A 34)).drew (.slice none 0 0) []) := HY0.out.below (bld (w.alloc (.cells A 34)))
  clear HR0 HY0
  refine wp_region_held_drew (S := fun X => X.cell? ⟨w.heap.size, 33, none⟩ = some (.string m.name) ∧ X.cell? ⟨w.heap.size, 34, none⟩ = some (.slice m.po NP m.pc) ∧ X.cell? ⟨w.heap.size, 35, none⟩ = some (.slice m.ao NA m.ac) ∧ X.cell? ⟨w.heap.size, 36, none⟩ = some (.slice m.to NT m.tc) ∧ X.cell? ⟨w.heap.size, 53, none⟩ = some (.bool m.early) ∧ X.cell? ⟨w.heap.size, 54, none⟩ = some (.bool m.again) ∧ X.cell? ⟨w.heap.size, 71, none⟩ = some (.int .i64 m.life)) (by kernel_rfl) (HMC.out _ HRd.out) (fun hHeld => ?_)
  generalize (w.alloc (.cells A 34)).drew = D0 at *
  refine wpAnyH_take (i := 0) (v := .slice none 0 0) rfl (by kernel_rfl) (by kernel_rfl) (by kernel_rfl) (fun _ _ _ h => h) (Or.inl ⟨by rfl, by intro w hs; go_simp⟩) hHeld ?_
  refine norm_any' (fun K hK => ?_)
  go_simp
  refine hK _ _ ?_
  clear hK K
  refine wpAnyH_take (i := 1) (v := .pointer (some ⟨w.heap.size, 1, none⟩)) rfl (by kernel_rfl) (by kernel_rfl) (by kernel_rfl) (fun _ _ _ h => h) (Or.inl ⟨by rfl, by intro w hs; go_simp⟩) hHeld ?_
  refine norm_any' (fun K hK => ?_)
  go_simp
  refine hK _ _ ?_
  clear hK K
  refine wpAnyH_take (i := 2) (v := .slice (some ⟨w.heap.size, 1, none⟩) 16 16) rfl (by kernel_rfl) (by kernel_rfl) (by kernel_rfl) (fun _ _ _ h => h) (Or.inl ⟨by rfl, by intro w hs; go_simp⟩) hHeld ?_
  refine norm_any' (fun K hK => ?_)
  go_simp
  refine hK _ _ ?_
  clear hK K
  refine wpAnyH_take (i := 4) (v := .pointer (some ⟨w.heap.size, 17, none⟩)) rfl (by kernel_rfl) (by kernel_rfl) (by kernel_rfl) (fun _ _ _ h => h) (Or.inl ⟨by rfl, by intro w hs; go_simp⟩) hHeld ?_
  refine norm_any' (fun K hK => ?_)
  go_simp
  refine hK _ _ ?_
  clear hK K
  refine wpAnyH_take (i := 5) (v := .slice (some ⟨w.heap.size, 17, none⟩) 16 16) rfl (by kernel_rfl) (by kernel_rfl) (by kernel_rfl) (fun _ _ _ h => h) (Or.inl ⟨by rfl, by intro w hs; go_simp⟩) hHeld ?_
  refine norm_any' (fun K hK => ?_)
  go_simp
  refine hK _ _ ?_
  clear hK K
  refine wpAnyH_ready (rs := [3]) (by kernel_rfl) (by simp) (AllReadyH.cons rfl (fun K hK => ?_) AllReadyH.nil)
  obtain ⟨o1, c1, Z1, r1, y1, q1⟩ := S1.out _ _ _ HRd.out HYd.out
  have HR1 : Hid (Rm w m Z1) := q1
  have HY1 : Hid (By (w.heap.size + 1) Z1 (.slice o1 L1.length c1) L1) := y1
  have RN1 : Hid _ := r1
  clear q1 y1 r1 HRd HYd
  refine step_app (by rfl) _ _ 25 25 rfl _ _ (by rfl) (by rfl) RN1.out ?_
  refine hK.out _ _ (HMC.out _ HR1.out) (fun hHeld => ?_)
  clear hK K
  refine norm_any' (fun K hK => ?_)
  go_simp
  refine hK _ _ ?_
  clear hK K
  refine wpAnyH_ready (rs := [6]) (by kernel_rfl) (by simp) (AllReadyH.cons rfl (fun K hK => ?_) AllReadyH.nil)
  obtain ⟨o2, c2, Z2, r2, y2, q2⟩ := S2.out _ _ _ HR1.out HY1.out
  have HR2 : Hid (Rm w m Z2) := q2
  have HY2 : Hid (By (w.heap.size + 1) Z2 (.slice o2 L2.length c2) L2) := y2
  have RN2 : Hid _ := r2
  clear q2 y2 r2 HR1 HY1
  refine step_app (by rfl) _ _ 25 25 rfl _ _ (by rfl) (by rfl) RN2.out ?_
  refine hK.out _ _ (HMC.out _ HR2.out) (fun hHeld => ?_)
  clear hK K
  refine norm_any' (fun K hK => ?_)
  go_simp
  refine hK _ _ ?_
  clear hK K
  refine wpAnyH_take (i := 7) (v := .slice o2 L2.length c2) rfl (by kernel_rfl) (by kernel_rfl) (by kernel_rfl) (fun _ _ _ h => h) (Or.inl ⟨by rfl, by intro w hs; go_simp⟩) hHeld ?_
  refine norm_any' (fun K hK => ?_)
  go_simp
  refine hK _ _ ?_
  clear hK K
  refine wpAnyH_done (by kernel_rfl) ?_ _
  clear hHeld
  have k54 := (HMC.out _ HR2.out).2.2.2.2.2.1
  go_wp2_with fail
  refine Calls.mono (S3.out _ _ _ HR2.out HY2.out) ?_
  rintro e Z3 ⟨o3, c3, rfl, y3, q3⟩
  have HR3 : Hid (Rm w m Z3) := q3
  have HY3 : Hid (By (w.heap.size + 1) Z3 (.slice o3 L3.length c3) L3) := y3
  clear q3 y3 HR2 HY2
  clear k54
  have HE : Hid (RbR w m LF (.returned (.slice o3 L3.length c3)) Z3) := by rw [← HFIN.out]; exact RbR.mk HR3.out HY3.out
  go_wp2_with fail
  go_ret
  exact HE.out
set_option maxRecDepth 100000 in
set_option maxHeartbeats 1000000 in
theorem rb15 (hok : m.ok w) (hk : m.kind = 15) 
    (L1 : List UInt8) (s1 : Ap w m [] L1 (.slice (some ⟨w.heap.size, 55, none⟩) 16 16) 25) (LF : List UInt8) (hLF : L1 = LF) : Calls Try.prog 21 #[.agg m.cells.toArray] w (RbR w m LF) := by
  have hrow := heap_alloc_new w (.cells m.cells.toArray 34)
  have HR0 : Hid (Rm w m (w.alloc (.cells m.cells.toArray 34))) := ⟨bl1 w _, hrow⟩
  have HY0 : Hid (By (w.heap.size + 1) (w.alloc (.cells m.cells.toArray 34)) (.slice none 0 0) []) := World.ownsRow_nil _ _ _ _
  have c0 : (w.alloc (.cells m.cells.toArray 34)).cell? ⟨w.heap.size, 0, none⟩ = some (.int .i64 15) := by unfold World.cell?; rw [hrow, ← hk]; simpa using (Msg.get hok.ln).1
  have HLN : Hid _ := hok.ln
  obtain ⟨NA, hNA⟩ : ∃ NA, m.params.length = NA := ⟨_, rfl⟩
  obtain ⟨NT, hNT⟩ : ∃ NT, m.ticket.length = NT := ⟨_, rfl⟩
  obtain ⟨NP, hNP⟩ : ∃ NP, m.protos.length = NP := ⟨_, rfl⟩
  have HMC : Hid (∀ X, Rm w m X → Mc w.heap.size m X) := fun X h => h.mc hok.ln
  unfold Mc at HMC
  simp only [hNA, hNT, hNP] at HMC
  have S1 : Hid _ := s1
  clear s1
  have HA : Hid _ := hNA
  have HT : Hid _ := hNT
  have HP : Hid _ := hNP
  have HFIN : Hid _ := hLF
  clear hrow hNA hNT hNP hok hLF
  generalize m.cells.toArray = A at *
  go_enter Try.func21, Try.ntmps21
  obtain ⟨o1, c1, Z1, r1, y1, q1⟩ := S1.out _ _ _ HR0.out HY0.out
  have HR1 : Hid (Rm w m Z1) := q1
  have HY1 : Hid (By (w.heap.size + 1) Z1 (.slice o1 L1.length c1) L1) := y1
  have RN1 : Hid _ := r1
  clear q1 y1 r1 HR0 HY0
  go_wp2_with (refine appr rfl _ _ 25 25 rfl _ _ rfl rfl RN1.out (Hid.out ?_))
  refine mkHid ?_
  have HE : Hid (RbR w m LF (.returned (.slice o1 L1.length c1)) Z1) := by rw [← HFIN.out]; exact RbR.mk HR1.out HY1.out
  go_wp2_with fail
  go_ret
  exact HE.out
set_option maxRecDepth 100000 in
set_option maxHeartbeats 1000000 in
theorem rb20 (hok : m.ok w) (hk : m.kind = 20) 
    (L1 : List UInt8) (s1 : Ap w m [] L1 (.slice (some ⟨w.heap.size, 55, none⟩) 16 16) 25) (LF : List UInt8) (hLF : L1 = LF) : Calls Try.prog 21 #[.agg m.cells.toArray] w (RbR w m LF) := by
  have hrow := heap_alloc_new w (.cells m.cells.toArray 34)
  have HR0 : Hid (Rm w m (w.alloc (.cells m.cells.toArray 34))) := ⟨bl1 w _, hrow⟩
  have HY0 : Hid (By (w.heap.size + 1) (w.alloc (.cells m.cells.toArray 34)) (.slice none 0 0) []) := World.ownsRow_nil _ _ _ _
  have c0 : (w.alloc (.cells m.cells.toArray 34)).cell? ⟨w.heap.size, 0, none⟩ = some (.int .i64 20) := by unfold World.cell?; rw [hrow, ← hk]; simpa using (Msg.get hok.ln).1
  have HLN : Hid _ := hok.ln
  obtain ⟨NA, hNA⟩ : ∃ NA, m.params.length = NA := ⟨_, rfl⟩
  obtain ⟨NT, hNT⟩ : ∃ NT, m.ticket.length = NT := ⟨_, rfl⟩
  obtain ⟨NP, hNP⟩ : ∃ NP, m.protos.length = NP := ⟨_, rfl⟩
  have HMC : Hid (∀ X, Rm w m X → Mc w.heap.size m X) := fun X h => h.mc hok.ln
  unfold Mc at HMC
  simp only [hNA, hNT, hNP] at HMC
  have S1 : Hid _ := s1
  clear s1
  have HA : Hid _ := hNA
  have HT : Hid _ := hNT
  have HP : Hid _ := hNP
  have HFIN : Hid _ := hLF
  clear hrow hNA hNT hNP hok hLF
  generalize m.cells.toArray = A at *
  go_enter Try.func21, Try.ntmps21
  obtain ⟨o1, c1, Z1, r1, y1, q1⟩ := S1.out _ _ _ HR0.out HY0.out
  have HR1 : Hid (Rm w m Z1) := q1
  have HY1 : Hid (By (w.heap.size + 1) Z1 (.slice o1 L1.length c1) L1) := y1
  have RN1 : Hid _ := r1
  clear q1 y1 r1 HR0 HY0
  go_wp2_with (refine appr rfl _ _ 25 25 rfl _ _ rfl rfl RN1.out (Hid.out ?_))
  refine mkHid ?_
  have HE : Hid (RbR w m LF (.returned (.slice o1 L1.length c1)) Z1) := by rw [← HFIN.out]; exact RbR.mk HR1.out HY1.out
  go_wp2_with fail
  go_ret
  exact HE.out
set_option maxRecDepth 100000 in
set_option maxHeartbeats 1000000 in
theorem rb11 (hok : m.ok w) (hk : m.kind = 11) 
    (L1 L2 : List UInt8) (s1 : Cp w m [] L1 33 [.string m.name]) (s2 : Ap w m L1 L2 (.slice (some ⟨w.heap.size, 55, none⟩) 16 16) 25) (LF : List UInt8) (hLF : L2 = LF) : Calls Try.prog 21 #[.agg m.cells.toArray] w (RbR w m LF) := by
  have hrow := heap_alloc_new w (.cells m.cells.toArray 34)
  have HR0 : Hid (Rm w m (w.alloc (.cells m.cells.toArray 34))) := ⟨bl1 w _, hrow⟩
  have HY0 : Hid (By (w.heap.size + 1) (w.alloc (.cells m.cells.toArray 34)) (.slice none 0 0) []) := World.ownsRow_nil _ _ _ _
  have c0 : (w.alloc (.cells m.cells.toArray 34)).cell? ⟨w.heap.size, 0, none⟩ = some (.int .i64 11) := by unfold World.cell?; rw [hrow, ← hk]; simpa using (Msg.get hok.ln).1
  have HLN : Hid _ := hok.ln
  obtain ⟨NA, hNA⟩ : ∃ NA, m.params.length = NA := ⟨_, rfl⟩
  obtain ⟨NT, hNT⟩ : ∃ NT, m.ticket.length = NT := ⟨_, rfl⟩
  obtain ⟨NP, hNP⟩ : ∃ NP, m.protos.length = NP := ⟨_, rfl⟩
  have HMC : Hid (∀ X, Rm w m X → Mc w.heap.size m X) := fun X h => h.mc hok.ln
  unfold Mc at HMC
  simp only [hNA, hNT, hNP] at HMC
  have S1 : Hid _ := s1
  have S2 : Hid _ := s2
  clear s1 s2
  have HA : Hid _ := hNA
  have HT : Hid _ := hNT
  have HP : Hid _ := hNP
  have HFIN : Hid _ := hLF
  clear hrow hNA hNT hNP hok hLF
  generalize m.cells.toArray = A at *
  go_enter Try.func21, Try.ntmps21
  go_wp2_with fail
  have HRd : Hid (Rm w m (w.alloc (.cells A 34)).drew) := HR0.out.go (bld (w.alloc (.cells A 34)))
  have HYd : Hid (By (w.heap.size + 1) (w.alloc (.cells A 34)).drew (.slice none 0 0) []) := HY0.out.below (bld (w.alloc (.cells A 34)))
  clear HR0 HY0
  refine wp_region_held_drew (S := fun X => X.cell? ⟨w.heap.size, 33, none⟩ = some (.string m.name) ∧ X.cell? ⟨w.heap.size, 34, none⟩ = some (.slice m.po NP m.pc) ∧ X.cell? ⟨w.heap.size, 35, none⟩ = some (.slice m.ao NA m.ac) ∧ X.cell? ⟨w.heap.size, 36, none⟩ = some (.slice m.to NT m.tc) ∧ X.cell? ⟨w.heap.size, 53, none⟩ = some (.bool m.early) ∧ X.cell? ⟨w.heap.size, 54, none⟩ = some (.bool m.again) ∧ X.cell? ⟨w.heap.size, 71, none⟩ = some (.int .i64 m.life)) (by kernel_rfl) (HMC.out _ HRd.out) (fun hHeld => ?_)
  generalize (w.alloc (.cells A 34)).drew = D0 at *
  refine wpAnyH_take (i := 0) (v := .slice none 0 0) rfl (by kernel_rfl) (by kernel_rfl) (by kernel_rfl) (fun _ _ _ h => h) (Or.inl ⟨by rfl, by intro w hs; go_simp⟩) hHeld ?_
  refine norm_any' (fun K hK => ?_)
  go_simp
  refine hK _ _ ?_
  clear hK K
  refine wpAnyH_take (i := 1) (v := .pointer (some ⟨w.heap.size, 33, none⟩)) rfl (by kernel_rfl) (by kernel_rfl) (by kernel_rfl) (fun _ _ _ h => h) (Or.inl ⟨by rfl, by intro w hs; go_simp⟩) hHeld ?_
  refine norm_any' (fun K hK => ?_)
  go_simp
  refine hK _ _ ?_
  clear hK K
  refine wpAnyH_take (i := 2) (v := .string m.name) rfl (by kernel_rfl) (by kernel_rfl) (by kernel_rfl) (fun _ _ _ h => h) (Or.inl ⟨by rfl, by intro w hs; obtain ⟨q33, q34, q35, q36, q53, q54, q71⟩ := hs; go_simp⟩) hHeld ?_
  refine norm_any' (fun K hK => ?_)
  go_simp
  refine hK _ _ ?_
  clear hK K
  refine wpAnyH_take (i := 4) (v := .pointer (some ⟨w.heap.size, 55, none⟩)) rfl (by kernel_rfl) (by kernel_rfl) (by kernel_rfl) (fun _ _ _ h => h) (Or.inl ⟨by rfl, by intro w hs; go_simp⟩) hHeld ?_
  refine norm_any' (fun K hK => ?_)
  go_simp
  refine hK _ _ ?_
  clear hK K
  refine wpAnyH_take (i := 5) (v := .slice (some ⟨w.heap.size, 55, none⟩) 16 16) rfl (by kernel_rfl) (by kernel_rfl) (by kernel_rfl) (fun _ _ _ h => h) (Or.inl ⟨by rfl, by intro w hs; go_simp⟩) hHeld ?_
  refine norm_any' (fun K hK => ?_)
  go_simp
  refine hK _ _ ?_
  clear hK K
  refine wpAnyH_ready (rs := [3]) (by kernel_rfl) (by simp) (AllReadyH.cons rfl (fun K hK => ?_) AllReadyH.nil)
  go_simp
  refine Calls.mono (S1.out _ _ _ HRd.out HYd.out) ?_
  rintro e Z1 ⟨o1, c1, rfl, y1, q1⟩
  have HR1 : Hid (Rm w m Z1) := q1
  have HY1 : Hid (By (w.heap.size + 1) Z1 (.slice o1 L1.length c1) L1) := y1
  clear q1 y1 HRd HYd
  refine hK.out _ _ (HMC.out _ HR1.out) (fun hHeld => ?_)
  clear hK K
  refine norm_any' (fun K hK => ?_)
  go_simp
  refine hK _ _ ?_
  clear hK K
  refine wpAnyH_ready (rs := [6]) (by kernel_rfl) (by simp) (AllReadyH.cons rfl (fun K hK => ?_) AllReadyH.nil)
  obtain ⟨o2, c2, Z2, r2, y2, q2⟩ := S2.out _ _ _ HR1.out HY1.out
  have HR2 : Hid (Rm w m Z2) := q2
  have HY2 : Hid (By (w.heap.size + 1) Z2 (.slice o2 L2.length c2) L2) := y2
  have RN2 : Hid _ := r2
  clear q2 y2 r2 HR1 HY1
  refine step_app (by rfl) _ _ 25 25 rfl _ _ (by rfl) (by rfl) RN2.out ?_
  refine hK.out _ _ (HMC.out _ HR2.out) (fun hHeld => ?_)
  clear hK K
  refine norm_any' (fun K hK => ?_)
  go_simp
  refine hK _ _ ?_
  clear hK K
  refine wpAnyH_take (i := 7) (v := .slice o2 L2.length c2) rfl (by kernel_rfl) (by kernel_rfl) (by kernel_rfl) (fun _ _ _ h => h) (Or.inl ⟨by rfl, by intro w hs; go_simp⟩) hHeld ?_
  refine norm_any' (fun K hK => ?_)
  go_simp
  refine hK _ _ ?_
  clear hK K
  refine wpAnyH_done (by kernel_rfl) ?_ _
  clear hHeld
  have HE : Hid (RbR w m LF (.returned (.slice o2 L2.length c2)) Z2) := by rw [← HFIN.out]; exact RbR.mk HR2.out HY2.out
  go_wp2_with fail
  go_ret
  exact HE.out
set_option maxRecDepth 100000 in
set_option maxHeartbeats 1000000 in
theorem rb8 (hok : m.ok w) (hk : m.kind = 8) (b0 f0 : Nat) (S0 : ByteArray) (hpo : m.po = some ⟨b0, f0, none⟩) (hpl : m.protos.length = 1) (hp0 : w.cell? ⟨b0, f0, none⟩ = some (.string S0))
    (L1 L2 L3 : List UInt8) (s1 : Cp w m [] L1 33 [.string S0]) (s2 : Cp w m L1 L2 35 [.slice m.ao m.params.length m.ac]) (s3 : Cp w m L2 L3 34 [.bool m.early, .bool false]) (LF : List UInt8) (hLF : L3 = LF) : Calls Try.prog 21 #[.agg m.cells.toArray] w (RbR w m LF) := by
  have hrow := heap_alloc_new w (.cells m.cells.toArray 34)
  have HR0 : Hid (Rm w m (w.alloc (.cells m.cells.toArray 34))) := ⟨bl1 w _, hrow⟩
  have HY0 : Hid (By (w.heap.size + 1) (w.alloc (.cells m.cells.toArray 34)) (.slice none 0 0) []) := World.ownsRow_nil _ _ _ _
  have c0 : (w.alloc (.cells m.cells.toArray 34)).cell? ⟨w.heap.size, 0, none⟩ = some (.int .i64 8) := by unfold World.cell?; rw [hrow, ← hk]; simpa using (Msg.get hok.ln).1
  have HLN : Hid _ := hok.ln
  obtain ⟨NA, hNA⟩ : ∃ NA, m.params.length = NA := ⟨_, rfl⟩
  obtain ⟨NT, hNT⟩ : ∃ NT, m.ticket.length = NT := ⟨_, rfl⟩
  obtain ⟨NP, hNP⟩ : ∃ NP, m.protos.length = NP := ⟨_, rfl⟩
  have HMC : Hid (∀ X, Rm w m X → Mc w.heap.size m X) := fun X h => h.mc hok.ln
  unfold Mc at HMC
  simp only [hNA, hNT, hNP] at HMC
  rw [hNA] at s2
  have S1 : Hid _ := s1
  have S2 : Hid _ := s2
  have S3 : Hid _ := s3
  have HC0 : Hid (∀ X, Rm w m X → X.cell? ⟨b0, f0, none⟩ = some (.string S0)) := fun X h => (h.bel.cell (p := ⟨b0, f0, none⟩) (World.block_lt_of_cell? w _ hp0)).trans hp0
  rw [hpl] at hNP
  clear s1 s2 s3 hp0
  subst hNP
  rw [hpo] at HMC
  have HA : Hid _ := hNA
  have HT : Hid _ := hNT
  have HFIN : Hid _ := hLF
  clear hrow hNA hNT hok hLF
  generalize m.cells.toArray = A at *
  go_enter Try.func21, Try.ntmps21
  go_wp2_with fail
  have HRd : Hid (Rm w m (w.alloc (.cells A 34)).drew) := HR0.out.go (bld (w.alloc (.cells A 34)))
  have HYd : Hid (By (w.heap.size + 1) (w.alloc (.cells A 34)).drew (.slice none 0 0) []) := HY0.out.below (bld (w.alloc (.cells A 34)))
  clear HR0 HY0
  refine wp_region_held_drew (S := fun X => X.cell? ⟨w.heap.size, 33, none⟩ = some (.string m.name) ∧ X.cell? ⟨w.heap.size, 34, none⟩ = some (.slice (some ⟨b0, f0, none⟩) 1 m.pc) ∧ X.cell? ⟨w.heap.size, 35, none⟩ = some (.slice m.ao NA m.ac) ∧ X.cell? ⟨w.heap.size, 36, none⟩ = some (.slice m.to NT m.tc) ∧ X.cell? ⟨w.heap.size, 53, none⟩ = some (.bool m.early) ∧ X.cell? ⟨w.heap.size, 54, none⟩ = some (.bool m.again) ∧ X.cell? ⟨w.heap.size, 71, none⟩ = some (.int .i64 m.life)) (by kernel_rfl) (HMC.out _ HRd.out) (fun hHeld => ?_)
  generalize (w.alloc (.cells A 34)).drew = D0 at *
  refine wpAnyH_take (i := 0) (v := .slice none 0 0) rfl (by kernel_rfl) (by kernel_rfl) (by kernel_rfl) (fun _ _ _ h => h) (Or.inl ⟨by rfl, by intro w hs; go_simp⟩) hHeld ?_
  refine norm_any' (fun K hK => ?_)
  go_simp
  refine hK _ _ ?_
  clear hK K
  refine wpAnyH_take (i := 1) (v := .pointer (some ⟨w.heap.size, 34, none⟩)) rfl (by kernel_rfl) (by kernel_rfl) (by kernel_rfl) (fun _ _ _ h => h) (Or.inl ⟨by rfl, by intro w hs; go_simp⟩) hHeld ?_
  refine norm_any' (fun K hK => ?_)
  go_simp
  refine hK _ _ ?_
  clear hK K
  refine wpAnyH_take (i := 2) (v := .slice (some ⟨b0, f0, none⟩) 1 m.pc) rfl (by kernel_rfl) (by kernel_rfl) (by kernel_rfl) (fun _ _ _ h => h) (Or.inl ⟨by rfl, by intro w hs; obtain ⟨q33, q34, q35, q36, q53, q54, q71⟩ := hs; go_simp⟩) hHeld ?_
  refine norm_any' (fun K hK => ?_)
  go_simp
  refine hK _ _ ?_
  clear hK K
  refine wpAnyH_take (i := 3) (v := .pointer (some ⟨b0, f0, none⟩)) rfl (by kernel_rfl) (by kernel_rfl) (by kernel_rfl) (fun _ _ _ h => h) (Or.inl ⟨by rfl, by intro w hs; go_simp⟩) hHeld ?_
  refine norm_any' (fun K hK => ?_)
  go_simp
  refine hK _ _ ?_
  clear hK K
  refine wpAnyH_take (i := 6) (v := .pointer (some ⟨w.heap.size, 35, none⟩)) rfl (by kernel_rfl) (by kernel_rfl) (by kernel_rfl) (fun _ _ _ h => h) (Or.inl ⟨by rfl, by intro w hs; go_simp⟩) hHeld ?_
  refine norm_any' (fun K hK => ?_)
  go_simp
  refine hK _ _ ?_
  clear hK K
  refine wpAnyH_take (i := 7) (v := .slice m.ao NA m.ac) rfl (by kernel_rfl) (by kernel_rfl) (by kernel_rfl) (fun _ _ _ h => h) (Or.inl ⟨by rfl, by intro w hs; obtain ⟨q33, q34, q35, q36, q53, q54, q71⟩ := hs; go_simp⟩) hHeld ?_
  refine norm_any' (fun K hK => ?_)
  go_simp
  refine hK _ _ ?_
  clear hK K
  refine wpAnyH_take (i := 9) (v := .pointer (some ⟨w.heap.size, 53, none⟩)) rfl (by kernel_rfl) (by kernel_rfl) (by kernel_rfl) (fun _ _ _ h => h) (Or.inl ⟨by rfl, by intro w hs; go_simp⟩) hHeld ?_
  refine norm_any' (fun K hK => ?_)
  go_simp
  refine hK _ _ ?_
  clear hK K
  refine wpAnyH_take (i := 10) (v := .bool m.early) rfl (by kernel_rfl) (by kernel_rfl) (by kernel_rfl) (fun _ _ _ h => h) (Or.inl ⟨by rfl, by intro w hs; obtain ⟨q33, q34, q35, q36, q53, q54, q71⟩ := hs; go_simp⟩) hHeld ?_
  refine norm_any' (fun K hK => ?_)
  go_simp
  refine hK _ _ ?_
  clear hK K
  refine wpAnyH_ready (rs := [4]) (by kernel_rfl) (by simp) (AllReadyH.cons rfl (fun K hK => ?_) AllReadyH.nil)
  have kz := HC0.out _ HRd.out
  go_simp
  refine hK.out _ _ (HMC.out _ HRd.out) (fun hHeld => ?_)
  clear hK K
  refine norm_any' (fun K hK => ?_)
  go_simp
  refine hK _ _ ?_
  clear hK K
  clear kz
  refine wpAnyH_ready (rs := [5]) (by kernel_rfl) (by simp) (AllReadyH.cons rfl (fun K hK => ?_) AllReadyH.nil)
  go_simp
  refine Calls.mono (S1.out _ _ _ HRd.out HYd.out) ?_
  rintro e Z1 ⟨o1, c1, rfl, y1, q1⟩
  have HR1 : Hid (Rm w m Z1) := q1
  have HY1 : Hid (By (w.heap.size + 1) Z1 (.slice o1 L1.length c1) L1) := y1
  clear q1 y1 HRd HYd
  refine hK.out _ _ (HMC.out _ HR1.out) (fun hHeld => ?_)
  clear hK K
  refine norm_any' (fun K hK => ?_)
  go_simp
  refine hK _ _ ?_
  clear hK K
  refine wpAnyH_ready (rs := [8]) (by kernel_rfl) (by simp) (AllReadyH.cons rfl (fun K hK => ?_) AllReadyH.nil)
  go_simp
  refine Calls.mono (S2.out _ _ _ HR1.out HY1.out) ?_
  rintro e Z2 ⟨o2, c2, rfl, y2, q2⟩
  have HR2 : Hid (Rm w m Z2) := q2
  have HY2 : Hid (By (w.heap.size + 1) Z2 (.slice o2 L2.length c2) L2) := y2
  clear q2 y2 HR1 HY1
  refine hK.out _ _ (HMC.out _ HR2.out) (fun hHeld => ?_)
  clear hK K
  refine norm_any' (fun K hK => ?_)
  go_simp
  refine hK _ _ ?_
  clear hK K
  refine wpAnyH_ready (rs := [11]) (by kernel_rfl) (by simp) (AllReadyH.cons rfl (fun K hK => ?_) AllReadyH.nil)
  go_simp
  refine Calls.mono (S3.out _ _ _ HR2.out HY2.out) ?_
  rintro e Z3 ⟨o3, c3, rfl, y3, q3⟩
  have HR3 : Hid (Rm w m Z3) := q3
  have HY3 : Hid (By (w.heap.size + 1) Z3 (.slice o3 L3.length c3) L3) := y3
  clear q3 y3 HR2 HY2
  refine hK.out _ _ (HMC.out _ HR3.out) (fun hHeld => ?_)
  clear hK K
  refine norm_any' (fun K hK => ?_)
  go_simp
  refine hK _ _ ?_
  clear hK K
  refine wpAnyH_take (i := 12) (v := .slice o3 L3.length c3) rfl (by kernel_rfl) (by kernel_rfl) (by kernel_rfl) (fun _ _ _ h => h) (Or.inl ⟨by rfl, by intro w hs; go_simp⟩) hHeld ?_
  refine norm_any' (fun K hK => ?_)
  go_simp
  refine hK _ _ ?_
  clear hK K
  refine wpAnyH_done (by kernel_rfl) ?_ _
  clear hHeld
  have HE : Hid (RbR w m LF (.returned (.slice o3 L3.length c3)) Z3) := by rw [← HFIN.out]; exact RbR.mk HR3.out HY3.out
  go_wp2_with fail
  go_ret
  exact HE.out
end
end Go.Proofs.Ytcchlicokglmnaa
