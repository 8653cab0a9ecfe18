/- The reference's body of a ticket and of a client. -/
import Derived.Test.YtcchlicokglmnaaRf
namespace Go.Proofs.Ytcchlicokglmnaa
open Go.ChangeShapes Go.WideShapes Go.ChangeAt Go.RowKit Go.Lib
set_option linter.unusedVariables false

section
variable {w : World} {m : Msg}
set_option maxRecDepth 100000 in
set_option maxHeartbeats 1000000 in
theorem rb4 (hok : m.ok w) (hk : m.kind = 4) (l0 : 0 ≤ m.life) (l1 : m.life ≤ 4294967295)
    (L1 L2 L3 : List UInt8) (hL1 : be 4 (uN m.life) = L1) (s2 : Cp w m L1 L2 35 [.slice m.to m.ticket.length m.tc]) (s3 : Cp w m L2 L3 34 [.bool m.early, .bool false]) (LF : List UInt8) (hLF : L3 = LF) : Calls Try.prog 21 #[.agg m.cells.toArray] w (RbR w m LF) := by
  have hrow := heap_alloc_new w (.cells m.cells.toArray 34)
  have HR0 : Hid (Rm w m (w.alloc (.cells m.cells.toArray 34))) := ⟨bl1 w _, hrow⟩
  have HY0 : Hid (By (w.heap.size + 1) (w.alloc (.cells m.cells.toArray 34)) (.slice none 0 0) []) := World.ownsRow_nil _ _ _ _
  have c0 : (w.alloc (.cells m.cells.toArray 34)).cell? ⟨w.heap.size, 0, none⟩ = some (.int .i64 4) := by unfold World.cell?; rw [hrow, ← hk]; simpa using (Msg.get hok.ln).1
  have HLN : Hid _ := hok.ln
  obtain ⟨NA, hNA⟩ : ∃ NA, m.params.length = NA := ⟨_, rfl⟩
  obtain ⟨NT, hNT⟩ : ∃ NT, m.ticket.length = NT := ⟨_, rfl⟩
  obtain ⟨NP, hNP⟩ : ∃ NP, m.protos.length = NP := ⟨_, rfl⟩
  have HMC : Hid (∀ X, Rm w m X → Mc w.heap.size m X) := fun X h => h.mc hok.ln
  unfold Mc at HMC
  simp only [hNA, hNT, hNP] at HMC
  rw [hNT] at s2
  have S2 : Hid _ := s2
  have S3 : Hid _ := s3
  have c71 := (HR0.out.mc hok.ln).2.2.2.2.2.2
  have hb4 := bl1 (w.alloc (.cells m.cells.toArray 34)) (.cells #[.int .u8 (m.life / 16777216), .int .u8 (m.life / 65536 % 256), .int .u8 (m.life / 256 % 256), .int .u8 (m.life % 256)] 5)
  obtain ⟨o1, c1, Z1, r1, y1, g1⟩ := app_b (n := w.heap.size + 1) (l := []) (HY0.out.below hb4) (by simp) (some ⟨(w.alloc (.cells m.cells.toArray 34)).heap.size, 0, none⟩) 4 (be 4 (uN m.life)) (sl4 _ _ l0 l1) (fun h => by cases h) (by simp [be_length])
  have HR1 : Hid (Rm w m Z1) := (HR0.out.go hb4).on g1
  rw [be_length, List.nil_append, hL1] at r1
  rw [List.nil_append, hL1] at y1
  have HY1 : Hid (By (w.heap.size + 1) Z1 (.slice o1 L1.length c1) L1) := y1
  simp only [World.size_alloc, List.length_nil] at r1
  have RN1 : Hid _ := r1
  clear s2 s3 r1 y1 g1 hb4 HR0 HY0 hL1
  have HA : Hid _ := hNA
  have HT : Hid _ := hNT
  have HP : Hid _ := hNP
  have HFIN : Hid _ := hLF
  clear hrow hNA hNT hNP hok hLF
  generalize m.cells.toArray = A at *
  go_enter Try.func21, Try.ntmps21
  go_wp2_with (refine appr rfl _ _ 25 25 rfl _ _ rfl rfl RN1.out (Hid.out ?_))
  refine mkHid ?_
  clear RN1 c71 c0
  go_wp2_with fail
  have HRd : Hid (Rm w m Z1.drew) := HR1.out.go (bld Z1)
  have HYd : Hid (By (w.heap.size + 1) Z1.drew (.slice o1 L1.length c1) L1) := HY1.out.below (bld Z1)
  clear HR1 HY1
  refine wp_region_held_drew (S := fun X => X.cell? ⟨w.heap.size, 33, none⟩ = some (.string m.name) ∧ X.cell? ⟨w.heap.size, 34, none⟩ = some (.slice m.po NP m.pc) ∧ X.cell? ⟨w.heap.size, 35, none⟩ = some (.slice m.ao NA m.ac) ∧ X.cell? ⟨w.heap.size, 36, none⟩ = some (.slice m.to NT m.tc) ∧ X.cell? ⟨w.heap.size, 53, none⟩ = some (.bool m.early) ∧ X.cell? ⟨w.heap.size, 54, none⟩ = some (.bool m.again) ∧ X.cell? ⟨w.heap.size, 71, none⟩ = some (.int .i64 m.life)) (by kernel_rfl) (HMC.out _ HRd.out) (fun hHeld => ?_)
  generalize Z1.drew = D1 at *
  refine wpAnyH_take (i := 0) (v := .slice o1 L1.length c1) rfl (by kernel_rfl) (by kernel_rfl) (by kernel_rfl) (fun _ _ _ h => h) (Or.inl ⟨by rfl, by intro w hs; go_simp⟩) hHeld ?_
  refine norm_any' (fun K hK => ?_)
  go_simp
  refine hK _ _ ?_
  clear hK K
  refine wpAnyH_take (i := 1) (v := .pointer (some ⟨w.heap.size, 36, none⟩)) rfl (by kernel_rfl) (by kernel_rfl) (by kernel_rfl) (fun _ _ _ h => h) (Or.inl ⟨by rfl, by intro w hs; go_simp⟩) hHeld ?_
  refine norm_any' (fun K hK => ?_)
  go_simp
  refine hK _ _ ?_
  clear hK K
  refine wpAnyH_take (i := 2) (v := .slice m.to NT m.tc) rfl (by kernel_rfl) (by kernel_rfl) (by kernel_rfl) (fun _ _ _ h => h) (Or.inl ⟨by rfl, by intro w hs; obtain ⟨q33, q34, q35, q36, q53, q54, q71⟩ := hs; go_simp⟩) hHeld ?_
  refine norm_any' (fun K hK => ?_)
  go_simp
  refine hK _ _ ?_
  clear hK K
  refine wpAnyH_take (i := 4) (v := .pointer (some ⟨w.heap.size, 53, none⟩)) rfl (by kernel_rfl) (by kernel_rfl) (by kernel_rfl) (fun _ _ _ h => h) (Or.inl ⟨by rfl, by intro w hs; go_simp⟩) hHeld ?_
  refine norm_any' (fun K hK => ?_)
  go_simp
  refine hK _ _ ?_
  clear hK K
  refine wpAnyH_take (i := 5) (v := .bool m.early) rfl (by kernel_rfl) (by kernel_rfl) (by kernel_rfl) (fun _ _ _ h => h) (Or.inl ⟨by rfl, by intro w hs; obtain ⟨q33, q34, q35, q36, q53, q54, q71⟩ := hs; go_simp⟩) hHeld ?_
  refine norm_any' (fun K hK => ?_)
  go_simp
  refine hK _ _ ?_
  clear hK K
  refine wpAnyH_ready (rs := [3]) (by kernel_rfl) (by simp) (AllReadyH.cons rfl (fun K hK => ?_) AllReadyH.nil)
  go_simp
  refine Calls.mono (S2.out _ _ _ HRd.out HYd.out) ?_
  rintro e Z2 ⟨o2, c2, rfl, y2, q2⟩
  have HR2 : Hid (Rm w m Z2) := q2
  have HY2 : Hid (By (w.heap.size + 1) Z2 (.slice o2 L2.length c2) L2) := y2
  clear q2 y2 HRd HYd
  refine hK.out _ _ (HMC.out _ HR2.out) (fun hHeld => ?_)
  clear hK K
  refine norm_any' (fun K hK => ?_)
  go_simp
  refine hK _ _ ?_
  clear hK K
  refine wpAnyH_ready (rs := [6]) (by kernel_rfl) (by simp) (AllReadyH.cons rfl (fun K hK => ?_) AllReadyH.nil)
  go_simp
  refine Calls.mono (S3.out _ _ _ HR2.out HY2.out) ?_
  rintro e Z3 ⟨o3, c3, rfl, y3, q3⟩
  have HR3 : Hid (Rm w m Z3) := q3
  have HY3 : Hid (By (w.heap.size + 1) Z3 (.slice o3 L3.length c3) L3) := y3
  clear q3 y3 HR2 HY2
  refine hK.out _ _ (HMC.out _ HR3.out) (fun hHeld => ?_)
  clear hK K
  refine norm_any' (fun K hK => ?_)
  go_simp
  refine hK _ _ ?_
  clear hK K
  refine wpAnyH_take (i := 7) (v := .slice o3 L3.length c3) rfl (by kernel_rfl) (by kernel_rfl) (by kernel_rfl) (fun _ _ _ h => h) (Or.inl ⟨by rfl, by intro w hs; go_simp⟩) hHeld ?_
  refine norm_any' (fun K hK => ?_)
  go_simp
  refine hK _ _ ?_
  clear hK K
  refine wpAnyH_done (by kernel_rfl) ?_ _
  clear hHeld
  have HE : Hid (RbR w m LF (.returned (.slice o3 L3.length c3)) Z3) := by rw [← HFIN.out]; exact RbR.mk HR3.out HY3.out
  go_wp2_with fail
  go_ret
  exact HE.out
/-- A step of short, told block by block. -/
def Cx3 (w : World) (m : Msg) (l l' : List UInt8) (S : ByteArray) : Prop := ∀ X o c, Rm w m X → By (w.heap.size + 1) X (.slice o l.length c) l → Calls Try.prog 33 #[.slice o l.length c, .string S] X fun e X' => ∃ o' c', e = .returned (.slice o' l'.length c') ∧ By (w.heap.size + 1) X' (.slice o' l'.length c') l' ∧ Rm w m X' ∧ ∀ k, k < X.heap.size → some k ≠ (Value.slice o l.length c).ownBlock → X'.heap[k]? = X.heap[k]?
theorem cp_x (l : List UInt8) (S : ByteArray) (hb : l.length + S.size ≤ 500000) : Cx3 w m l (l ++ [UInt8.ofNat S.size] ++ S.data.toList) S := fun X o c hr hy =>
  (rshort_x hy hr.sz S (by omega)).mono fun e X' ⟨⟨o', c', h1, h2, h3⟩, h4⟩ => ⟨o', c', h1, h2, hr.on h3, h4⟩
def Ab (w : World) (m : Msg) (l l' : List UInt8) (x : Int) : Prop := ∀ X o c k, Rm w m X → By (w.heap.size + 1) X (.slice o l.length c) l → X.heap[k]? = some (.cells #[.int .u8 x] 5 (0, 0)) → ∃ o' c' X', (Builtin.append_ #[25, 25] 25 #[.slice o l.length c, .slice (some ⟨k, 0, none⟩) 1 1]).run Try.prog X = .ok (.slice o' l'.length c') X' ∧ By (w.heap.size + 1) X' (.slice o' l'.length c') l' ∧ Rm w m X'
theorem ab_x (l : List UInt8) (b : UInt8) (x : Int) (hx : x = (b.toNat : Int)) (hb : l.length ≤ 500000) : Ab w m l (l ++ [b]) x := fun X o c k hr hy hk => by
  subst hx
  obtain ⟨o', c', X', r, y, g⟩ := app_b hy hr.sz (some ⟨k, 0, none⟩) 1 [b] (Sl_own hk (by simp [bc])) (fun h => by cases h) (by simp; omega)
  exact ⟨o', c', X', r, y, hr.on g⟩
theorem By.ob {B : Nat} {w : World} {v : Value} {X : List UInt8} (h : By B w v X) : some w.heap.size ≠ v.ownBlock := by
  intro e
  have := (h.lt w.heap.size e.symm).2
  omega
set_option maxRecDepth 100000 in
set_option maxHeartbeats 1000000 in
theorem rb1t (hok : m.ok w) (hk : m.kind = 1) (b0 f0 : Nat) (hpo : m.po = some ⟨b0, f0, none⟩) (hp8 : m.protos.length ≤ 8) (hT : 0 < m.ticket.length)
    (L1 L2 L3 L4 : List UInt8) (Lp : Nat → List UInt8) (L6 L7 L8 L9 : List UInt8) (hLp : Lp 0 = L4) (s1 : Ap w m [] L1 (.slice (some ⟨w.heap.size, 1, none⟩) 16 16) 25) (s2 : Ap w m L1 L2 (.slice (some ⟨w.heap.size, 17, none⟩) 16 16) 25) (s3 : Cx3 w m L2 L3 m.name) (s4 : Ab w m L3 L4 m.protos.length) (sp : ∀ i (h : i < m.protos.length), Cp w m (Lp i) (Lp (i + 1)) 33 [.string m.protos[i]]) (s6 : Cp w m (Lp m.protos.length) L6 35 [.slice m.ao m.params.length m.ac]) (s7 : Cp w m L6 L7 34 [.bool true, .bool m.early]) (s8 : Cp w m L7 L8 35 [.slice m.to m.ticket.length m.tc]) (s9 : Ap w m L8 L9 (.slice (some ⟨w.heap.size, 37, none⟩) 16 16) 25) (LF : List UInt8) (hLF : L9 = LF) : Calls Try.prog 21 #[.agg m.cells.toArray] w (RbR w m LF) := by
  have hrow := heap_alloc_new w (.cells m.cells.toArray 34)
  have HR0 : Hid (Rm w m (w.alloc (.cells m.cells.toArray 34))) := ⟨bl1 w _, hrow⟩
  have HY0 : Hid (By (w.heap.size + 1) (w.alloc (.cells m.cells.toArray 34)) (.slice none 0 0) []) := World.ownsRow_nil _ _ _ _
  have c0 : (w.alloc (.cells m.cells.toArray 34)).cell? ⟨w.heap.size, 0, none⟩ = some (.int .i64 1) := by unfold World.cell?; rw [hrow, ← hk]; simpa using (Msg.get hok.ln).1
  have HLN : Hid _ := hok.ln
  obtain ⟨NA, hNA⟩ : ∃ NA, m.params.length = NA := ⟨_, rfl⟩
  obtain ⟨NT, hNT⟩ : ∃ NT, m.ticket.length = NT := ⟨_, rfl⟩
  obtain ⟨NP, hNP⟩ : ∃ NP, m.protos.length = NP := ⟨_, rfl⟩
  have HMC : Hid (∀ X, Rm w m X → Mc w.heap.size m X) := fun X h => h.mc hok.ln
  unfold Mc at HMC
  simp only [hNA, hNT, hNP] at HMC
  have HNM : Hid (∀ X, Rm w m X → ∀ i (h : i < m.protos.length), X.cell? ⟨b0, f0 + i, none⟩ = some (.string m.protos[i])) := fun X hX i hi => by
    obtain ⟨b, off, e, hc⟩ := Nms_bel hok.nm hX.bel i hi
    rw [hpo] at e
    cases e
    exact hc
  rw [hNP] at s4 s6 hp8
  rw [hNA] at s6
  rw [hNT] at hT s8
  have S1 : Hid _ := s1
  have S2 : Hid _ := s2
  have S3 : Hid _ := s3
  have S4 : Hid _ := s4
  have SP : Hid _ := sp
  have S6 : Hid _ := s6
  have S7 : Hid _ := s7
  have S8 : Hid _ := s8
  have S9 : Hid _ := s9
  clear s8 s9
  have HLP : Hid _ := hLp
  have nw : IntKind.u8.wrap (NP : Int) = (NP : Int) := by rw [IntKind.wrap_u8]; omega
  have tpd : decide ((0 : Int) < (NT : Int)) = true := by simp; omega
  have tpl : (0 : Int) < (NT : Int) := by omega
  rw [hpo] at HMC
  clear s1 s2 s3 s4 sp s6 s7 hLp
  have HA : Hid _ := hNA
  have HT : Hid _ := hNT
  have HP : Hid _ := hNP
  have HFIN : Hid _ := hLF
  clear hrow hNA hNT hNP hok hLF
  generalize m.cells.toArray = A at *
  go_enter Try.func21, Try.ntmps21
  go_wp2_with fail
  have HRd : Hid (Rm w m (w.alloc (.cells A 34)).drew) := HR0.out.go (bld (w.alloc (.cells A 34)))
  have HYd : Hid (By (w.heap.size + 1) (w.alloc (.cells A 34)).drew (.slice none 0 0) []) := HY0.out.below (bld (w.alloc (.cells A 34)))
  clear HR0 HY0
  refine wp_region_held_drew (S := fun X => X.cell? ⟨w.heap.size, 33, none⟩ = some (.string m.name) ∧ X.cell? ⟨w.heap.size, 34, none⟩ = some (.slice (some ⟨b0, f0, none⟩) NP m.pc) ∧ X.cell? ⟨w.heap.size, 35, none⟩ = some (.slice m.ao NA m.ac) ∧ X.cell? ⟨w.heap.size, 36, none⟩ = some (.slice m.to NT m.tc) ∧ X.cell? ⟨w.heap.size, 53, none⟩ = some (.bool m.early) ∧ X.cell? ⟨w.heap.size, 54, none⟩ = some (.bool m.again) ∧ X.cell? ⟨w.heap.size, 71, none⟩ = some (.int .i64 m.life)) (by kernel_rfl) (HMC.out _ HRd.out) (fun hHeld => ?_)
  generalize (w.alloc (.cells A 34)).drew = D0 at *
  refine wpAnyH_take (i := 0) (v := .slice none 0 0) rfl (by kernel_rfl) (by kernel_rfl) (by kernel_rfl) (fun _ _ _ h => h) (Or.inl ⟨by rfl, by intro w hs; go_simp⟩) hHeld ?_
  refine norm_any' (fun K hK => ?_)
  go_simp
  refine hK _ _ ?_
  clear hK K
  refine wpAnyH_take (i := 1) (v := .pointer (some ⟨w.heap.size, 1, none⟩)) rfl (by kernel_rfl) (by kernel_rfl) (by kernel_rfl) (fun _ _ _ h => h) (Or.inl ⟨by rfl, by intro w hs; go_simp⟩) hHeld ?_
  refine norm_any' (fun K hK => ?_)
  go_simp
  refine hK _ _ ?_
  clear hK K
  refine wpAnyH_take (i := 2) (v := .slice (some ⟨w.heap.size, 1, none⟩) 16 16) rfl (by kernel_rfl) (by kernel_rfl) (by kernel_rfl) (fun _ _ _ h => h) (Or.inl ⟨by rfl, by intro w hs; go_simp⟩) hHeld ?_
  refine norm_any' (fun K hK => ?_)
  go_simp
  refine hK _ _ ?_
  clear hK K
  refine wpAnyH_take (i := 4) (v := .pointer (some ⟨w.heap.size, 17, none⟩)) rfl (by kernel_rfl) (by kernel_rfl) (by kernel_rfl) (fun _ _ _ h => h) (Or.inl ⟨by rfl, by intro w hs; go_simp⟩) hHeld ?_
  refine norm_any' (fun K hK => ?_)
  go_simp
  refine hK _ _ ?_
  clear hK K
  refine wpAnyH_take (i := 5) (v := .slice (some ⟨w.heap.size, 17, none⟩) 16 16) rfl (by kernel_rfl) (by kernel_rfl) (by kernel_rfl) (fun _ _ _ h => h) (Or.inl ⟨by rfl, by intro w hs; go_simp⟩) hHeld ?_
  refine norm_any' (fun K hK => ?_)
  go_simp
  refine hK _ _ ?_
  clear hK K
  refine wpAnyH_ready (rs := [3]) (by kernel_rfl) (by simp) (AllReadyH.cons rfl (fun K hK => ?_) AllReadyH.nil)
  obtain ⟨o1, c1, Z1, r1, y1, q1⟩ := S1.out _ _ _ HRd.out HYd.out
  have HR1 : Hid (Rm w m Z1) := q1
  have HY1 : Hid (By (w.heap.size + 1) Z1 (.slice o1 L1.length c1) L1) := y1
  have RN1 : Hid _ := r1
  clear q1 y1 r1 HRd HYd
  refine step_app (by rfl) _ _ 25 25 rfl _ _ (by rfl) (by rfl) RN1.out ?_
  refine hK.out _ _ (HMC.out _ HR1.out) (fun hHeld => ?_)
  clear hK K
  refine norm_any' (fun K hK => ?_)
  go_simp
  refine hK _ _ ?_
  clear hK K
  refine wpAnyH_ready (rs := [6]) (by kernel_rfl) (by simp) (AllReadyH.cons rfl (fun K hK => ?_) AllReadyH.nil)
  obtain ⟨o2, c2, Z2, r2, y2, q2⟩ := S2.out _ _ _ HR1.out HY1.out
  have HR2 : Hid (Rm w m Z2) := q2
  have HY2 : Hid (By (w.heap.size + 1) Z2 (.slice o2 L2.length c2) L2) := y2
  have RN2 : Hid _ := r2
  clear q2 y2 r2 HR1 HY1
  refine step_app (by rfl) _ _ 25 25 rfl _ _ (by rfl) (by rfl) RN2.out ?_
  refine hK.out _ _ (HMC.out _ HR2.out) (fun hHeld => ?_)
  clear hK K
  refine norm_any' (fun K hK => ?_)
  go_simp
  refine hK _ _ ?_
  clear hK K
  refine wpAnyH_take (i := 7) (v := .slice o2 L2.length c2) rfl (by kernel_rfl) (by kernel_rfl) (by kernel_rfl) (fun _ _ _ h => h) (Or.inl ⟨by rfl, by intro w hs; go_simp⟩) hHeld ?_
  refine norm_any' (fun K hK => ?_)
  go_simp
  refine hK _ _ ?_
  clear hK K
  refine wpAnyH_done (by kernel_rfl) ?_ _
  clear hHeld
  go_wp2_with fail
  have HRd : Hid (Rm w m Z2.drew) := HR2.out.go (bld Z2)
  have HYd : Hid (By (w.heap.size + 1) Z2.drew (.slice o2 L2.length c2) L2) := HY2.out.below (bld Z2)
  clear HR2 HY2
  refine wp_region_held_drew (S := fun X => X.cell? ⟨w.heap.size, 33, none⟩ = some (.string m.name) ∧ X.cell? ⟨w.heap.size, 34, none⟩ = some (.slice (some ⟨b0, f0, none⟩) NP m.pc) ∧ X.cell? ⟨w.heap.size, 35, none⟩ = some (.slice m.ao NA m.ac) ∧ X.cell? ⟨w.heap.size, 36, none⟩ = some (.slice m.to NT m.tc) ∧ X.cell? ⟨w.heap.size, 53, none⟩ = some (.bool m.early) ∧ X.cell? ⟨w.heap.size, 54, none⟩ = some (.bool m.again) ∧ X.cell? ⟨w.heap.size, 71, none⟩ = some (.int .i64 m.life)) (by kernel_rfl) (HMC.out _ HRd.out) (fun hHeld => ?_)
  generalize Z2.drew = E5 at *
  refine wpAnyH_take (i := 0) (v := .slice o2 L2.length c2) rfl (by kernel_rfl) (by kernel_rfl) (by kernel_rfl) (fun _ _ _ h => h) (Or.inl ⟨by rfl, by intro w hs; go_simp⟩) hHeld ?_
  refine norm_any' (fun K hK => ?_)
  go_simp
  refine hK _ _ ?_
  clear hK K
  refine wpAnyH_take (i := 1) (v := .pointer (some ⟨w.heap.size, 33, none⟩)) rfl (by kernel_rfl) (by kernel_rfl) (by kernel_rfl) (fun _ _ _ h => h) (Or.inl ⟨by rfl, by intro w hs; go_simp⟩) hHeld ?_
  refine norm_any' (fun K hK => ?_)
  go_simp
  refine hK _ _ ?_
  clear hK K
  refine wpAnyH_take (i := 2) (v := .string m.name) rfl (by kernel_rfl) (by kernel_rfl) (by kernel_rfl) (fun _ _ _ h => h) (Or.inl ⟨by rfl, by intro w hs; obtain ⟨q33, q34, q35, q36, q53, q54, q71⟩ := hs; go_simp⟩) hHeld ?_
  refine norm_any' (fun K hK => ?_)
  go_simp
  refine hK _ _ ?_
  clear hK K
  refine wpAnyH_take (i := 4) (v := .pointer (some ⟨w.heap.size, 34, none⟩)) rfl (by kernel_rfl) (by kernel_rfl) (by kernel_rfl) (fun _ _ _ h => h) (Or.inl ⟨by rfl, by intro w hs; go_simp⟩) hHeld ?_
  refine norm_any' (fun K hK => ?_)
  go_simp
  refine hK _ _ ?_
  clear hK K
  refine wpAnyH_take (i := 5) (v := .slice (some ⟨b0, f0, none⟩) NP m.pc) rfl (by kernel_rfl) (by kernel_rfl) (by kernel_rfl) (fun _ _ _ h => h) (Or.inl ⟨by rfl, by intro w hs; obtain ⟨q33, q34, q35, q36, q53, q54, q71⟩ := hs; go_simp⟩) hHeld ?_
  refine norm_any' (fun K hK => ?_)
  go_simp
  refine hK _ _ ?_
  clear hK K
  refine wpAnyH_take (i := 6) (v := .int .i64 (NP : Int)) rfl (by kernel_rfl) (by kernel_rfl) (by kernel_rfl) (fun _ _ _ h => h) (Or.inl ⟨by rfl, by intro w hs; go_simp⟩) hHeld ?_
  refine norm_any' (fun K hK => ?_)
  go_simp
  refine hK _ _ ?_
  clear hK K
  refine wpAnyH_take (i := 7) (v := .int .u8 (NP : Int)) rfl (by kernel_rfl) (by kernel_rfl) (by kernel_rfl) (fun _ _ _ h => h) (Or.inl ⟨by rfl, by intro w hs; go_simp⟩) hHeld ?_
  refine norm_any' (fun K hK => ?_)
  go_simp
  refine hK _ _ ?_
  clear hK K
  refine wpAnyH_ready (rs := [3, 8]) (by kernel_rfl) (by simp) (AllReadyH.cons rfl (fun K hK => ?_) (AllReadyH.cons rfl (fun K hK => ?_) AllReadyH.nil))
  · skip
    go_simp
    refine Calls.mono (S3.out _ _ _ HRd.out HYd.out) ?_
    rintro e Za ⟨oa, ca, rfl, ya, qa, _⟩
    have HRa : Hid (Rm w m Za) := qa
    have HYa : Hid (By (w.heap.size + 1) Za (.slice oa L3.length ca) L3) := ya
    clear qa ya HRd HYd
    refine hK.out _ _ (HMC.out _ HRa.out) (fun hHeld => ?_)
    clear hK K
    refine norm_any' (fun K hK => ?_)
    go_simp
    refine hK _ _ ?_
    clear hK K
    refine wpAnyH_ready (rs := [8]) (by kernel_rfl) (by simp) (AllReadyH.cons rfl (fun K hK => ?_) AllReadyH.nil)
    have HRb : Hid (Rm w m (Za.alloc (.cells #[.int .u8 (NP : Int)] 5))) := HRa.out.go (bl1 Za _)
    have HYb : Hid (By (w.heap.size + 1) (Za.alloc (.cells #[.int .u8 (NP : Int)] 5)) (.slice oa L3.length ca) L3) := HYa.out.below (bl1 Za _)
    have HKb : Hid _ := heap_alloc_new Za (.cells #[.int .u8 (NP : Int)] 5)
    clear HRa HYa
    go_simp
    refine hK.out _ _ (HMC.out _ HRb.out) (fun hHeld => ?_)
    clear hK K
    refine norm_any' (fun K hK => ?_)
    go_simp
    refine hK _ _ ?_
    clear hK K
    refine wpAnyH_ready (rs := [9]) (by kernel_rfl) (by simp) (AllReadyH.cons rfl (fun K hK => ?_) AllReadyH.nil)
    obtain ⟨o5, c5, Z5, r5, y5, q5⟩ := S4.out _ _ _ _ HRb.out HYb.out HKb.out
    have HR5 : Hid (Rm w m Z5) := q5
    have HY5 : Hid (By (w.heap.size + 1) Z5 (.slice o5 L4.length c5) L4) := y5
    have RN5 : Hid _ := r5
    clear q5 y5 r5
    refine step_app (by rfl) _ _ 25 25 rfl _ _ (by rfl) (by rfl) RN5.out ?_
    refine hK.out _ _ (HMC.out _ HR5.out) (fun hHeld => ?_)
    clear hK K
    refine norm_any' (fun K hK => ?_)
    go_simp
    refine hK _ _ ?_
    clear hK K
    refine wpAnyH_take (i := 10) (v := .slice o5 L4.length c5) rfl (by kernel_rfl) (by kernel_rfl) (by kernel_rfl) (fun _ _ _ h => h) (Or.inl ⟨by rfl, by intro w hs; go_simp⟩) hHeld ?_
    refine norm_any' (fun K hK => ?_)
    go_simp
    refine hK _ _ ?_
    clear hK K
    refine wpAnyH_done (by kernel_rfl) ?_ _
    clear hHeld RN5
    clear HRb HYb HKb
    go_wp2_with fail
    go_loopg [3, 4] (NP + 1) (fun kx s3 s4 wr => ∃ (i ci : Nat) (oi : Option Addr), s4 = .int .i64 (i : Int) ∧ s3 = .slice oi (Lp i).length ci ∧ i ≤ NP ∧ NP - i ≤ kx ∧ Hid (Rm w m wr ∧ By (w.heap.size + 1) wr (.slice oi (Lp i).length ci) (Lp i)))
    case atStart => exact ⟨0, c5, o5, rfl, by rw [HLP.out], by omega, by omega, HR5.out, by rw [HLP.out]; exact HY5.out⟩
    case round =>
      obtain ⟨i, ci, oi, rfl, rfl, hi1, hg, HQ⟩ := hrel
      clear HR5 HY5
      have k34 := (HMC.out _ HQ.out.1).2.1
      by_cases hlt : i < NP
      · have i1 : (i : Int) < (NP : Int) := by omega
        have i1' : decide ((i : Int) < (NP : Int)) = true := by simpa using i1
        have i0' : (0 : Int) ≤ (i : Int) := by omega
        have iw : IntKind.i64.wrap ((i : Int) + 1) = ((i + 1 : Nat) : Int) := by rw [IntKind.wrap_i64]; omega
        have hl : i < m.protos.length := by rw [HP.out]; exact hlt
        have kn := HNM.out _ HQ.out.1 i hl
        have HC : Hid _ := SP.out i hl wr oi ci HQ.out.1 HQ.out.2
        generalize m.protos[i] = Si at *
        clear hl
        as_aux_lemma =>
        go_wp2_with fail
        refine Calls.mono HC.out ?_
        rintro e Z6 ⟨o6, c6, rfl, y6, q6⟩
        have HQ6 : Hid (Rm w m Z6 ∧ By (w.heap.size + 1) Z6 (.slice o6 (Lp (i + 1)).length c6) (Lp (i + 1))) := ⟨q6, y6⟩
        clear q6 y6 HC HQ
        go_wp2_with fail
        go_roundg (NP - (i + 1))
        case measure => omega
        case rel => exact ⟨i + 1, c6, o6, rfl, rfl, by omega, Nat.le_refl _, HQ6.out⟩
      · have i1 : ¬ (i : Int) < (NP : Int) := by omega
        have i1' : decide ((i : Int) < (NP : Int)) = false := by simpa using i1
        obtain rfl : NP = i := by omega
        have HR7 : Hid (Rm w m wr) := HQ.out.1
        have HY7 : Hid (By (w.heap.size + 1) wr (.slice oi (Lp NP).length ci) (Lp NP)) := HQ.out.2
        clear HQ SP HNM
        generalize Lp NP = L5 at *
        as_aux_lemma =>
        go_wp2_with fail
        have HRd : Hid (Rm w m wr.drew) := HR7.out.go (bld wr)
        have HYd : Hid (By (w.heap.size + 1) wr.drew (.slice oi L5.length ci) L5) := HY7.out.below (bld wr)
        clear HR7 HY7
        refine wp_region_held_drew (S := fun X => X.cell? ⟨w.heap.size, 33, none⟩ = some (.string m.name) ∧ X.cell? ⟨w.heap.size, 34, none⟩ = some (.slice (some ⟨b0, f0, none⟩) NP m.pc) ∧ X.cell? ⟨w.heap.size, 35, none⟩ = some (.slice m.ao NA m.ac) ∧ X.cell? ⟨w.heap.size, 36, none⟩ = some (.slice m.to NT m.tc) ∧ X.cell? ⟨w.heap.size, 53, none⟩ = some (.bool m.early) ∧ X.cell? ⟨w.heap.size, 54, none⟩ = some (.bool m.again) ∧ X.cell? ⟨w.heap.size, 71, none⟩ = some (.int .i64 m.life)) (by kernel_rfl) (HMC.out _ HRd.out) (fun hHeld => ?_)
        generalize wr.drew = D20 at *
        refine wpAnyH_take (i := 0) (v := .slice oi L5.length ci) rfl (by kernel_rfl) (by kernel_rfl) (by kernel_rfl) (fun _ _ _ h => h) (Or.inl ⟨by rfl, by intro w hs; go_simp⟩) hHeld ?_
        refine norm_any' (fun K hK => ?_)
        go_simp
        refine hK _ _ ?_
        clear hK K
        refine wpAnyH_take (i := 1) (v := .pointer (some ⟨w.heap.size, 35, none⟩)) rfl (by kernel_rfl) (by kernel_rfl) (by kernel_rfl) (fun _ _ _ h => h) (Or.inl ⟨by rfl, by intro w hs; go_simp⟩) hHeld ?_
        refine norm_any' (fun K hK => ?_)
        go_simp
        refine hK _ _ ?_
        clear hK K
        refine wpAnyH_take (i := 2) (v := .slice m.ao NA m.ac) rfl (by kernel_rfl) (by kernel_rfl) (by kernel_rfl) (fun _ _ _ h => h) (Or.inl ⟨by rfl, by intro w hs; obtain ⟨q33, q34, q35, q36, q53, q54, q71⟩ := hs; go_simp⟩) hHeld ?_
        refine norm_any' (fun K hK => ?_)
        go_simp
        refine hK _ _ ?_
        clear hK K
        refine wpAnyH_take (i := 4) (v := .pointer (some ⟨w.heap.size, 36, none⟩)) rfl (by kernel_rfl) (by kernel_rfl) (by kernel_rfl) (fun _ _ _ h => h) (Or.inl ⟨by rfl, by intro w hs; go_simp⟩) hHeld ?_
        refine norm_any' (fun K hK => ?_)
        go_simp
        refine hK _ _ ?_
        clear hK K
        refine wpAnyH_take (i := 5) (v := .slice m.to NT m.tc) rfl (by kernel_rfl) (by kernel_rfl) (by kernel_rfl) (fun _ _ _ h => h) (Or.inl ⟨by rfl, by intro w hs; obtain ⟨q33, q34, q35, q36, q53, q54, q71⟩ := hs; go_simp⟩) hHeld ?_
        refine norm_any' (fun K hK => ?_)
        go_simp
        refine hK _ _ ?_
        clear hK K
        refine wpAnyH_take (i := 6) (v := .int .i64 (NT : Int)) rfl (by kernel_rfl) (by kernel_rfl) (by kernel_rfl) (fun _ _ _ h => h) (Or.inl ⟨by rfl, by intro w hs; go_simp⟩) hHeld ?_
        refine norm_any' (fun K hK => ?_)
        go_simp
        refine hK _ _ ?_
        clear hK K
        refine wpAnyH_take (i := 7) (v := .bool true) rfl (by kernel_rfl) (by kernel_rfl) (by kernel_rfl) (fun _ _ _ h => h) (Or.inl ⟨by rfl, by intro w hs; go_simp⟩) hHeld ?_
        refine norm_any' (fun K hK => ?_)
        go_simp
        refine hK _ _ ?_
        clear hK K
        refine wpAnyH_take (i := 8) (v := .pointer (some ⟨w.heap.size, 53, none⟩)) rfl (by kernel_rfl) (by kernel_rfl) (by kernel_rfl) (fun _ _ _ h => h) (Or.inl ⟨by rfl, by intro w hs; go_simp⟩) hHeld ?_
        refine norm_any' (fun K hK => ?_)
        go_simp
        refine hK _ _ ?_
        clear hK K
        refine wpAnyH_take (i := 9) (v := .bool m.early) rfl (by kernel_rfl) (by kernel_rfl) (by kernel_rfl) (fun _ _ _ h => h) (Or.inl ⟨by rfl, by intro w hs; obtain ⟨q33, q34, q35, q36, q53, q54, q71⟩ := hs; go_simp⟩) hHeld ?_
        refine norm_any' (fun K hK => ?_)
        go_simp
        refine hK _ _ ?_
        clear hK K
        refine wpAnyH_ready (rs := [3]) (by kernel_rfl) (by simp) (AllReadyH.cons rfl (fun K hK => ?_) AllReadyH.nil)
        go_simp
        refine Calls.mono (S6.out _ _ _ HRd.out HYd.out) ?_
        rintro e Z21 ⟨o21, c21, rfl, y21, q21⟩
        have HR21 : Hid (Rm w m Z21) := q21
        have HY21 : Hid (By (w.heap.size + 1) Z21 (.slice o21 L6.length c21) L6) := y21
        clear q21 y21 HRd HYd
        refine hK.out _ _ (HMC.out _ HR21.out) (fun hHeld => ?_)
        clear hK K
        refine norm_any' (fun K hK => ?_)
        go_simp
        refine hK _ _ ?_
        clear hK K
        refine wpAnyH_ready (rs := [10]) (by kernel_rfl) (by simp) (AllReadyH.cons rfl (fun K hK => ?_) AllReadyH.nil)
        go_simp
        refine Calls.mono (S7.out _ _ _ HR21.out HY21.out) ?_
        rintro e Z22 ⟨o22, c22, rfl, y22, q22⟩
        have HR22 : Hid (Rm w m Z22) := q22
        have HY22 : Hid (By (w.heap.size + 1) Z22 (.slice o22 L7.length c22) L7) := y22
        clear q22 y22 HR21 HY21
        refine hK.out _ _ (HMC.out _ HR22.out) (fun hHeld => ?_)
        clear hK K
        refine norm_any' (fun K hK => ?_)
        go_simp
        refine hK _ _ ?_
        clear hK K
        refine wpAnyH_take (i := 11) (v := .slice o22 L7.length c22) rfl (by kernel_rfl) (by kernel_rfl) (by kernel_rfl) (fun _ _ _ h => h) (Or.inl ⟨by rfl, by intro w hs; go_simp⟩) hHeld ?_
        refine norm_any' (fun K hK => ?_)
        go_simp
        refine hK _ _ ?_
        clear hK K
        refine wpAnyH_done (by kernel_rfl) ?_ _
        clear hHeld
        have k36 := (HMC.out _ HR22.out).2.2.2.1
        go_wp2_with fail
        clear k36
        have HRd : Hid (Rm w m Z22.drew) := HR22.out.go (bld Z22)
        have HYd : Hid (By (w.heap.size + 1) Z22.drew (.slice o22 L7.length c22) L7) := HY22.out.below (bld Z22)
        clear HR22 HY22
        refine wp_region_held_drew (S := fun X => X.cell? ⟨w.heap.size, 33, none⟩ = some (.string m.name) ∧ X.cell? ⟨w.heap.size, 34, none⟩ = some (.slice (some ⟨b0, f0, none⟩) NP m.pc) ∧ X.cell? ⟨w.heap.size, 35, none⟩ = some (.slice m.ao NA m.ac) ∧ X.cell? ⟨w.heap.size, 36, none⟩ = some (.slice m.to NT m.tc) ∧ X.cell? ⟨w.heap.size, 53, none⟩ = some (.bool m.early) ∧ X.cell? ⟨w.heap.size, 54, none⟩ = some (.bool m.again) ∧ X.cell? ⟨w.heap.size, 71, none⟩ = some (.int .i64 m.life)) (by kernel_rfl) (HMC.out _ HRd.out) (fun hHeld => ?_)
        generalize Z22.drew = D22 at *
        refine wpAnyH_take (i := 0) (v := .slice o22 L7.length c22) rfl (by kernel_rfl) (by kernel_rfl) (by kernel_rfl) (fun _ _ _ h => h) (Or.inl ⟨by rfl, by intro w hs; go_simp⟩) hHeld ?_
        refine norm_any' (fun K hK => ?_)
        go_simp
        refine hK _ _ ?_
        clear hK K
        refine wpAnyH_take (i := 1) (v := .pointer (some ⟨w.heap.size, 36, none⟩)) rfl (by kernel_rfl) (by kernel_rfl) (by kernel_rfl) (fun _ _ _ h => h) (Or.inl ⟨by rfl, by intro w hs; go_simp⟩) hHeld ?_
        refine norm_any' (fun K hK => ?_)
        go_simp
        refine hK _ _ ?_
        clear hK K
        refine wpAnyH_take (i := 2) (v := .slice m.to NT m.tc) rfl (by kernel_rfl) (by kernel_rfl) (by kernel_rfl) (fun _ _ _ h => h) (Or.inl ⟨by rfl, by intro w hs; obtain ⟨q33, q34, q35, q36, q53, q54, q71⟩ := hs; go_simp⟩) hHeld ?_
        refine norm_any' (fun K hK => ?_)
        go_simp
        refine hK _ _ ?_
        clear hK K
        refine wpAnyH_take (i := 4) (v := .pointer (some ⟨w.heap.size, 37, none⟩)) rfl (by kernel_rfl) (by kernel_rfl) (by kernel_rfl) (fun _ _ _ h => h) (Or.inl ⟨by rfl, by intro w hs; go_simp⟩) hHeld ?_
        refine norm_any' (fun K hK => ?_)
        go_simp
        refine hK _ _ ?_
        clear hK K
        refine wpAnyH_take (i := 5) (v := .slice (some ⟨w.heap.size, 37, none⟩) 16 16) rfl (by kernel_rfl) (by kernel_rfl) (by kernel_rfl) (fun _ _ _ h => h) (Or.inl ⟨by rfl, by intro w hs; go_simp⟩) hHeld ?_
        refine norm_any' (fun K hK => ?_)
        go_simp
        refine hK _ _ ?_
        clear hK K
        refine wpAnyH_ready (rs := [3]) (by kernel_rfl) (by simp) (AllReadyH.cons rfl (fun K hK => ?_) AllReadyH.nil)
        go_simp
        refine Calls.mono (S8.out _ _ _ HRd.out HYd.out) ?_
        rintro e Z23 ⟨o23, c23, rfl, y23, q23⟩
        have HR23 : Hid (Rm w m Z23) := q23
        have HY23 : Hid (By (w.heap.size + 1) Z23 (.slice o23 L8.length c23) L8) := y23
        clear q23 y23 HRd HYd
        refine hK.out _ _ (HMC.out _ HR23.out) (fun hHeld => ?_)
        clear hK K
        refine norm_any' (fun K hK => ?_)
        go_simp
        refine hK _ _ ?_
        clear hK K
        refine wpAnyH_ready (rs := [6]) (by kernel_rfl) (by simp) (AllReadyH.cons rfl (fun K hK => ?_) AllReadyH.nil)
        obtain ⟨o24, c24, Z24, r24, y24, q24⟩ := S9.out _ _ _ HR23.out HY23.out
        have HR24 : Hid (Rm w m Z24) := q24
        have HY24 : Hid (By (w.heap.size + 1) Z24 (.slice o24 L9.length c24) L9) := y24
        have RN24 : Hid _ := r24
        clear q24 y24 r24 HR23 HY23
        refine step_app (by rfl) _ _ 25 25 rfl _ _ (by rfl) (by rfl) RN24.out ?_
        refine hK.out _ _ (HMC.out _ HR24.out) (fun hHeld => ?_)
        clear hK K
        refine norm_any' (fun K hK => ?_)
        go_simp
        refine hK _ _ ?_
        clear hK K
        refine wpAnyH_take (i := 7) (v := .slice o24 L9.length c24) rfl (by kernel_rfl) (by kernel_rfl) (by kernel_rfl) (fun _ _ _ h => h) (Or.inl ⟨by rfl, by intro w hs; go_simp⟩) hHeld ?_
        refine norm_any' (fun K hK => ?_)
        go_simp
        refine hK _ _ ?_
        clear hK K
        refine wpAnyH_done (by kernel_rfl) ?_ _
        clear hHeld
        have HE : Hid (RbR w m LF (.returned (.slice o24 L9.length c24)) Z24) := by rw [← HFIN.out]; exact RbR.mk HR24.out HY24.out
        go_wp2_with fail
        go_ret
        exact HE.out
  · skip
    have HRa : Hid (Rm w m (E5.alloc (.cells #[.int .u8 (NP : Int)] 5))) := HRd.out.go (bl1 E5 _)
    have HYa : Hid (By (w.heap.size + 1) (E5.alloc (.cells #[.int .u8 (NP : Int)] 5)) (.slice o2 L2.length c2) L2) := HYd.out.below (bl1 E5 _)
    have HKa : Hid _ := heap_alloc_new E5 (.cells #[.int .u8 (NP : Int)] 5)
    have HOa : Hid _ := HYd.out.ob
    clear HRd HYd
    go_simp
    refine hK.out _ _ (HMC.out _ HRa.out) (fun hHeld => ?_)
    clear hK K
    refine norm_any' (fun K hK => ?_)
    go_simp
    refine hK _ _ ?_
    clear hK K
    refine wpAnyH_ready (rs := [3]) (by kernel_rfl) (by simp) (AllReadyH.cons rfl (fun K hK => ?_) AllReadyH.nil)
    go_simp
    refine Calls.mono (S3.out _ _ _ HRa.out HYa.out) ?_
    rintro e Zb ⟨ob, cb, rfl, yb, qb, kb⟩
    have HRb : Hid (Rm w m Zb) := qb
    have HYb : Hid (By (w.heap.size + 1) Zb (.slice ob L3.length cb) L3) := yb
    have HKb : Hid (Zb.heap[E5.heap.size]? = some (.cells #[.int .u8 (NP : Int)] 5 (0, 0))) := (kb _ (by simp) HOa.out).trans HKa.out
    clear qb yb kb HRa HYa HKa HOa
    refine hK.out _ _ (HMC.out _ HRb.out) (fun hHeld => ?_)
    clear hK K
    refine norm_any' (fun K hK => ?_)
    go_simp
    refine hK _ _ ?_
    clear hK K
    refine wpAnyH_ready (rs := [9]) (by kernel_rfl) (by simp) (AllReadyH.cons rfl (fun K hK => ?_) AllReadyH.nil)
    obtain ⟨o5, c5, Z5, r5, y5, q5⟩ := S4.out _ _ _ _ HRb.out HYb.out HKb.out
    have HR5 : Hid (Rm w m Z5) := q5
    have HY5 : Hid (By (w.heap.size + 1) Z5 (.slice o5 L4.length c5) L4) := y5
    have RN5 : Hid _ := r5
    clear q5 y5 r5
    refine step_app (by rfl) _ _ 25 25 rfl _ _ (by rfl) (by rfl) RN5.out ?_
    refine hK.out _ _ (HMC.out _ HR5.out) (fun hHeld => ?_)
    clear hK K
    refine norm_any' (fun K hK => ?_)
    go_simp
    refine hK _ _ ?_
    clear hK K
    refine wpAnyH_take (i := 10) (v := .slice o5 L4.length c5) rfl (by kernel_rfl) (by kernel_rfl) (by kernel_rfl) (fun _ _ _ h => h) (Or.inl ⟨by rfl, by intro w hs; go_simp⟩) hHeld ?_
    refine norm_any' (fun K hK => ?_)
    go_simp
    refine hK _ _ ?_
    clear hK K
    refine wpAnyH_done (by kernel_rfl) ?_ _
    clear hHeld RN5
    clear HRb HYb HKb
    go_wp2_with fail
    go_loopg [3, 4] (NP + 1) (fun kx s3 s4 wr => ∃ (i ci : Nat) (oi : Option Addr), s4 = .int .i64 (i : Int) ∧ s3 = .slice oi (Lp i).length ci ∧ i ≤ NP ∧ NP - i ≤ kx ∧ Hid (Rm w m wr ∧ By (w.heap.size + 1) wr (.slice oi (Lp i).length ci) (Lp i)))
    case atStart => exact ⟨0, c5, o5, rfl, by rw [HLP.out], by omega, by omega, HR5.out, by rw [HLP.out]; exact HY5.out⟩
    case round =>
      obtain ⟨i, ci, oi, rfl, rfl, hi1, hg, HQ⟩ := hrel
      clear HR5 HY5
      have k34 := (HMC.out _ HQ.out.1).2.1
      by_cases hlt : i < NP
      · have i1 : (i : Int) < (NP : Int) := by omega
        have i1' : decide ((i : Int) < (NP : Int)) = true := by simpa using i1
        have i0' : (0 : Int) ≤ (i : Int) := by omega
        have iw : IntKind.i64.wrap ((i : Int) + 1) = ((i + 1 : Nat) : Int) := by rw [IntKind.wrap_i64]; omega
        have hl : i < m.protos.length := by rw [HP.out]; exact hlt
        have kn := HNM.out _ HQ.out.1 i hl
        have HC : Hid _ := SP.out i hl wr oi ci HQ.out.1 HQ.out.2
        generalize m.protos[i] = Si at *
        clear hl
        as_aux_lemma =>
        go_wp2_with fail
        refine Calls.mono HC.out ?_
        rintro e Z6 ⟨o6, c6, rfl, y6, q6⟩
        have HQ6 : Hid (Rm w m Z6 ∧ By (w.heap.size + 1) Z6 (.slice o6 (Lp (i + 1)).length c6) (Lp (i + 1))) := ⟨q6, y6⟩
        clear q6 y6 HC HQ
        go_wp2_with fail
        go_roundg (NP - (i + 1))
        case measure => omega
        case rel => exact ⟨i + 1, c6, o6, rfl, rfl, by omega, Nat.le_refl _, HQ6.out⟩
      · have i1 : ¬ (i : Int) < (NP : Int) := by omega
        have i1' : decide ((i : Int) < (NP : Int)) = false := by simpa using i1
        obtain rfl : NP = i := by omega
        have HR7 : Hid (Rm w m wr) := HQ.out.1
        have HY7 : Hid (By (w.heap.size + 1) wr (.slice oi (Lp NP).length ci) (Lp NP)) := HQ.out.2
        clear HQ SP HNM
        generalize Lp NP = L5 at *
        as_aux_lemma =>
        go_wp2_with fail
        have HRd : Hid (Rm w m wr.drew) := HR7.out.go (bld wr)
        have HYd : Hid (By (w.heap.size + 1) wr.drew (.slice oi L5.length ci) L5) := HY7.out.below (bld wr)
        clear HR7 HY7
        refine wp_region_held_drew (S := fun X => X.cell? ⟨w.heap.size, 33, none⟩ = some (.string m.name) ∧ X.cell? ⟨w.heap.size, 34, none⟩ = some (.slice (some ⟨b0, f0, none⟩) NP m.pc) ∧ X.cell? ⟨w.heap.size, 35, none⟩ = some (.slice m.ao NA m.ac) ∧ X.cell? ⟨w.heap.size, 36, none⟩ = some (.slice m.to NT m.tc) ∧ X.cell? ⟨w.heap.size, 53, none⟩ = some (.bool m.early) ∧ X.cell? ⟨w.heap.size, 54, none⟩ = some (.bool m.again) ∧ X.cell? ⟨w.heap.size, 71, none⟩ = some (.int .i64 m.life)) (by kernel_rfl) (HMC.out _ HRd.out) (fun hHeld => ?_)
        generalize wr.drew = D20 at *
        refine wpAnyH_take (i := 0) (v := .slice oi L5.length ci) rfl (by kernel_rfl) (by kernel_rfl) (by kernel_rfl) (fun _ _ _ h => h) (Or.inl ⟨by rfl, by intro w hs; go_simp⟩) hHeld ?_
        refine norm_any' (fun K hK => ?_)
        go_simp
        refine hK _ _ ?_
        clear hK K
        refine wpAnyH_take (i := 1) (v := .pointer (some ⟨w.heap.size, 35, none⟩)) rfl (by kernel_rfl) (by kernel_rfl) (by kernel_rfl) (fun _ _ _ h => h) (Or.inl ⟨by rfl, by intro w hs; go_simp⟩) hHeld ?_
        refine norm_any' (fun K hK => ?_)
        go_simp
        refine hK _ _ ?_
        clear hK K
        refine wpAnyH_take (i := 2) (v := .slice m.ao NA m.ac) rfl (by kernel_rfl) (by kernel_rfl) (by kernel_rfl) (fun _ _ _ h => h) (Or.inl ⟨by rfl, by intro w hs; obtain ⟨q33, q34, q35, q36, q53, q54, q71⟩ := hs; go_simp⟩) hHeld ?_
        refine norm_any' (fun K hK => ?_)
        go_simp
        refine hK _ _ ?_
        clear hK K
        refine wpAnyH_take (i := 4) (v := .pointer (some ⟨w.heap.size, 36, none⟩)) rfl (by kernel_rfl) (by kernel_rfl) (by kernel_rfl) (fun _ _ _ h => h) (Or.inl ⟨by rfl, by intro w hs; go_simp⟩) hHeld ?_
        refine norm_any' (fun K hK => ?_)
        go_simp
        refine hK _ _ ?_
        clear hK K
        refine wpAnyH_take (i := 5) (v := .slice m.to NT m.tc) rfl (by kernel_rfl) (by kernel_rfl) (by kernel_rfl) (fun _ _ _ h => h) (Or.inl ⟨by rfl, by intro w hs; obtain ⟨q33, q34, q35, q36, q53, q54, q71⟩ := hs; go_simp⟩) hHeld ?_
        refine norm_any' (fun K hK => ?_)
        go_simp
        refine hK _ _ ?_
        clear hK K
        refine wpAnyH_take (i := 6) (v := .int .i64 (NT : Int)) rfl (by kernel_rfl) (by kernel_rfl) (by kernel_rfl) (fun _ _ _ h => h) (Or.inl ⟨by rfl, by intro w hs; go_simp⟩) hHeld ?_
        refine norm_any' (fun K hK => ?_)
        go_simp
        refine hK _ _ ?_
        clear hK K
        refine wpAnyH_take (i := 7) (v := .bool true) rfl (by kernel_rfl) (by kernel_rfl) (by kernel_rfl) (fun _ _ _ h => h) (Or.inl ⟨by rfl, by intro w hs; go_simp⟩) hHeld ?_
        refine norm_any' (fun K hK => ?_)
        go_simp
        refine hK _ _ ?_
        clear hK K
        refine wpAnyH_take (i := 8) (v := .pointer (some ⟨w.heap.size, 53, none⟩)) rfl (by kernel_rfl) (by kernel_rfl) (by kernel_rfl) (fun _ _ _ h => h) (Or.inl ⟨by rfl, by intro w hs; go_simp⟩) hHeld ?_
        refine norm_any' (fun K hK => ?_)
        go_simp
        refine hK _ _ ?_
        clear hK K
        refine wpAnyH_take (i := 9) (v := .bool m.early) rfl (by kernel_rfl) (by kernel_rfl) (by kernel_rfl) (fun _ _ _ h => h) (Or.inl ⟨by rfl, by intro w hs; obtain ⟨q33, q34, q35, q36, q53, q54, q71⟩ := hs; go_simp⟩) hHeld ?_
        refine norm_any' (fun K hK => ?_)
        go_simp
        refine hK _ _ ?_
        clear hK K
        refine wpAnyH_ready (rs := [3]) (by kernel_rfl) (by simp) (AllReadyH.cons rfl (fun K hK => ?_) AllReadyH.nil)
        go_simp
        refine Calls.mono (S6.out _ _ _ HRd.out HYd.out) ?_
        rintro e Z21 ⟨o21, c21, rfl, y21, q21⟩
        have HR21 : Hid (Rm w m Z21) := q21
        have HY21 : Hid (By (w.heap.size + 1) Z21 (.slice o21 L6.length c21) L6) := y21
        clear q21 y21 HRd HYd
        refine hK.out _ _ (HMC.out _ HR21.out) (fun hHeld => ?_)
        clear hK K
        refine norm_any' (fun K hK => ?_)
        go_simp
        refine hK _ _ ?_
        clear hK K
        refine wpAnyH_ready (rs := [10]) (by kernel_rfl) (by simp) (AllReadyH.cons rfl (fun K hK => ?_) AllReadyH.nil)
        go_simp
        refine Calls.mono (S7.out _ _ _ HR21.out HY21.out) ?_
        rintro e Z22 ⟨o22, c22, rfl, y22, q22⟩
        have HR22 : Hid (Rm w m Z22) := q22
        have HY22 : Hid (By (w.heap.size + 1) Z22 (.slice o22 L7.length c22) L7) := y22
        clear q22 y22 HR21 HY21
        refine hK.out _ _ (HMC.out _ HR22.out) (fun hHeld => ?_)
        clear hK K
        refine norm_any' (fun K hK => ?_)
        go_simp
        refine hK _ _ ?_
        clear hK K
        refine wpAnyH_take (i := 11) (v := .slice o22 L7.length c22) rfl (by kernel_rfl) (by kernel_rfl) (by kernel_rfl) (fun _ _ _ h => h) (Or.inl ⟨by rfl, by intro w hs; go_simp⟩) hHeld ?_
        refine norm_any' (fun K hK => ?_)
        go_simp
        refine hK _ _ ?_
        clear hK K
        refine wpAnyH_done (by kernel_rfl) ?_ _
        clear hHeld
        have k36 := (HMC.out _ HR22.out).2.2.2.1
        go_wp2_with fail
        clear k36
        have HRd : Hid (Rm w m Z22.drew) := HR22.out.go (bld Z22)
        have HYd : Hid (By (w.heap.size + 1) Z22.drew (.slice o22 L7.length c22) L7) := HY22.out.below (bld Z22)
        clear HR22 HY22
        refine wp_region_held_drew (S := fun X => X.cell? ⟨w.heap.size, 33, none⟩ = some (.string m.name) ∧ X.cell? ⟨w.heap.size, 34, none⟩ = some (.slice (some ⟨b0, f0, none⟩) NP m.pc) ∧ X.cell? ⟨w.heap.size, 35, none⟩ = some (.slice m.ao NA m.ac) ∧ X.cell? ⟨w.heap.size, 36, none⟩ = some (.slice m.to NT m.tc) ∧ X.cell? ⟨w.heap.size, 53, none⟩ = some (.bool m.early) ∧ X.cell? ⟨w.heap.size, 54, none⟩ = some (.bool m.again) ∧ X.cell? ⟨w.heap.size, 71, none⟩ = some (.int .i64 m.life)) (by kernel_rfl) (HMC.out _ HRd.out) (fun hHeld => ?_)
        generalize Z22.drew = D22 at *
        refine wpAnyH_take (i := 0) (v := .slice o22 L7.length c22) rfl (by kernel_rfl) (by kernel_rfl) (by kernel_rfl) (fun _ _ _ h => h) (Or.inl ⟨by rfl, by intro w hs; go_simp⟩) hHeld ?_
        refine norm_any' (fun K hK => ?_)
        go_simp
        refine hK _ _ ?_
        clear hK K
        refine wpAnyH_take (i := 1) (v := .pointer (some ⟨w.heap.size, 36, none⟩)) rfl (by kernel_rfl) (by kernel_rfl) (by kernel_rfl) (fun _ _ _ h => h) (Or.inl ⟨by rfl, by intro w hs; go_simp⟩) hHeld ?_
        refine norm_any' (fun K hK => ?_)
        go_simp
        refine hK _ _ ?_
        clear hK K
        refine wpAnyH_take (i := 2) (v := .slice m.to NT m.tc) rfl (by kernel_rfl) (by kernel_rfl) (by kernel_rfl) (fun _ _ _ h => h) (Or.inl ⟨by rfl, by intro w hs; obtain ⟨q33, q34, q35, q36, q53, q54, q71⟩ := hs; go_simp⟩) hHeld ?_
        refine norm_any' (fun K hK => ?_)
        go_simp
        refine hK _ _ ?_
        clear hK K
        refine wpAnyH_take (i := 4) (v := .pointer (some ⟨w.heap.size, 37, none⟩)) rfl (by kernel_rfl) (by kernel_rfl) (by kernel_rfl) (fun _ _ _ h => h) (Or.inl ⟨by rfl, by intro w hs; go_simp⟩) hHeld ?_
        refine norm_any' (fun K hK => ?_)
        go_simp
        refine hK _ _ ?_
        clear hK K
        refine wpAnyH_take (i := 5) (v := .slice (some ⟨w.heap.size, 37, none⟩) 16 16) rfl (by kernel_rfl) (by kernel_rfl) (by kernel_rfl) (fun _ _ _ h => h) (Or.inl ⟨by rfl, by intro w hs; go_simp⟩) hHeld ?_
        refine norm_any' (fun K hK => ?_)
        go_simp
        refine hK _ _ ?_
        clear hK K
        refine wpAnyH_ready (rs := [3]) (by kernel_rfl) (by simp) (AllReadyH.cons rfl (fun K hK => ?_) AllReadyH.nil)
        go_simp
        refine Calls.mono (S8.out _ _ _ HRd.out HYd.out) ?_
        rintro e Z23 ⟨o23, c23, rfl, y23, q23⟩
        have HR23 : Hid (Rm w m Z23) := q23
        have HY23 : Hid (By (w.heap.size + 1) Z23 (.slice o23 L8.length c23) L8) := y23
        clear q23 y23 HRd HYd
        refine hK.out _ _ (HMC.out _ HR23.out) (fun hHeld => ?_)
        clear hK K
        refine norm_any' (fun K hK => ?_)
        go_simp
        refine hK _ _ ?_
        clear hK K
        refine wpAnyH_ready (rs := [6]) (by kernel_rfl) (by simp) (AllReadyH.cons rfl (fun K hK => ?_) AllReadyH.nil)
        obtain ⟨o24, c24, Z24, r24, y24, q24⟩ := S9.out _ _ _ HR23.out HY23.out
        have HR24 : Hid (Rm w m Z24) := q24
        have HY24 : Hid (By (w.heap.size + 1) Z24 (.slice o24 L9.length c24) L9) := y24
        have RN24 : Hid _ := r24
        clear q24 y24 r24 HR23 HY23
        refine step_app (by rfl) _ _ 25 25 rfl _ _ (by rfl) (by rfl) RN24.out ?_
        refine hK.out _ _ (HMC.out _ HR24.out) (fun hHeld => ?_)
        clear hK K
        refine norm_any' (fun K hK => ?_)
        go_simp
        refine hK _ _ ?_
        clear hK K
        refine wpAnyH_take (i := 7) (v := .slice o24 L9.length c24) rfl (by kernel_rfl) (by kernel_rfl) (by kernel_rfl) (fun _ _ _ h => h) (Or.inl ⟨by rfl, by intro w hs; go_simp⟩) hHeld ?_
        refine norm_any' (fun K hK => ?_)
        go_simp
        refine hK _ _ ?_
        clear hK K
        refine wpAnyH_done (by kernel_rfl) ?_ _
        clear hHeld
        have HE : Hid (RbR w m LF (.returned (.slice o24 L9.length c24)) Z24) := by rw [← HFIN.out]; exact RbR.mk HR24.out HY24.out
        go_wp2_with fail
        go_ret
        exact HE.out
set_option maxRecDepth 100000 in
set_option maxHeartbeats 1000000 in
theorem rb1n (hok : m.ok w) (hk : m.kind = 1) (b0 f0 : Nat) (hpo : m.po = some ⟨b0, f0, none⟩) (hp8 : m.protos.length ≤ 8) (hT : m.ticket.length = 0)
    (L1 L2 L3 L4 : List UInt8) (Lp : Nat → List UInt8) (L6 L7 L8 L9 : List UInt8) (hLp : Lp 0 = L4) (s1 : Ap w m [] L1 (.slice (some ⟨w.heap.size, 1, none⟩) 16 16) 25) (s2 : Ap w m L1 L2 (.slice (some ⟨w.heap.size, 17, none⟩) 16 16) 25) (s3 : Cx3 w m L2 L3 m.name) (s4 : Ab w m L3 L4 m.protos.length) (sp : ∀ i (h : i < m.protos.length), Cp w m (Lp i) (Lp (i + 1)) 33 [.string m.protos[i]]) (s6 : Cp w m (Lp m.protos.length) L6 35 [.slice m.ao m.params.length m.ac]) (s7 : Cp w m L6 L7 34 [.bool false, .bool m.early]) (LF : List UInt8) (hLF : L7 = LF) : Calls Try.prog 21 #[.agg m.cells.toArray] w (RbR w m LF) := by
  have hrow := heap_alloc_new w (.cells m.cells.toArray 34)
  have HR0 : Hid (Rm w m (w.alloc (.cells m.cells.toArray 34))) := ⟨bl1 w _, hrow⟩
  have HY0 : Hid (By (w.heap.size + 1) (w.alloc (.cells m.cells.toArray 34)) (.slice none 0 0) []) := World.ownsRow_nil _ _ _ _
  have c0 : (w.alloc (.cells m.cells.toArray 34)).cell? ⟨w.heap.size, 0, none⟩ = some (.int .i64 1) := by unfold World.cell?; rw [hrow, ← hk]; simpa using (Msg.get hok.ln).1
  have HLN : Hid _ := hok.ln
  obtain ⟨NA, hNA⟩ : ∃ NA, m.params.length = NA := ⟨_, rfl⟩
  obtain ⟨NT, hNT⟩ : ∃ NT, m.ticket.length = NT := ⟨_, rfl⟩
  obtain ⟨NP, hNP⟩ : ∃ NP, m.protos.length = NP := ⟨_, rfl⟩
  have HMC : Hid (∀ X, Rm w m X → Mc w.heap.size m X) := fun X h => h.mc hok.ln
  unfold Mc at HMC
  simp only [hNA, hNT, hNP] at HMC
  have HNM : Hid (∀ X, Rm w m X → ∀ i (h : i < m.protos.length), X.cell? ⟨b0, f0 + i, none⟩ = some (.string m.protos[i])) := fun X hX i hi => by
    obtain ⟨b, off, e, hc⟩ := Nms_bel hok.nm hX.bel i hi
    rw [hpo] at e
    cases e
    exact hc
  rw [hNP] at s4 s6 hp8
  rw [hNA] at s6
  rw [hNT] at hT
  have S1 : Hid _ := s1
  have S2 : Hid _ := s2
  have S3 : Hid _ := s3
  have S4 : Hid _ := s4
  have SP : Hid _ := sp
  have S6 : Hid _ := s6
  have S7 : Hid _ := s7
  have HLP : Hid _ := hLp
  have nw : IntKind.u8.wrap (NP : Int) = (NP : Int) := by rw [IntKind.wrap_u8]; omega
  have tpd : decide ((0 : Int) < (NT : Int)) = false := by simp; omega
  have tpl : ¬ (0 : Int) < (NT : Int) := by omega
  rw [hpo] at HMC
  clear s1 s2 s3 s4 sp s6 s7 hLp
  have HA : Hid _ := hNA
  have HT : Hid _ := hNT
  have HP : Hid _ := hNP
  have HFIN : Hid _ := hLF
  clear hrow hNA hNT hNP hok hLF
  generalize m.cells.toArray = A at *
  go_enter Try.func21, Try.ntmps21
  go_wp2_with fail
  have HRd : Hid (Rm w m (w.alloc (.cells A 34)).drew) := HR0.out.go (bld (w.alloc (.cells A 34)))
  have HYd : Hid (By (w.heap.size + 1) (w.alloc (.cells A 34)).drew (.slice none 0 0) []) := HY0.out.below (bld (w.alloc (.cells A 34)))
  clear HR0 HY0
  refine wp_region_held_drew (S := fun X => X.cell? ⟨w.heap.size, 33, none⟩ = some (.string m.name) ∧ X.cell? ⟨w.heap.size, 34, none⟩ = some (.slice (some ⟨b0, f0, none⟩) NP m.pc) ∧ X.cell? ⟨w.heap.size, 35, none⟩ = some (.slice m.ao NA m.ac) ∧ X.cell? ⟨w.heap.size, 36, none⟩ = some (.slice m.to NT m.tc) ∧ X.cell? ⟨w.heap.size, 53, none⟩ = some (.bool m.early) ∧ X.cell? ⟨w.heap.size, 54, none⟩ = some (.bool m.again) ∧ X.cell? ⟨w.heap.size, 71, none⟩ = some (.int .i64 m.life)) (by kernel_rfl) (HMC.out _ HRd.out) (fun hHeld => ?_)
  generalize (w.alloc (.cells A 34)).drew = D0 at *
  refine wpAnyH_take (i := 0) (v := .slice none 0 0) rfl (by kernel_rfl) (by kernel_rfl) (by kernel_rfl) (fun _ _ _ h => h) (Or.inl ⟨by rfl, by intro w hs; go_simp⟩) hHeld ?_
  refine norm_any' (fun K hK => ?_)
  go_simp
  refine hK _ _ ?_
  clear hK K
  refine wpAnyH_take (i := 1) (v := .pointer (some ⟨w.heap.size, 1, none⟩)) rfl (by kernel_rfl) (by kernel_rfl) (by kernel_rfl) (fun _ _ _ h => h) (Or.inl ⟨by rfl, by intro w hs; go_simp⟩) hHeld ?_
  refine norm_any' (fun K hK => ?_)
  go_simp
  refine hK _ _ ?_
  clear hK K
  refine wpAnyH_take (i := 2) (v := .slice (some ⟨w.heap.size, 1, none⟩) 16 16) rfl (by kernel_rfl) (by kernel_rfl) (by kernel_rfl) (fun _ _ _ h => h) (Or.inl ⟨by rfl, by intro w hs; go_simp⟩) hHeld ?_
  refine norm_any' (fun K hK => ?_)
  go_simp
  refine hK _ _ ?_
  clear hK K
  refine wpAnyH_take (i := 4) (v := .pointer (some ⟨w.heap.size, 17, none⟩)) rfl (by kernel_rfl) (by kernel_rfl) (by kernel_rfl) (fun _ _ _ h => h) (Or.inl ⟨by rfl, by intro w hs; go_simp⟩) hHeld ?_
  refine norm_any' (fun K hK => ?_)
  go_simp
  refine hK _ _ ?_
  clear hK K
  refine wpAnyH_take (i := 5) (v := .slice (some ⟨w.heap.size, 17, none⟩) 16 16) rfl (by kernel_rfl) (by kernel_rfl) (by kernel_rfl) (fun _ _ _ h => h) (Or.inl ⟨by rfl, by intro w hs; go_simp⟩) hHeld ?_
  refine norm_any' (fun K hK => ?_)
  go_simp
  refine hK _ _ ?_
  clear hK K
  refine wpAnyH_ready (rs := [3]) (by kernel_rfl) (by simp) (AllReadyH.cons rfl (fun K hK => ?_) AllReadyH.nil)
  obtain ⟨o1, c1, Z1, r1, y1, q1⟩ := S1.out _ _ _ HRd.out HYd.out
  have HR1 : Hid (Rm w m Z1) := q1
  have HY1 : Hid (By (w.heap.size + 1) Z1 (.slice o1 L1.length c1) L1) := y1
  have RN1 : Hid _ := r1
  clear q1 y1 r1 HRd HYd
  refine step_app (by rfl) _ _ 25 25 rfl _ _ (by rfl) (by rfl) RN1.out ?_
  refine hK.out _ _ (HMC.out _ HR1.out) (fun hHeld => ?_)
  clear hK K
  refine norm_any' (fun K hK => ?_)
  go_simp
  refine hK _ _ ?_
  clear hK K
  refine wpAnyH_ready (rs := [6]) (by kernel_rfl) (by simp) (AllReadyH.cons rfl (fun K hK => ?_) AllReadyH.nil)
  obtain ⟨o2, c2, Z2, r2, y2, q2⟩ := S2.out _ _ _ HR1.out HY1.out
  have HR2 : Hid (Rm w m Z2) := q2
  have HY2 : Hid (By (w.heap.size + 1) Z2 (.slice o2 L2.length c2) L2) := y2
  have RN2 : Hid _ := r2
  clear q2 y2 r2 HR1 HY1
  refine step_app (by rfl) _ _ 25 25 rfl _ _ (by rfl) (by rfl) RN2.out ?_
  refine hK.out _ _ (HMC.out _ HR2.out) (fun hHeld => ?_)
  clear hK K
  refine norm_any' (fun K hK => ?_)
  go_simp
  refine hK _ _ ?_
  clear hK K
  refine wpAnyH_take (i := 7) (v := .slice o2 L2.length c2) rfl (by kernel_rfl) (by kernel_rfl) (by kernel_rfl) (fun _ _ _ h => h) (Or.inl ⟨by rfl, by intro w hs; go_simp⟩) hHeld ?_
  refine norm_any' (fun K hK => ?_)
  go_simp
  refine hK _ _ ?_
  clear hK K
  refine wpAnyH_done (by kernel_rfl) ?_ _
  clear hHeld
  go_wp2_with fail
  have HRd : Hid (Rm w m Z2.drew) := HR2.out.go (bld Z2)
  have HYd : Hid (By (w.heap.size + 1) Z2.drew (.slice o2 L2.length c2) L2) := HY2.out.below (bld Z2)
  clear HR2 HY2
  refine wp_region_held_drew (S := fun X => X.cell? ⟨w.heap.size, 33, none⟩ = some (.string m.name) ∧ X.cell? ⟨w.heap.size, 34, none⟩ = some (.slice (some ⟨b0, f0, none⟩) NP m.pc) ∧ X.cell? ⟨w.heap.size, 35, none⟩ = some (.slice m.ao NA m.ac) ∧ X.cell? ⟨w.heap.size, 36, none⟩ = some (.slice m.to NT m.tc) ∧ X.cell? ⟨w.heap.size, 53, none⟩ = some (.bool m.early) ∧ X.cell? ⟨w.heap.size, 54, none⟩ = some (.bool m.again) ∧ X.cell? ⟨w.heap.size, 71, none⟩ = some (.int .i64 m.life)) (by kernel_rfl) (HMC.out _ HRd.out) (fun hHeld => ?_)
  generalize Z2.drew = E5 at *
  refine wpAnyH_take (i := 0) (v := .slice o2 L2.length c2) rfl (by kernel_rfl) (by kernel_rfl) (by kernel_rfl) (fun _ _ _ h => h) (Or.inl ⟨by rfl, by intro w hs; go_simp⟩) hHeld ?_
  refine norm_any' (fun K hK => ?_)
  go_simp
  refine hK _ _ ?_
  clear hK K
  refine wpAnyH_take (i := 1) (v := .pointer (some ⟨w.heap.size, 33, none⟩)) rfl (by kernel_rfl) (by kernel_rfl) (by kernel_rfl) (fun _ _ _ h => h) (Or.inl ⟨by rfl, by intro w hs; go_simp⟩) hHeld ?_
  refine norm_any' (fun K hK => ?_)
  go_simp
  refine hK _ _ ?_
  clear hK K
  refine wpAnyH_take (i := 2) (v := .string m.name) rfl (by kernel_rfl) (by kernel_rfl) (by kernel_rfl) (fun _ _ _ h => h) (Or.inl ⟨by rfl, by intro w hs; obtain ⟨q33, q34, q35, q36, q53, q54, q71⟩ := hs; go_simp⟩) hHeld ?_
  refine norm_any' (fun K hK => ?_)
  go_simp
  refine hK _ _ ?_
  clear hK K
  refine wpAnyH_take (i := 4) (v := .pointer (some ⟨w.heap.size, 34, none⟩)) rfl (by kernel_rfl) (by kernel_rfl) (by kernel_rfl) (fun _ _ _ h => h) (Or.inl ⟨by rfl, by intro w hs; go_simp⟩) hHeld ?_
  refine norm_any' (fun K hK => ?_)
  go_simp
  refine hK _ _ ?_
  clear hK K
  refine wpAnyH_take (i := 5) (v := .slice (some ⟨b0, f0, none⟩) NP m.pc) rfl (by kernel_rfl) (by kernel_rfl) (by kernel_rfl) (fun _ _ _ h => h) (Or.inl ⟨by rfl, by intro w hs; obtain ⟨q33, q34, q35, q36, q53, q54, q71⟩ := hs; go_simp⟩) hHeld ?_
  refine norm_any' (fun K hK => ?_)
  go_simp
  refine hK _ _ ?_
  clear hK K
  refine wpAnyH_take (i := 6) (v := .int .i64 (NP : Int)) rfl (by kernel_rfl) (by kernel_rfl) (by kernel_rfl) (fun _ _ _ h => h) (Or.inl ⟨by rfl, by intro w hs; go_simp⟩) hHeld ?_
  refine norm_any' (fun K hK => ?_)
  go_simp
  refine hK _ _ ?_
  clear hK K
  refine wpAnyH_take (i := 7) (v := .int .u8 (NP : Int)) rfl (by kernel_rfl) (by kernel_rfl) (by kernel_rfl) (fun _ _ _ h => h) (Or.inl ⟨by rfl, by intro w hs; go_simp⟩) hHeld ?_
  refine norm_any' (fun K hK => ?_)
  go_simp
  refine hK _ _ ?_
  clear hK K
  refine wpAnyH_ready (rs := [3, 8]) (by kernel_rfl) (by simp) (AllReadyH.cons rfl (fun K hK => ?_) (AllReadyH.cons rfl (fun K hK => ?_) AllReadyH.nil))
  · skip
    go_simp
    refine Calls.mono (S3.out _ _ _ HRd.out HYd.out) ?_
    rintro e Za ⟨oa, ca, rfl, ya, qa, _⟩
    have HRa : Hid (Rm w m Za) := qa
    have HYa : Hid (By (w.heap.size + 1) Za (.slice oa L3.length ca) L3) := ya
    clear qa ya HRd HYd
    refine hK.out _ _ (HMC.out _ HRa.out) (fun hHeld => ?_)
    clear hK K
    refine norm_any' (fun K hK => ?_)
    go_simp
    refine hK _ _ ?_
    clear hK K
    refine wpAnyH_ready (rs := [8]) (by kernel_rfl) (by simp) (AllReadyH.cons rfl (fun K hK => ?_) AllReadyH.nil)
    have HRb : Hid (Rm w m (Za.alloc (.cells #[.int .u8 (NP : Int)] 5))) := HRa.out.go (bl1 Za _)
    have HYb : Hid (By (w.heap.size + 1) (Za.alloc (.cells #[.int .u8 (NP : Int)] 5)) (.slice oa L3.length ca) L3) := HYa.out.below (bl1 Za _)
    have HKb : Hid _ := heap_alloc_new Za (.cells #[.int .u8 (NP : Int)] 5)
    clear HRa HYa
    go_simp
    refine hK.out _ _ (HMC.out _ HRb.out) (fun hHeld => ?_)
    clear hK K
    refine norm_any' (fun K hK => ?_)
    go_simp
    refine hK _ _ ?_
    clear hK K
    refine wpAnyH_ready (rs := [9]) (by kernel_rfl) (by simp) (AllReadyH.cons rfl (fun K hK => ?_) AllReadyH.nil)
    obtain ⟨o5, c5, Z5, r5, y5, q5⟩ := S4.out _ _ _ _ HRb.out HYb.out HKb.out
    have HR5 : Hid (Rm w m Z5) := q5
    have HY5 : Hid (By (w.heap.size + 1) Z5 (.slice o5 L4.length c5) L4) := y5
    have RN5 : Hid _ := r5
    clear q5 y5 r5
    refine step_app (by rfl) _ _ 25 25 rfl _ _ (by rfl) (by rfl) RN5.out ?_
    refine hK.out _ _ (HMC.out _ HR5.out) (fun hHeld => ?_)
    clear hK K
    refine norm_any' (fun K hK => ?_)
    go_simp
    refine hK _ _ ?_
    clear hK K
    refine wpAnyH_take (i := 10) (v := .slice o5 L4.length c5) rfl (by kernel_rfl) (by kernel_rfl) (by kernel_rfl) (fun _ _ _ h => h) (Or.inl ⟨by rfl, by intro w hs; go_simp⟩) hHeld ?_
    refine norm_any' (fun K hK => ?_)
    go_simp
    refine hK _ _ ?_
    clear hK K
    refine wpAnyH_done (by kernel_rfl) ?_ _
    clear hHeld RN5
    clear HRb HYb HKb
    go_wp2_with fail
    go_loopg [3, 4] (NP + 1) (fun kx s3 s4 wr => ∃ (i ci : Nat) (oi : Option Addr), s4 = .int .i64 (i : Int) ∧ s3 = .slice oi (Lp i).length ci ∧ i ≤ NP ∧ NP - i ≤ kx ∧ Hid (Rm w m wr ∧ By (w.heap.size + 1) wr (.slice oi (Lp i).length ci) (Lp i)))
    case atStart => exact ⟨0, c5, o5, rfl, by rw [HLP.out], by omega, by omega, HR5.out, by rw [HLP.out]; exact HY5.out⟩
    case round =>
      obtain ⟨i, ci, oi, rfl, rfl, hi1, hg, HQ⟩ := hrel
      clear HR5 HY5
      have k34 := (HMC.out _ HQ.out.1).2.1
      by_cases hlt : i < NP
      · have i1 : (i : Int) < (NP : Int) := by omega
        have i1' : decide ((i : Int) < (NP : Int)) = true := by simpa using i1
        have i0' : (0 : Int) ≤ (i : Int) := by omega
        have iw : IntKind.i64.wrap ((i : Int) + 1) = ((i + 1 : Nat) : Int) := by rw [IntKind.wrap_i64]; omega
        have hl : i < m.protos.length := by rw [HP.out]; exact hlt
        have kn := HNM.out _ HQ.out.1 i hl
        have HC : Hid _ := SP.out i hl wr oi ci HQ.out.1 HQ.out.2
        generalize m.protos[i] = Si at *
        clear hl
        as_aux_lemma =>
        go_wp2_with fail
        refine Calls.mono HC.out ?_
        rintro e Z6 ⟨o6, c6, rfl, y6, q6⟩
        have HQ6 : Hid (Rm w m Z6 ∧ By (w.heap.size + 1) Z6 (.slice o6 (Lp (i + 1)).length c6) (Lp (i + 1))) := ⟨q6, y6⟩
        clear q6 y6 HC HQ
        go_wp2_with fail
        go_roundg (NP - (i + 1))
        case measure => omega
        case rel => exact ⟨i + 1, c6, o6, rfl, rfl, by omega, Nat.le_refl _, HQ6.out⟩
      · have i1 : ¬ (i : Int) < (NP : Int) := by omega
        have i1' : decide ((i : Int) < (NP : Int)) = false := by simpa using i1
        obtain rfl : NP = i := by omega
        have HR7 : Hid (Rm w m wr) := HQ.out.1
        have HY7 : Hid (By (w.heap.size + 1) wr (.slice oi (Lp NP).length ci) (Lp NP)) := HQ.out.2
        clear HQ SP HNM
        generalize Lp NP = L5 at *
        as_aux_lemma =>
        go_wp2_with fail
        have HRd : Hid (Rm w m wr.drew) := HR7.out.go (bld wr)
        have HYd : Hid (By (w.heap.size + 1) wr.drew (.slice oi L5.length ci) L5) := HY7.out.below (bld wr)
        clear HR7 HY7
        refine wp_region_held_drew (S := fun X => X.cell? ⟨w.heap.size, 33, none⟩ = some (.string m.name) ∧ X.cell? ⟨w.heap.size, 34, none⟩ = some (.slice (some ⟨b0, f0, none⟩) NP m.pc) ∧ X.cell? ⟨w.heap.size, 35, none⟩ = some (.slice m.ao NA m.ac) ∧ X.cell? ⟨w.heap.size, 36, none⟩ = some (.slice m.to NT m.tc) ∧ X.cell? ⟨w.heap.size, 53, none⟩ = some (.bool m.early) ∧ X.cell? ⟨w.heap.size, 54, none⟩ = some (.bool m.again) ∧ X.cell? ⟨w.heap.size, 71, none⟩ = some (.int .i64 m.life)) (by kernel_rfl) (HMC.out _ HRd.out) (fun hHeld => ?_)
        generalize wr.drew = D20 at *
        refine wpAnyH_take (i := 0) (v := .slice oi L5.length ci) rfl (by kernel_rfl) (by kernel_rfl) (by kernel_rfl) (fun _ _ _ h => h) (Or.inl ⟨by rfl, by intro w hs; go_simp⟩) hHeld ?_
        refine norm_any' (fun K hK => ?_)
        go_simp
        refine hK _ _ ?_
        clear hK K
        refine wpAnyH_take (i := 1) (v := .pointer (some ⟨w.heap.size, 35, none⟩)) rfl (by kernel_rfl) (by kernel_rfl) (by kernel_rfl) (fun _ _ _ h => h) (Or.inl ⟨by rfl, by intro w hs; go_simp⟩) hHeld ?_
        refine norm_any' (fun K hK => ?_)
        go_simp
        refine hK _ _ ?_
        clear hK K
        refine wpAnyH_take (i := 2) (v := .slice m.ao NA m.ac) rfl (by kernel_rfl) (by kernel_rfl) (by kernel_rfl) (fun _ _ _ h => h) (Or.inl ⟨by rfl, by intro w hs; obtain ⟨q33, q34, q35, q36, q53, q54, q71⟩ := hs; go_simp⟩) hHeld ?_
        refine norm_any' (fun K hK => ?_)
        go_simp
        refine hK _ _ ?_
        clear hK K
        refine wpAnyH_take (i := 4) (v := .pointer (some ⟨w.heap.size, 36, none⟩)) rfl (by kernel_rfl) (by kernel_rfl) (by kernel_rfl) (fun _ _ _ h => h) (Or.inl ⟨by rfl, by intro w hs; go_simp⟩) hHeld ?_
        refine norm_any' (fun K hK => ?_)
        go_simp
        refine hK _ _ ?_
        clear hK K
        refine wpAnyH_take (i := 5) (v := .slice m.to NT m.tc) rfl (by kernel_rfl) (by kernel_rfl) (by kernel_rfl) (fun _ _ _ h => h) (Or.inl ⟨by rfl, by intro w hs; obtain ⟨q33, q34, q35, q36, q53, q54, q71⟩ := hs; go_simp⟩) hHeld ?_
        refine norm_any' (fun K hK => ?_)
        go_simp
        refine hK _ _ ?_
        clear hK K
        refine wpAnyH_take (i := 6) (v := .int .i64 (NT : Int)) rfl (by kernel_rfl) (by kernel_rfl) (by kernel_rfl) (fun _ _ _ h => h) (Or.inl ⟨by rfl, by intro w hs; go_simp⟩) hHeld ?_
        refine norm_any' (fun K hK => ?_)
        go_simp
        refine hK _ _ ?_
        clear hK K
        refine wpAnyH_take (i := 7) (v := .bool false) rfl (by kernel_rfl) (by kernel_rfl) (by kernel_rfl) (fun _ _ _ h => h) (Or.inl ⟨by rfl, by intro w hs; go_simp⟩) hHeld ?_
        refine norm_any' (fun K hK => ?_)
        go_simp
        refine hK _ _ ?_
        clear hK K
        refine wpAnyH_take (i := 8) (v := .pointer (some ⟨w.heap.size, 53, none⟩)) rfl (by kernel_rfl) (by kernel_rfl) (by kernel_rfl) (fun _ _ _ h => h) (Or.inl ⟨by rfl, by intro w hs; go_simp⟩) hHeld ?_
        refine norm_any' (fun K hK => ?_)
        go_simp
        refine hK _ _ ?_
        clear hK K
        refine wpAnyH_take (i := 9) (v := .bool m.early) rfl (by kernel_rfl) (by kernel_rfl) (by kernel_rfl) (fun _ _ _ h => h) (Or.inl ⟨by rfl, by intro w hs; obtain ⟨q33, q34, q35, q36, q53, q54, q71⟩ := hs; go_simp⟩) hHeld ?_
        refine norm_any' (fun K hK => ?_)
        go_simp
        refine hK _ _ ?_
        clear hK K
        refine wpAnyH_ready (rs := [3]) (by kernel_rfl) (by simp) (AllReadyH.cons rfl (fun K hK => ?_) AllReadyH.nil)
        go_simp
        refine Calls.mono (S6.out _ _ _ HRd.out HYd.out) ?_
        rintro e Z21 ⟨o21, c21, rfl, y21, q21⟩
        have HR21 : Hid (Rm w m Z21) := q21
        have HY21 : Hid (By (w.heap.size + 1) Z21 (.slice o21 L6.length c21) L6) := y21
        clear q21 y21 HRd HYd
        refine hK.out _ _ (HMC.out _ HR21.out) (fun hHeld => ?_)
        clear hK K
        refine norm_any' (fun K hK => ?_)
        go_simp
        refine hK _ _ ?_
        clear hK K
        refine wpAnyH_ready (rs := [10]) (by kernel_rfl) (by simp) (AllReadyH.cons rfl (fun K hK => ?_) AllReadyH.nil)
        go_simp
        refine Calls.mono (S7.out _ _ _ HR21.out HY21.out) ?_
        rintro e Z22 ⟨o22, c22, rfl, y22, q22⟩
        have HR22 : Hid (Rm w m Z22) := q22
        have HY22 : Hid (By (w.heap.size + 1) Z22 (.slice o22 L7.length c22) L7) := y22
        clear q22 y22 HR21 HY21
        refine hK.out _ _ (HMC.out _ HR22.out) (fun hHeld => ?_)
        clear hK K
        refine norm_any' (fun K hK => ?_)
        go_simp
        refine hK _ _ ?_
        clear hK K
        refine wpAnyH_take (i := 11) (v := .slice o22 L7.length c22) rfl (by kernel_rfl) (by kernel_rfl) (by kernel_rfl) (fun _ _ _ h => h) (Or.inl ⟨by rfl, by intro w hs; go_simp⟩) hHeld ?_
        refine norm_any' (fun K hK => ?_)
        go_simp
        refine hK _ _ ?_
        clear hK K
        refine wpAnyH_done (by kernel_rfl) ?_ _
        clear hHeld
        have k36 := (HMC.out _ HR22.out).2.2.2.1
        go_wp2_with fail
        clear k36
        have HE : Hid (RbR w m LF (.returned (.slice o22 L7.length c22)) Z22) := by rw [← HFIN.out]; exact RbR.mk HR22.out HY22.out
        go_wp2_with fail
        go_ret
        exact HE.out
  · skip
    have HRa : Hid (Rm w m (E5.alloc (.cells #[.int .u8 (NP : Int)] 5))) := HRd.out.go (bl1 E5 _)
    have HYa : Hid (By (w.heap.size + 1) (E5.alloc (.cells #[.int .u8 (NP : Int)] 5)) (.slice o2 L2.length c2) L2) := HYd.out.below (bl1 E5 _)
    have HKa : Hid _ := heap_alloc_new E5 (.cells #[.int .u8 (NP : Int)] 5)
    have HOa : Hid _ := HYd.out.ob
    clear HRd HYd
    go_simp
    refine hK.out _ _ (HMC.out _ HRa.out) (fun hHeld => ?_)
    clear hK K
    refine norm_any' (fun K hK => ?_)
    go_simp
    refine hK _ _ ?_
    clear hK K
    refine wpAnyH_ready (rs := [3]) (by kernel_rfl) (by simp) (AllReadyH.cons rfl (fun K hK => ?_) AllReadyH.nil)
    go_simp
    refine Calls.mono (S3.out _ _ _ HRa.out HYa.out) ?_
    rintro e Zb ⟨ob, cb, rfl, yb, qb, kb⟩
    have HRb : Hid (Rm w m Zb) := qb
    have HYb : Hid (By (w.heap.size + 1) Zb (.slice ob L3.length cb) L3) := yb
    have HKb : Hid (Zb.heap[E5.heap.size]? = some (.cells #[.int .u8 (NP : Int)] 5 (0, 0))) := (kb _ (by simp) HOa.out).trans HKa.out
    clear qb yb kb HRa HYa HKa HOa
    refine hK.out _ _ (HMC.out _ HRb.out) (fun hHeld => ?_)
    clear hK K
    refine norm_any' (fun K hK => ?_)
    go_simp
    refine hK _ _ ?_
    clear hK K
    refine wpAnyH_ready (rs := [9]) (by kernel_rfl) (by simp) (AllReadyH.cons rfl (fun K hK => ?_) AllReadyH.nil)
    obtain ⟨o5, c5, Z5, r5, y5, q5⟩ := S4.out _ _ _ _ HRb.out HYb.out HKb.out
    have HR5 : Hid (Rm w m Z5) := q5
    have HY5 : Hid (By (w.heap.size + 1) Z5 (.slice o5 L4.length c5) L4) := y5
    have RN5 : Hid _ := r5
    clear q5 y5 r5
    refine step_app (by rfl) _ _ 25 25 rfl _ _ (by rfl) (by rfl) RN5.out ?_
    refine hK.out _ _ (HMC.out _ HR5.out) (fun hHeld => ?_)
    clear hK K
    refine norm_any' (fun K hK => ?_)
    go_simp
    refine hK _ _ ?_
    clear hK K
    refine wpAnyH_take (i := 10) (v := .slice o5 L4.length c5) rfl (by kernel_rfl) (by kernel_rfl) (by kernel_rfl) (fun _ _ _ h => h) (Or.inl ⟨by rfl, by intro w hs; go_simp⟩) hHeld ?_
    refine norm_any' (fun K hK => ?_)
    go_simp
    refine hK _ _ ?_
    clear hK K
    refine wpAnyH_done (by kernel_rfl) ?_ _
    clear hHeld RN5
    clear HRb HYb HKb
    go_wp2_with fail
    go_loopg [3, 4] (NP + 1) (fun kx s3 s4 wr => ∃ (i ci : Nat) (oi : Option Addr), s4 = .int .i64 (i : Int) ∧ s3 = .slice oi (Lp i).length ci ∧ i ≤ NP ∧ NP - i ≤ kx ∧ Hid (Rm w m wr ∧ By (w.heap.size + 1) wr (.slice oi (Lp i).length ci) (Lp i)))
    case atStart => exact ⟨0, c5, o5, rfl, by rw [HLP.out], by omega, by omega, HR5.out, by rw [HLP.out]; exact HY5.out⟩
    case round =>
      obtain ⟨i, ci, oi, rfl, rfl, hi1, hg, HQ⟩ := hrel
      clear HR5 HY5
      have k34 := (HMC.out _ HQ.out.1).2.1
      by_cases hlt : i < NP
      · have i1 : (i : Int) < (NP : Int) := by omega
        have i1' : decide ((i : Int) < (NP : Int)) = true := by simpa using i1
        have i0' : (0 : Int) ≤ (i : Int) := by omega
        have iw : IntKind.i64.wrap ((i : Int) + 1) = ((i + 1 : Nat) : Int) := by rw [IntKind.wrap_i64]; omega
        have hl : i < m.protos.length := by rw [HP.out]; exact hlt
        have kn := HNM.out _ HQ.out.1 i hl
        have HC : Hid _ := SP.out i hl wr oi ci HQ.out.1 HQ.out.2
        generalize m.protos[i] = Si at *
        clear hl
        as_aux_lemma =>
        go_wp2_with fail
        refine Calls.mono HC.out ?_
        rintro e Z6 ⟨o6, c6, rfl, y6, q6⟩
        have HQ6 : Hid (Rm w m Z6 ∧ By (w.heap.size + 1) Z6 (.slice o6 (Lp (i + 1)).length c6) (Lp (i + 1))) := ⟨q6, y6⟩
        clear q6 y6 HC HQ
        go_wp2_with fail
        go_roundg (NP - (i + 1))
        case measure => omega
        case rel => exact ⟨i + 1, c6, o6, rfl, rfl, by omega, Nat.le_refl _, HQ6.out⟩
      · have i1 : ¬ (i : Int) < (NP : Int) := by omega
        have i1' : decide ((i : Int) < (NP : Int)) = false := by simpa using i1
        obtain rfl : NP = i := by omega
        have HR7 : Hid (Rm w m wr) := HQ.out.1
        have HY7 : Hid (By (w.heap.size + 1) wr (.slice oi (Lp NP).length ci) (Lp NP)) := HQ.out.2
        clear HQ SP HNM
        generalize Lp NP = L5 at *
        as_aux_lemma =>
        go_wp2_with fail
        have HRd : Hid (Rm w m wr.drew) := HR7.out.go (bld wr)
        have HYd : Hid (By (w.heap.size + 1) wr.drew (.slice oi L5.length ci) L5) := HY7.out.below (bld wr)
        clear HR7 HY7
        refine wp_region_held_drew (S := fun X => X.cell? ⟨w.heap.size, 33, none⟩ = some (.string m.name) ∧ X.cell? ⟨w.heap.size, 34, none⟩ = some (.slice (some ⟨b0, f0, none⟩) NP m.pc) ∧ X.cell? ⟨w.heap.size, 35, none⟩ = some (.slice m.ao NA m.ac) ∧ X.cell? ⟨w.heap.size, 36, none⟩ = some (.slice m.to NT m.tc) ∧ X.cell? ⟨w.heap.size, 53, none⟩ = some (.bool m.early) ∧ X.cell? ⟨w.heap.size, 54, none⟩ = some (.bool m.again) ∧ X.cell? ⟨w.heap.size, 71, none⟩ = some (.int .i64 m.life)) (by kernel_rfl) (HMC.out _ HRd.out) (fun hHeld => ?_)
        generalize wr.drew = D20 at *
        refine wpAnyH_take (i := 0) (v := .slice oi L5.length ci) rfl (by kernel_rfl) (by kernel_rfl) (by kernel_rfl) (fun _ _ _ h => h) (Or.inl ⟨by rfl, by intro w hs; go_simp⟩) hHeld ?_
        refine norm_any' (fun K hK => ?_)
        go_simp
        refine hK _ _ ?_
        clear hK K
        refine wpAnyH_take (i := 1) (v := .pointer (some ⟨w.heap.size, 35, none⟩)) rfl (by kernel_rfl) (by kernel_rfl) (by kernel_rfl) (fun _ _ _ h => h) (Or.inl ⟨by rfl, by intro w hs; go_simp⟩) hHeld ?_
        refine norm_any' (fun K hK => ?_)
        go_simp
        refine hK _ _ ?_
        clear hK K
        refine wpAnyH_take (i := 2) (v := .slice m.ao NA m.ac) rfl (by kernel_rfl) (by kernel_rfl) (by kernel_rfl) (fun _ _ _ h => h) (Or.inl ⟨by rfl, by intro w hs; obtain ⟨q33, q34, q35, q36, q53, q54, q71⟩ := hs; go_simp⟩) hHeld ?_
        refine norm_any' (fun K hK => ?_)
        go_simp
        refine hK _ _ ?_
        clear hK K
        refine wpAnyH_take (i := 4) (v := .pointer (some ⟨w.heap.size, 36, none⟩)) rfl (by kernel_rfl) (by kernel_rfl) (by kernel_rfl) (fun _ _ _ h => h) (Or.inl ⟨by rfl, by intro w hs; go_simp⟩) hHeld ?_
        refine norm_any' (fun K hK => ?_)
        go_simp
        refine hK _ _ ?_
        clear hK K
        refine wpAnyH_take (i := 5) (v := .slice m.to NT m.tc) rfl (by kernel_rfl) (by kernel_rfl) (by kernel_rfl) (fun _ _ _ h => h) (Or.inl ⟨by rfl, by intro w hs; obtain ⟨q33, q34, q35, q36, q53, q54, q71⟩ := hs; go_simp⟩) hHeld ?_
        refine norm_any' (fun K hK => ?_)
        go_simp
        refine hK _ _ ?_
        clear hK K
        refine wpAnyH_take (i := 6) (v := .int .i64 (NT : Int)) rfl (by kernel_rfl) (by kernel_rfl) (by kernel_rfl) (fun _ _ _ h => h) (Or.inl ⟨by rfl, by intro w hs; go_simp⟩) hHeld ?_
        refine norm_any' (fun K hK => ?_)
        go_simp
        refine hK _ _ ?_
        clear hK K
        refine wpAnyH_take (i := 7) (v := .bool false) rfl (by kernel_rfl) (by kernel_rfl) (by kernel_rfl) (fun _ _ _ h => h) (Or.inl ⟨by rfl, by intro w hs; go_simp⟩) hHeld ?_
        refine norm_any' (fun K hK => ?_)
        go_simp
        refine hK _ _ ?_
        clear hK K
        refine wpAnyH_take (i := 8) (v := .pointer (some ⟨w.heap.size, 53, none⟩)) rfl (by kernel_rfl) (by kernel_rfl) (by kernel_rfl) (fun _ _ _ h => h) (Or.inl ⟨by rfl, by intro w hs; go_simp⟩) hHeld ?_
        refine norm_any' (fun K hK => ?_)
        go_simp
        refine hK _ _ ?_
        clear hK K
        refine wpAnyH_take (i := 9) (v := .bool m.early) rfl (by kernel_rfl) (by kernel_rfl) (by kernel_rfl) (fun _ _ _ h => h) (Or.inl ⟨by rfl, by intro w hs; obtain ⟨q33, q34, q35, q36, q53, q54, q71⟩ := hs; go_simp⟩) hHeld ?_
        refine norm_any' (fun K hK => ?_)
        go_simp
        refine hK _ _ ?_
        clear hK K
        refine wpAnyH_ready (rs := [3]) (by kernel_rfl) (by simp) (AllReadyH.cons rfl (fun K hK => ?_) AllReadyH.nil)
        go_simp
        refine Calls.mono (S6.out _ _ _ HRd.out HYd.out) ?_
        rintro e Z21 ⟨o21, c21, rfl, y21, q21⟩
        have HR21 : Hid (Rm w m Z21) := q21
        have HY21 : Hid (By (w.heap.size + 1) Z21 (.slice o21 L6.length c21) L6) := y21
        clear q21 y21 HRd HYd
        refine hK.out _ _ (HMC.out _ HR21.out) (fun hHeld => ?_)
        clear hK K
        refine norm_any' (fun K hK => ?_)
        go_simp
        refine hK _ _ ?_
        clear hK K
        refine wpAnyH_ready (rs := [10]) (by kernel_rfl) (by simp) (AllReadyH.cons rfl (fun K hK => ?_) AllReadyH.nil)
        go_simp
        refine Calls.mono (S7.out _ _ _ HR21.out HY21.out) ?_
        rintro e Z22 ⟨o22, c22, rfl, y22, q22⟩
        have HR22 : Hid (Rm w m Z22) := q22
        have HY22 : Hid (By (w.heap.size + 1) Z22 (.slice o22 L7.length c22) L7) := y22
        clear q22 y22 HR21 HY21
        refine hK.out _ _ (HMC.out _ HR22.out) (fun hHeld => ?_)
        clear hK K
        refine norm_any' (fun K hK => ?_)
        go_simp
        refine hK _ _ ?_
        clear hK K
        refine wpAnyH_take (i := 11) (v := .slice o22 L7.length c22) rfl (by kernel_rfl) (by kernel_rfl) (by kernel_rfl) (fun _ _ _ h => h) (Or.inl ⟨by rfl, by intro w hs; go_simp⟩) hHeld ?_
        refine norm_any' (fun K hK => ?_)
        go_simp
        refine hK _ _ ?_
        clear hK K
        refine wpAnyH_done (by kernel_rfl) ?_ _
        clear hHeld
        have k36 := (HMC.out _ HR22.out).2.2.2.1
        go_wp2_with fail
        clear k36
        have HE : Hid (RbR w m LF (.returned (.slice o22 L7.length c22)) Z22) := by rw [← HFIN.out]; exact RbR.mk HR22.out HY22.out
        go_wp2_with fail
        go_ret
        exact HE.out
end
end Go.Proofs.Ytcchlicokglmnaa
