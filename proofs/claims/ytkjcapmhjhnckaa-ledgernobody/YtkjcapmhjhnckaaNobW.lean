/- LedgerNobody: the law's walk. -/
import Derived.Test.YtkjcapmhjhnckaaNob
import Derived.Test.YtkjcapmhjhnckaaOpen
namespace Go.Proofs.Ytkjcapmhjhnckaa
open Go.RowKit
set_option linter.unusedVariables false
set_option maxRecDepth 100000

/-- What the walk reads, in every world. -/
def NF (A C D : Nat) (n a s : Int) (e : Bool) (la : Option Addr) (N cap : Nat) (t l : Int) (X : World) : Prop :=
  X.cell? ⟨A, 1, none⟩ = some (.int .i64 n) ∧ X.cell? ⟨A, 2, none⟩ = some (.int .i64 a) ∧ X.cell? ⟨A, 3, none⟩ = some (.int .i64 s) ∧ X.cell? ⟨A, 4, none⟩ = some (.bool e) ∧ X.cell? ⟨A, 5, none⟩ = some (.slice la N cap) ∧ X.cell? ⟨A, 6, none⟩ = some (.int .i64 t) ∧ X.cell? ⟨A, 7, none⟩ = some (.int .i64 l) ∧ X.cell? ⟨C, 0, none⟩ = some (.pointer none) ∧ X.cell? ⟨C, 1, none⟩ = some (.pointer (some ⟨D, 0, none⟩)) ∧ No X (some ⟨D, 0, none⟩)
theorem NF.bel {A C D : Nat} {n a s : Int} {e : Bool} {la : Option Addr} {N cap : Nat} {t l : Int} {X Y : World} (h : NF A C D n a s e la N cap t l X) (hb : Below X.heap.size X Y) : NF A C D n a s e la N cap t l Y := by
  obtain ⟨h1, h2, h3, h4, h5, h6, h7, h8, h9, h10⟩ := h
  exact ⟨cell_bel h1 hb, cell_bel h2 hb, cell_bel h3 hb, cell_bel h4 hb, cell_bel h5 hb, cell_bel h6 hb, cell_bel h7 hb, cell_bel h8 hb, cell_bel h9 hb, h10.bel hb⟩
/-- Four plain cells of a result in block g. -/
def R4 (g : Nat) (X : World) : Prop := X.cell? ⟨g, 0, none⟩ = some (.slice none 0 0) ∧ X.cell? ⟨g, 1, none⟩ = some (.slice none 0 0) ∧ X.cell? ⟨g, 2, none⟩ = some (.int .i64 0) ∧ X.cell? ⟨g, 3, none⟩ = some (.int .i64 0)
theorem R4.bel {g : Nat} {X Y : World} (h : R4 g X) (hb : Below X.heap.size X Y) : R4 g Y := ⟨cell_bel h.1 hb, cell_bel h.2.1 hb, cell_bel h.2.2.1 hb, cell_bel h.2.2.2 hb⟩
theorem R4.new (X : World) : R4 X.heap.size (X.alloc (.cells #[.slice none 0 0, .slice none 0 0, .int .i64 0, .int .i64 0] 40)) := by refine ⟨?_, ?_, ?_, ?_⟩ <;> simp [go_sem]

set_option maxHeartbeats 2000000 in
theorem nobody_walk (r : ActR) (w : World) (hr : r.ok w) : Calls Try.prog 4 #[.agg r.cs.toArray] w fun e w' => e = .returned (.bool true) ∧ Below w.heap.size w w' := by
  obtain ⟨k, n, a, s, e, la, S, cap, t, l⟩ := r
  obtain ⟨hsr, hlen, _, _, _, _, _, _, _⟩ := hr
  simp only at hsr hlen
  have e0 : (ActR.cs ⟨k, n, a, s, e, la, S, cap, t, l⟩).toArray = #[.int .i64 k, .int .i64 n, .int .i64 a, .int .i64 s, .bool e, .slice la S.length cap, .int .i64 t, .int .i64 l] := rfl
  rw [e0]
  clear e0
  obtain ⟨N, hN⟩ : ∃ N, S.length = N := ⟨_, rfl⟩
  have hak : ∀ (p : Option Addr) (X : World), No X p → Below w.heap.size w X → Calls Try.prog 12 #[.pointer p, .slice la N cap, .int .i64 t, .int .i64 l] X fun e w' => e = .returned (.tuple #[res0, .int .i64 1]) ∧ Below X.heap.size X w' := by
    intro p X hp hb
    rw [← hN]
    exact no_acked p la cap S t l X hp (hsr.bel hb) (by omega)
  rw [hN]
  have HAK : Aside _ := hak
  clear hak hsr
  go_enter Try.func4, Try.ntmps4
  go_wp2
  refine wp_loop_rounds 3 ?_
  rw [rounds_succ]
  obtain ⟨W0, hW0⟩ : ∃ W0, (((w.alloc (.cells #[.int .i64 k, .int .i64 n, .int .i64 a, .int .i64 s, .bool e, .slice la N cap, .int .i64 t, .int .i64 l] 32)).alloc (.cells #[.map none, .slice none 0 0, .slice none 0 0, .int .i64 0, .int .i64 0, .int .i64 0, .int .i64 0, .int .i64 0] 65)).alloc (.cells #[.pointer none, .pointer (some ⟨w.heap.size + 1, 0, none⟩)] 23)) = W0 := ⟨_, rfl⟩
  rw [hW0]
  have hB0 : Below w.heap.size w W0 := by rw [← hW0]; exact (((Below.refl _ w).alloc (Nat.le_refl _) _).alloc (by simp) _).alloc (by simp; omega) _
  have ca1 : W0.cell? ⟨w.heap.size, 1, none⟩ = some (.int .i64 n) := by rw [← hW0]; simp [go_sem]
  have ca2 : W0.cell? ⟨w.heap.size, 2, none⟩ = some (.int .i64 a) := by rw [← hW0]; simp [go_sem]
  have ca3 : W0.cell? ⟨w.heap.size, 3, none⟩ = some (.int .i64 s) := by rw [← hW0]; simp [go_sem]
  have ca4 : W0.cell? ⟨w.heap.size, 4, none⟩ = some (.bool e) := by rw [← hW0]; simp [go_sem]
  have ca5 : W0.cell? ⟨w.heap.size, 5, none⟩ = some (.slice la N cap) := by rw [← hW0]; simp [go_sem]
  have ca6 : W0.cell? ⟨w.heap.size, 6, none⟩ = some (.int .i64 t) := by rw [← hW0]; simp [go_sem]
  have ca7 : W0.cell? ⟨w.heap.size, 7, none⟩ = some (.int .i64 l) := by rw [← hW0]; simp [go_sem]
  have cc0 : W0.cell? ⟨w.heap.size + 1 + 1, 0, none⟩ = some (.pointer none) := by rw [← hW0]; simp [go_sem]
  have cc1 : W0.cell? ⟨w.heap.size + 1 + 1, 1, none⟩ = some (.pointer (some ⟨w.heap.size + 1, 0, none⟩)) := by rw [← hW0]; simp [go_sem]
  have no2 : No W0 (some ⟨w.heap.size + 1, 0, none⟩) := .inr ⟨_, rfl, by rw [← hW0]; simp [go_sem]⟩
  clear hW0
  have no1 : No W0 none := .inl rfl
  have HF : Aside (NF w.heap.size (w.heap.size + 1 + 1) (w.heap.size + 1) n a s e la N cap t l W0) := ⟨ca1, ca2, ca3, ca4, ca5, ca6, ca7, cc0, cc1, no2⟩
  have HB : Aside (Below w.heap.size w W0) := hB0
  clear ca1 ca2 ca3 ca4 ca5 ca6 ca7 cc0 cc1 no2 no1 hB0
  generalize w.heap.size + 1 + 1 = C at *
  generalize w.heap.size + 1 = D at *
  obtain ⟨A, hA⟩ : ∃ A, w.heap.size = A := ⟨_, rfl⟩
  rw [hA] at HF ⊢
  have HA : Aside _ := hA
  clear hA
  obtain ⟨ca1, ca2, ca3, ca4, ca5, ca6, ca7, cc0, cc1, hno⟩ := HF.out
  go_wp2_with fail
  refine (HAK.out none W0 (.inl rfl) HB.out).mono ?_
  rintro e1 U0a ⟨rfl, h1⟩
  unfold res0
  have HF1 : Aside _ := (NF.bel HF.out h1).bel (bel1 U0a (.cells #[.slice none 0 0, .slice none 0 0, .int .i64 0, .int .i64 0] 40))
  have HR1 : Aside _ := R4.new U0a
  have HB1 : Aside (Below w.heap.size w (U0a.alloc (.cells #[.slice none 0 0, .slice none 0 0, .int .i64 0, .int .i64 0] 40))) := (HB.out.trans (h1.mono HB.out.size)).trans ((bel1 _ _).mono (HB.out.trans (h1.mono HB.out.size)).size)
  clear ca1 ca2 ca3 ca4 ca5 ca6 ca7 cc0 cc1 hno h1 HF HB
  have HF := HF1
  have HB := HB1
  clear HF1 HB1
  obtain ⟨ca1, ca2, ca3, ca4, ca5, ca6, ca7, cc0, cc1, hno⟩ := HF.out
  go_wp2_with fail
  generalize U0a.alloc (.cells #[.slice none 0 0, .slice none 0 0, .int .i64 0, .int .i64 0] 40) = V at *
  generalize U0a.heap.size = g1 at *
  refine (no_passed none t l V (.inl rfl)).mono ?_
  rintro e1 U ⟨rfl, h1⟩
  unfold res0
  have HF1 : Aside _ := (NF.bel HF.out h1).bel (bel1 U (.cells #[.slice none 0 0, .slice none 0 0, .int .i64 0, .int .i64 0] 40))
  have HR2 : Aside _ := R4.new U
  have HR1' : Aside _ := (R4.bel HR1.out h1).bel (bel1 U (.cells #[.slice none 0 0, .slice none 0 0, .int .i64 0, .int .i64 0] 40))
  have HB1 : Aside (Below w.heap.size w (U.alloc (.cells #[.slice none 0 0, .slice none 0 0, .int .i64 0, .int .i64 0] 40))) := (HB.out.trans (h1.mono HB.out.size)).trans ((bel1 _ _).mono (HB.out.trans (h1.mono HB.out.size)).size)
  clear ca1 ca2 ca3 ca4 ca5 ca6 ca7 cc0 cc1 hno h1 HF HB HR1
  have HF := HF1
  have HB := HB1
  have HR1 := HR1'
  clear HF1 HB1 HR1'
  obtain ⟨ca1, ca2, ca3, ca4, ca5, ca6, ca7, cc0, cc1, hno⟩ := HF.out
  go_wp2_with fail
  generalize U.alloc (.cells #[.slice none 0 0, .slice none 0 0, .int .i64 0, .int .i64 0] 40) = V2 at *
  generalize U.heap.size = g2 at *
  refine (no_flight none V2 (.inl rfl)).mono ?_
  rintro e1 u ⟨rfl, h1⟩
  subst u
  go_wp2_with fail
  refine (no_due none l V2 (.inl rfl)).mono ?_
  rintro e1 V3 ⟨rfl, h1⟩
  have HF1 : Aside _ := NF.bel HF.out h1
  have HR1' : Aside _ := R4.bel HR1.out h1
  have HR2' : Aside _ := R4.bel HR2.out h1
  have HB1 : Aside (Below w.heap.size w V3) := HB.out.trans (h1.mono HB.out.size)
  clear ca1 ca2 ca3 ca4 ca5 ca6 ca7 cc0 cc1 hno h1 HF HB HR1 HR2
  have HF := HF1
  have HB := HB1
  have HR1 := HR1'
  have HR2 := HR2'
  clear HF1 HB1 HR1' HR2'
  obtain ⟨ca1, ca2, ca3, ca4, ca5, ca6, ca7, cc0, cc1, hno⟩ := HF.out
  go_wp2_with fail
  refine (no_sent none n a s e V3 (.inl rfl)).mono ?_
  rintro e1 V4 ⟨rfl, h1⟩
  have HF1 : Aside _ := NF.bel HF.out h1
  have HR2' : Aside _ := R4.bel HR2.out h1
  obtain ⟨r0, r1, r2, r3⟩ := R4.bel HR1.out h1
  have HB1 : Aside (Below w.heap.size w V4) := HB.out.trans (h1.mono HB.out.size)
  clear ca1 ca2 ca3 ca4 ca5 ca6 ca7 cc0 cc1 hno h1 HF HB HR1 HR2
  have HF := HF1
  have HB := HB1
  have HR2 := HR2'
  clear HF1 HB1 HR2'
  go_wp2_with fail
  refine (results_0 V4).mono ?_
  rintro e1 V5 ⟨rfl, h1⟩
  have HF1 : Aside _ := NF.bel HF.out h1
  obtain ⟨q0, q1, q2, q3⟩ := R4.bel HR2.out h1
  have HB1 : Aside (Below w.heap.size w V5) := HB.out.trans (h1.mono HB.out.size)
  clear h1 HF HB HR2 r0 r1 r2 r3
  have HF := HF1
  have HB := HB1
  clear HF1 HB1
  go_wp2_with fail
  refine (results_0 V5).mono ?_
  rintro e1 V6 ⟨rfl, h1⟩
  have HF1 : Aside _ := NF.bel HF.out h1
  have HB1 : Aside (Below w.heap.size w V6) := HB.out.trans (h1.mono HB.out.size)
  clear h1 HF HB q0 q1 q2 q3
  have HF := HF1
  have HB := HB1
  clear HF1 HB1
  obtain ⟨ca1, ca2, ca3, ca4, ca5, ca6, ca7, cc0, cc1, hno⟩ := HF.out
  go_wp2_with fail
  refine (no_clear none V6 (.inl rfl)).mono ?_
  rintro e1 u ⟨rfl, h1⟩
  subst u
  clear ca1 ca2 ca3 ca4 ca5 ca6 ca7 cc0 cc1 hno
  go_wp2
  rw [rounds_succ]
  skip
  obtain ⟨ca1, ca2, ca3, ca4, ca5, ca6, ca7, cc0, cc1, hno⟩ := HF.out
  go_wp2_with fail
  refine (HAK.out (some ⟨D, 0, none⟩) V6 hno HB.out).mono ?_
  rintro e1 U1a ⟨rfl, h1⟩
  unfold res0
  have HF1 : Aside _ := (NF.bel HF.out h1).bel (bel1 U1a (.cells #[.slice none 0 0, .slice none 0 0, .int .i64 0, .int .i64 0] 40))
  have HR1 : Aside _ := R4.new U1a
  have HB1 : Aside (Below w.heap.size w (U1a.alloc (.cells #[.slice none 0 0, .slice none 0 0, .int .i64 0, .int .i64 0] 40))) := (HB.out.trans (h1.mono HB.out.size)).trans ((bel1 _ _).mono (HB.out.trans (h1.mono HB.out.size)).size)
  clear ca1 ca2 ca3 ca4 ca5 ca6 ca7 cc0 cc1 hno h1 HF HB
  have HF := HF1
  have HB := HB1
  clear HF1 HB1
  obtain ⟨ca1, ca2, ca3, ca4, ca5, ca6, ca7, cc0, cc1, hno⟩ := HF.out
  go_wp2_with fail
  generalize U1a.alloc (.cells #[.slice none 0 0, .slice none 0 0, .int .i64 0, .int .i64 0] 40) = V at *
  generalize U1a.heap.size = g1 at *
  refine (no_passed (some ⟨D, 0, none⟩) t l V hno).mono ?_
  rintro e1 U ⟨rfl, h1⟩
  unfold res0
  have HF1 : Aside _ := (NF.bel HF.out h1).bel (bel1 U (.cells #[.slice none 0 0, .slice none 0 0, .int .i64 0, .int .i64 0] 40))
  have HR2 : Aside _ := R4.new U
  have HR1' : Aside _ := (R4.bel HR1.out h1).bel (bel1 U (.cells #[.slice none 0 0, .slice none 0 0, .int .i64 0, .int .i64 0] 40))
  have HB1 : Aside (Below w.heap.size w (U.alloc (.cells #[.slice none 0 0, .slice none 0 0, .int .i64 0, .int .i64 0] 40))) := (HB.out.trans (h1.mono HB.out.size)).trans ((bel1 _ _).mono (HB.out.trans (h1.mono HB.out.size)).size)
  clear ca1 ca2 ca3 ca4 ca5 ca6 ca7 cc0 cc1 hno h1 HF HB HR1
  have HF := HF1
  have HB := HB1
  have HR1 := HR1'
  clear HF1 HB1 HR1'
  obtain ⟨ca1, ca2, ca3, ca4, ca5, ca6, ca7, cc0, cc1, hno⟩ := HF.out
  go_wp2_with fail
  generalize U.alloc (.cells #[.slice none 0 0, .slice none 0 0, .int .i64 0, .int .i64 0] 40) = V2 at *
  generalize U.heap.size = g2 at *
  refine (no_flight (some ⟨D, 0, none⟩) V2 hno).mono ?_
  rintro e1 u ⟨rfl, h1⟩
  subst u
  go_wp2_with fail
  refine (no_due (some ⟨D, 0, none⟩) l V2 hno).mono ?_
  rintro e1 V3 ⟨rfl, h1⟩
  have HF1 : Aside _ := NF.bel HF.out h1
  have HR1' : Aside _ := R4.bel HR1.out h1
  have HR2' : Aside _ := R4.bel HR2.out h1
  have HB1 : Aside (Below w.heap.size w V3) := HB.out.trans (h1.mono HB.out.size)
  clear ca1 ca2 ca3 ca4 ca5 ca6 ca7 cc0 cc1 hno h1 HF HB HR1 HR2
  have HF := HF1
  have HB := HB1
  have HR1 := HR1'
  have HR2 := HR2'
  clear HF1 HB1 HR1' HR2'
  obtain ⟨ca1, ca2, ca3, ca4, ca5, ca6, ca7, cc0, cc1, hno⟩ := HF.out
  go_wp2_with fail
  refine (no_sent (some ⟨D, 0, none⟩) n a s e V3 hno).mono ?_
  rintro e1 V4 ⟨rfl, h1⟩
  have HF1 : Aside _ := NF.bel HF.out h1
  have HR2' : Aside _ := R4.bel HR2.out h1
  obtain ⟨r0, r1, r2, r3⟩ := R4.bel HR1.out h1
  have HB1 : Aside (Below w.heap.size w V4) := HB.out.trans (h1.mono HB.out.size)
  clear ca1 ca2 ca3 ca4 ca5 ca6 ca7 cc0 cc1 hno h1 HF HB HR1 HR2
  have HF := HF1
  have HB := HB1
  have HR2 := HR2'
  clear HF1 HB1 HR2'
  go_wp2_with fail
  refine (results_0 V4).mono ?_
  rintro e1 V5 ⟨rfl, h1⟩
  have HF1 : Aside _ := NF.bel HF.out h1
  obtain ⟨q0, q1, q2, q3⟩ := R4.bel HR2.out h1
  have HB1 : Aside (Below w.heap.size w V5) := HB.out.trans (h1.mono HB.out.size)
  clear h1 HF HB HR2 r0 r1 r2 r3
  have HF := HF1
  have HB := HB1
  clear HF1 HB1
  go_wp2_with fail
  refine (results_0 V5).mono ?_
  rintro e1 V6 ⟨rfl, h1⟩
  have HF1 : Aside _ := NF.bel HF.out h1
  have HB1 : Aside (Below w.heap.size w V6) := HB.out.trans (h1.mono HB.out.size)
  clear h1 HF HB q0 q1 q2 q3
  have HF := HF1
  have HB := HB1
  clear HF1 HB1
  obtain ⟨ca1, ca2, ca3, ca4, ca5, ca6, ca7, cc0, cc1, hno⟩ := HF.out
  go_wp2_with fail
  refine (no_clear (some ⟨D, 0, none⟩) V6 hno).mono ?_
  rintro e1 u ⟨rfl, h1⟩
  subst u
  clear ca1 ca2 ca3 ca4 ca5 ca6 ca7 cc0 cc1 hno
  go_wp2
  rw [rounds_succ]
  go_wp2
  go_ret
  exact ⟨rfl, HB.out⟩
end Go.Proofs.Ytkjcapmhjhnckaa
