/- seen: falling's iterator over the one part. -/
import Derived.Test.YtlobnlkpbenngaaPc
namespace Go.Proofs.YtlobnlkpbenngaaR
open Go.RowKit Go.Shelf Go.Lib
set_option linter.unusedVariables false

attribute [local go_sem] Oper.semAt_some

theorem neq53 (a b c d : Int) (w : World) : (binOp .neq 53 (.agg #[.int .i64 a, .int .i64 b]) (.agg #[.int .i64 c, .int .i64 d])).run Try.prog w = .ok (.bool (!(a == c && b == d))) w := by
  have h := eq50 a b c d w
  have he : (Op.equal 53 (.agg #[.int .i64 a, .int .i64 b]) (.agg #[.int .i64 c, .int .i64 d])).run Try.prog w = .ok (a == c && b == d) w := by
    have hS : Try.prog.underlying 53 = some (.struct (Try.prog.fieldsOf 53)) := by kernel_rfl
    have hp : Try.prog.stoodInHeld 53 = false := by kernel_rfl
    have u3 := Try.underlying3
    have a3 := Try.isAgg3
    have z3 := Try.sizeOf3
    unfold Op.equal
    rw [show Op.maxDepth = 9999 + 1 from rfl, run_equalIn_agg w 9999 53 _ _ hS hp]
    simp only [Program.fieldsOf, Try.underlying53]
    go_simp
    by_cases h1 : a = c <;> by_cases h2 : b = d <;> simp [h1, h2]
  simp only [binOp]
  simp [he]

set_option maxRecDepth 100000 in
theorem pieces47_c (p : Option Addr) (w : World) : Calls Try.prog 47 #[.pointer p] w fun e w' => e = .returned (.func (.func 59) #[] #[.pointer (some ⟨w.heap.size, 0, none⟩)]) ∧ w' = w.alloc (.cells #[.pointer p] 41) := by
  go_enter Try.func47, Try.ntmps47
  go_wp2
  go_ret
  exact ⟨rfl, rfl⟩
set_option maxRecDepth 100000 in
theorem falling32_c (p : Option Addr) (w : World) : Calls Try.prog 32 #[.pointer p] w fun e w' => e = .returned (.func (.func 46) #[] #[.pointer (some ⟨w.heap.size, 0, none⟩)]) ∧ w' = w.alloc (.cells #[.pointer p] 41) := by
  go_enter Try.func32, Try.ntmps32
  go_wp2
  go_ret
  exact ⟨rfl, rfl⟩

/-- A store into a block of X. -/
theorem St.cell {X : Nat → Prop} {Bl b j : Nat} {A : World} (v : Value) (hl : X b) (hne : Bl ≠ b) : St X Bl A (A.setCell ⟨b, j, none⟩ v) :=
  ⟨rfl, rfl, rfl, by simp, fun k o hk => ⟨(Below.heap_setCell A ⟨b, j, none⟩ _ k (by rintro rfl; exact hk.2.1 hl)).trans hk.1, hk.2.1, fun n c e => hk.2.2 n c (by rwa [World.cell?_setCell_other _ _ _ _ (by simp <;> omega)] at e)⟩⟩

/-- What whole holds when k pieces have come. -/
def wv (E : Nat → Int × Int) : Nat → Int × Int
  | 0 => (-1, -1)
  | k + 1 => E k

set_option maxRecDepth 100000 in
set_option maxHeartbeats 4000000 in
theorem falling_c (X : Nat → Prop) (Bl n₀ M G c l Bm N : Nat) (a : Pt) (E : Nat → Int × Int) (J Jx : Nat → World → Prop) (W : World) (hN : a.L.length = N) (hE : ∀ k, k < N → a.L[N - 1 - k]? = some (E k)) (hsz : N ≤ 65536)
    (hE1 : ∀ k, k < N → 0 ≤ (E k).1 ∧ 0 ≤ (E k).2 ∧ (E k).2 ≤ 4611686018427387903) (hE2 : ∀ k, k + 1 < N → (E (k + 1)).2 + 1 ≠ (E k).1)
    (hm : W.cell? ⟨Bm, 0, none⟩ = some (.pointer (some ⟨M, 0, none⟩))) (hnu : Nu n₀ W M G c [a]) (hXW : ∀ k, X k → k < W.heap.size) (hR : Ri Bl W)
    (hJ : Ab W.heap.size J) (hJx : Ab W.heap.size Jx) (hJr : ∀ k A, J k A → Ri Bl A) (hJs : ∀ k A j v, J k A → J k (A.setCell ⟨W.heap.size + 1 + 1, j, none⟩ v))
    (hY : ∀ k W1, k < N → J k W1 → W.heap.size + 1 + 1 < W1.heap.size → YieldAt Fence.wide 0 Try.prog l #[.agg #[.int .i64 (E k).1, .int .i64 (E k).2]] W1 (YK J Jx (St X Bl) k W1)) (h0 : J 0 W) :
    CallsIn Fence.wide 0 Try.prog 46 #[.func (.yield l) #[] #[], .pointer (some ⟨Bm, 0, none⟩)] W (ItP J Jx N) := by
  have lm : Bm < W.heap.size := World.block_lt_of_cell? _ _ hm
  have hbA : Below W.heap.size W (((W.alloc (.cells #[.func (.yield l) #[] #[]] 82)).alloc (.cells #[.int .i64 (-1), .int .i64 (-1)] 53)).alloc (.cells #[.int .i64 (-1), .int .i64 (-1)] 53)) := (((Below.refl _ W).alloc (Nat.le_refl _) _).alloc (by simp) _).alloc (by simp <;> omega) _
  have hmA : (((W.alloc (.cells #[.func (.yield l) #[] #[]] 82)).alloc (.cells #[.int .i64 (-1), .int .i64 (-1)] 53)).alloc (.cells #[.int .i64 (-1), .int .i64 (-1)] 53)).cell? ⟨Bm, 0, none⟩ = some (.pointer (some ⟨M, 0, none⟩)) := (hbA.cell (p := ⟨Bm, 0, none⟩) lm).trans hm
  refine callsIn_of_wp_marks (F := Fence.wide) (n := 0) Try.func46 rfl trivial ?_ rfl
  simp only [Try.ntmps46, List.size_toArray, List.length_cons, List.length_nil, Nat.reduceAdd, Nat.reduceSub, Array.replicate_succ, Array.replicate_zero, List.push_toArray, List.append_toArray, List.nil_append, List.cons_append]
  gi_wp2_with fail
  refine ⟨trivial, rfl, callsIn_wide.2 ((pieces47_c _ _).mono ?_)⟩
  rintro e w' ⟨rfl, hw⟩
  subst w'
  gi_wp2
  have hb0 : Below W.heap.size W ((((W.alloc (.cells #[.func (.yield l) #[] #[]] 82)).alloc (.cells #[.int .i64 (-1), .int .i64 (-1)] 53)).alloc (.cells #[.int .i64 (-1), .int .i64 (-1)] 53)).alloc (.cells #[.pointer (some ⟨M, 0, none⟩)] 41)) := hbA.alloc (by simp <;> omega) _
  have z0 : ((((W.alloc (.cells #[.func (.yield l) #[] #[]] 82)).alloc (.cells #[.int .i64 (-1), .int .i64 (-1)] 53)).alloc (.cells #[.int .i64 (-1), .int .i64 (-1)] 53)).alloc (.cells #[.pointer (some ⟨M, 0, none⟩)] 41)).heap.size = W.heap.size + 4 := by simp
  have hBy : ((((W.alloc (.cells #[.func (.yield l) #[] #[]] 82)).alloc (.cells #[.int .i64 (-1), .int .i64 (-1)] 53)).alloc (.cells #[.int .i64 (-1), .int .i64 (-1)] 53)).alloc (.cells #[.pointer (some ⟨M, 0, none⟩)] 41)).heap[W.heap.size]? = some (.cells #[.func (.yield l) #[] #[]] 82 (0, 0)) := by
    rw [Below.heap_alloc _ _ _ (by simp <;> omega), Below.heap_alloc _ _ _ (by simp <;> omega), Below.heap_alloc _ _ _ (by simp)]; exact World.alloc_heap_new W _
  have hBn : ((((W.alloc (.cells #[.func (.yield l) #[] #[]] 82)).alloc (.cells #[.int .i64 (-1), .int .i64 (-1)] 53)).alloc (.cells #[.int .i64 (-1), .int .i64 (-1)] 53)).alloc (.cells #[.pointer (some ⟨M, 0, none⟩)] 41)).heap[W.heap.size + 1]? = some (.cells #[.int .i64 (-1), .int .i64 (-1)] 53 (0, 0)) := by
    rw [Below.heap_alloc _ _ _ (by simp <;> omega), Below.heap_alloc _ _ _ (by simp)]
    have := World.alloc_heap_new (W.alloc (.cells #[.func (.yield l) #[] #[]] 82)) (.cells #[.int .i64 (-1), .int .i64 (-1)] 53)
    rwa [World.size_alloc] at this
  have hBw : ((((W.alloc (.cells #[.func (.yield l) #[] #[]] 82)).alloc (.cells #[.int .i64 (-1), .int .i64 (-1)] 53)).alloc (.cells #[.int .i64 (-1), .int .i64 (-1)] 53)).alloc (.cells #[.pointer (some ⟨M, 0, none⟩)] 41)).heap[W.heap.size + 1 + 1]? = some (.cells #[.int .i64 (-1), .int .i64 (-1)] 53 (0, 0)) := by
    rw [Below.heap_alloc _ _ _ (by simp)]
    have := World.alloc_heap_new ((W.alloc (.cells #[.func (.yield l) #[] #[]] 82)).alloc (.cells #[.int .i64 (-1), .int .i64 (-1)] 53)) (.cells #[.int .i64 (-1), .int .i64 (-1)] 53)
    rwa [World.size_alloc, World.size_alloc] at this
  have hBm : ((((W.alloc (.cells #[.func (.yield l) #[] #[]] 82)).alloc (.cells #[.int .i64 (-1), .int .i64 (-1)] 53)).alloc (.cells #[.int .i64 (-1), .int .i64 (-1)] 53)).alloc (.cells #[.pointer (some ⟨M, 0, none⟩)] 41)).heap[W.heap.size + 1 + 1 + 1]? = some (.cells #[.pointer (some ⟨M, 0, none⟩)] 41 (0, 0)) := by
    have := World.alloc_heap_new (((W.alloc (.cells #[.func (.yield l) #[] #[]] 82)).alloc (.cells #[.int .i64 (-1), .int .i64 (-1)] 53)).alloc (.cells #[.int .i64 (-1), .int .i64 (-1)] 53)) (.cells #[.pointer (some ⟨M, 0, none⟩)] 41)
    rwa [World.size_alloc, World.size_alloc, World.size_alloc] at this
  generalize ((((W.alloc (.cells #[.func (.yield l) #[] #[]] 82)).alloc (.cells #[.int .i64 (-1), .int .i64 (-1)] 53)).alloc (.cells #[.int .i64 (-1), .int .i64 (-1)] 53)).alloc (.cells #[.pointer (some ⟨M, 0, none⟩)] 41)) = W0 at *
  clear hbA hmA
  have hR0 : Ri Bl W0 := hR.below hb0
  have nX : ∀ k, W.heap.size ≤ k → ¬ X k := fun k hk hx => by have := hXW k hx; omega
  have hBl := hR.1
  obtain ⟨X2, hX2⟩ : ∃ X2 : Nat → Prop, ∀ k, X2 k ↔ (X k ∨ k = W.heap.size + 1 + 1 ∨ k = W0.heap.size + 1) := ⟨_, fun _ => Iff.rfl⟩
  have nX2 : ∀ k, W.heap.size ≤ k → k ≠ W.heap.size + 1 + 1 → k ≠ W0.heap.size + 1 → ¬ X2 k := fun k h1 h2 h3 hx => by
    rcases (hX2 k).1 hx with hx | hx | hx
    · exact nX k h1 hx
    · exact h2 hx
    · exact h3 hx
  have xw : X2 (W.heap.size + 1 + 1) := (hX2 _).2 (.inr (.inl rfl))
  have xl : X2 (W0.heap.size + 1) := (hX2 _).2 (.inr (.inr rfl))
  obtain ⟨I2, hI2⟩ : ∃ I2 : Nat → World → Prop, ∀ k Wx, I2 k Wx ↔ (J (k - 1) Wx ∧ Wx.heap[W.heap.size + 1 + 1]? = some (.cells #[.int .i64 (wv E k).1, .int .i64 (wv E k).2] 53 (0, 0)) ∧ (∀ n c, Wx.cell? ⟨Bl, 0, none⟩ ≠ some (.slice (some ⟨W.heap.size + 1 + 1, 0, none⟩) n c)) ∧ (∀ n c, Wx.cell? ⟨Bl, 0, none⟩ ≠ some (.slice (some ⟨W0.heap.size + 1, 0, none⟩) n c)) ∧
      Hs X2 Bl W.heap.size (.cells #[.func (.yield l) #[] #[]] 82 (0, 0)) Wx ∧ Hs X2 Bl (W.heap.size + 1) (.cells #[.int .i64 (-1), .int .i64 (-1)] 53 (0, 0)) Wx ∧ Hs X2 Bl W0.heap.size (.deferred (some [])) Wx) := ⟨_, fun _ _ => Iff.rfl⟩
  obtain ⟨Ix2, hIx2⟩ : ∃ Ix2 : Code → Nat → World → Prop, ∀ cd k Wx, Ix2 cd k Wx ↔ (cd = .ret ∧ (∃ j, j ≤ N ∧ Jx j Wx) ∧ Hs X2 Bl W0.heap.size (.deferred (some [])) Wx) := ⟨_, fun _ _ _ => Iff.rfl⟩
  have hIput : ∀ k Wx l' o o', I2 k Wx → W0.heap.size + 1 ≤ l' → Wx.heap[l']? = some o → o.isCells = false → I2 k (Wx.putObj l' o') := by
    intro k Wx l' o o' hi hl' hl ho
    obtain ⟨i1, i2, i3, i4, i5, i6, i7⟩ := (hI2 _ _).1 hi
    refine (hI2 _ _).2 ⟨hJ.g2 _ _ _ _ _ i1 (by omega) hl ho, (World.putObj_heap_other (by omega)).trans i2, fun n c e => i3 n c (by rwa [cell?_putObj_other _ (show Bl ≠ l' by omega)] at e), fun n c e => i4 n c (by rwa [cell?_putObj_other _ (show Bl ≠ l' by omega)] at e), i5.put _ (by omega) (by omega), i6.put _ (by omega) (by omega), i7.put _ (by omega) (by omega)⟩
  have hIxput : ∀ cd k Wx l' o o', Ix2 cd k Wx → W0.heap.size + 1 ≤ l' → Wx.heap[l']? = some o → o.isCells = false → Ix2 cd k (Wx.putObj l' o') := by
    intro cd k Wx l' o o' hi hl' hl ho
    obtain ⟨i1, ⟨j, i2, i2'⟩, i3⟩ := (hIx2 _ _ _).1 hi
    exact (hIx2 _ _ _).2 ⟨i1, ⟨j, i2, hJx.g2 _ _ _ _ _ i2' (by omega) hl ho⟩, i3.put _ (by omega) (by omega)⟩
  have hIbel : ∀ k A A', I2 k A → Below A.heap.size A A' → I2 k A' := by
    intro k A A' hi hb
    obtain ⟨i1, i2, i3, i4, i5, i6, i7⟩ := (hI2 _ _).1 hi
    have hr := hJr _ _ i1
    refine (hI2 _ _).2 ⟨hJ.g1 _ _ _ i1 hb, (hb.block _ (Array.getElem?_eq_some_iff.1 i2).1).trans i2, fun n c e => i3 n c ((hb.cell (p := ⟨Bl, 0, none⟩) hr.1).symm.trans e), fun n c e => i4 n c ((hb.cell (p := ⟨Bl, 0, none⟩) hr.1).symm.trans e), i5.below hb hr.1, i6.below hb hr.1, i7.below hb hr.1⟩
  refine range_out (gf := 59) (lb := #[.pointer (some ⟨W.heap.size + 1 + 1 + 1, 0, none⟩)]) rfl (enters_of Try.func59 (by kernel_rfl) rfl) (I := I2) (Ix := Ix2) (N := N) (fun k Wx r r' hi hl => hIput k Wx _ _ _ hi (Nat.le_refl _) hl rfl) (fun cd k Wx r r' hi hl => hIxput cd k Wx _ _ _ hi (Nat.le_refl _) hl rfl) ?h0 ?hseq ?hdone ?hstop
  case h0 =>
    intro o
    have hbb : Below W0.heap.size W0 ((W0.alloc (.deferred (some []))).alloc o) := ((Below.refl _ W0).alloc (Nat.le_refl _) _).alloc (by simp) _
    have hbw := hb0.trans (hbb.mono (by omega))
    have nr : ∀ b, W.heap.size ≤ b → ∀ n c, ((W0.alloc (.deferred (some []))).alloc o).cell? ⟨Bl, 0, none⟩ ≠ some (.slice (some ⟨b, 0, none⟩) n c) := by
      intro b hb n c e
      rw [hbw.cell (p := ⟨Bl, 0, none⟩) hBl] at e
      have := hR.2 _ _ _ e
      omega
    refine (hI2 _ _).2 ⟨hJ.g1 _ _ _ h0 hbw, (hbb.block _ (by omega)).trans hBw, nr _ (by omega), nr _ (by omega), ⟨(hbb.block _ (by omega)).trans hBy, nX2 _ (by omega) (by omega) (by omega), nr _ (by omega)⟩, ⟨(hbb.block _ (by omega)).trans hBn, nX2 _ (by omega) (by omega) (by omega), nr _ (by omega)⟩, ⟨?_, nX2 _ (by omega) (by omega) (by omega), nr _ (by omega)⟩⟩
    rw [Below.heap_alloc _ _ _ (by simp)]; exact World.alloc_heap_new W0 _
  case hstop =>
    intro cd k Wx hk hi
    obtain ⟨rfl, ⟨j, h2, h2'⟩, h3⟩ := (hIx2 _ _ _).1 hi
    have hK := h3.1
    gi_wp2
    refine ⟨by simp, .inl ⟨_, _, rfl, run_takeDeferred hK, ?_⟩⟩
    exact ⟨_, results_none rfl _ _ _, ⟨_, rfl⟩, .inr ⟨j, h2, hJx.g2 _ _ _ _ _ h2' (by omega) hK rfl⟩⟩
  case hdone =>
    intro Wx hi
    obtain ⟨i1, i2, i3, i4, i5, i6, i7⟩ := (hI2 _ _).1 hi
    have hK := i7.1
    have cy : Wx.cell? ⟨W.heap.size, 0, none⟩ = some (.func (.yield l) #[] #[]) := i5.cell0 0
    have cn0 : Wx.cell? ⟨W.heap.size + 1, 0, none⟩ = some (.int .i64 (-1)) := i6.cell0 0
    have cn1 : Wx.cell? ⟨W.heap.size + 1, 1, none⟩ = some (.int .i64 (-1)) := i6.cell0 1
    have cw0 : Wx.cell? ⟨W.heap.size + 1 + 1, 0, none⟩ = some (.int .i64 (wv E N).1) := by simp [World.cell?, i2]
    have cw1 : Wx.cell? ⟨W.heap.size + 1 + 1, 1, none⟩ = some (.int .i64 (wv E N).2) := by simp [World.cell?, i2]
    have hlw : W.heap.size + 1 + 1 < Wx.heap.size := (Array.getElem?_eq_some_iff.1 i2).1
    have hq := fun w => neq53 (wv E N).1 (wv E N).2 (-1) (-1) w
    rcases Nat.eq_zero_or_pos N with hN0 | hN0
    · have e1 : wv E N = (-1, -1) := by rw [hN0]; rfl
      rw [e1] at hq cw0 cw1
      simp only [beq_self_eq_true, Bool.and_self, Bool.not_true] at hq
      have HP : Aside (∀ o', ItP J Jx N (.returned (.tuple #[])) (Wx.putObj W0.heap.size o')) := fun o' => ⟨⟨_, rfl⟩, .inl (hJ.g2 _ _ _ _ _ (by rw [show N - 1 = N by omega] at i1; exact i1) (by omega) hK rfl)⟩
      have Z0 : Aside _ := z0
      have HN0 : Aside _ := hN0
      clear i1 i2 i3 i4 i5 i6 i7 hi z0 hN0
      gi_wp2
      refine ⟨by simp, .inl ⟨_, _, rfl, run_takeDeferred hK, ?_⟩⟩
      exact ⟨_, results_none rfl _ _ _, HP.out _⟩
    · obtain ⟨n, rfl⟩ : ∃ n, N = n + 1 := ⟨N - 1, by omega⟩
      have e1 : wv E (n + 1) = E n := rfl
      rw [e1] at hq cw0 cw1
      obtain ⟨g1, g2, g3⟩ := hE1 n (by omega)
      have en : ((E n).1 == -1) = false := by simp; omega
      simp only [en, Bool.false_and, Bool.not_false] at hq
      rw [show n + 1 - 1 = n by omega] at i1
      obtain ⟨fn5, tmps5, assign5, body5, hy5, hR5⟩ := hY n Wx (by omega) i1 hlw
      have HD : Aside (Hs X Bl W0.heap.size (.deferred (some [])) Wx) := i7.wide (nX _ (by omega))
      clear i1 i2 i3 i4 i5 i6 i7 hi
      have Z0 : Aside _ := z0
      clear z0
      generalize (E n).1 = xa at *
      generalize (E n).2 = xb at *
      gi_wp2
      refine ⟨rfl, RoundIn.mono hR5 ?_⟩
      rintro e W' (⟨rfl, y1, y2⟩ | ⟨rfl, y1, y2⟩)
      · have HY1 : Aside _ := y1
        have hK' := (Hs.st HD.out y2).1
        clear y1 y2 hR5 hy5
        gi_wp2
        refine ⟨by simp, .inl ⟨_, _, rfl, run_takeDeferred hK', ?_⟩⟩
        exact ⟨_, results_none rfl _ _ _, ⟨_, rfl⟩, .inl (hJ.g2 _ _ _ _ _ HY1.out (by have := Z0.out; omega) hK' rfl)⟩
      · have HY1 : Aside _ := y1
        have hK' := (Hs.st HD.out y2).1
        clear y1 y2 hR5 hy5
        gi_wp2
        refine ⟨by simp, .inl ⟨_, _, rfl, run_takeDeferred hK', ?_⟩⟩
        exact ⟨_, results_none rfl _ _ _, ⟨_, rfl⟩, .inr ⟨n + 1, Nat.le_refl _, hJx.g2 _ _ _ _ _ HY1.out (by have := Z0.out; omega) hK' rfl⟩⟩
  case hseq =>
    intro fn W1 hW1 hb1
    have hbW1 : Below W0.heap.size W0 W1 := by rw [hW1]; exact ((Below.refl _ W0).alloc (Nat.le_refl _) _).alloc (by simp) _
    have hz1 : W1.heap.size = W0.heap.size + 2 := by rw [hW1]; simp
    have hbWW : Below W.heap.size W W1 := hb0.trans (hbW1.mono (by omega))
    have hm1 : W1.cell? ⟨W.heap.size + 1 + 1 + 1, 0, none⟩ = some (.pointer (some ⟨M, 0, none⟩)) := by
      have := (hbW1.block (W.heap.size + 1 + 1 + 1) (by omega)).trans hBm
      simp [World.cell?, this]
    have hnu1 := hnu.chg (X := fun k => W.heap.size ≤ k) ⟨hbWW.os, hbWW.tape, hbWW.output, hbWW.size, fun k hk _ => hbWW.block k hk⟩ (by have := hnu.lt.1; omega) (by have := hnu.lt.2; omega) (fun b hb => ⟨by have := (hnu.sets b hb).lt.1; omega, fun g hg => by have := (hnu.sets b hb).lt.2 g hg; omega⟩)
    refine pieces_c X2 Bl n₀ M G c (W0.heap.size + 1) (W.heap.size + 1 + 1 + 1) N a E _ _ W1 hN hE hsz hm1 hnu1 (fun k hk => ?_) (hR.below hbWW) ⟨fun k A A' hj hb => ⟨hIbel k A A' hj.1 hb, (hb.block _ (Array.getElem?_eq_some_iff.1 hj.2).1).trans hj.2⟩, fun k A l' o o' hj hl' ho hc => ⟨hIput k A l' o o' hj.1 (by omega) ho hc, (World.putObj_heap_other (by omega)).trans hj.2⟩⟩
      ⟨fun k A A' hj hb => ?_, fun k A l' o o' hj hl' ho hc => ?_⟩ (fun k A hj => hJr _ _ ((hI2 _ _).1 hj.1).1) (fun k Wy hk hby => ?_) hb1
    · rcases (hX2 k).1 hk with hk | hk | hk
      · have := hXW k hk; omega
      · omega
      · omega
    · obtain ⟨cd, hix, hl⟩ := hj
      obtain ⟨i1, ⟨j, i2, i2'⟩, i3⟩ := (hIx2 _ _ _).1 hix
      have hlt := (Array.getElem?_eq_some_iff.1 hl).1
      exact ⟨cd, (hIx2 _ _ _).2 ⟨i1, ⟨j, i2, hJx.g1 _ _ _ i2' hb⟩, i3.below hb (by omega)⟩, (hb.block _ hlt).trans hl⟩
    · obtain ⟨cd, hix, hl⟩ := hj
      exact ⟨cd, hIxput cd k A l' o o' hix (by omega) ho hc, (World.putObj_heap_other (by omega)).trans hl⟩
    · have key := round_raw (P := Try.prog) (encs := fun k : Nat => #[.agg #[.int .i64 (E k).1, .int .i64 (E k).2]]) (fun _ => rfl) (Kp := St X2 Bl) (fun h k => h.trans k) (fun A r r' hr => St.put _ xl (by omega)) (fun k Wx r r' hi hl => hIput k Wx _ _ _ hi (Nat.le_refl _) hl rfl) (fun cd k Wx r r' hi hl => hIxput cd k Wx _ _ _ hi (Nat.le_refl _) hl rfl) hby ?_
      · obtain ⟨f1, f2, f3, f4, f5, f6⟩ := key
        exact ⟨f1, f2, f3, f4, f5, f6.mono (fun e W' h => h)⟩
      · intro K hK
        obtain ⟨hi, hl⟩ := hby
        have lx : W0.heap.size + 1 < Wy.heap.size := (Array.getElem?_eq_some_iff.1 hl).1
        have hba : Below Wy.heap.size Wy (Wy.alloc (.cells #[.int .i64 (E k).1, .int .i64 (E k).2] 53)) := (Below.refl _ Wy).alloc (Nat.le_refl _) _
        have ha1 := World.alloc_heap_new Wy (.cells #[.int .i64 (E k).1, .int .i64 (E k).2] 53)
        have hK2 := fun a' => hK a' (Wy.alloc (.cells #[.int .i64 (E k).1, .int .i64 (E k).2] 53)) (Below.heap_alloc Wy _ _ lx) (St.below hba (by omega))
        have hIa := hIbel k _ _ hi hba
        have hRy : Ri Bl Wy := hJr _ _ ((hI2 _ _).1 hi).1
        have hsN : ∀ r4 n c, ((Wy.alloc (.cells #[.int .i64 (E k).1, .int .i64 (E k).2] 53)).putObj (W0.heap.size + 1) (.loop r4)).cell? ⟨Bl, 0, none⟩ ≠ some (.slice (some ⟨Wy.heap.size, 0, none⟩) n c) := by
          intro r4 n c e
          rw [cell?_putObj_other _ (show Bl ≠ W0.heap.size + 1 by omega), World.cell?_alloc_lt _ _ _ hRy.1] at e
          have := hRy.2 _ _ _ e
          omega
        have hla := (hba.block _ lx).trans hl
        have HK2 : Aside _ := hK2
        clear hi hl hK hK2
        gi_wp2
        refine HK2.out _ (fun r4 => ?_)
        clear HK2
        have hIq := hIput k _ _ _ (.loop r4) hIa (Nat.le_refl _) hla rfl
        have hlq : ((Wy.alloc (.cells #[.int .i64 (E k).1, .int .i64 (E k).2] 53)).putObj (W0.heap.size + 1) (.loop r4)).heap[W0.heap.size + 1]? = some (.loop r4) := World.putObj_heap_same (by simp <;> omega)
        have hsq : ((Wy.alloc (.cells #[.int .i64 (E k).1, .int .i64 (E k).2] 53)).putObj (W0.heap.size + 1) (.loop r4)).heap[Wy.heap.size]? = some (.cells #[.int .i64 (E k).1, .int .i64 (E k).2] 53 (0, 0)) := (World.putObj_heap_other (by omega)).trans ha1
        have hsN := hsN r4
        generalize (Wy.alloc (.cells #[.int .i64 (E k).1, .int .i64 (E k).2] 53)).putObj (W0.heap.size + 1) (.loop r4) = Wq at *
        clear hIa hla hba ha1
        obtain ⟨i1, i2, i3, i4, i5, i6, i7⟩ := (hI2 _ _).1 hIq
        have cy : Wq.cell? ⟨W.heap.size, 0, none⟩ = some (.func (.yield l) #[] #[]) := i5.cell0 0
        have cn0 : Wq.cell? ⟨W.heap.size + 1, 0, none⟩ = some (.int .i64 (-1)) := i6.cell0 0
        have cn1 : Wq.cell? ⟨W.heap.size + 1, 1, none⟩ = some (.int .i64 (-1)) := i6.cell0 1
        have cw0 : Wq.cell? ⟨W.heap.size + 1 + 1, 0, none⟩ = some (.int .i64 (wv E k).1) := by simp [World.cell?, i2]
        have cw1 : Wq.cell? ⟨W.heap.size + 1 + 1, 1, none⟩ = some (.int .i64 (wv E k).2) := by simp [World.cell?, i2]
        have fw0 : ∀ j, Wq.frozen? ⟨W.heap.size + 1 + 1, j, none⟩ = false := fun j => by simp [World.frozen?, i2]
        have c0 : Wq.cell? ⟨Wy.heap.size, 0, none⟩ = some (.int .i64 (E k).1) := by simp [World.cell?, hsq]
        have c1 : Wq.cell? ⟨Wy.heap.size, 1, none⟩ = some (.int .i64 (E k).2) := by simp [World.cell?, hsq]
        have hlw : W.heap.size + 1 + 1 < Wq.heap.size := (Array.getElem?_eq_some_iff.1 i2).1
        have hq := fun w => neq53 (wv E k).1 (wv E k).2 (-1) (-1) w
        have HQ : Aside _ := hIq
        obtain ⟨g1, g2, g3⟩ := hE1 k hk
        have fin : ∀ Wz (u v : Value), J k Wz → Wz.heap[W.heap.size + 1 + 1]? = some (.cells #[u, v] 53 (0, 0)) → (∀ n c, Wz.cell? ⟨Bl, 0, none⟩ ≠ some (.slice (some ⟨W.heap.size + 1 + 1, 0, none⟩) n c)) → (∀ n c, Wz.cell? ⟨Bl, 0, none⟩ ≠ some (.slice (some ⟨W0.heap.size + 1, 0, none⟩) n c)) →
            Hs X2 Bl W.heap.size (.cells #[.func (.yield l) #[] #[]] 82 (0, 0)) Wz → Hs X2 Bl (W.heap.size + 1) (.cells #[.int .i64 (-1), .int .i64 (-1)] 53 (0, 0)) Wz → Hs X2 Bl W0.heap.size (.deferred (some [])) Wz → Wz.heap[W0.heap.size + 1]? = some (.loop r4) → St X2 Bl Wq Wz →
            ∀ aa, roundQ (W0.heap.size + 1) I2 Ix2 (St X2 Bl) k Wq .normal aa ((Wz.setCell ⟨W.heap.size + 1 + 1, 0, none⟩ (.int .i64 (E k).1)).setCell ⟨W.heap.size + 1 + 1, 1, none⟩ (.int .i64 (E k).2)) := by
          intro Wz u v z1 z2 z4 z5 z6 z7 z8 z9 z10 aa
          have s1 : St X2 Bl Wz (Wz.setCell ⟨W.heap.size + 1 + 1, 0, none⟩ (.int .i64 (E k).1)) := St.cell _ xw (by omega)
          have s2 : St X2 Bl (Wz.setCell ⟨W.heap.size + 1 + 1, 0, none⟩ (.int .i64 (E k).1)) ((Wz.setCell ⟨W.heap.size + 1 + 1, 0, none⟩ (.int .i64 (E k).1)).setCell ⟨W.heap.size + 1 + 1, 1, none⟩ (.int .i64 (E k).2)) := St.cell _ xw (by omega)
          have sc := s1.trans s2
          have ce : ∀ (n : Option Addr × Nat) c, ((Wz.setCell ⟨W.heap.size + 1 + 1, 0, none⟩ (.int .i64 (E k).1)).setCell ⟨W.heap.size + 1 + 1, 1, none⟩ (.int .i64 (E k).2)).cell? ⟨Bl, 0, none⟩ = some (.slice n.1 n.2 c) → Wz.cell? ⟨Bl, 0, none⟩ = some (.slice n.1 n.2 c) := fun n c e => by
            rwa [World.cell?_setCell_other _ _ _ _ (by simp <;> omega), World.cell?_setCell_other _ _ _ _ (by simp <;> omega)] at e
          refine ⟨?_, z10.trans sc, (hI2 _ _).2 ⟨hJs _ _ _ _ (hJs _ _ _ _ z1), ?_, fun n c e => z4 n c (ce ⟨_, _⟩ _ e), fun n c e => z5 n c (ce ⟨_, _⟩ _ e), z6.st sc, z7.st sc, z8.st sc⟩⟩
          · rw [Below.heap_setCell _ ⟨W.heap.size + 1 + 1, 1, none⟩ _ _ (by show W0.heap.size + 1 ≠ W.heap.size + 1 + 1; omega), Below.heap_setCell _ ⟨W.heap.size + 1 + 1, 0, none⟩ _ _ (by show W0.heap.size + 1 ≠ W.heap.size + 1 + 1; omega), z9, hlq]
          · rw [setCell_eq_setRow Wz _ 0 _ 53 (0, 0) _ z2]
            have h1 := setRow_heap Wz (W.heap.size + 1 + 1) #[u, v] (#[u, v].setIfInBounds 0 (.int .i64 (E k).1)) 53 (0, 0) z2
            rw [setCell_eq_setRow _ _ 1 _ 53 (0, 0) _ h1, setRow_heap _ _ _ _ 53 (0, 0) h1]
            rfl
        have FIN : Aside _ := fin
        clear fin
        have HL : Aside (Hs X Bl (W0.heap.size + 1) (.loop r4) Wq) := ⟨hlq, nX _ (by omega), i4⟩
        have HS : Aside (Hs X Bl Wy.heap.size (.cells #[.int .i64 (E k).1, .int .i64 (E k).2] 53 (0, 0)) Wq) := ⟨hsq, nX _ (by omega), hsN⟩
        have HW : Aside (Hs X Bl (W.heap.size + 1 + 1) (.cells #[.int .i64 (wv E k).1, .int .i64 (wv E k).2] 53 (0, 0)) Wq) := ⟨i2, nX _ (by omega), i3⟩
        have hwr : IntKind.i64.wrap ((E k).2 + 1) = (E k).2 + 1 := by rw [IntKind.wrap_i64]; omega
        rcases k with _ | m
        · have e1 : wv E 0 = (-1, -1) := rfl
          rw [e1] at hq cw0 cw1
          simp only [beq_self_eq_true, Bool.and_self, Bool.not_true] at hq
          have hne : ((E 0).2 + 1 == -1) = false := by simp; omega
          have hne2 : decide ((E 0).2 + 1 = -1) = false := by simp; omega
          have f0 := fw0 0
          have f1 := fw0 1
          have HP : Aside _ := FIN.out Wq _ _ i1 i2 i3 i4 i5 i6 i7 hlq (St.refl _ _ _)
          clear i1 i2 i3 i4 i5 i6 i7 hIq hsq fw0 FIN
          have Z0 : Aside _ := z0
          clear z0 hz1
          generalize (E 0).1 = xa at *
          generalize (E 0).2 = xb at *
          refine wpIn_block ?_
          gi_wp2
          refine ⟨fun _ h => (by cases h), ?_⟩
          gi_wp2
          exact HP.out _
        · have e1 : wv E (m + 1) = E m := rfl
          rw [e1] at hq cw0 cw1 HW
          obtain ⟨k1, k2, k3⟩ := hE1 m (by omega)
          have en : ((E m).1 == -1) = false := by simp; omega
          simp only [en, Bool.false_and, Bool.not_false] at hq
          have hne3 := hE2 m hk
          have hne : ((E (m + 1)).2 + 1 == (E m).1) = false := by simpa using hne3
          have hne2 : decide ((E (m + 1)).2 + 1 = (E m).1) = false := by simpa using hne3
          rw [show m + 1 - 1 = m by omega] at i1
          obtain ⟨fn5, tmps5, assign5, body5, hy5, hR5⟩ := hY m Wq (by omega) i1 hlw
          have HI5 : Aside _ := i5
          have HI6 : Aside _ := i6
          have HI7 : Aside _ := i7
          clear i1 i2 i3 i4 i5 i6 i7 hIq hsq fw0
          have Z0 : Aside _ := z0
          clear z0 hz1
          generalize (E m).1 = ya at *
          generalize (E m).2 = yb at *
          generalize (E (m + 1)).1 = xa at *
          generalize (E (m + 1)).2 = xb at *
          refine wpIn_block ?_
          gi_wp2
          refine ⟨rfl, RoundIn.mono hR5 ?_⟩
          rintro e W' (⟨rfl, y1, y2⟩ | ⟨rfl, y1, y2⟩)
          · have s2 : St X2 Bl Wq W' := St.mono y2 (fun k hk => (hX2 k).2 (.inl hk))
            have hl' := Hs.st HL.out y2
            have hs' := Hs.st HS.out y2
            have hw' := Hs.st HW.out y2
            have d0 : W'.cell? ⟨Wy.heap.size, 0, none⟩ = some (.int .i64 xa) := hs'.cell0 0
            have d1 : W'.cell? ⟨Wy.heap.size, 1, none⟩ = some (.int .i64 xb) := hs'.cell0 1
            have w0 : W'.cell? ⟨W.heap.size + 1 + 1, 0, none⟩ = some (.int .i64 ya) := hw'.cell0 0
            have w1 : W'.cell? ⟨W.heap.size + 1 + 1, 1, none⟩ = some (.int .i64 yb) := hw'.cell0 1
            have f0 : W'.frozen? ⟨W.heap.size + 1 + 1, 0, none⟩ = false := by have := hw'.1; simp [World.frozen?, this]
            have f1 : W'.frozen? ⟨W.heap.size + 1 + 1, 1, none⟩ = false := by have := hw'.1; simp [World.frozen?, this]
            have HP : Aside _ := FIN.out W' _ _ y1 hw'.1 hw'.2.2 hl'.2.2 (Hs.st HI5.out s2) (Hs.st HI6.out s2) (Hs.st HI7.out s2) hl'.1 s2
            clear y1 y2 hR5 hy5 s2 hl' hs' hw' FIN
            gi_wp2
            exact HP.out _
          · have s2 : St X2 Bl Wq W' := St.mono y2 (fun k hk => (hX2 k).2 (.inl hk))
            have hl' := Hs.st HL.out y2
            have HP : Aside (W'.heap[W0.heap.size + 1]? = Wq.heap[W0.heap.size + 1]? ∧ St X2 Bl Wq W' ∧ Ix2 .ret (m + 1 + 1) W') := ⟨hl'.1.trans hlq.symm, s2, (hIx2 _ _ _).2 ⟨rfl, ⟨m + 1, by omega, y1⟩, Hs.st HI7.out s2⟩⟩
            clear y1 y2 hR5 hy5 s2 hl'
            gi_wp2
            exact HP.out
end Go.Proofs.YtlobnlkpbenngaaR
