/- OutboxOnce: the walk, of a text that is empty, and of one that is too long. -/
import Derived.Test.YtfgfomkhlhiiiaaOnW
namespace Go.Proofs.YtfgfomkhlhiiiaaR
open Go.RowKit Go.Shelf Go.Lib Go.Maps
set_option linter.unusedVariables false

set_option maxRecDepth 100000 in
theorem once_long (la : Option Addr) (n c : Nat) (most limit : Int) (W : World) (h1 : 1048576 < n) :
    Calls Try.prog 5 #[.slice la n c, .int .i64 most, .int .i64 limit] W fun e w' => e = .returned (.bool true) ∧ Below W.heap.size W w' := by
  have i1 : (1048576 : Int) < (n : Int) := by omega
  have NC : Aside _ := newOb_c 1048576 W (by omega) (by omega)
  go_enter Try.func5, Try.ntmps5
  go_wp2_with fail
  refine Calls.mono NC.out ?_
  rintro e w1 ⟨φ, b, A, A2, rfl, hb, hob, hbel, hφ⟩
  have HB : Aside _ := hbel
  clear hob hbel hφ NC
  go_wp2
  go_ret
  exact ⟨rfl, HB.out⟩

theorem run_none (w : World) (ty : TypeId) (la : Option Addr) (c : Nat) : (Builtin.append_ #[32, 32] ty #[.slice none 0 0, .slice la 0 c]).run Try.prog w = .ok (.slice none 0 0) w := by
  obtain ⟨i5, hi5, hz5, hs5, hb5⟩ := inf5
  cases la <;> simp [Builtin.append_, run_underlying Try.underlying32, sizeOf, typeInfo, hi5, Builtin.lenOf, Builtin.firstCells, loadCells, loadCellsFrom]

set_option maxRecDepth 100000 in
theorem write_empty {φ : Nat → Nat × Nat} {W w : World} {b A A2 : Nat} (la : Option Addr) (c : Nat) (h : Ob φ w b A A2 0 none 0 0 1048576 0 0 0 (fun _ => False) (fun _ => False)) (hW : Below W.heap.size W w) (hbW : W.heap.size ≤ b) (hφ : ∀ k, k < W.heap.size → φ k = (0, 0)) :
    Calls Try.prog 9 #[.pointer (some ⟨b, 0, none⟩), .slice la 0 c] w fun e w' => e = .returned (.tuple #[.int .i64 0, .int .i64 0]) ∧ Lo W b A A2 none 0 [] 0 w' := by
  have hnn := none_ob _ b A h.c4
  have c6 := h.c6
  have hbl := h.lt
  have H : Aside _ := h
  have hbd : Below w.heap.size w w.drew := ⟨rfl, rfl, rfl, Nat.le_refl _, fun _ _ => rfl⟩
  have hke := kept_ob (h.below hbd) (m := 0) (.inr ⟨fun _ h => h, rfl⟩) (by decide) (by decide) (by decide) (by decide)
  have HKE : Aside _ := hke
  have HSS : Aside (w.drew.cell? ⟨b, 0, none⟩ = some (.int .i64 1048576)) := h.c0
  have HK : Aside (∀ X, Below w.drew.heap.size w.drew X → X.cell? ⟨b, 0, none⟩ = some (.int .i64 1048576)) := fun X hX => ((h.below hbd).below hX).c0
  have HPH : Aside _ := hφ
  have HWW : Aside _ := hW
  have e1 : IntKind.i64.wrap 1048576 = 1048576 := by rw [IntKind.wrap_i64]; omega
  have e2 : min (0 : Int) 1048576 = 0 := by omega
  clear h hke hbd hφ hW
  go_enter Try.func9, Try.ntmps9
  go_wp2_with fail
  refine hnn.mono ?_
  rintro e w' ⟨rfl, hw'⟩
  subst w'
  clear hnn
  go_wp2_with fail
  go_region_held3 (fun w' => w'.cell? ⟨b, 0, none⟩ = some (.int .i64 1048576)) (first | exact HSS.out | exact HK.out _ HZ.out) (first
    | (go_at_call 26; refine Calls.mono HKE.out ?_; rintro e W8 ⟨rfl, hz⟩; have HZ : Aside (Below w.drew.heap.size w.drew W8) := hz; clear hz))
  have hbz : Below w.heap.size w W8 := ⟨HZ.out.os, HZ.out.tape, HZ.out.output, HZ.out.size, HZ.out.block⟩
  have H8 := H.out.below hbz
  have c81 : W8.drew.cell? ⟨b, 1, none⟩ = some (.slice none 0 0) := H8.c1
  have f81 : W8.drew.frozen? ⟨b, 1, none⟩ = false := by
    have e : W8.drew.heap[b]? = _ := H8.hb
    simp [World.frozen?, e]
  have hrun := fun ty cc => run_none W8.drew ty la cc
  have RES : Aside (Lo W b A A2 none 0 [] 0 (W8.drew.setCell ⟨b, 1, none⟩ (.slice none 0 0))) := by
    have hbb : W8.drew.heap[b]? = _ := H8.hb
    have h8b : (W8.drew.setCell ⟨b, 1, none⟩ (.slice none 0 0)).heap[b]? = some (.cells #[.int .i64 1048576, .slice none 0 0, .int .i64 0, .int .i64 0, .pointer (some ⟨A, 0, none⟩), .pointer (some ⟨A2, 0, none⟩), .int .i64 0] 55 (0, 0)) := by
      rw [setCell_eq_setRow W8.drew b 1 _ 55 (0, 0) _ hbb, setRow_heap W8.drew b _ _ 55 (0, 0) hbb]
      simp
    have h8c : Chg (fun k => k = b) W8 (W8.drew.setCell ⟨b, 1, none⟩ (.slice none 0 0)) := by
      rw [setCell_eq_setRow W8.drew b 1 _ 55 (0, 0) _ hbb]
      exact ((Chg.refl (fun k => k = b) W8).drew).set b _ (.inl rfl)
    generalize W8.drew.setCell ⟨b, 1, none⟩ (.slice none 0 0) = W9 at *
    have hmx : ∀ t M, t ≠ 0 → Mx φ t W8 M 0 (fun _ => False) → Mx φ t W9 M 0 (fun _ => False) := by
      rintro t M ht ⟨mb, fs, c0, S, k1, k2⟩
      refine ⟨mb, fs, c0, S, ⟨k1.1.chg h8c (fun k hk e => ?_), k1.2⟩, k2⟩
      rw [show k = b from e, H8.hφ]
      exact fun e => ht e.symm
    have e1 : (fun j : Int => 0 ≤ j ∧ j < 0) = (fun _ => False) := funext fun j => propext ⟨fun h => by omega, fun h => False.elim h⟩
    have hbw := HWW.out.trans (hbz.mono HWW.out.size)
    refine ⟨φ, ?_, by simpa [bs] using World.ownsRow_nil W9 0 5 1, hbw.trans ⟨h8c.1, h8c.2.1, h8c.2.2.1, h8c.2.2.2.1, fun k hk => h8c.2.2.2.2 k (Nat.lt_of_lt_of_le hk hbw.size) (show ¬ k = b by omega)⟩, hbW, fun k hk => by rw [HPH.out k hk]⟩
    rw [e1]
    exact ⟨h8b, hmx 1 _ (by decide) H8.ha, hmx 2 _ (by decide) H8.hl, H8.hφ, fun g e => nomatch e⟩
  have mixed : Try.prog.follows Departure.mixedOrders = true := by kernel_rfl
  clear hbz H8 HKE HSS HK
  cases la <;>
  · go_wp2_with fail
    go_region_law_o (refine step_append_run rfl _ _ 32 32 rfl _ _ (by simp [Act.eval]) (by simp [Act.eval]) (hrun _ _) ?_)
    all_goals go_wp2
    all_goals go_ret2
    all_goals exact ⟨rfl, RES.out⟩

set_option maxRecDepth 100000 in
set_option maxHeartbeats 4000000 in
theorem once_empty (la : Option Addr) (c : Nat) (most limit : Int) (W : World) :
    Calls Try.prog 5 #[.slice la 0 c, .int .i64 most, .int .i64 limit] W fun e w' => e = .returned (.bool true) ∧ Below W.heap.size W w' := by
  have NC : Aside _ := newOb_c 1048576 W (by omega) (by omega)
  go_enter Try.func5, Try.ntmps5
  go_wp2_with fail
  refine Calls.mono NC.out ?_
  rintro e w1 ⟨φ, b, A, A2, rfl, hb, hob, hbel, hφ⟩
  have hwr := write_empty la c hob hbel hb hφ
  clear hob hbel hφ NC
  go_wp2_with fail
  refine hwr.mono ?_
  rintro e w2 ⟨rfl, hlo⟩
  have HL : Aside (Lo W b A A2 none 0 [] 0 w2) := hlo
  clear hwr hlo
  obtain ⟨F, hF1, hF2⟩ := and8 most
  obtain ⟨G, hG1, hG2⟩ := and12 limit
  have hw1 : wrap64 (1 + (F : Int)) = 1 + (F : Int) := by unfold wrap64; omega
  obtain ⟨ms, hms⟩ : ∃ ms : Int, ms = 1 + (F : Int) := ⟨_, rfl⟩
  have hm1 : 0 ≤ ms := by omega
  go_wp2
  rw [← hms]
  clear hms hw1 hF1 hF2 hG2
  refine wp_loop_rounds 1 ?_
  rw [rounds_succ]
  have hnx := HL.out.next_none ms (G : Int) (by simp) hm1 (by simp; omega)
  go_wp2_with fail
  refine hnx.mono ?_
  rintro e w3 ⟨rfl, hlo3⟩
  have hl4 : Lo W b A A2 none 0 [] 0 (w3.alloc (.cells #[.int .i64 0, .slice none 0 0, .bool false] 42)) := hlo3.below ((Below.refl _ w3).alloc (Nat.le_refl _) _)
  have hsz := hl4.sizes (by omega) (by simp)
  have hme : min (G : Int) 0 = 0 := by omega
  clear hnx hlo3 hl4
  go_wp2_with fail
  refine hsz.mono ?_
  rintro e w5 ⟨rfl, hlo5⟩
  have hwt := hlo5.waits (G : Int) (by simp) (by simp; omega)
  clear hsz hlo5
  go_wp2_with fail
  refine hwt.mono ?_
  rintro e w6 ⟨rfl, hlo6⟩
  have hdn := hlo6.done (by omega) (by simp)
  clear hwt hlo6
  go_wp2_with fail
  refine hdn.mono ?_
  rintro e w7 ⟨rfl, hlo7⟩
  have HB7 : Aside (Below W.heap.size W w7) := by obtain ⟨_, _, _, h3, _⟩ := hlo7; exact h3
  clear hdn hlo7
  go_wp2
  go_ret
  exact ⟨rfl, HB7.out⟩

end Go.Proofs.YtfgfomkhlhiiiaaR
