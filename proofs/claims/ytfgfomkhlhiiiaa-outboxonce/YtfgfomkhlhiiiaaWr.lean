/- outbox: Write into an outbox that has nothing yet. -/
import Derived.Test.YtfgfomkhlhiiiaaNx2
namespace Go.Proofs.YtfgfomkhlhiiiaaR
open Go.RowKit Go.Shelf Go.Lib Go.Maps
set_option linter.unusedVariables false

/-- Bytes as they lie. -/
def Sl (w : World) (a : Addr) (l : List UInt8) : Prop := ∀ j u, (bs l)[j]? = some u → w.cell? (a.add j) = some u

set_option maxRecDepth 100000 in
theorem write_first {φ : Nat → Nat × Nat} {w : World} {b A A2 cm : Nat} {rm : Int} (T : List UInt8) (ad : Addr) (c : Nat) (h : Ob φ w b A A2 cm none 0 0 rm 0 0 0 (fun _ => False) (fun _ => False)) (hT : Sl w ad T) (h0 : 0 < T.length) (h1 : (T.length : Int) ≤ rm) (h2 : rm ≤ 1048576) (hc : T.length ≤ c) :
    Calls Try.prog 9 #[.pointer (some ⟨b, 0, none⟩), .slice (some ad) T.length c] w fun e w' => ∃ φ' g cp, e = .returned (.tuple #[.int .i64 T.length, .int .i64 0]) ∧ Ob φ' w' b A A2 cm (some ⟨g, 0, none⟩) T.length cp rm 0 0 0 (fun _ => False) (fun _ => False) ∧
      w'.ownsRow 0 5 1 (.slice (some ⟨g, 0, none⟩) T.length cp) T.length (bs T) ∧ Chg (fun k => k = b) w w' ∧ (∀ k, k < w.heap.size → φ' k = φ k) := by
  have hnn := none_ob _ b A h.c4
  have c6 := h.c6
  have hbl := h.lt
  have H : Aside _ := h
  have HT : Aside _ := hT
  have hbd : Below w.heap.size w w.drew := ⟨rfl, rfl, rfl, Nat.le_refl _, fun _ _ => rfl⟩
  have hke := kept_ob (h.below hbd) (m := 0) (.inr ⟨fun _ h => h, rfl⟩) (by decide) (by decide) (by decide) (by decide)
  have HKE : Aside _ := hke
  have HSS : Aside (w.drew.cell? ⟨b, 0, none⟩ = some (.int .i64 rm)) := h.c0
  have HK : Aside (∀ X, Below w.drew.heap.size w.drew X → X.cell? ⟨b, 0, none⟩ = some (.int .i64 rm)) := fun X hX => ((h.below hbd).below hX).c0
  obtain ⟨L, hL⟩ : ∃ L, T.length = L := ⟨_, rfl⟩
  rw [hL] at h0 h1 hc ⊢
  have e1 : min (L : Int) rm = (L : Int) := by omega
  have e2 : IntKind.i64.wrap rm = rm := by rw [IntKind.wrap_i64]; omega
  clear h hT hke hbd
  go_enter Try.func9, Try.ntmps9
  go_wp2_with fail
  refine hnn.mono ?_
  rintro e w' ⟨rfl, hw'⟩
  subst w'
  clear hnn
  go_wp2_with fail
  go_region_held3 (fun w' => w'.cell? ⟨b, 0, none⟩ = some (.int .i64 rm)) (first | exact HSS.out | exact HK.out _ HZ.out) (first
    | (go_at_call 26; refine Calls.mono HKE.out ?_; rintro e W8 ⟨rfl, hz⟩; have HZ : Aside (Below w.drew.heap.size w.drew W8) := hz; clear hz))
  have hbz : Below w.heap.size w W8 := ⟨HZ.out.os, HZ.out.tape, HZ.out.output, HZ.out.size, HZ.out.block⟩
  have H8 := H.out.below hbz
  have c81 : W8.drew.cell? ⟨b, 1, none⟩ = some (.slice none 0 0) := H8.c1
  have hcell : ∀ j u, (bs T)[j]? = some u → W8.drew.cell? (ad.add j) = some u := fun j u hu => by
    have e := HT.out j u hu
    exact (hbz.cell (World.block_lt_of_cell? _ _ e)).trans e
  obtain ⟨i5, hi5, hz5, hs5, hb5⟩ := inf5
  obtain ⟨v', w2, hrun, hown, hgr, hnil, hat⟩ := run_append_own_at (P := Try.prog) W8.drew W8.heap.size 32 32 5 i5 (.int .u8 0) 1 1 Try.underlying32 hi5 hz5 hs5 hb5 rfl (by decide) (.slice none 0 0) 0 [] (World.ownsRow_nil _ _ _ _) ad L c (bs T) (by rw [bs_len, hL]; omega) hcell (bs_one _) (by unfold maxLen; omega) (by omega) (Nat.le_refl _)
  rw [Nat.zero_add, List.nil_append] at hown
  obtain ⟨g, cap, cur, rfl, hg1, hg2, hg3⟩ : ∃ g cap cur, v' = .slice (some ⟨g, 0, none⟩) L cap ∧ W8.heap.size ≤ g ∧ w2.heap[g]? = some (.cells cur 5 (0, 0)) ∧ (L ≤ cap ∧ cap ≤ maxLen ∧ cur.size = cap * 1 ∧ cur.toList.take (L * 1) = bs T) := by
    rcases hown.2 with ⟨_, e⟩ | ⟨g, cap, cur, k1, k2, k3, k4⟩
    · omega
    · exact ⟨g, cap, cur, k1, k2, k3, k4⟩
  have hb2 : Below W8.heap.size W8 w2 := ⟨hgr.os, hgr.tape, hgr.output, hgr.size, fun k hk => hgr.block k hk (by simp [Value.ownBlock])⟩
  have H2 := H8.below hb2
  have c21 := H2.c1
  have f21 : w2.frozen? ⟨b, 1, none⟩ = false := by simp [World.frozen?, H2.hb]
  have HH2 : Aside _ := H2
  have HB2 : Aside (Below w.heap.size w w2) := hbz.trans (hb2.mono hbz.size)
  have HG : Aside (W8.heap.size ≤ g ∧ w2.heap[g]? = some (.cells cur 5 (0, 0)) ∧ (L ≤ cap ∧ cap ≤ maxLen ∧ cur.size = cap * 1 ∧ cur.toList.take (L * 1) = bs T)) := ⟨hg1, hg2, hg3⟩
  have HZW : Aside (w.heap.size ≤ W8.heap.size) := hbz.size
  have hLc : (L : Int) ≤ (c : Int) := by omega
  have mixed : Try.prog.follows Departure.mixedOrders = true := by kernel_rfl
  clear hbz H8 hcell hi5 hz5 hs5 hb5 hown hgr hnil hat hg1 hg2 hg3 hb2 H2 HKE HSS HK HT
  have RES : Aside (∃ φ' g' cp', Value.slice (some ⟨g, 0, none⟩) L cap = .slice (some ⟨g', 0, none⟩) L cp' ∧ Ob φ' (w2.setCell ⟨b, 1, none⟩ (.slice (some ⟨g, 0, none⟩) L cap)) b A A2 cm (some ⟨g', 0, none⟩) L cp' rm 0 0 0 (fun _ => False) (fun _ => False) ∧
      (w2.setCell ⟨b, 1, none⟩ (.slice (some ⟨g, 0, none⟩) L cap)).ownsRow 0 5 1 (.slice (some ⟨g', 0, none⟩) L cp') L (bs T) ∧ Chg (fun k => k = b) w (w2.setCell ⟨b, 1, none⟩ (.slice (some ⟨g, 0, none⟩) L cap)) ∧ (∀ k, k < w.heap.size → φ' k = φ k)) := by
    have hbb := HH2.out.hb
    have h8b : (w2.setCell ⟨b, 1, none⟩ (.slice (some ⟨g, 0, none⟩) L cap)).heap[b]? = some (.cells #[.int .i64 rm, .slice (some ⟨g, 0, none⟩) L cap, .int .i64 0, .int .i64 0, .pointer (some ⟨A, 0, none⟩), .pointer (some ⟨A2, 0, none⟩), .int .i64 0] 55 (0, 0)) := by
      rw [setCell_eq_setRow w2 b 1 _ 55 (0, 0) _ hbb, setRow_heap w2 b _ _ 55 (0, 0) hbb]
      simp
    have h8o : ∀ k, k ≠ b → (w2.setCell ⟨b, 1, none⟩ (.slice (some ⟨g, 0, none⟩) L cap)).heap[k]? = w2.heap[k]? := fun k hk => by
      rw [setCell_eq_setRow w2 b 1 _ 55 (0, 0) _ hbb]
      exact setRow_other w2 b k _ hk
    have h8c : Chg (fun k => k = b) w2 (w2.setCell ⟨b, 1, none⟩ (.slice (some ⟨g, 0, none⟩) L cap)) := by
      rw [setCell_eq_setRow w2 b 1 _ 55 (0, 0) _ hbb]
      exact (Chg.refl (fun k => k = b) w2).set b _ (.inl rfl)
    generalize w2.setCell ⟨b, 1, none⟩ (.slice (some ⟨g, 0, none⟩) L cap) = W9 at *
    obtain ⟨ψ, hψ⟩ : ∃ ψ : Nat → Nat × Nat, ψ = fun k => if k < w.heap.size then φ k else (0, 0) := ⟨_, rfl⟩
    have hψ1 : ∀ k, k < w.heap.size → ψ k = φ k := fun k hk => by rw [hψ]; exact if_pos hk
    have hψ2 : ∀ k, w.heap.size ≤ k → ψ k = (0, 0) := fun k hk => by rw [hψ]; exact if_neg (by omega)
    have H0 := (H.out.retag hψ1).below HB2.out
    have hmx : ∀ t M, t ≠ 0 → Mx ψ t w2 M cm (fun _ => False) → Mx ψ t W9 M cm (fun _ => False) := by
      rintro t M ht ⟨mb, fs, c0, S, k1, k2⟩
      refine ⟨mb, fs, c0, S, ⟨k1.1.chg h8c (fun k hk e => ?_), k1.2⟩, k2⟩
      rw [show k = b from e, H0.hφ]
      exact fun e => ht e.symm
    obtain ⟨hg1, hg2, hg3⟩ := HG.out
    have hzw := HZW.out
    have hgl := (Array.getElem?_eq_some_iff.1 hg2).1
    refine ⟨ψ, g, cap, rfl, ⟨h8b, hmx 1 _ (by decide) H0.ha, hmx 2 _ (by decide) H0.hl, H0.hφ, fun g' e => ?_⟩, ⟨by rw [bs_len, hL]; omega, .inr ⟨g, cap, cur, rfl, Nat.zero_le _, (h8o g (by omega)).trans hg2, hg3⟩⟩, (Chg.below HB2.out).after h8c (fun j hj e => e), hψ1⟩
    obtain rfl : g = g' := by simpa using e
    exact ⟨by rw [hψ2 g (by omega)], Nat.lt_of_lt_of_le hgl h8c.2.2.2.1⟩
  go_wp2_with fail
  go_region_law_o (refine step_append_run rfl _ _ 32 32 rfl _ _ (by simp [Act.eval]) (by simp [Act.eval]) hrun ?_)
  all_goals go_wp2
  all_goals go_ret2
  all_goals (obtain ⟨φ', g2, cp2, ev, r1, r2, r3, r4⟩ := RES.out; exact ⟨φ', g2, cp2, rfl, r1, r2, r3, r4⟩)

end Go.Proofs.YtfgfomkhlhiiiaaR
