/- inbox: take. -/
import Derived.Test.YtpbiokcelglaaaaDoorRdy
import Derived.Deep.DeepAppendRoom
import Derived.OwnWalk
namespace Go.Proofs.YtpbiokcelglaaaaDoor
open Go.RowKit Go.Maps
set_option linter.unusedVariables false

theorem mkHid {p : Prop} (h : p) : Hid p := h
/-- Bytes as values. -/
def bs (l : List UInt8) : List Value := l.map fun x => .int .u8 (x.toNat : Int)
@[simp] theorem bs_length (l : List UInt8) : (bs l).length = l.length := by simp [bs]
theorem bs_append (l m : List UInt8) : bs (l ++ m) = bs l ++ bs m := by simp [bs]
theorem bs_one (l : List UInt8) : ∀ v ∈ bs l, v.oneCell' = true := by
  intro v hv
  obtain ⟨x, _, rfl⟩ := List.mem_map.1 hv
  rfl
theorem bs_get {l : List UInt8} {j : Nat} {u : Value} (h : (bs l)[j]? = some u) : ∃ hj : j < l.length, u = .int .u8 (l[j].toNat : Int) := by
  unfold bs at h
  rw [List.getElem?_map] at h
  obtain ⟨x, hx, rfl⟩ := Option.map_eq_some_iff.1 h
  obtain ⟨hj, rfl⟩ := List.getElem?_eq_some_iff.1 hx
  exact ⟨hj, rfl⟩
theorem info5 : (Tryd.prog.info? 5).map (fun i => (i.zero, i.size, i.bytes)) = some (some (.int .u8 0), 1, 1) := by kernel_rfl

/-- No byte from t on stands in a cell. -/
theorem shr_zero {f : Nat → Option UInt8} {t : Nat} : wdN (fun j => (f j).isSome) 64 / 2 ^ t = 0 ↔ ∀ j, t ≤ j → j < 64 → f j = none := by
  constructor
  · intro h j h1 h2
    have hb : (wdN (fun j => (f j).isSome) 64 / 2 ^ t).testBit (j - t) = false := by rw [h]; simp
    rw [Nat.testBit_div_two_pow, show j - t + t = j by omega, wdN_bit] at hb
    simpa [h2] using hb
  · intro h
    apply Nat.eq_of_testBit_eq
    intro i
    rw [Nat.testBit_div_two_pow, wdN_bit, Nat.zero_testBit]
    by_cases hi : i + t < 64
    · rw [h (i + t) (by omega) hi]; simp
    · simp [hi]

theorem Ib.out2 {W : World} {b mb n : Nat} {V : Nat → Option UInt8} {p R hd rm lm rc : Int} {kn : Bool} (h : Ib W b mb n V p R hd rm lm rc kn) : Mp W mb n V := h.2
set_option maxRecDepth 100000 in
set_option maxHeartbeats 1000000 in
theorem take_c (b mb n p N R : Nat) (V : Nat → Option UInt8) (hd rm lm rc : Int) (kn : Bool) (l : List UInt8) (W : World) (hI : Ib W b mb n V p R hd rm lm rc kn) (hl : l.length = N) (hV : ∀ j (h : j < l.length), V (p + j) = some l[j])
    (hp : p + N ≤ 4000000000000000000) (hN : N ≤ 140737488355328) (hhd : 0 ≤ hd ∧ hd ≤ 1000000000000000000) :
    Calls Tryd.prog 28 #[.pointer (some ⟨b, 0, none⟩), .int .i64 N] W fun e w' => e = .returned (.slice (some ⟨W.heap.size, 0, none⟩) N N) ∧
      w'.ownsRow W.heap.size 5 1 (.slice (some ⟨W.heap.size, 0, none⟩) N N) N (bs l) ∧ (∃ V', Ib w' b mb n V' (p + N : Nat) R (hd - N) rm lm rc kn ∧ ∀ j, p + N ≤ j → V' j = V j) ∧ Chg (fun j => j = b ∨ j = mb) W w' := by
  have HI : Aside (Ib W b mb n V p R hd rm lm rc kn) := hI
  have HV : Aside (∀ j (h : j < l.length), V (p + j) = some l[j]) := hV
  have HL : Aside (l.length = N) := hl
  obtain ⟨i5, hi5, hz5, hs5, hb5⟩ := info_parts info5
  have hlb : b < W.heap.size := (Array.getElem?_eq_some_iff.1 hI.1).1
  have hlm : mb < W.heap.size := hI.2.lt
  clear hI hV hl
  go_enter Tryd.func28, Tryd.ntmps28
  go_wp2_with (refine wpList_make_own _ rfl _ _ 31 rfl W.heap.size 5 i5 _ 1 Tryd.underlying31 hi5 hz5 hs5 .i64 .i64 _ N rfl rfl rfl (by rw [hb5]; omega) (by unfold maxLen; omega) (Nat.le_refl _) ?_; intro W1 hown1 hgr1)
  have HO1 : Aside _ := hown1
  have HG1 : Aside (Chg (fun j => j = b ∨ j = mb) W W1) := ⟨hgr1.os, hgr1.tape, hgr1.output, hgr1.size, fun j hj _ => hgr1.block j hj (by simp)⟩
  have HI1 : Aside (Ib W1 b mb n V p R hd rm lm rc kn) := Ib.kept (X := fun _ => False) HI.out ⟨hgr1.os, hgr1.tape, hgr1.output, hgr1.size, fun j hj _ => hgr1.block j hj (by simp)⟩ (fun h => h) (fun h => h)
  clear hown1 hgr1
  generalize hg : W.heap.size = g at *
  go_loopg [5] (N + 1) (fun kx s5 wr => ∃ (k : Nat) (V' : Nat → Option UInt8), s5 = .slice (some ⟨g, 0, none⟩) k N ∧ k ≤ N ∧ N - k + 1 ≤ kx ∧ Aside (wr.ownsRow g 5 1 (.slice (some ⟨g, 0, none⟩) k N) k (bs (l.take k))) ∧ Aside (Ib wr b mb n V' ((p + k : Nat) : Int) R hd rm lm rc kn) ∧ Aside (∀ j, p + k ≤ j → V' j = V j) ∧ Aside (Chg (fun j => j = b ∨ j = mb) W wr))
  case atStart => exact ⟨0, V, rfl, Nat.zero_le _, by omega, by show W1.ownsRow g 5 1 _ 0 (bs (l.take 0)); rw [List.take_zero]; exact HO1.out, HI1.out, fun _ _ => rfl, HG1.out⟩
  case round =>
    obtain ⟨k, V', rfl, hk, hkx, HO, HIk, HVk, HGk⟩ := hrel
    by_cases hlt : k < N
    · obtain ⟨P, hP⟩ : ∃ P, P = p + k := ⟨_, rfl⟩
      obtain ⟨q, fr, hr, hfr⟩ : ∃ q fr, P = 64 * q + fr ∧ fr < 64 := ⟨P / 64, P % 64, by omega, by omega⟩
      obtain ⟨to, hto⟩ : ∃ to, to = min 64 (fr + (N - k)) := ⟨_, rfl⟩
      rw [← hP] at HIk HVk
      have hPb : P ≤ 4000000000000000000 := by omega
      have hib : Ib wr b mb n V' P R hd rm lm rc kn := HIk.out
      have hlk := hib.2.look q (by omega)
      have c0 := hib.c0
      have c1 : wr.cell? ⟨b, 1, none⟩ = some (.int .i64 P) := by simp [World.cell?, hib.1]
      have f1 := hib.f6 1
      have e1 : (P : Int).tmod 64 = (fr : Int) := by rw [Int.tmod_eq_emod_of_nonneg (by omega)]; omega
      have e2 : IntKind.i64.wrap ((P : Int) - (fr : Int)) = ((64 * q : Nat) : Int) := by rw [IntKind.wrap_i64]; omega
      have e3 : IntKind.i64.wrap ((fr : Int) + (N : Int)) = (fr : Int) + (N : Int) := by rw [IntKind.wrap_i64]; omega
      have e4 : IntKind.i64.wrap ((fr : Int) + (N : Int) - (k : Int)) = (fr : Int) + (N : Int) - (k : Int) := by rw [IntKind.wrap_i64]; omega
      have e5 : (if (fr : Int) + (N : Int) - (k : Int) < 64 then (fr : Int) + (N : Int) - (k : Int) else 64) = (to : Int) := by split <;> omega
      have i1 : (k : Int) < (N : Int) := by omega
      obtain ⟨zz, hzz, hzs⟩ : ∃ zz : Array Value, (∀ w, (zeroValue 70).run Tryd.prog w = .ok (.agg zz) w) ∧ zz.size = 65 := ⟨(cellL (fun _ => none)).toArray, zero70, by simp [cellL_len]⟩
      obtain ⟨cl, hcl⟩ : ∃ cl, (cellA V' q).toArray = cl := ⟨_, rfl⟩
      have hcs : cl.size = 65 := by rw [← hcl]; simp [cellA_len]
      have hone : cl.all (·.oneCell') = true := by rw [← hcl]; exact cellL_one _
      rw [hcl] at hlk
      have hnew : (wr.alloc (.cells zz 70)).heap[wr.heap.size]? = some (.cells zz 70 (0, 0)) := heap_alloc_new wr _
      have HIB : Aside _ := hib
      have HP : Aside _ := hP
      have HR : Aside _ := hr
      have HTO : Aside _ := hto
      have HCL : Aside _ := hcl
      obtain ⟨ky, hky⟩ : ∃ ky, ((64 * q : Nat) : Int) = ky := ⟨_, rfl⟩
      rw [hky] at e2 hlk
      have HKY : Aside (((64 * q : Nat) : Int) = ky) := hky
      clear hky
      clear hib hr hto hP hcl
      go_wp2_with (first | (refine wpList_store_row rfl 70 (.tmp 9) (.tmp 39) rfl wr.heap.size cl rfl rfl 70 zz hnew (info70.trans (by rw [hcs])) (hzs.trans hcs.symm) hone ?_; refine Hid.out ?_) | fail)
      obtain ⟨X1, hX1⟩ : ∃ X1, (wr.alloc (.cells zz 70)).setRow wr.heap.size cl = X1 := ⟨_, rfl⟩
      have hC1 : X1.heap[wr.heap.size]? = some (.cells cl 70 (0, 0)) := by rw [← hX1]; exact setRow_heap _ _ _ _ 70 (0, 0) hnew
      have hch : Chg (fun _ => False) wr X1 := by
        rw [← hX1]
        exact ⟨rfl, rfl, rfl, by simp, fun k hk _ => by rw [setRow_other _ _ _ _ (by omega), Below.heap_alloc _ _ _ hk]⟩
      rw [hX1]
      have hwg : g < wr.heap.size := HO.out.lt g rfl |>.2
      have HOX : Aside (X1.ownsRow g 5 1 (.slice (some ⟨g, 0, none⟩) k N) k (bs (l.take k))) := by
        obtain ⟨h1, h2⟩ := HO.out
        refine ⟨h1, ?_⟩
        rcases h2 with ⟨h0, _⟩ | ⟨g', cap', cur, hv, hbg, hg', h3⟩
        · cases h0
        · cases hv
          exact .inr ⟨g, N, cur, rfl, hbg, (hch.2.2.2.2 g hwg (fun h => h)).trans hg', h3⟩
      have HIX : Aside (Ib X1 b mb n V' P R hd rm lm rc kn) := Ib.kept HIB.out hch (fun h => h) (fun h => h)
      have HCH : Aside (Chg (fun _ => False) wr X1) := hch
      have HC1 : Aside _ := hC1
      generalize hCb : wr.heap.size = Cb at *
      obtain ⟨wk, hwk⟩ : ∃ wk, wdN (fun j => (V' (64 * q + j)).isSome) 64 = wk := ⟨_, rfl⟩
      have cw : X1.cell? ⟨Cb, 0, none⟩ = some (.int .u64 wk) := by
        unfold World.cell?
        rw [HC1.out, ← HCL.out, ← hwk]
        simp [cellA, cellL]
      have hto1 : fr < to := by have := HTO.out; omega
      have hto2 : to ≤ 64 := by have := HTO.out; omega
      have hto3 : to - fr ≤ N - k := by have := HTO.out; omega
      have hcb : ∀ j u, (bs ((l.drop k).take (to - fr)))[j]? = some u → X1.cell? ((⟨Cb, 1 + fr, none⟩ : Addr).add j) = some u := by
        intro j u hj
        obtain ⟨hj', rfl⟩ := bs_get hj
        have hj2 : j < to - fr ∧ k + j < l.length := by simp at hj'; omega
        have hv := HVk.out (p + (k + j)) (by have := HP.out; omega)
        rw [HV.out (k + j) hj2.2] at hv
        have hn : ¬ (fr + j = 64 + 1000) := by omega
        have hx : X1.cell? ⟨Cb, 1 + (fr + j), none⟩ = some (.int .u8 (l[k + j].toNat : Int)) := by
          unfold World.cell?
          rw [HC1.out, ← HCL.out]
          have e : 64 * q + (fr + j) = p + (k + j) := by have := HR.out; have := HP.out; omega
          simp [cellA, cellL, Nat.add_comm 1 (fr + j), show fr + j < 64 by omega, e, hv]
        have ea : (⟨Cb, 1 + fr, none⟩ : Addr).add j = ⟨Cb, 1 + (fr + j), none⟩ := by
          unfold Addr.add
          by_cases h0 : j = 0
          · subst h0; rfl
          · rw [if_neg h0]; simp [Nat.add_assoc]
        rw [ea, hx]
        simp [List.getElem_take, List.getElem_drop]
      have HCB : Aside _ := hcb
      have hne : ¬ (64 = fr) := by omega
      have i2 : (fr : Int) ≤ (to : Int) := by omega
      have i3 : (to : Int) ≤ 64 := by omega
      refine mkHid ?_
      clear hX1 hC1 hch hnew hcb
      have hlen : (bs ((l.drop k).take (to - fr))).length = (to - fr) * 1 := by have := HL.out; simp; omega
      go_wp2_with (first | (at_builtin; refine wpList_append_own_spare _ rfl (.tmp 40) (.tmp 44) 31 rfl g 5 i5 1 Tryd.underlying31 hi5 hs5 g k N (bs (l.take k)) rfl HOX.out ⟨Cb, 1 + fr, none⟩ (to - fr) (64 - fr) (bs ((l.drop k).take (to - fr))) rfl hlen HCB.out (bs_one _) (by omega) ?_; intro X2 hown2 hgr2; refine Hid.out ?_) | fail)
      have hbs : bs (l.take k) ++ bs ((l.drop k).take (to - fr)) = bs (l.take (k + (to - fr))) := by rw [← bs_append, List.take_add]
      rw [hbs] at hown2
      have HIX2 : Aside (Ib X2 b mb n V' P R hd rm lm rc kn) := Ib.kept (X := fun j => j = g) HIX.out ⟨hgr2.os, hgr2.tape, hgr2.output, hgr2.size, fun j hj hx => hgr2.block j hj (by simpa using hx)⟩ (by omega) (by omega)
      have HO2 : Aside (X2.ownsRow g 5 1 (.slice (some ⟨g, 0, none⟩) (k + (to - fr)) N) (k + (to - fr)) (bs (l.take (k + (to - fr))))) := hown2
      have hCC : Cb < X1.heap.size := (Array.getElem?_eq_some_iff.1 HC1.out).1
      have cw2 : X2.cell? ⟨Cb, 0, none⟩ = some (.int .u64 wk) := (World.cell?_of_block (w := X1) (a := ⟨Cb, 0, none⟩) (hgr2.block Cb hCC (by simp; omega))).trans cw
      have d1 : X2.cell? ⟨b, 1, none⟩ = some (.int .i64 P) := by
        have h := HIX2.out
        simp [World.cell?, h.1]
      have d0 := Ib.c0 HIX2.out
      have g1 := Ib.f6 HIX2.out 1
      have HG2 : Aside (Chg (fun j => j = b ∨ j = mb) W X2) := by
        refine Chg.andThen (X := fun j => j = g) (Chg.andThen (X := fun _ => False) HGk.out HCH.out (fun j _ h => False.elim h)) ⟨hgr2.os, hgr2.tape, hgr2.output, hgr2.size, fun j hj hx => hgr2.block j hj (by simpa using hx)⟩ (fun j hj e => by omega)
      have w1 : IntKind.i64.wrap ((to : Int) - (fr : Int)) = (to : Int) - (fr : Int) := by rw [IntKind.wrap_i64]; omega
      obtain ⟨P', hP'⟩ : ∃ P' : Nat, P' = P + (to - fr) := ⟨_, rfl⟩
      have w2 : IntKind.i64.wrap ((P : Int) + ((to : Int) - (fr : Int))) = (P' : Int) := by rw [IntKind.wrap_i64]; omega
      obtain ⟨X3, hX3⟩ : ∃ X3, X2.setCell ⟨b, 1, none⟩ (.int .i64 P') = X3 := ⟨_, rfl⟩
      have hI3 : Ib X3 b mb n V' P' R hd rm lm rc kn ∧ Chg (fun j => j = b) X2 X3 := by
        have h := HIX2.out
        rw [← hX3, setCell_eq_setRow X2 b 1 _ 49 (0, 0) _ h.1]
        have hne := Ib.ne h
        refine ⟨⟨?_, h.2.kept (setRow_other _ b mb _ (fun e => hne e.symm))⟩, rfl, rfl, rfl, by simp, fun k hk hx => setRow_other _ b k _ hx⟩
        rw [setRow_heap _ b _ _ 49 (0, 0) h.1]
        simp
      have HI3 : Aside (Ib X3 b mb n V' P' R hd rm lm rc kn) := hI3.1
      have HC3 : Aside (Chg (fun j => j = b) X2 X3) := hI3.2
      have hbC : b ≠ Cb := by omega
      have x0 := Ib.c0 hI3.1
      have xw : X3.cell? ⟨Cb, 0, none⟩ = some (.int .u64 wk) := (World.cell?_of_block (w := X2) (a := ⟨Cb, 0, none⟩) (hI3.2.2.2.2.2 Cb (Nat.lt_of_lt_of_le hCC hgr2.size) (by omega))).trans cw2
      have HGR : Aside (X3.ownsRow g 5 1 (.slice (some ⟨g, 0, none⟩) (k + (to - fr)) N) (k + (to - fr)) (bs (l.take (k + (to - fr))))) := by
        obtain ⟨h1, h2⟩ := HO2.out
        refine ⟨h1, ?_⟩
        rcases h2 with ⟨h0, _⟩ | ⟨g', cap', cur, hv, hbg, hg', h3⟩
        · cases h0
        · cases hv
          exact .inr ⟨g, N, cur, rfl, hbg, (HC3.out.2.2.2.2 g (Array.getElem?_eq_some_iff.1 hg').1 (by omega)).trans hg', h3⟩
      have HG3 : Aside (Chg (fun j => j = b ∨ j = mb) W X3) := Chg.andThen HG2.out HC3.out (fun j _ e => .inl e)
      have hk' : k + (to - fr) ≤ N := by omega
      have hkm : N - (k + (to - fr)) + 1 ≤ N - k := by omega
      have HPP : Aside (P' = p + (k + (to - fr))) := by have := HP.out; show _ = _; omega
      obtain ⟨sh, hsh⟩ : ∃ sh : Nat, wk / 2 ^ to = sh := ⟨_, rfl⟩
      have s1 : (wk : Int) / 2 ^ to = (sh : Int) := by rw [← hsh]; simp
      have HSH : Aside (sh = 0 ↔ ∀ j, to ≤ j → j < 64 → V' (64 * q + j) = none) := by show _ ↔ _; rw [← hsh, ← hwk]; exact shr_zero (f := fun j => V' (64 * q + j))
      refine mkHid ?_
      have HKK : Aside (k + to = k + (to - fr) + fr) := by show _ = _; omega
      generalize hm : k + (to - fr) = k2 at *
      clear hI3 hown2 hgr2 hbs hsh hwk hm cw hP' hlk c0 c1 f1 e1 e3 e4 e5
      by_cases hz : sh = 0
      · have s2 : ((sh : Int) == 0) = true := by simp [hz]
        have s3 : (sh : Int) = 0 := by omega
        obtain ⟨X4, hdel, hM4, hC4⟩ := Mp.drop (V' := fun i => if 64 * q ≤ i ∧ i < 64 * q + 64 then none else V' i) (Ib.out2 HI3.out) q (by have := HR.out; omega) 0 (fun j hj => if_pos (by omega)) (fun i hi => if_neg (by omega))
        have HI4 : Aside (Ib X4 b mb n (fun i => if 64 * q ≤ i ∧ i < 64 * q + 64 then none else V' i) P' R hd rm lm rc kn) := by
          have h := HI3.out
          exact ⟨(hC4.2.2.2.2 b (Array.getElem?_eq_some_iff.1 h.1).1 (fun e => Ib.ne h e)).trans h.1, hM4⟩
        have HG4 : Aside (Chg (fun j => j = b ∨ j = mb) W X4) := Chg.andThen HG3.out hC4 (fun j _ e => .inr e)
        have HO4 : Aside (X4.ownsRow g 5 1 (.slice (some ⟨g, 0, none⟩) k2 N) k2 (bs (l.take k2))) := by
          obtain ⟨h1, h2⟩ := HGR.out
          refine ⟨h1, ?_⟩
          rcases h2 with ⟨h0, _⟩ | ⟨g', cap', cur, hv, hbg, hg', h3⟩
          · cases h0
          · cases hv
            exact .inr ⟨g, N, cur, rfl, hbg, (hC4.2.2.2.2 g (Array.getElem?_eq_some_iff.1 hg').1 (by omega)).trans hg', h3⟩
        have HV4 : Aside (∀ j, p + k2 ≤ j → (fun i => if 64 * q ≤ i ∧ i < 64 * q + 64 then none else V' i) j = V j) := by
          intro j hj
          have h1 := HPP.out
          have h2 := HP.out
          have h3 := HR.out
          have hv := HVk.out j (by omega)
          show (if 64 * q ≤ j ∧ j < 64 * q + 64 then none else V' j) = V j
          split
          · rename_i hc
            have h4 := HKK.out
            have := (HSH.out.1 hz) (j - 64 * q) (by omega) (by omega)
            rw [show 64 * q + (j - 64 * q) = j by omega] at this
            rw [← hv, this]
          · exact hv
        generalize (fun i => if 64 * q ≤ i ∧ i < 64 * q + 64 then none else V' i) = V4 at HI4 HV4 hM4
        have hky : ((64 * q : Nat) : Int) = ky := HKY.out
        rw [hky] at hdel
        clear hM4 hC4 hz hky HKY
        go_wp2_with fail
        have h1 := HPP.out
        go_roundg (N - k2 + 1)
        case measure => omega
        case rel => exact ⟨k2, V4, rfl, hk', Nat.le_refl _, HO4.out, by rw [← h1]; exact HI4.out, HV4.out, HG4.out⟩
      · have s2 : ((sh : Int) == 0) = false := by simp [hz]
        have s3 : ¬ (sh : Int) = 0 := by omega
        have HV3 : Aside (∀ j, p + k2 ≤ j → V' j = V j) := fun j hj => HVk.out j (by have := HPP.out; have := HP.out; have := HKK.out; omega)
        go_wp2_with fail
        have h1 := HPP.out
        go_roundg (N - k2 + 1)
        case measure => omega
        case rel => exact ⟨k2, V', rfl, hk', Nat.le_refl _, HGR.out, by rw [← h1]; exact HI3.out, HV3.out, HG3.out⟩
    · obtain rfl : k = N := by omega
      have hib : Ib wr b mb n V' ((p + k : Nat) : Int) R hd rm lm rc kn := HIk.out
      have c3 : wr.cell? ⟨b, 3, none⟩ = some (.int .i64 hd) := by simp [World.cell?, hib.1]
      have f3 := hib.f6 3
      have i1 : ¬ (k : Int) < (k : Int) := by omega
      have w1 : IntKind.i64.wrap (hd - (k : Int)) = hd - (k : Int) := by rw [IntKind.wrap_i64]; omega
      have HF : Aside ((wr.setCell ⟨b, 3, none⟩ (.int .i64 (hd - (k : Int)))).ownsRow g 5 1 (.slice (some ⟨g, 0, none⟩) k k) k (bs l) ∧ (∃ V', Ib (wr.setCell ⟨b, 3, none⟩ (.int .i64 (hd - (k : Int)))) b mb n V' (p + k : Nat) R (hd - k) rm lm rc kn ∧ ∀ j, p + k ≤ j → V' j = V j) ∧ Chg (fun j => j = b ∨ j = mb) W (wr.setCell ⟨b, 3, none⟩ (.int .i64 (hd - (k : Int))))) := by
        have hne := Ib.ne hib
        rw [setCell_eq_setRow wr b 3 _ 49 (0, 0) _ hib.1]
        refine ⟨?_, ⟨V', ⟨?_, hib.2.kept (setRow_other _ b mb _ (fun e => hne e.symm))⟩, HVk.out⟩, Chg.andThen (X := fun j => j = b) HGk.out ⟨rfl, rfl, rfl, by simp, fun k hk hx => setRow_other _ b k _ hx⟩ (fun j _ e => .inl e)⟩
        · obtain ⟨h1, h2⟩ := HO.out
          rw [← HL.out, List.take_length] at h1 h2
          rw [HL.out] at h1 h2
          refine ⟨h1, ?_⟩
          rcases h2 with ⟨h0, _⟩ | ⟨g', cap', cur, hv, hbg, hg', h3⟩
          · cases h0
          · cases hv
            exact .inr ⟨g, k, cur, rfl, hbg, (setRow_other _ b g _ (by omega)).trans hg', h3⟩
        · rw [setRow_heap _ b _ _ 49 (0, 0) hib.1]
          simp
      clear hib HO HIk HVk HGk
      go_wp2
      go_ret
      exact ⟨rfl, HF.out⟩
end Go.Proofs.YtpbiokcelglaaaaDoor
