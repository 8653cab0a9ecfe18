/- frame.All, over what Read tells. -/
import Derived.Test.YtfejhlfcabbkcaaDoorRo
import Derived.Great.BuildSlice
namespace Go.Proofs.YtfejhlfcabbkcaaDoor
open Go.ChangeShapes Go.WideShapes Go.ChangeAt Go.RowKit
set_option linter.unusedVariables false
set_option maxRecDepth 100000

theorem appr {P : Program} {ops : Array Oper} {rest : List Oper} {o : Oper} {a : Act} {w : World} {Q : Exit → Act → World → Prop}
    (hg : o.guard = none) (d x : Operand) (dT sT : TypeId) (hop : o.op = Op.call { callee := Callee.builtin Builtin.append, args := #[d, x], argTypes := #[dT, sT] })
    (v u : Value) (hd : a.eval d = v) (hx : a.eval x = u) {v' : Value} {w' : World} (hr : (Builtin.append_ #[dT, sT] o.type #[v, u]).run P w = .ok v' w') (hK : wpList P ops Q rest (a.put o.dst v') w') :
    wpList P ops Q (o :: rest) a w :=
  wpList_plain hg fun K hK' => (by
    unfold Oper.wp
    simp [execOp, hop, resolve, invoke, builtin, hd, hx, hr, Result.andThen]
    exact hK' _ _ hK)
def fcs (fs : List Fr) : List Value := fs.flatMap Fr.cells
/-- Frames as they lie. -/
def Fw (w : World) (o : Option Addr) (c : Nat) (fs : List Fr) : Prop := Rw 33 42 w o fs.length c (fcs fs)
theorem info33 : (Tryd.prog.info? 33).map (fun i => (i.zero, i.size, i.bytes)) = some (some (.agg (fz 0).cells.toArray), 42, 208) := by kernel_rfl
theorem Fw.push {w : World} {o : Option Addr} {c : Nat} {fs : List Fr} (h : Fw w o c fs) (f : Fr) (hf : f.std) (hl : fs.length ≤ 1000) :
    ∃ g off c' w3, (∀ ty, (Builtin.append_ #[22, 22] ty #[.slice o fs.length c, .slice (some ⟨w.heap.size, 0, none⟩) 1 1]).run Tryd.prog (w.alloc (.cells f.cells.toArray 33)) = .ok (.slice (some ⟨g, off, none⟩) (fs.length + 1) c') w3) ∧
      Fw w3 (some ⟨g, off, none⟩) c' (fs ++ [f]) ∧ Chg (Blk o) w w3 ∧ (Blk o g ∨ w.heap.size ≤ g) := by
  obtain ⟨i, hq, hz, hi, hby⟩ := info_parts info33
  have hT := heap_alloc_new w (.cells f.cells.toArray 33)
  have hs : Src Tryd.prog 42 22 (.slice (some ⟨w.heap.size, 0, none⟩) 1 1) 1 f.cells (w.alloc (.cells f.cells.toArray 33)) := Src.ofSlice _ Tryd.underlying22 ⟨w.heap.size, 0, none⟩ _ 1 f.cells (by rw [hf.one.2]) (fun j u hu => by
    rw [Addr.add_lit]
    simp only [World.cell?, hT, Nat.zero_add]
    rw [if_neg (by simp)]
    simpa using hu) (by
    have := hf.one.1
    rw [List.all_toArray] at this
    exact List.all_eq_true.1 this)
  obtain ⟨g, off, c', w3, h1, h2, h3, h4, h5⟩ := Rw.append Tryd.underlying22 hq hz hi hby rfl (Rw.bel h (bel1 w _)) hs (by omega) (by omega) (by omega)
  refine ⟨g, off, c', w3, h1, ?_, (((Chg.refl (Blk o) w).alloc _).trans h3), ?_⟩
  · unfold Fw
    have : fcs (fs ++ [f]) = fcs fs ++ f.cells := by simp [fcs]
    rw [this, List.length_append]
    exact h2
  · rcases h4 with h4 | h4
    · exact .inl h4
    · right
      rw [h4]
      simp
/-- A row of one frame built. -/
theorem wpList_bs1 {ops : Array Oper} {rest : List Oper} {o : Oper} {a : Act} {w : World} {Q : Exit → Act → World → Prop} (hg : o.guard = none) (x : Operand) (ho : o.op = .buildSlice 22 1 #[(0, x)]) (cs : Array Value) (hx : a.eval x = .agg cs) (hcs : cs.size = 42)
    (h : wpList Tryd.prog ops Q rest (a.put o.dst (.slice (some ⟨w.heap.size, 0, none⟩) 1 1)) (w.alloc (.cells cs 33))) : wpList Tryd.prog ops Q (o :: rest) a w := by
  obtain ⟨ie, hq, hzz, hsi, _⟩ := info_parts info33
  refine wpList_buildSlice hg 22 33 1 #[(0, x)] ho cs ie _ Tryd.underlying22 hq hzz (by rw [hsi]; decide) (by rw [hsi]; decide) ?_ h
  have e : ((#[(0, x)] : Array (Nat × Operand)).map fun (i, x) => (i, a.eval x)).toList = [(0, .agg cs)] := by simp [hx]
  rw [e, hsi]
  have := Great.fill_whole (s := 42) (by decide) [Value.agg cs] ((Array.range (1 * 42)).map ((Value.agg (fz 0).cells.toArray).cells[· % (Value.agg (fz 0).cells.toArray).cells.size]!)) (by intro v hv; simp at hv; subst hv; exact hcs) (by simp)
  simpa [Value.cells] using this
/-- What Read tells at a place, whatever the world above. -/
def Rds (w : World) (ao : Option Addr) (c : Nat) (l : List UInt8) (at' : Nat) (f : Fr) (b : Nat) : Prop := ∀ X, Below w.heap.size w X → Calls Tryd.prog 6 #[.slice ao l.length c, .int .i64 at'] X fun e w' => e = .returned (.tuple #[.agg f.cells.toArray, .int .i64 b, .nilIface]) ∧ Below X.heap.size X w'
/-- Read at one place after the other. -/
def Rdl (w : World) (ao : Option Addr) (c : Nat) (l : List UInt8) : Nat → List Fr → Prop
  | a, [] => a = l.length
  | a, f :: fs => a < l.length ∧ f.std ∧ ∃ b, Rds w ao c l a f b ∧ Rdl w ao c l b fs
set_option maxHeartbeats 2000000 in
theorem all_c (w : World) (ao : Option Addr) (c : Nat) (l : List UInt8) (fs : List Fr) (h : Rdl w ao c l 0 fs) (hn : 0 < fs.length) (hl : fs.length ≤ 900) (hll : l.length ≤ 90000) :
    Calls Tryd.prog 4 #[.slice ao l.length c] w fun e w' => ∃ o c', e = .returned (.tuple #[.slice o fs.length c', .nilIface]) ∧ Fw w' o c' fs ∧ Below w.heap.size w w' := by
  have HH : Aside _ := h
  clear h
  obtain ⟨LN, hLN⟩ : ∃ LN, l.length = LN := ⟨_, rfl⟩
  have HLN : Aside _ := hLN
  rw [hLN] at hll ⊢
  clear hLN
  obtain ⟨N, hN⟩ : ∃ N, fs.length = N := ⟨_, rfl⟩
  have HNN : Aside _ := hN
  rw [hN] at hn hl ⊢
  clear hN
  go_enter Tryd.func4, Tryd.ntmps4
  go_wp2_with fail
  go_loopg [4, 5] N (fun kx s4 s5 wr => ∃ (k : Nat) (o : Option Addr) (c' a : Nat), s4 = .slice o k c' ∧ s5 = .int .i64 (a : Int) ∧ k ≤ N ∧ N - k ≤ kx ∧ (k < N ↔ a < LN) ∧ a ≤ LN ∧ Aside (Below w.heap.size w wr ∧ Fw wr o c' (fs.take k) ∧ (∀ j, Blk o j → w.heap.size ≤ j) ∧ Rdl w ao c l a (fs.drop k)))
  case atStart =>
    refine ⟨0, none, 0, 0, rfl, rfl, by omega, by omega, ?_, by omega, Below.refl _ _, Rw.nil _ _ _, fun j hj => hj.no.elim, by simpa using HH.out⟩
    have := HH.out
    cases hfs : fs with
    | nil => have := HNN.out; rw [hfs] at this; simp at this; omega
    | cons f t => rw [hfs] at this; have h1 := this.1; rw [HLN.out] at h1; omega
  case round =>
    obtain ⟨k, o, c', a, rfl, rfl, hk, hgk, hka, haL, HI⟩ := hrel
    by_cases hlt : k < N
    · have halt : (a : Int) < (LN : Int) := by have := hka.1 hlt; omega
      obtain ⟨hB, hF, hO, hR⟩ := HI.out
      have hkf : k < fs.length := by rw [HNN.out]; exact hlt
      rw [List.drop_eq_getElem_cons hkf] at hR
      obtain ⟨_, hstd, b, hrd, hR2⟩ := hR
      have htk : fs.take (k + 1) = fs.take k ++ [fs[k]] := List.take_succ_eq_append_getElem hkf
      have hlk : (fs.take k).length = k := by rw [List.length_take]; omega
      have hbn : (k + 1 < N ↔ b < LN) ∧ b ≤ LN := by
        rw [← HLN.out]
        by_cases h1 : k + 1 < N
        · rw [List.drop_eq_getElem_cons (show k + 1 < fs.length by rw [HNN.out]; exact h1)] at hR2
          have := hR2.1
          exact ⟨⟨fun _ => this, fun _ => h1⟩, by omega⟩
        · rw [List.drop_of_length_le (by rw [HNN.out]; omega)] at hR2
          have : b = l.length := hR2
          exact ⟨⟨fun h => absurd h h1, fun h => by omega⟩, by omega⟩
      generalize fs[k] = f at *
      have hre := hrd wr hB
      rw [HLN.out] at hre
      have HB : Aside _ := hB
      have HF : Aside _ := hF
      have HO : Aside _ := hO
      have HR2 : Aside _ := hR2
      have HTK : Aside _ := htk
      have HLK : Aside _ := hlk
      have HBN : Aside _ := hbn
      have HSTD : Aside _ := hstd
      have hone : Aside (f.cells.toArray.all (·.oneCell') = true) := hstd.one.1
      have hX : Aside ((Tryd.prog.info? 33).map (·.size) = some f.cells.toArray.size) := by show _ = some f.cells.length; rw [hstd.one.2]; exact i33s
      have hXz : Aside ((fz 0).cells.toArray.size = f.cells.toArray.size) := by show _ = f.cells.length; rw [hstd.one.2]; rfl
      clear HI hB hF hO hrd hR2 htk hlk hbn hkf hstd
      go_wp2_with fail
      refine hre.mono ?_
      rintro e X1 ⟨rfl, hb1⟩
      obtain ⟨G, hG⟩ : ∃ G, X1.heap.size = G := ⟨_, rfl⟩
      obtain ⟨Z1, hZ1⟩ : ∃ Z1, X1.alloc (.cells (fz 0).cells.toArray 33) = Z1 := ⟨_, rfl⟩
      have hz1 : Z1.heap[G]? = some (.cells (fz 0).cells.toArray 33 (0, 0)) := by rw [← hZ1, ← hG]; exact heap_alloc_new X1 _
      have hbz : Below wr.heap.size wr Z1 := by rw [← hZ1]; exact bel_trans hb1 (bel1 X1 _)
      have hc2 : Chg (fun j => j = G) Z1 (Z1.setRow G f.cells.toArray) := Chg.setRow G _ rfl
      have hz2 := setRow_heap Z1 G _ f.cells.toArray 33 (0, 0) hz1
      have hwG : wr.heap.size ≤ G := by rw [← hG]; exact hb1.size
      have hF2 : Fw (Z1.setRow G f.cells.toArray) o c' (fs.take k) := Rw.chg (Rw.bel HF.out hbz) hc2 fun j hj e => by have := Rw.lt HF.out hj; omega
      obtain ⟨g, off, c2, w3, hap, hF3, hc3, hg3⟩ := hF2.push f HSTD.out (by rw [HLK.out]; omega)
      rw [HLK.out] at hap
      rw [← HTK.out] at hF3
      have hB3 : Below w.heap.size w w3 := by
        have b1 : Below w.heap.size w (Z1.setRow G f.cells.toArray) := (HB.out.trans (hbz.mono HB.out.size)).trans (hc2.toBelow (Nat.le_trans HB.out.size hbz.size) (fun j hj e => by have := HB.out.size; omega))
        exact b1.trans (hc3.toBelow b1.size (fun j hj hk => by have := HO.out j hk; omega))
      have hO3 : ∀ j, Blk (some ⟨g, off, none⟩) j → w.heap.size ≤ j := fun j hj => by
        rw [hj.of]
        rcases hg3 with h | h
        · exact HO.out g h
        · have h1 := hbz.size
          have h2 := hc2.2.2.2.1
          have h3 := HB.out.size
          omega
      have HZ1 : Aside _ := hz1
      have HZ2 : Aside _ := hz2
      have HAP : Aside _ := hap 22
      have HE : Aside (Below w.heap.size w w3 ∧ Fw w3 (some ⟨g, off, none⟩) c2 (fs.take (k + 1)) ∧ (∀ j, Blk (some ⟨g, off, none⟩) j → w.heap.size ≤ j) ∧ Rdl w ao c l b (fs.drop (k + 1))) := ⟨hB3, hF3, hO3, HR2.out⟩
      simp only [fz, Fr.cells, List.replicate, List.cons_append, List.nil_append] at hZ1
      have hsz : Aside (f.cells.toArray.size = 42) := HSTD.out.one.2
      clear hre hb1 hz1 hbz hc2 hz2 hF2 hap hF3 hc3 hg3 hB3 hO3 HB HF HO HR2
      go_wp2_with (first | (refine wpList_store_row rfl 33 _ _ rfl G f.cells.toArray rfl rfl 33 _ HZ1.out hX.out hXz.out hone.out ?_) | (refine wpList_load_row rfl 33 (.tmp 6) rfl G rfl 33 _ (0, 0) _ HZ2.out hu33 rfl hX.out ?_) | (refine wpList_bs1 rfl _ rfl f.cells.toArray rfl hsz.out ?_) | (refine appr rfl _ _ 22 22 rfl _ _ rfl rfl HAP.out ?_))
      go_roundg (N - (k + 1))
      case measure => omega
      case rel => exact ⟨k + 1, _, c2, b, rfl, rfl, by omega, Nat.le_refl _, HBN.out.1, HBN.out.2, HE.out⟩
    · obtain rfl : k = N := by omega
      have halt : ¬ (a : Int) < (LN : Int) := by
        have : ¬ a < LN := fun h => hlt (hka.2 h)
        omega
      obtain ⟨hB, hF, hO, hR⟩ := HI.out
      have hn0 : ((k : Int) == 0) = false := by simp; omega
      have hn1 : ¬ (k : Int) = 0 := by omega
      have HE : Aside (Fw wr o c' fs ∧ Below w.heap.size w wr) := ⟨by rw [← HNN.out, List.take_length] at hF; exact hF, hB⟩
      clear HI hB hF hO hR hka
      go_wp2
      go_ret2
      exact ⟨o, c', rfl, HE.out⟩
end Go.Proofs.YtfejhlfcabbkcaaDoor
