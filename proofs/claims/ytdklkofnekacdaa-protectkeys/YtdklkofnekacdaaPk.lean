/- protect: keys; Make. -/
import Derived.Test.YtdklkofnekacdaaDr
import Derived.Test.YtdklkofnekacdaaAp
namespace Go.Proofs.Ytdklkofnekacdaa
open Go.RowKit Go.Shelf Go.Lib
set_option linter.unusedVariables false

/-- Cells that are none of a vault's stay. -/
def Kc (w w' : World) : Prop := ∀ (b : Nat) (cs : Array Value) (t : Nat) (fr : Nat × Nat), w.heap[b]? = some (Obj.cells cs t fr) → t ≠ 71 → t ≠ 67 → w'.heap[b]? = some (Obj.cells cs t fr)
theorem Kc.of_bel {w w' : World} (h : Below w.heap.size w w') : Kc w w' := fun b cs t fr hb _ _ => heap_bel hb h
theorem Kc.trans {a b c : World} (h : Kc a b) (k : Kc b c) : Kc a c := fun x cs t fr hb h1 h2 => k x cs t fr (h x cs t fr hb h1 h2) h1 h2
theorem Kc.of_vc {n₀ V G c M : Nat} {w w' : World} {L : List Tm} (h : Vc V G M w w') (hv : Va n₀ w V G c M L) : Kc w w' := by
  intro b cs t fr hb h1 h2
  obtain ⟨R, r1, _⟩ := hv.hG
  obtain ⟨es, ck, m1, _⟩ := hv.hM
  refine (h.2.2.2.2 b (Array.getElem?_eq_some_iff.1 hb).1 ?_).trans hb
  rintro (rfl | rfl | rfl)
  · rw [hv.hV] at hb; injection hb with hb; injection hb with _ hb _; exact h1 hb.symm
  · rw [r1] at hb; injection hb with hb; injection hb with _ hb _; exact h2 hb.symm
  · rw [m1] at hb; cases hb
section
variable {W0 w w' : World} {V : Nat} {L : List Tm}
theorem Ag.setAny (h : Ag W0 w V L) {B t : Nat} {cs : Array Value} (hB : w.heap[B]? = some (.cells cs t (0, 0))) (h1 : t ≠ 71) (h2 : t ≠ 67) (hge : W0.heap.size ≤ B) (ds : Array Value) : Ag W0 (w.setRow B ds) V L := by
  obtain ⟨G, c, M, hv⟩ := h.va
  obtain ⟨R, r1, _⟩ := hv.hG
  obtain ⟨es, ck, m1, _⟩ := hv.hM
  refine ⟨bel_set h.bel hge _, G, c, M, hv.keep (setRow_other _ _ _ _ ?_) (setRow_other _ _ _ _ ?_) (setRow_other _ _ _ _ ?_)⟩
  · rintro rfl; rw [hv.hV] at hB; injection hB with hB; injection hB with _ hB _; exact h1 hB.symm
  · rintro rfl; rw [r1] at hB; injection hB with hB; injection hB with _ hB _; exact h2 hB.symm
  · rintro rfl; rw [m1] at hB; cases hB
/-- Derive of a term that is new. -/
theorem Ag.der (h : Ag W0 w V L) (hle : L.length ≤ 1000) (k : Nat) (hk : k < L.length) (S : ByteArray) (hS0 : S.size ≠ 0) (hS1 : S.size ≤ 1000) (o : Option Addr) (cp : Nat) (l : List UInt8) (hS : Sl w o l) (hn : (⟨2, k, 0, S, ⟨l.toArray⟩⟩ : Tm) ∉ L) :
    Calls Try.prog 24 #[.pointer (some ⟨V, 0, none⟩), hv (nameL k), .string S, .slice o l.length cp] w fun e w' => e = .returned (.tuple #[hv (nameL L.length), .int .i64 0]) ∧ Ag W0 w' V (L ++ [⟨2, k, 0, S, ⟨l.toArray⟩⟩]) ∧ Kc w w' := by
  obtain ⟨G, c, M, hv⟩ := h.va
  refine (derive_yes hv (by omega) k hk S hS0 (by omega) o cp l hS).mono ?_
  rintro e w' ⟨i, rfl, _, hm⟩
  have hm' := hm
  obtain ⟨rfl, h1, _⟩ := h.made_new hn hv hm
  obtain ⟨G', c', L', a1, a2, _⟩ := hm'
  exact ⟨rfl, h1, Kc.of_vc a2 hv⟩
/-- Derive of one that is there. -/
theorem Ag.der_old (h : Ag W0 w V L) (hle : L.length ≤ 1000) (k : Nat) (hk : k < L.length) (S : ByteArray) (hS0 : S.size ≠ 0) (hS1 : S.size ≤ 1000) (o : Option Addr) (cp : Nat) (l : List UInt8) (hS : Sl w o l) (i0 : Nat) (hn : ∀ i : Nat, L[i]? = some ⟨2, k, 0, S, ⟨l.toArray⟩⟩ ↔ i = i0) :
    Calls Try.prog 24 #[.pointer (some ⟨V, 0, none⟩), hv (nameL k), .string S, .slice o l.length cp] w fun e w' => e = .returned (.tuple #[hv (nameL i0), .int .i64 0]) ∧ Ag W0 w' V L ∧ Kc w w' := by
  obtain ⟨G, c, M, hv⟩ := h.va
  refine (derive_yes hv (by omega) k hk S hS0 (by omega) o cp l hS).mono ?_
  rintro e w' ⟨i, rfl, _, hm⟩
  have hm' := hm
  obtain ⟨h0, h1, _⟩ := h.made_old (List.mem_of_getElem? ((hn i0).2 rfl)) hv hm
  obtain rfl := (hn i).1 h0
  obtain ⟨G', c', L', a1, a2, _⟩ := hm'
  exact ⟨rfl, h1, Kc.of_vc a2 hv⟩
end
theorem u33 : Try.prog.underlying 33 = some (.struct (Try.prog.fieldsOf 33)) := by kernel_rfl
theorem hi33 : (Try.prog.info? 33).map (·.size) = some 48 := by kernel_rfl
def z48 : List UInt8 := List.replicate 48 0
theorem z48_len : z48.length = 48 := rfl
theorem hz33 (w : World) : w.alloc (.cells #[.int .u8 0, .int .u8 0, .int .u8 0, .int .u8 0, .int .u8 0, .int .u8 0, .int .u8 0, .int .u8 0, .int .u8 0, .int .u8 0, .int .u8 0, .int .u8 0, .int .u8 0, .int .u8 0, .int .u8 0, .int .u8 0, .int .u8 0, .int .u8 0, .int .u8 0, .int .u8 0, .int .u8 0, .int .u8 0, .int .u8 0, .int .u8 0, .int .u8 0, .int .u8 0, .int .u8 0, .int .u8 0, .int .u8 0, .int .u8 0, .int .u8 0, .int .u8 0, .int .u8 0, .int .u8 0, .int .u8 0, .int .u8 0, .int .u8 0, .int .u8 0, .int .u8 0, .int .u8 0, .int .u8 0, .int .u8 0, .int .u8 0, .int .u8 0, .int .u8 0, .int .u8 0, .int .u8 0, .int .u8 0] 33) = w.alloc (.cells (hl z48).toArray 33) := rfl
section
variable {ops : Array Oper} {rest : List Oper} {o : Oper} {a : Act} {w : World} {Q : Exit → Act → World → Prop}
theorem ld33 (hgd : o.guard = none) (x : Operand) (ho : o.op = .load 33 x) (g : Nat) (hx : a.eval x = .pointer (some ⟨g, 0, none⟩)) (H : List UInt8) (hg : w.heap[g]? = some (.cells (hl H).toArray 33 (0, 0))) (hs : H.length = 48)
    (h : wpList Try.prog ops Q rest (a.put o.dst (hv H)) w) : wpList Try.prog ops Q (o :: rest) a w :=
  wpList_load_row hgd 33 x ho g hx 33 _ (0, 0) _ hg u33 rfl (hi33.trans (by simp [hs])) h
theorem st33 (hgd : o.guard = none) (x y : Operand) (ho : o.op = .store 33 x y) (g : Nat) (H : List UInt8) (hx : a.eval x = .pointer (some ⟨g, 0, none⟩)) (hy : a.eval y = hv H) (G : List UInt8)
    (hg : w.heap[g]? = some (.cells (hl G).toArray 33 (0, 0))) (hs : H.length = 48) (hG : G.length = 48)
    (h : wpList Try.prog ops Q rest (a.put o.dst undef) (w.setRow g (hl H).toArray)) : wpList Try.prog ops Q (o :: rest) a w :=
  wpList_store_row hgd 33 x y ho g _ hx hy 33 _ hg (hi33.trans (by simp [hs])) (by simp [hs, hG]) (hl_one H) h
end
theorem res_33 {fn : Func} {p u : Tmp} (h : fn.results = #[.cell p 33, .tmp u]) (tmps : Array Value) (w : World) (g : Nat) (H : List UInt8) (hp : tmps.getD p undef = .pointer (some ⟨g, 0, none⟩))
    (hg : w.heap[g]? = some (.cells (hl H).toArray 33 (0, 0))) (hs : H.length = 48) : (results fn tmps).run Try.prog w = .ok (.tuple #[hv H, tmps.getD u undef]) w := by
  rw [results_cell_tmp h, hp]
  simp only [asAddr, Sem.run_pure, Result.andThen_ok, run_loadVar_row w g 33 33 _ (0, 0) _ hg u33 rfl (hi33.trans (by simp [hs]))]
theorem unc {n : Nat} {H : List UInt8} (h : H.length = n + 1) : ∃ x t, H = x :: t ∧ t.length = n := by
  cases H with
  | nil => cases h
  | cons x t => exact ⟨x, t, rfl, by simpa using h⟩
theorem ls16 {H : List UInt8} (h : H.length = 16) : ∃ a0 a1 a2 a3 a4 a5 a6 a7 a8 a9 a10 a11 a12 a13 a14 a15, H = [a0, a1, a2, a3, a4, a5, a6, a7, a8, a9, a10, a11, a12, a13, a14, a15] := by
  obtain ⟨a0, H0, rfl, h0⟩ := unc h
  obtain ⟨a1, H1, rfl, h1⟩ := unc h0
  obtain ⟨a2, H2, rfl, h2⟩ := unc h1
  obtain ⟨a3, H3, rfl, h3⟩ := unc h2
  obtain ⟨a4, H4, rfl, h4⟩ := unc h3
  obtain ⟨a5, H5, rfl, h5⟩ := unc h4
  obtain ⟨a6, H6, rfl, h6⟩ := unc h5
  obtain ⟨a7, H7, rfl, h7⟩ := unc h6
  obtain ⟨a8, H8, rfl, h8⟩ := unc h7
  obtain ⟨a9, H9, rfl, h9⟩ := unc h8
  obtain ⟨a10, H10, rfl, h10⟩ := unc h9
  obtain ⟨a11, H11, rfl, h11⟩ := unc h10
  obtain ⟨a12, H12, rfl, h12⟩ := unc h11
  obtain ⟨a13, H13, rfl, h13⟩ := unc h12
  obtain ⟨a14, H14, rfl, h14⟩ := unc h13
  obtain ⟨a15, H15, rfl, h15⟩ := unc h14
  obtain rfl : H15 = [] := List.length_eq_zero_iff.1 h15
  exact ⟨_, _, _, _, _, _, _, _, _, _, _, _, _, _, _, _, rfl⟩
theorem bd33 {A B C : List UInt8} (hA : A.length = 16) (hB : B.length = 16) (hC : C.length = 16) (X : World) : (Instr.build 33 #[(0, hv A), (1, hv B), (2, hv C)]).run Try.prog X = .ok (hv (A ++ B ++ C)) X := by
  obtain ⟨a0, a1, a2, a3, a4, a5, a6, a7, a8, a9, a10, a11, a12, a13, a14, a15, rfl⟩ := ls16 hA
  obtain ⟨b0, b1, b2, b3, b4, b5, b6, b7, b8, b9, b10, b11, b12, b13, b14, b15, rfl⟩ := ls16 hB
  obtain ⟨c0, c1, c2, c3, c4, c5, c6, c7, c8, c9, c10, c11, c12, c13, c14, c15, rfl⟩ := ls16 hC
  exact run_build X 33 _ _ (by kernel_rfl)
theorem wb33 {ops : Array Oper} {rest : List Oper} {o : Oper} {a : Act} {w : World} {Q : Exit → Act → World → Prop} (hg : o.guard = none) (x y z : Operand) (ho : o.op = .build 33 #[(0, x), (1, y), (2, z)]) (A B C : List UInt8) (hx : a.eval x = hv A) (hy : a.eval y = hv B) (hz : a.eval z = hv C) (D : List UInt8) (hD : ∀ X, (Instr.build 33 #[(0, hv A), (1, hv B), (2, hv C)]).run Try.prog X = .ok (hv D) X)
    (h : wpList Try.prog ops Q rest (a.put o.dst (hv D)) w) : wpList Try.prog ops Q (o :: rest) a w :=
  wpList_plain hg fun K hK => by
    unfold Oper.wp execOp
    simp only [ho, List.map_toArray, List.map_cons, List.map_nil, hx, hy, hz, Sem.run_bind, hD, Result.andThen_ok, Sem.run_pure]
    exact hK _ _ h
/-- Labels. -/
abbrev bKey : ByteArray := ⟨#[107, 101, 121]⟩
abbrev bMask : ByteArray := ⟨#[109, 97, 115, 107]⟩
abbrev bNext : ByteArray := ⟨#[110, 101, 120, 116]⟩
abbrev bInit : ByteArray := ⟨#[105, 110, 105, 116, 105, 97, 108]⟩
abbrev bCli : ByteArray := ⟨#[99, 108, 105, 101, 110, 116]⟩
abbrev bSer : ByteArray := ⟨#[115, 101, 114, 118, 101, 114]⟩
/-- A term that is derived of no bytes. -/
abbrev dt (k : Nat) (S : ByteArray) : Tm := ⟨2, k, 0, S, ⟨#[]⟩⟩
section
variable {W0 w w' : World} {V : Nat} {L : List Tm}
set_option maxRecDepth 100000 in
set_option maxHeartbeats 400000 in
theorem make_c (h : Ag W0 w V L) (hle : L.length ≤ 900) (k : Nat) (hk : k < L.length) (h1 : dt k bKey ∉ L) (h2 : dt k bMask ∉ L) :
    Calls Try.prog 13 #[.pointer (some ⟨V, 0, none⟩), hv (nameL k)] w fun e w' => e = .returned (.tuple #[hv (nameL k ++ nameL L.length ++ nameL (L.length + 1)), .int .i64 0]) ∧ Ag W0 w' V (L ++ [dt k bKey, dt k bMask]) ∧ Kc w w' := by
  have hb1 : Below w.heap.size w ((w.alloc (.cells (hl (nameL k)).toArray 29)).alloc (.cells (hl z48).toArray 33)) := (bel1 w _).alloc (by simp) _
  have HD1 : Aside _ := (h.go hb1).der (by omega) k hk bKey (by decide) (by decide) none 0 [] (fun j hj => absurd hj (by simp)) h1
  have HD2 : Aside (∀ X, Ag W0 X V (L ++ [dt k bKey]) → Calls Try.prog 24 #[.pointer (some ⟨V, 0, none⟩), hv (nameL k), .string bMask, .slice none 0 0] X fun e w' => e = .returned (.tuple #[hv (nameL (L.length + 1)), .int .i64 0]) ∧ Ag W0 w' V (L ++ [dt k bKey, dt k bMask]) ∧ Kc X w') := fun X hX => by
    have := hX.der (by simp; omega) k (by simp; omega) bMask (by decide) (by decide) none 0 [] (fun j hj => absurd hj (by simp)) (by
      simp only [List.mem_append, List.mem_singleton, not_or]
      exact ⟨h2, by simp⟩)
    simpa using this
  have HKC : Aside (Kc w ((w.alloc (.cells (hl (nameL k)).toArray 29)).alloc (.cells (hl z48).toArray 33))) := Kc.of_bel hb1
  have b3 : ((w.alloc (.cells (hl (nameL k)).toArray 29)).alloc (.cells (hl z48).toArray 33)).heap[w.heap.size]? = some (.cells (hl (nameL k)).toArray 29 (0, 0)) := nth' (new' rfl)
  have b4 : ((w.alloc (.cells (hl (nameL k)).toArray 29)).alloc (.cells (hl z48).toArray 33)).heap[w.heap.size + 1]? = some (.cells (hl z48).toArray 33 (0, 0)) := new' (by simp)
  generalize hHk : nameL k = Hk at *
  have hkl : Hk.length = 16 := by rw [← hHk]; exact nameL_len k
  generalize hHn : nameL L.length = Hn at *
  have hnl : Hn.length = 16 := by rw [← hHn]; exact nameL_len _
  generalize hHm : nameL (L.length + 1) = Hm at *
  have hml : Hm.length = 16 := by rw [← hHm]; exact nameL_len _
  have HB3 : Aside _ := b3
  have HGE : Aside (W0.heap.size ≤ w.heap.size + 1) := by have := h.bel.size; show _ ≤ _; omega
  have HB4 : Aside _ := b4
  clear hHk hHn hHm hb1 h h1 h2 b3 b4
  have hbd := bd33 hkl hnl hml
  have hl48 : (Hk ++ Hn ++ Hm).length = 48 := by simp [hkl, hnl, hml]
  obtain ⟨HK3, hK3⟩ : ∃ HK3, Hk ++ Hn ++ Hm = HK3 := ⟨_, rfl⟩
  rw [hK3] at hbd hl48 ⊢
  have HBD : Aside _ := hbd
  clear hbd hK3
  go_enter Try.func13, Try.ntmps13
  go_wp2_with (refine ld28 rfl (.tmp 3) rfl w.heap.size rfl Hk HB3.out hkl (Hid.out ?_))
  rw [hz33]
  generalize (w.alloc (.cells (hl Hk).toArray 29)).alloc (.cells (hl z48).toArray 33) = W1 at *
  refine mkHid ?_
  go_wp2_with fail
  refine Calls.mono HD1.out ?_
  rintro e W2 ⟨rfl, ha, hkc⟩
  have HA2 : Aside (Ag W0 W2 V (L ++ [dt k bKey])) := ha
  have HC2 : Aside (Kc w W2) := HKC.out.trans hkc
  have HB3' : Aside _ := hkc _ _ _ _ HB3.out (by decide) (by decide)
  have HB4' : Aside _ := hkc _ _ _ _ HB4.out (by decide) (by decide)
  clear ha hkc HD1 HKC HB3 HB4
  go_wp2_with (refine st28 rfl (.tmp 6) (.tmp 14) rfl W2.heap.size Hn rfl rfl z16 (heap_alloc_new W2 _) hnl rfl (Hid.out ?_))
  rw [hz28]
  have HBn := (nbox W2 z16 Hn).2
  have HB6 : Aside _ := (nbox W2 z16 Hn).1
  have HA3 : Aside (Ag W0 ((W2.alloc (.cells (hl z16).toArray 29)).setRow W2.heap.size (hl Hn).toArray) V (L ++ [dt k bKey])) := HA2.out.go HBn
  have HC3 : Aside (Kc w ((W2.alloc (.cells (hl z16).toArray 29)).setRow W2.heap.size (hl Hn).toArray)) := HC2.out.trans (Kc.of_bel HBn)
  have HB3 : Aside _ := heap_bel HB3'.out HBn
  have HB4 : Aside _ := heap_bel HB4'.out HBn
  clear HA2 HC2 HB3' HB4' HBn
  generalize (W2.alloc (.cells (hl z16).toArray 29)).setRow W2.heap.size (hl Hn).toArray = W3 at *
  generalize W2.heap.size = B6 at *
  refine mkHid ?_
  go_wp2_with (refine ld28 rfl (.tmp 3) rfl w.heap.size rfl Hk HB3.out hkl ?_)
  refine Calls.mono (HD2.out _ HA3.out) ?_
  rintro e W4 ⟨rfl, ha, hkc⟩
  have HA4 : Aside (Ag W0 W4 V (L ++ [dt k bKey, dt k bMask])) := ha
  have HC4 : Aside (Kc w W4) := HC3.out.trans hkc
  have HB3' : Aside _ := hkc _ _ _ _ HB3.out (by decide) (by decide)
  have HB4' : Aside _ := hkc _ _ _ _ HB4.out (by decide) (by decide)
  have HB6' : Aside _ := hkc _ _ _ _ HB6.out (by decide) (by decide)
  clear ha hkc HD2 HA3 HC3 HB3 HB4 HB6
  go_wp2_with (refine st28 rfl (.tmp 8) (.tmp 24) rfl W4.heap.size Hm rfl rfl z16 (heap_alloc_new W4 _) hml rfl (Hid.out ?_))
  rw [hz28]
  have HBn := (nbox W4 z16 Hm).2
  have HB8 : Aside _ := (nbox W4 z16 Hm).1
  have HA5 : Aside (Ag W0 ((W4.alloc (.cells (hl z16).toArray 29)).setRow W4.heap.size (hl Hm).toArray) V (L ++ [dt k bKey, dt k bMask])) := HA4.out.go HBn
  have HC5 : Aside (Kc w ((W4.alloc (.cells (hl z16).toArray 29)).setRow W4.heap.size (hl Hm).toArray)) := HC4.out.trans (Kc.of_bel HBn)
  have HB3 : Aside _ := heap_bel HB3'.out HBn
  have HB4 : Aside _ := heap_bel HB4'.out HBn
  have HB6 : Aside _ := heap_bel HB6'.out HBn
  clear HA4 HC4 HB3' HB4' HB6' HBn
  generalize (W4.alloc (.cells (hl z16).toArray 29)).setRow W4.heap.size (hl Hm).toArray = W5 at *
  generalize W4.heap.size = B8 at *
  refine mkHid ?_
  go_wp2_with (first | (refine ld28 rfl (.tmp 3) rfl w.heap.size rfl Hk HB3.out hkl ?_) | (refine ld28 rfl (.tmp 6) rfl B6 rfl Hn HB6.out hnl ?_) | (refine ld28 rfl (.tmp 8) rfl B8 rfl Hm HB8.out hml (Hid.out ?_)))
  refine mkHid ?_
  have HR : Aside _ := setRow_heap W5 (w.heap.size + 1) _ (hl HK3).toArray 33 (0, 0) HB4.out
  have HBs : Aside (Ag W0 (W5.setRow (w.heap.size + 1) (hl HK3).toArray) V (L ++ [dt k bKey, dt k bMask])) := HA5.out.setAny HB4.out (by decide) (by decide) HGE.out _
  have HCs : Aside (Kc w (W5.setRow (w.heap.size + 1) (hl HK3).toArray)) := fun b cs t fr hb h1 h2 => by
    have hlt := (Array.getElem?_eq_some_iff.1 hb).1
    exact (setRow_other _ _ _ _ (by omega)).trans (HC5.out b cs t fr hb h1 h2)
  clear HA5 HC5
  go_wp2_with (first | (refine wb33 rfl (.tmp 26) (.tmp 27) (.tmp 28) rfl Hk Hn Hm rfl rfl rfl HK3 HBD.out ?_) | (refine st33 rfl (.tmp 4) (.tmp 29) rfl (w.heap.size + 1) HK3 rfl rfl z48 HB4.out hl48 rfl ?_))
  refine bodyPost_ret (v := .tuple #[hv HK3, .int .i64 0]) (res_33 (fn := Try.f13) (p := 4) (u := 5) rfl _ _ (w.heap.size + 1) HK3 rfl HR.out hl48) rfl ?_
  exact ⟨rfl, HBs.out, HCs.out⟩
end
end Go.Proofs.Ytdklkofnekacdaa
