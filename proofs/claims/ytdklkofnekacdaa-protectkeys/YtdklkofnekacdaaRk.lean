/- The reference's keys: Make, Next. -/
import Derived.Test.YtdklkofnekacdaaRf
namespace Go.Proofs.Ytdklkofnekacdaa
open Go.RowKit Go.Shelf Go.Lib
set_option linter.unusedVariables false

/-- Both vaults. -/
structure Rs (W0 w : World) (V : Nat) (L0 : List Tm) (R : Nat) (L : List Tm) : Prop where
  ag : Ag W0 w V L0
  rv : ∃ g c, Rv W0.heap.size w R g c L
/-- Cells that are none of the reference's vault stay. -/
def Kz (w w' : World) : Prop := ∀ (b : Nat) (cs : Array Value) (t : Nat) (fr : Nat × Nat), w.heap[b]? = some (Obj.cells cs t fr) → t ≠ 83 → t ≠ 80 → w'.heap[b]? = some (Obj.cells cs t fr)
theorem Kz.of_bel {w w' : World} (h : Below w.heap.size w w') : Kz w w' := fun b cs t fr hb _ _ => heap_bel hb h
theorem Kz.trans {a b c : World} (h : Kz a b) (k : Kz b c) : Kz a c := fun x cs t fr hb h1 h2 => k x cs t fr (h x cs t fr hb h1 h2) h1 h2
theorem Kz.of_kx {w w' : World} (h : Kx w w') : Kz w w' := fun b cs t fr hb h1 h2 => h b _ hb (fun cs' e => by injection e with _ e _; exact h1 e) (fun cs' e => by injection e with _ e _; exact h2 e)
theorem Kz.set {a b : World} {B : Nat} (h : Kz a b) (hB : a.heap.size ≤ B) (ds : Array Value) : Kz a (b.setRow B ds) := fun x cs t fr hb h1 h2 =>
  (setRow_other _ _ _ _ (by have := (Array.getElem?_eq_some_iff.1 hb).1; omega)).trans (h x cs t fr hb h1 h2)
theorem nboxr (w : World) (G H : List UInt8) : ((w.alloc (.cells (hl G).toArray 28)).setRow w.heap.size (hl H).toArray).heap[w.heap.size]? = some (.cells (hl H).toArray 28 (0, 0)) ∧ Below w.heap.size w ((w.alloc (.cells (hl G).toArray 28)).setRow w.heap.size (hl H).toArray) :=
  ⟨setRow_heap _ _ _ _ 28 (0, 0) (heap_alloc_new w _), bel_set (bel1 w _) (Nat.le_refl _) _⟩
theorem Ag.kx {W0 w w' : World} {V : Nat} {L : List Tm} (h : Ag W0 w V L) (hb : Below W0.heap.size w w') (hk : Kx w w') : Ag W0 w' V L := by
  obtain ⟨G, c, M, hv⟩ := h.va
  obtain ⟨R, r1, r2⟩ := hv.hG
  obtain ⟨es, ck, m1, _⟩ := hv.hM
  have n1 : ∀ (cs cs' : Array Value) (t : Nat) (fr : Nat × Nat), t ≠ 83 → Obj.cells cs t fr ≠ .cells cs' 83 (0, 0) := fun cs cs' t fr h e => by injection e with _ e _; exact h e
  have n2 : ∀ (cs cs' : Array Value) (t : Nat) (fr : Nat × Nat), t ≠ 80 → Obj.cells cs t fr ≠ .cells cs' 80 (0, 0) := fun cs cs' t fr h e => by injection e with _ e _; exact h e
  exact ⟨h.bel.trans hb, G, c, M, hv.keep ((hk _ _ hv.hV (fun cs => n1 _ cs _ _ (by decide)) (fun cs => n2 _ cs _ _ (by decide))).trans hv.hV.symm) ((hk _ _ r1 (fun cs => n1 _ cs _ _ (by decide)) (fun cs => n2 _ cs _ _ (by decide))).trans r1.symm) ((hk M _ m1 (fun cs e => by cases e) (fun cs e => by cases e)).trans m1.symm)⟩
section
variable {W0 w w' : World} {V R : Nat} {L0 L : List Tm}
theorem Rs.go (h : Rs W0 w V L0 R L) (hb : Below w.heap.size w w') : Rs W0 w' V L0 R L := by
  obtain ⟨g, c, hv⟩ := h.rv
  exact ⟨h.ag.go hb, g, c, hv.bel hb⟩
theorem Rs.bel (h : Rs W0 w V L0 R L) : Below W0.heap.size W0 w := h.ag.bel
theorem Rs.setAny (h : Rs W0 w V L0 R L) {B t : Nat} {cs : Array Value} (hB : w.heap[B]? = some (.cells cs t (0, 0))) (h1 : t = 28 ∨ t = 38) (hge : W0.heap.size ≤ B) (ds : Array Value) : Rs W0 (w.setRow B ds) V L0 R L := by
  obtain ⟨g, c, hv⟩ := h.rv
  refine ⟨h.ag.setAny hB (by rcases h1 with rfl | rfl <;> decide) (by rcases h1 with rfl | rfl <;> decide) hge ds, g, c, hv.keep fun b cs' t' hb ht => (setRow_other _ _ _ _ ?_).trans hb⟩
  rintro rfl
  rw [hB] at hb
  injection hb with hb
  injection hb with _ hb _
  subst hb
  rcases h1 with rfl | rfl <;> rcases ht with h | h <;> cases h
/-- Derive of a term that is new. -/
theorem Rs.der (h : Rs W0 w V L0 R L) (hC : ∀ u ∈ L, Cn u) (hle : L.length ≤ 1000) (k : Nat) (hk : k < L.length) (S : ByteArray) (o : Option Addr) (cp : Nat) (l : List UInt8) (hS : Sl w o l) (hn : (⟨2, k, 0, S, ⟨l.toArray⟩⟩ : Tm) ∉ L) :
    Calls Try.prog 26 #[.pointer (some ⟨R, 0, none⟩), hv (nameL k), .string S, .slice o l.length cp] w fun e w' => e = .returned (.tuple #[hv (nameL L.length), .int .i64 0]) ∧ Rs W0 w' V L0 R (L ++ [⟨2, k, 0, S, ⟨l.toArray⟩⟩]) ∧ Kz w w' := by
  obtain ⟨g, c, hv⟩ := h.rv
  refine (rderive_yes hv hle h.ag.bel.size k hk S o cp l hS).mono ?_
  rintro e w' ⟨i, rfl, hm, hK, hB⟩
  rcases hm with ⟨s, a1, a2, _⟩ | ⟨_, rfl, a3⟩
  · have := rc_inj (hC s (List.mem_of_getElem? a1)) ⟨rfl, by simp, .inl rfl⟩ a2
    rw [this] at a1
    exact absurd (List.mem_of_getElem? a1) hn
  · exact ⟨rfl, ⟨h.ag.kx hB hK, a3⟩, Kz.of_kx hK⟩
/-- Derive of one that is there. -/
theorem Rs.der_old (h : Rs W0 w V L0 R L) (hC : ∀ u ∈ L, Cn u) (hle : L.length ≤ 1000) (k : Nat) (hk : k < L.length) (S : ByteArray) (o : Option Addr) (cp : Nat) (l : List UInt8) (hS : Sl w o l) (i0 : Nat) (hn : ∀ i : Nat, L[i]? = some ⟨2, k, 0, S, ⟨l.toArray⟩⟩ ↔ i = i0) :
    Calls Try.prog 26 #[.pointer (some ⟨R, 0, none⟩), hv (nameL k), .string S, .slice o l.length cp] w fun e w' => e = .returned (.tuple #[hv (nameL i0), .int .i64 0]) ∧ Rs W0 w' V L0 R L ∧ Kz w w' := by
  obtain ⟨g, c, hv⟩ := h.rv
  refine (rderive_yes hv hle h.ag.bel.size k hk S o cp l hS).mono ?_
  rintro e w' ⟨i, rfl, hm, hK, hB⟩
  rcases hm with ⟨s, a1, a2, _, a4⟩ | ⟨a1, _⟩
  · have := rc_inj (hC s (List.mem_of_getElem? a1)) ⟨rfl, by simp, .inl rfl⟩ a2
    rw [this] at a1
    obtain rfl := (hn i).1 a1
    exact ⟨rfl, ⟨h.ag.kx hB hK, a4⟩, Kz.of_kx hK⟩
  · exact absurd rfl (a1 _ (List.mem_of_getElem? ((hn i0).2 rfl)))
end
theorem u38 : Try.prog.underlying 38 = some (.struct (Try.prog.fieldsOf 38)) := by kernel_rfl
theorem hi38 : (Try.prog.info? 38).map (·.size) = some 48 := by kernel_rfl
theorem hz38 (w : World) : w.alloc (.cells #[.int .u8 0, .int .u8 0, .int .u8 0, .int .u8 0, .int .u8 0, .int .u8 0, .int .u8 0, .int .u8 0, .int .u8 0, .int .u8 0, .int .u8 0, .int .u8 0, .int .u8 0, .int .u8 0, .int .u8 0, .int .u8 0, .int .u8 0, .int .u8 0, .int .u8 0, .int .u8 0, .int .u8 0, .int .u8 0, .int .u8 0, .int .u8 0, .int .u8 0, .int .u8 0, .int .u8 0, .int .u8 0, .int .u8 0, .int .u8 0, .int .u8 0, .int .u8 0, .int .u8 0, .int .u8 0, .int .u8 0, .int .u8 0, .int .u8 0, .int .u8 0, .int .u8 0, .int .u8 0, .int .u8 0, .int .u8 0, .int .u8 0, .int .u8 0, .int .u8 0, .int .u8 0, .int .u8 0, .int .u8 0] 38) = w.alloc (.cells (hl z48).toArray 38) := rfl
section
variable {ops : Array Oper} {rest : List Oper} {o : Oper} {a : Act} {w : World} {Q : Exit → Act → World → Prop}
theorem ld38 (hgd : o.guard = none) (x : Operand) (ho : o.op = .load 38 x) (g : Nat) (hx : a.eval x = .pointer (some ⟨g, 0, none⟩)) (H : List UInt8) (hg : w.heap[g]? = some (.cells (hl H).toArray 38 (0, 0))) (hs : H.length = 48)
    (h : wpList Try.prog ops Q rest (a.put o.dst (hv H)) w) : wpList Try.prog ops Q (o :: rest) a w :=
  wpList_load_row hgd 38 x ho g hx 38 _ (0, 0) _ hg u38 rfl (hi38.trans (by simp [hs])) h
theorem st38 (hgd : o.guard = none) (x y : Operand) (ho : o.op = .store 38 x y) (g : Nat) (H : List UInt8) (hx : a.eval x = .pointer (some ⟨g, 0, none⟩)) (hy : a.eval y = hv H) (G : List UInt8)
    (hg : w.heap[g]? = some (.cells (hl G).toArray 38 (0, 0))) (hs : H.length = 48) (hG : G.length = 48)
    (h : wpList Try.prog ops Q rest (a.put o.dst undef) (w.setRow g (hl H).toArray)) : wpList Try.prog ops Q (o :: rest) a w :=
  wpList_store_row hgd 38 x y ho g _ hx hy 38 _ hg (hi38.trans (by simp [hs])) (by simp [hs, hG]) (hl_one H) h
end
theorem res_38 {fn : Func} {p u : Tmp} (h : fn.results = #[.cell p 38, .tmp u]) (tmps : Array Value) (w : World) (g : Nat) (H : List UInt8) (hp : tmps.getD p undef = .pointer (some ⟨g, 0, none⟩))
    (hg : w.heap[g]? = some (.cells (hl H).toArray 38 (0, 0))) (hs : H.length = 48) : (results fn tmps).run Try.prog w = .ok (.tuple #[hv H, tmps.getD u undef]) w := by
  rw [results_cell_tmp h, hp]
  simp only [asAddr, Sem.run_pure, Result.andThen_ok, run_loadVar_row w g 38 38 _ (0, 0) _ hg u38 rfl (hi38.trans (by simp [hs]))]
theorem bd38 {A B C : List UInt8} (hA : A.length = 16) (hB : B.length = 16) (hC : C.length = 16) (X : World) : (Instr.build 38 #[(0, hv A), (1, hv B), (2, hv C)]).run Try.prog X = .ok (hv (A ++ B ++ C)) X := by
  obtain ⟨a0, a1, a2, a3, a4, a5, a6, a7, a8, a9, a10, a11, a12, a13, a14, a15, rfl⟩ := ls16 hA
  obtain ⟨b0, b1, b2, b3, b4, b5, b6, b7, b8, b9, b10, b11, b12, b13, b14, b15, rfl⟩ := ls16 hB
  obtain ⟨c0, c1, c2, c3, c4, c5, c6, c7, c8, c9, c10, c11, c12, c13, c14, c15, rfl⟩ := ls16 hC
  exact run_build X 38 _ _ (by kernel_rfl)
theorem wb38 {ops : Array Oper} {rest : List Oper} {o : Oper} {a : Act} {w : World} {Q : Exit → Act → World → Prop} (hg : o.guard = none) (x y z : Operand) (ho : o.op = .build 38 #[(0, x), (1, y), (2, z)]) (A B C : List UInt8) (hx : a.eval x = hv A) (hy : a.eval y = hv B) (hz : a.eval z = hv C) (D : List UInt8) (hD : ∀ X, (Instr.build 38 #[(0, hv A), (1, hv B), (2, hv C)]).run Try.prog X = .ok (hv D) X)
    (h : wpList Try.prog ops Q rest (a.put o.dst (hv D)) w) : wpList Try.prog ops Q (o :: rest) a w :=
  wpList_plain hg fun K hK => by
    unfold Oper.wp execOp
    simp only [ho, List.map_toArray, List.map_cons, List.map_nil, hx, hy, hz, Sem.run_bind, hD, Result.andThen_ok, Sem.run_pure]
    exact hK _ _ h
/-- The handles of keys as they lie. -/
theorem rg38 {X : World} {g : Nat} {A B C : List UInt8} (hX : X.heap[g]? = some (.cells (hl (A ++ B ++ C)).toArray 38 (0, 0))) (hA : A.length = 16) (hB : B.length = 16) (hC : C.length = 16) : X.rangeAt g 0 (hl A) ∧ X.rangeAt g 32 (hl C) := by
  constructor
  · intro j v hv
    have hj : j < 16 := by have := (List.getElem?_eq_some_iff.1 hv).1; rw [hl_len, hA] at this; exact this
    unfold World.cell?
    simp only [hX, Nat.zero_add]
    have : (hl (A ++ B ++ C))[j]? = some v := by rw [hl_app, hl_app, List.append_assoc, List.getElem?_append_left (by rw [hl_len, hA]; exact hj)]; exact hv
    simpa using this
  · intro j v hv
    unfold World.cell?
    simp only [hX]
    have : (hl (A ++ B ++ C))[32 + j]? = some v := by rw [hl_app, List.getElem?_append_right (by simp [hA, hB]), show 32 + j - (hl (A ++ B)).length = j by simp [hA, hB]]; exact hv
    simpa using this
theorem rg38m {X : World} {g : Nat} {A B C : List UInt8} (hX : X.heap[g]? = some (.cells (hl (A ++ B ++ C)).toArray 38 (0, 0))) (hA : A.length = 16) (hB : B.length = 16) (hC : C.length = 16) : X.rangeAt g 16 (hl B) := by
  intro j v hv
  have hj : j < 16 := by have := (List.getElem?_eq_some_iff.1 hv).1; rw [hl_len, hB] at this; exact this
  unfold World.cell?
  simp only [hX]
  have : (hl (A ++ B ++ C))[16 + j]? = some v := by rw [hl_app, hl_app, List.append_assoc, List.getElem?_append_right (by simp [hA]), show 16 + j - (hl A).length = j by simp [hA], List.getElem?_append_left (by rw [hl_len, hB]; exact hj)]; exact hv
  simpa using this
theorem th38 {X : World} {g : Nat} {A B C D : List UInt8} (hX : X.heap[g]? = some (.cells (hl (A ++ B ++ C)).toArray 38 (0, 0))) (hA : A.length = 16) (hB : B.length = 16) (hC : C.length = 16) (hD : D.length = 16) : X.there g 32 16 ∧ X.setCells g 32 (hl D) = X.setRow g (hl (A ++ B ++ D)).toArray := by
  constructor
  · intro j hj
    have e : (hl (A ++ B ++ C))[32 + j]? ≠ none := by
      rw [List.getElem?_eq_getElem (by simp [hA, hB, hC]; omega)]; simp
    constructor
    · unfold World.cell?
      simp only [hX]
      simpa [hA, hB, hC] using e
    · simp [World.frozen?, hX]
  · rw [setCells_row (hl D) 32 X (hl (A ++ B ++ C)) hX (by simp [hA, hB, hC, hD])]
    congr 2
    rw [hl_app, hl_app (A ++ B) D, List.take_append_of_le_length (by simp [hA, hB]), List.take_of_length_le (by simp [hA, hB]), List.drop_of_length_le (by simp [hA, hB, hC, hD]), List.append_nil]
section
variable {W0 w w' : World} {V R : Nat} {L0 L L1 L2 L3 : List Tm}
set_option maxRecDepth 100000 in
set_option maxHeartbeats 400000 in
theorem rmk_c (h : Rs W0 w V L0 R L) (hC : ∀ u ∈ L, Cn u) (hle : L.length ≤ 900) (k : Nat) (hk : k < L.length) (h1 : dt k bKey ∉ L) (h2 : dt k bMask ∉ L) :
    Calls Try.prog 14 #[.pointer (some ⟨R, 0, none⟩), hv (nameL k)] w fun e w' => e = .returned (.tuple #[hv (nameL k ++ nameL L.length ++ nameL (L.length + 1)), .int .i64 0]) ∧ Rs W0 w' V L0 R (L ++ [dt k bKey, dt k bMask]) ∧ Kz w w' := by
  have hb1 : Below w.heap.size w ((w.alloc (.cells (hl (nameL k)).toArray 28)).alloc (.cells (hl z48).toArray 38)) := (bel1 w _).alloc (by simp) _
  have HD1 : Aside _ := (h.go hb1).der hC (by omega) k hk bKey none 0 [] (fun j hj => absurd hj (by simp)) h1
  have HD2 : Aside (∀ X, Rs W0 X V L0 R (L ++ [dt k bKey]) → Calls Try.prog 26 #[.pointer (some ⟨R, 0, none⟩), hv (nameL k), .string bMask, .slice none 0 0] X fun e w' => e = .returned (.tuple #[hv (nameL (L.length + 1)), .int .i64 0]) ∧ Rs W0 w' V L0 R (L ++ [dt k bKey, dt k bMask]) ∧ Kz X w') := fun X hX => by
    have := hX.der (by intro u hu; rcases List.mem_append.1 hu with hu | hu; exact hC u hu; obtain rfl := List.mem_singleton.1 hu; exact ⟨rfl, by simp, .inl rfl⟩) (by simp; omega) k (by simp; omega) bMask none 0 [] (fun j hj => absurd hj (by simp)) (by
      simp only [List.mem_append, List.mem_singleton, not_or]
      exact ⟨h2, by simp⟩)
    simpa using this
  have HKC : Aside (Kz w ((w.alloc (.cells (hl (nameL k)).toArray 28)).alloc (.cells (hl z48).toArray 38))) := Kz.of_bel hb1
  have b3 : ((w.alloc (.cells (hl (nameL k)).toArray 28)).alloc (.cells (hl z48).toArray 38)).heap[w.heap.size]? = some (.cells (hl (nameL k)).toArray 28 (0, 0)) := nth' (new' rfl)
  have b4 : ((w.alloc (.cells (hl (nameL k)).toArray 28)).alloc (.cells (hl z48).toArray 38)).heap[w.heap.size + 1]? = some (.cells (hl z48).toArray 38 (0, 0)) := new' (by simp)
  generalize hHk : nameL k = Hk at *
  have hkl : Hk.length = 16 := by rw [← hHk]; exact nameL_len k
  generalize hHn : nameL L.length = Hn at *
  have hnl : Hn.length = 16 := by rw [← hHn]; exact nameL_len _
  generalize hHm : nameL (L.length + 1) = Hm at *
  have hml : Hm.length = 16 := by rw [← hHm]; exact nameL_len _
  have HB3 : Aside _ := b3
  have HGE : Aside (W0.heap.size ≤ w.heap.size + 1) := by have := h.bel.size; show _ ≤ _; omega
  have HB4 : Aside _ := b4
  clear hHk hHn hHm hb1 h h1 h2 b3 b4
  have hbd := bd38 hkl hnl hml
  have hl48 : (Hk ++ Hn ++ Hm).length = 48 := by simp [hkl, hnl, hml]
  obtain ⟨HK3, hK3⟩ : ∃ HK3, Hk ++ Hn ++ Hm = HK3 := ⟨_, rfl⟩
  rw [hK3] at hbd hl48 ⊢
  have HBD : Aside _ := hbd
  clear hbd hK3
  go_enter Try.func14, Try.ntmps14
  go_wp2_with (refine ldr rfl (.tmp 3) rfl w.heap.size rfl Hk HB3.out hkl (Hid.out ?_))
  rw [hz38]
  generalize (w.alloc (.cells (hl Hk).toArray 28)).alloc (.cells (hl z48).toArray 38) = W1 at *
  refine mkHid ?_
  go_wp2_with fail
  refine Calls.mono HD1.out ?_
  rintro e W2 ⟨rfl, ha, hkc⟩
  have HA2 : Aside (Rs W0 W2 V L0 R (L ++ [dt k bKey])) := ha
  have HC2 : Aside (Kz w W2) := HKC.out.trans hkc
  have HB3' : Aside _ := hkc _ _ _ _ HB3.out (by decide) (by decide)
  have HB4' : Aside _ := hkc _ _ _ _ HB4.out (by decide) (by decide)
  clear ha hkc HD1 HKC HB3 HB4
  go_wp2_with (refine str rfl (.tmp 6) (.tmp 14) rfl W2.heap.size Hn rfl rfl z16 (heap_alloc_new W2 _) hnl rfl (Hid.out ?_))
  rw [hz28r]
  have HBn := (nboxr W2 z16 Hn).2
  have HB6 : Aside _ := (nboxr W2 z16 Hn).1
  have HA3 : Aside (Rs W0 ((W2.alloc (.cells (hl z16).toArray 28)).setRow W2.heap.size (hl Hn).toArray) V L0 R (L ++ [dt k bKey])) := HA2.out.go HBn
  have HC3 : Aside (Kz w ((W2.alloc (.cells (hl z16).toArray 28)).setRow W2.heap.size (hl Hn).toArray)) := HC2.out.trans (Kz.of_bel HBn)
  have HB3 : Aside _ := heap_bel HB3'.out HBn
  have HB4 : Aside _ := heap_bel HB4'.out HBn
  clear HA2 HC2 HB3' HB4' HBn
  generalize (W2.alloc (.cells (hl z16).toArray 28)).setRow W2.heap.size (hl Hn).toArray = W3 at *
  generalize W2.heap.size = B6 at *
  refine mkHid ?_
  go_wp2_with (refine ldr rfl (.tmp 3) rfl w.heap.size rfl Hk HB3.out hkl ?_)
  refine Calls.mono (HD2.out _ HA3.out) ?_
  rintro e W4 ⟨rfl, ha, hkc⟩
  have HA4 : Aside (Rs W0 W4 V L0 R (L ++ [dt k bKey, dt k bMask])) := ha
  have HC4 : Aside (Kz w W4) := HC3.out.trans hkc
  have HB3' : Aside _ := hkc _ _ _ _ HB3.out (by decide) (by decide)
  have HB4' : Aside _ := hkc _ _ _ _ HB4.out (by decide) (by decide)
  have HB6' : Aside _ := hkc _ _ _ _ HB6.out (by decide) (by decide)
  clear ha hkc HD2 HA3 HC3 HB3 HB4 HB6
  go_wp2_with (refine str rfl (.tmp 8) (.tmp 24) rfl W4.heap.size Hm rfl rfl z16 (heap_alloc_new W4 _) hml rfl (Hid.out ?_))
  rw [hz28r]
  have HBn := (nboxr W4 z16 Hm).2
  have HB8 : Aside _ := (nboxr W4 z16 Hm).1
  have HA5 : Aside (Rs W0 ((W4.alloc (.cells (hl z16).toArray 28)).setRow W4.heap.size (hl Hm).toArray) V L0 R (L ++ [dt k bKey, dt k bMask])) := HA4.out.go HBn
  have HC5 : Aside (Kz w ((W4.alloc (.cells (hl z16).toArray 28)).setRow W4.heap.size (hl Hm).toArray)) := HC4.out.trans (Kz.of_bel HBn)
  have HB3 : Aside _ := heap_bel HB3'.out HBn
  have HB4 : Aside _ := heap_bel HB4'.out HBn
  have HB6 : Aside _ := heap_bel HB6'.out HBn
  clear HA4 HC4 HB3' HB4' HB6' HBn
  generalize (W4.alloc (.cells (hl z16).toArray 28)).setRow W4.heap.size (hl Hm).toArray = W5 at *
  generalize W4.heap.size = B8 at *
  refine mkHid ?_
  go_wp2_with (first | (refine ldr rfl (.tmp 3) rfl w.heap.size rfl Hk HB3.out hkl ?_) | (refine ldr rfl (.tmp 6) rfl B6 rfl Hn HB6.out hnl ?_) | (refine ldr rfl (.tmp 8) rfl B8 rfl Hm HB8.out hml (Hid.out ?_)))
  refine mkHid ?_
  have HR : Aside _ := setRow_heap W5 (w.heap.size + 1) _ (hl HK3).toArray 38 (0, 0) HB4.out
  have HBs : Aside (Rs W0 (W5.setRow (w.heap.size + 1) (hl HK3).toArray) V L0 R (L ++ [dt k bKey, dt k bMask])) := HA5.out.setAny HB4.out (.inr rfl) HGE.out _
  have HCs : Aside (Kz w (W5.setRow (w.heap.size + 1) (hl HK3).toArray)) := fun b cs t fr hb h1 h2 => by
    have hlt := (Array.getElem?_eq_some_iff.1 hb).1
    exact (setRow_other _ _ _ _ (by omega)).trans (HC5.out b cs t fr hb h1 h2)
  clear HA5 HC5
  go_wp2_with (first | (refine wb38 rfl (.tmp 26) (.tmp 27) (.tmp 28) rfl Hk Hn Hm rfl rfl rfl HK3 HBD.out ?_) | (refine st38 rfl (.tmp 4) (.tmp 29) rfl (w.heap.size + 1) HK3 rfl rfl z48 HB4.out hl48 rfl ?_))
  refine bodyPost_ret (v := .tuple #[hv HK3, .int .i64 0]) (res_38 (fn := Try.f14) (p := 4) (u := 5) rfl _ _ (w.heap.size + 1) HK3 rfl HR.out hl48) rfl ?_
  exact ⟨rfl, HBs.out, HCs.out⟩
set_option maxRecDepth 100000 in
set_option maxHeartbeats 1000000 in
theorem rnext_c (h : Rs W0 w V L0 R L) (k i1 : Nat) (Ky Mk A B C : List UInt8) (hKy : Ky.length = 16) (hMk : Mk.length = 16) (hA : A.length = 16) (hB : B.length = 16) (hC : C.length = 16)
    (hd1 : ∀ X, Rs W0 X V L0 R L → Calls Try.prog 26 #[.pointer (some ⟨R, 0, none⟩), hv (nameL k), .string bNext, .slice none 0 0] X fun e w' => e = .returned (.tuple #[hv (nameL i1), .int .i64 0]) ∧ Rs W0 w' V L0 R L1 ∧ Kz X w')
    (hm : ∀ X, Rs W0 X V L0 R L1 → Calls Try.prog 14 #[.pointer (some ⟨R, 0, none⟩), hv (nameL i1)] X fun e w' => e = .returned (.tuple #[hv (A ++ B ++ C), .int .i64 0]) ∧ Rs W0 w' V L0 R L2 ∧ Kz X w') :
    Calls Try.prog 12 #[.pointer (some ⟨R, 0, none⟩), hv (nameL k ++ Ky ++ Mk)] w fun e w' => e = .returned (.tuple #[hv (A ++ B ++ Mk), .int .i64 0]) ∧ Rs W0 w' V L0 R L2 ∧ Kz w w' := by
  have HD1 : Aside _ := hd1
  have HM : Aside _ := hm
  have HGE : Aside (W0.heap.size ≤ w.heap.size) := h.bel.size
  have n0 := nameL_len k
  have n1 := nameL_len i1
  clear hd1 hm
  generalize nameL k = N0 at *
  generalize nameL i1 = N1 at *
  have hbl : Below w.heap.size w ((w.alloc (.cells (hl (N0 ++ Ky ++ Mk)).toArray 38)).alloc (.cells (hl z48).toArray 38)) := (bel1 w _).alloc (by simp) _
  have HA : Aside (Rs W0 ((w.alloc (.cells (hl (N0 ++ Ky ++ Mk)).toArray 38)).alloc (.cells (hl z48).toArray 38)) V L0 R L) := h.go hbl
  have HC : Aside (Kz w ((w.alloc (.cells (hl (N0 ++ Ky ++ Mk)).toArray 38)).alloc (.cells (hl z48).toArray 38))) := Kz.of_bel hbl
  have X3 : Aside (((w.alloc (.cells (hl (N0 ++ Ky ++ Mk)).toArray 38)).alloc (.cells (hl z48).toArray 38)).heap[w.heap.size]? = some (.cells (hl (N0 ++ Ky ++ Mk)).toArray 38 (0, 0))) := nth' (new' rfl)
  have X4 : Aside (((w.alloc (.cells (hl (N0 ++ Ky ++ Mk)).toArray 38)).alloc (.cells (hl z48).toArray 38)).heap[w.heap.size + 1]? = some (.cells (hl z48).toArray 38 (0, 0))) := new' (by simp)
  have HR0 : Aside (∀ X : World, X.heap[w.heap.size]? = some (.cells (hl (N0 ++ Ky ++ Mk)).toArray 38 (0, 0)) → X.rangeAt w.heap.size 0 (hl N0) ∧ X.rangeAt w.heap.size 32 (hl Mk)) := fun X hX => rg38 hX n0 hKy hMk
  have HT8 : Aside (∀ (X : World) (g : Nat), X.heap[g]? = some (.cells (hl (A ++ B ++ C)).toArray 38 (0, 0)) → X.there g 32 16 ∧ X.setCells g 32 (hl Mk) = X.setRow g (hl (A ++ B ++ Mk)).toArray) := fun X g hX => th38 hX hA hB hC hMk
  have hm0 : (Try.prog.info? 28).map (·.size) = some (hl N0).length := hi28r.trans (by simp [n0])
  have hmM : (Try.prog.info? 28).map (·.size) = some (hl Mk).length := hi28r.trans (by simp [hMk])
  have hlF : (A ++ B ++ C).length = 48 := by simp [hA, hB, hC]
  have hlG : (A ++ B ++ Mk).length = 48 := by simp [hA, hB, hMk]
  have hu := hu28r
  generalize N0 ++ Ky ++ Mk = K0 at *
  generalize A ++ B ++ C = K1 at *
  generalize A ++ B ++ Mk = K2 at *
  clear h hbl
  go_enter Try.func12, Try.ntmps12
  go_wp2_with (refine wpList_load_mid rfl 28 (.tmp 12) rfl w.heap.size 0 rfl (hl N0) _ (HR0.out _ X3.out).1 hu rfl hm0 (Hid.out ?_))
  rw [hz38]
  generalize (w.alloc (.cells (hl K0).toArray 38)).alloc (.cells (hl z48).toArray 38) = W1 at *
  refine mkHid ?_
  go_wp2_with fail
  refine Calls.mono (HD1.out _ HA.out) ?_
  rintro e W4 ⟨rfl, ha, hkc⟩
  have HA' : Aside (Rs W0 W4 V L0 R L1) := ha
  have HC' : Aside (Kz w W4) := HC.out.trans hkc
  have X3' : Aside _ := hkc _ _ _ _ X3.out (by decide) (by decide)
  have X4' : Aside _ := hkc _ _ _ _ X4.out (by decide) (by decide)
  clear HA HC ha hkc X3 X4
  have HA : Aside (Rs W0 W4 V L0 R L1) := HA'.out
  have HC : Aside (Kz w W4) := HC'.out
  have X3 : Aside _ := X3'.out
  have X4 : Aside _ := X4'.out
  clear HA' HC' X3' X4'
  go_wp2_with (refine str rfl (.tmp 6) (.tmp 15) rfl W4.heap.size N1 rfl rfl z16 (heap_alloc_new W4 _) n1 rfl (Hid.out ?_))
  rw [hz28r]
  have HBn := (nboxr W4 z16 N1).2
  have X6' : Aside _ := (nboxr W4 z16 N1).1
  have HA' : Aside (Rs W0 ((W4.alloc (.cells (hl z16).toArray 28)).setRow W4.heap.size (hl N1).toArray) V L0 R L1) := HA.out.go HBn
  have HC' : Aside (Kz w ((W4.alloc (.cells (hl z16).toArray 28)).setRow W4.heap.size (hl N1).toArray)) := HC.out.trans (Kz.of_bel HBn)
  have X3' : Aside _ := heap_bel X3.out HBn
  have X4' : Aside _ := heap_bel X4.out HBn
  clear HA HC HBn X3 X4
  generalize (W4.alloc (.cells (hl z16).toArray 28)).setRow W4.heap.size (hl N1).toArray = W5 at *
  generalize W4.heap.size = B6 at *
  have HA : Aside (Rs W0 W5 V L0 R L1) := HA'.out
  have HC : Aside (Kz w W5) := HC'.out
  have X3 : Aside _ := X3'.out
  have X4 : Aside _ := X4'.out
  have X6 : Aside _ := X6'.out
  clear HA' HC' X3' X4' X6'
  refine mkHid ?_
  go_wp2_with (refine ldr rfl (.tmp 6) rfl B6 rfl N1 X6.out n1 ?_)
  refine Calls.mono (HM.out _ HA.out) ?_
  rintro e W6 ⟨rfl, ha, hkc⟩
  have HA' : Aside (Rs W0 W6 V L0 R L2) := ha
  have HC' : Aside (Kz w W6) := HC.out.trans hkc
  have X3' : Aside _ := hkc _ _ _ _ X3.out (by decide) (by decide)
  have X4' : Aside _ := hkc _ _ _ _ X4.out (by decide) (by decide)
  clear HA HC ha hkc X3 X4
  have HA : Aside (Rs W0 W6 V L0 R L2) := HA'.out
  have HC : Aside (Kz w W6) := HC'.out
  have X3 : Aside _ := X3'.out
  have X4 : Aside _ := X4'.out
  clear HA' HC' X3' X4'
  go_wp2_with (refine st38 rfl (.tmp 8) (.tmp 25) rfl W6.heap.size K1 rfl rfl z48 (heap_alloc_new W6 _) hlF rfl (Hid.out ?_))
  rw [hz38]
  have HBn : Below W6.heap.size W6 ((W6.alloc (.cells (hl z48).toArray 38)).setRow W6.heap.size (hl K1).toArray) := bel_set (bel1 W6 _) (Nat.le_refl _) _
  have X8' : Aside _ := setRow_heap _ _ _ (hl K1).toArray 38 (0, 0) (heap_alloc_new W6 (.cells (hl z48).toArray 38))
  have HA' : Aside (Rs W0 ((W6.alloc (.cells (hl z48).toArray 38)).setRow W6.heap.size (hl K1).toArray) V L0 R L2) := HA.out.go HBn
  have HC' : Aside (Kz w ((W6.alloc (.cells (hl z48).toArray 38)).setRow W6.heap.size (hl K1).toArray)) := HC.out.trans (Kz.of_bel HBn)
  have X3' : Aside _ := heap_bel X3.out HBn
  have X4' : Aside _ := heap_bel X4.out HBn
  have g8 : w.heap.size + 1 < W6.heap.size := (Array.getElem?_eq_some_iff.1 X4.out).1
  clear HA HC HBn X3 X4
  generalize (W6.alloc (.cells (hl z48).toArray 38)).setRow W6.heap.size (hl K1).toArray = W7 at *
  generalize W6.heap.size = B8 at *
  have ht8 := HT8.out W7 B8 X8'.out
  have HTH : Aside _ := ht8.1
  have HSC : Aside _ := ht8.2
  clear ht8 HT8
  refine mkHid ?_
  have hlM : (hl Mk).toArray.size = 16 := by simp [hMk]
  go_wp2_with (first | (refine wpList_load_mid rfl 28 (.tmp 27) rfl w.heap.size 32 rfl (hl Mk) _ (HR0.out _ X3'.out).2 hu rfl hmM ?_) | (refine wpList_store_mid rfl 28 (.tmp 29) (.tmp 28) rfl B8 32 (hl Mk).toArray rfl rfl (by rw [hlM]; exact HTH.out) (by rw [hlM]; exact hi28r) (hl_one Mk) (Hid.out ?_)))
  rw [HSC.out]
  have X8 : Aside _ := setRow_heap W7 B8 _ (hl K2).toArray 38 (0, 0) X8'.out
  have X4 : Aside _ := (setRow_other W7 B8 (w.heap.size + 1) (hl K2).toArray (by omega)).trans X4'.out
  have HA : Aside (Rs W0 (W7.setRow B8 (hl K2).toArray) V L0 R L2) := HA'.out.setAny X8'.out (.inr rfl) (by have := HGE.out; omega) _
  have HC : Aside (Kz w (W7.setRow B8 (hl K2).toArray)) := HC'.out.set (by omega) _
  clear X8' X4' HA' HC' X3' HTH HSC
  generalize W7.setRow B8 (hl K2).toArray = W8 at *
  refine mkHid ?_
  have HR : Aside _ := setRow_heap W8 (w.heap.size + 1) _ (hl K2).toArray 38 (0, 0) X4.out
  have HAF : Aside (Rs W0 (W8.setRow (w.heap.size + 1) (hl K2).toArray) V L0 R L2) := HA.out.setAny X4.out (.inr rfl) (by have := HGE.out; omega) _
  have HCF : Aside (Kz w (W8.setRow (w.heap.size + 1) (hl K2).toArray)) := HC.out.set (by omega) _
  go_wp2_with (first | (refine ld38 rfl (.tmp 8) rfl B8 rfl K2 X8.out hlG ?_) | (refine st38 rfl (.tmp 4) (.tmp 30) rfl (w.heap.size + 1) K2 rfl rfl z48 X4.out hlG rfl ?_))
  refine bodyPost_ret (v := .tuple #[hv K2, .int .i64 0]) (res_38 (fn := Try.f12) (p := 4) (u := 5) rfl _ _ (w.heap.size + 1) K2 rfl HR.out hlG) rfl ?_
  exact ⟨rfl, HAF.out, HCF.out⟩
end
end Go.Proofs.Ytdklkofnekacdaa
