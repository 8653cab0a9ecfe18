/- The reference's short, long, flag. -/
import Derived.Test.YtcchlicokglmnaaPt
import Derived.Maps.AppendAt
namespace Go.Proofs.Ytcchlicokglmnaa
open Go.ChangeShapes Go.WideShapes Go.ChangeAt Go.RowKit Go.Lib
set_option linter.unusedVariables false

/-- Nothing turns but bytes from block B on. -/
structure Gq (B : Nat) (w w' : World) : Prop where
  os : w'.os = w.os
  tape : w'.tape = w.tape
  output : w'.output = w.output
  size : w.heap.size ≤ w'.heap.size
  block : ∀ k, k < w.heap.size → (k < B ∨ ∀ cs fr, w.heap[k]? ≠ some (.cells cs 5 fr)) → w'.heap[k]? = w.heap[k]?
theorem Gq.refl (B : Nat) (w : World) : Gq B w w := ⟨rfl, rfl, rfl, Nat.le_refl _, fun _ _ _ => rfl⟩
theorem Gq.trans {B : Nat} {a b c : World} (h : Gq B a b) (k : Gq B b c) : Gq B a c :=
  ⟨k.os.trans h.os, k.tape.trans h.tape, k.output.trans h.output, Nat.le_trans h.size k.size, fun i hi hc => by
    have e := h.block i hi hc
    refine (k.block i (Nat.lt_of_lt_of_le hi h.size) ?_).trans e
    rcases hc with hc | hc
    · exact .inl hc
    · exact .inr (fun cs fr => by rw [e]; exact hc cs fr)⟩
theorem Gq.of_below {B : Nat} {w w' : World} (h : Below w.heap.size w w') : Gq B w w' := ⟨h.os, h.tape, h.output, h.size, fun k hk _ => h.block k hk⟩
theorem Gq.of_grown {B : Nat} {w w' : World} {v : Value} {n : Nat} {xs : List Value} (ho : w.ownsRow B 5 1 v n xs) (hg : w.grownBy w' v.ownBlock) : Gq B w w' :=
  ⟨hg.os, hg.tape, hg.output, hg.size, fun k hk hc => hg.block k hk (fun e => by
    obtain ⟨hl, ⟨hv, _⟩ | ⟨g, cap, cur, he, k1, k2, k3⟩⟩ := ho
    · subst hv; simp [Value.ownBlock] at e
    · subst he
      simp [Value.ownBlock] at e
      subst e
      rcases hc with hc | hc
      · omega
      · exact hc _ _ k2)⟩
theorem Gq.heap {B : Nat} {w w' : World} (h : Gq B w w') {b t : Nat} {cs : Array Value} {fr : Nat × Nat} (hc : w.heap[b]? = some (.cells cs t fr)) (ht : t ≠ 5) : w'.heap[b]? = some (.cells cs t fr) :=
  (h.block b (lt_block hc) (.inr fun cs' fr' e => by rw [hc] at e; injection e with e; injection e with _ e _; exact ht e)).trans hc
theorem Gq.sl {B : Nat} {w w' : World} (h : Gq B w w') {ao : Option Addr} {l : List UInt8} (hs : Sl w ao l) (hb : ∀ a, ao = some a → l ≠ [] → a.block < B) : Sl w' ao l := by
  intro j hj
  obtain ⟨b, off, rfl, hc⟩ := hs j hj
  have hl : l ≠ [] := by rintro rfl; simp at hj
  exact ⟨b, off, rfl, (World.cell?_of_block (a := ⟨b, off + j, none⟩) (h.block b (World.block_lt_of_cell? w _ hc) (.inl (hb _ rfl hl)))).trans hc⟩
theorem Gq.below {B n : Nat} {w w' : World} (h : Gq B w w') (hn : n ≤ w.heap.size) (hB : n ≤ B) : Below n w w' :=
  ⟨h.os, h.tape, h.output, h.size, fun k hk => h.block k (by omega) (.inl (by omega))⟩
section
variable {n : Nat} {X : World} {o : Option Addr} {c : Nat} {l : List UInt8}
/-- append of bytes. -/
theorem app_b (h : By n X (.slice o l.length c) l) (hn : n ≤ X.heap.size) (o2 : Option Addr) (c2 : Nat) (l2 : List UInt8) (hs : Sl X o2 l2) (hnil : o2 = none → l2.length = 0 ∧ c2 = 0) (hl : l.length + l2.length ≤ 1000000) :
    ∃ o' c' X', (Builtin.append_ #[25, 25] 25 #[.slice o l.length c, .slice o2 l2.length c2]).run Try.prog X = .ok (.slice o' (l ++ l2).length c') X' ∧ By n X' (.slice o' (l ++ l2).length c') (l ++ l2) ∧ Gq n X X' := by
  obtain ⟨i0, hi, hz0, hz1, hz2⟩ := info_parts info5
  cases o2 with
  | none =>
    obtain ⟨e1, e2⟩ := hnil rfl
    obtain rfl : l2 = [] := List.eq_nil_of_length_eq_zero e1
    subst e2
    have hrun := run_append_owned_none (P := Try.prog) (w := X) n 25 25 5 i0 1 Try.underlying25 hi (.slice o l.length c) l.length (bc l) h
    refine ⟨o, c, X, by simpa using hrun, by simpa using h, Gq.refl _ _⟩
  | some ad =>
    obtain ⟨v', w', hrun, hown', hgr, _, _⟩ := run_append_own_at (P := Try.prog) X n 25 25 5 i0 (.int .u8 0) 1 1 Try.underlying25 hi hz0 hz1 hz2 rfl (by decide) _ _ _ h ad l2.length c2 (bc l2) (by rw [bc_length]; omega) (Sl_cells hs) (bc_one l2) (by unfold maxLen; omega) (by omega) hn
    obtain ⟨o', c', rfl⟩ := own_val hown'
    refine ⟨o', c', w', by rw [List.length_append]; exact hrun, ?_, Gq.of_grown h hgr⟩
    unfold By
    rw [List.length_append, bc_append]
    exact hown'
/-- append of a string. -/
theorem app_s (h : By n X (.slice o l.length c) l) (hn : n ≤ X.heap.size) (S : ByteArray) (hl : l.length + S.size ≤ 1000000) :
    ∃ o' c' X', (Builtin.append_ #[25, 9] 25 #[.slice o l.length c, .string S]).run Try.prog X = .ok (.slice o' (l ++ S.data.toList).length c') X' ∧ By n X' (.slice o' (l ++ S.data.toList).length c') (l ++ S.data.toList) ∧ Gq n X X' := by
  obtain ⟨i0, hi, hz0, hz1, hz2⟩ := info_parts info5
  obtain ⟨v', w', hrun, h1, h2, _⟩ := run_append_own_string (P := Try.prog) X n 25 9 25 5 i0 Try.underlying25 u9 hi hz0 hz1 hz2 _ _ _ h S (by unfold maxLen; omega) (by omega) hn
  obtain ⟨o', c', rfl⟩ := own_val h1
  have e : (l ++ S.data.toList).length = l.length + S.size := by rw [List.length_append]; rfl
  refine ⟨o', c', w', by rw [e]; exact hrun, ?_, Gq.of_grown h h2⟩
  unfold By
  rw [e, bc_append]
  exact h1
end
theorem appr {P : Program} {ops : Array Oper} {rest : List Oper} {o : Oper} {a : Act} {w : World} {Q : Exit → Act → World → Prop}
    (hg : o.guard = none) (d x : Operand) (dT sT : TypeId) (hop : o.op = Op.call { callee := Callee.builtin Builtin.append, args := #[d, x], argTypes := #[dT, sT] })
    (v u : Value) (hd : a.eval d = v) (hx : a.eval x = u) {v' : Value} {w' : World} (hr : (Builtin.append_ #[dT, sT] o.type #[v, u]).run P w = .ok v' w') (hK : wpList P ops Q rest (a.put o.dst v') w') :
    wpList P ops Q (o :: rest) a w :=
  wpList_plain hg fun K hK' => (by
    unfold Oper.wp
    simp [execOp, hop, resolve, invoke, builtin, hd, hx, hr, Result.andThen]
    exact hK' _ _ hK)
/-- What a function of the reference leaves: bytes of one's own. -/
def Rp (n : Nat) (l : List UInt8) (w : World) (e : Ending) (w' : World) : Prop := ∃ o c, e = .returned (.slice o l.length c) ∧ By n w' (.slice o l.length c) l ∧ Gq n w w'
section
variable {n : Nat} {w : World} {o : Option Addr} {c : Nat} {l : List UInt8}
theorem sl1 (w : World) (x : Int) (b : UInt8) (h : x = (b.toNat : Int)) : Sl (w.alloc (.cells #[.int .u8 x] 5)) (some ⟨w.heap.size, 0, none⟩) [b] := by rw [h]; exact Sl_new w b
set_option maxRecDepth 10000 in
theorem rshort_c (h : By n w (.slice o l.length c) l) (hn : n ≤ w.heap.size) (S : ByteArray) (hl : l.length + S.size ≤ 900000) : Calls Try.prog 33 #[.slice o l.length c, .string S] w (Rp n (l ++ [UInt8.ofNat S.size] ++ S.data.toList) w) := by
  have hw : IntKind.u8.wrap (S.size : Int) = ((UInt8.ofNat S.size).toNat : Int) := by rw [IntKind.wrap_u8, UInt8.toNat_ofNat']; omega
  obtain ⟨x, hx⟩ : ∃ x, x = IntKind.u8.wrap (S.size : Int) := ⟨_, rfl⟩
  have hb := bl1 w (.cells #[.int .u8 x] 5)
  obtain ⟨o1, c1, X1, r1, b1, g1⟩ := app_b (h.below hb) (Nat.le_trans hn hb.size) (some ⟨w.heap.size, 0, none⟩) 1 [UInt8.ofNat S.size] (sl1 w x _ (hx.trans hw)) (fun h => by cases h) (by simp; omega)
  have g1' : Gq n w X1 := (Gq.of_below hb).trans g1
  obtain ⟨o2, c2, X2, r2, b2, g2⟩ := app_s b1 (Nat.le_trans hn g1'.size) S (by simp; omega)
  have HF : Hid (Rp n (l ++ [UInt8.ofNat S.size] ++ S.data.toList) w (.returned (.slice o2 (l ++ [UInt8.ofNat S.size] ++ S.data.toList).length c2)) X2) := ⟨o2, c2, rfl, b2, g1'.trans g2⟩
  have R1 : Hid _ := r1
  have R2 : Hid _ := r2
  have hx' := hx.symm
  clear h r1 r2 b1 b2 g1 g2 g1' hb hw hx
  generalize l ++ [UInt8.ofNat S.size] ++ S.data.toList = L2 at *
  generalize (l ++ [UInt8.ofNat S.size]) = L1 at *
  go_enter Try.func33, Try.ntmps33
  go_wp2_with (first | (refine appr rfl _ _ 25 25 rfl _ _ rfl rfl R1.out (Hid.out ?_)) | (refine appr rfl _ _ 25 9 rfl _ _ rfl rfl R2.out (Hid.out ?_)))
  refine mkHid ?_
  go_wp2_with (refine appr rfl _ _ 25 9 rfl _ _ rfl rfl R2.out (Hid.out ?_))
  refine mkHid ?_
  go_wp2_with fail
  go_ret
  exact HF.out
theorem sl2 (w : World) (x y : Int) (b d : UInt8) (h : x = (b.toNat : Int)) (h' : y = (d.toNat : Int)) : Sl (w.alloc (.cells #[.int .u8 x, .int .u8 y] 5)) (some ⟨w.heap.size, 0, none⟩) [b, d] := by
  subst h h'
  exact Sl_own (heap_alloc_new w _) (by simp [bc])
set_option maxRecDepth 10000 in
theorem rlong_c (h : By n w (.slice o l.length c) l) (hn : n ≤ w.heap.size) (o2 : Option Addr) (c2 : Nat) (S : List UInt8) (hS : Sl w o2 S) (hnil : o2 = none → S.length = 0 ∧ c2 = 0) (hlt : ∀ a, o2 = some a → S ≠ [] → a.block < n) (hl : l.length + S.length ≤ 900000) : Calls Try.prog 35 #[.slice o l.length c, .slice o2 S.length c2] w (Rp n (l ++ [UInt8.ofNat (S.length / 256), UInt8.ofNat S.length] ++ S) w) := by
  have hw : (S.length : Int) / 256 % 256 = ((UInt8.ofNat (S.length / 256)).toNat : Int) := by rw [UInt8.toNat_ofNat']; omega
  have hw' : IntKind.u8.wrap (S.length : Int) = ((UInt8.ofNat S.length).toNat : Int) := by rw [IntKind.wrap_u8, UInt8.toNat_ofNat']; omega
  obtain ⟨x, hx⟩ : ∃ x, x = (S.length : Int) / 256 % 256 := ⟨_, rfl⟩
  obtain ⟨y, hy⟩ : ∃ y, y = IntKind.u8.wrap (S.length : Int) := ⟨_, rfl⟩
  have hb := bl1 w (.cells #[.int .u8 x, .int .u8 y] 5)
  obtain ⟨o1, c1, X1, r1, b1, g1⟩ := app_b (h.below hb) (Nat.le_trans hn hb.size) (some ⟨w.heap.size, 0, none⟩) 2 [UInt8.ofNat (S.length / 256), UInt8.ofNat S.length] (sl2 w x y _ _ (hx.trans hw) (hy.trans hw')) (fun h => by cases h) (by simp; omega)
  have g1' : Gq n w X1 := (Gq.of_below hb).trans g1
  obtain ⟨o3, c3, X2, r2, b2, g2⟩ := app_b b1 (Nat.le_trans hn g1'.size) o2 c2 S (g1'.sl hS hlt) hnil (by simp; omega)
  have HF : Hid (Rp n (l ++ [UInt8.ofNat (S.length / 256), UInt8.ofNat S.length] ++ S) w (.returned (.slice o3 (l ++ [UInt8.ofNat (S.length / 256), UInt8.ofNat S.length] ++ S).length c3)) X2) := ⟨o3, c3, rfl, b2, g1'.trans g2⟩
  have R1 : Hid _ := r1
  have R2 : Hid _ := r2
  have hx' := hx.symm
  have hy' := hy.symm
  clear h r1 r2 b1 b2 g1 g2 g1' hb hw hx hw' hy hS hnil hlt
  generalize l ++ [UInt8.ofNat (S.length / 256), UInt8.ofNat S.length] ++ S = L2 at *
  generalize (l ++ [UInt8.ofNat (S.length / 256), UInt8.ofNat S.length]) = L1 at *
  go_enter Try.func35, Try.ntmps35
  go_wp2_with (refine appr rfl _ _ 25 25 rfl _ _ rfl rfl R1.out (Hid.out ?_))
  refine mkHid ?_
  go_wp2_with (refine appr rfl _ _ 25 25 rfl _ _ rfl rfl R2.out (Hid.out ?_))
  refine mkHid ?_
  go_wp2_with fail
  go_ret
  exact HF.out
set_option maxRecDepth 10000 in
theorem rflag_c (h : By n w (.slice o l.length c) l) (hn : n ≤ w.heap.size) (x y : Bool) (hl : l.length ≤ 900000) : Calls Try.prog 34 #[.slice o l.length c, .bool x, .bool y] w (Rp n (l ++ [UInt8.ofNat (bitN x 1 + bitN y 2)]) w) := by
  have key : ∀ b : UInt8, ∃ o1 c1 X1, (Builtin.append_ #[25, 25] 25 #[.slice o l.length c, .slice (some ⟨w.heap.size, 0, none⟩) 1 1]).run Try.prog (w.alloc (.cells #[.int .u8 (b.toNat : Int)] 5)) = .ok (.slice o1 (l ++ [b]).length c1) X1 ∧ Rp n (l ++ [b]) w (.returned (.slice o1 (l ++ [b]).length c1)) X1 := fun b => by
    have hb := bl1 w (.cells #[.int .u8 (b.toNat : Int)] 5)
    obtain ⟨o1, c1, X1, r1, b1, g1⟩ := app_b (h.below hb) (Nat.le_trans hn hb.size) (some ⟨w.heap.size, 0, none⟩) 1 [b] (sl1 w _ b rfl) (fun h => by cases h) (by simp; omega)
    exact ⟨o1, c1, X1, r1, o1, c1, rfl, b1, (Gq.of_below hb).trans g1⟩
  cases x <;> cases y
  · obtain ⟨o1, c1, X1, r1, hf⟩ := key 0
    have R1 : Hid _ := r1
    have HF : Hid (Rp n (l ++ [0]) w (.returned (.slice o1 (l ++ [0]).length c1)) X1) := hf
    show Calls _ _ _ _ (Rp n (l ++ [0]) w)
    clear key r1 hf h
    generalize l ++ [0] = L at *
    go_enter Try.func34, Try.ntmps34
    go_wp2_with (refine appr rfl _ _ 25 25 rfl _ _ rfl rfl R1.out (Hid.out ?_))
    refine mkHid ?_
    go_wp2_with fail
    go_ret
    exact HF.out
  · obtain ⟨o1, c1, X1, r1, hf⟩ := key 2
    have R1 : Hid _ := r1
    have HF : Hid (Rp n (l ++ [2]) w (.returned (.slice o1 (l ++ [2]).length c1)) X1) := hf
    show Calls _ _ _ _ (Rp n (l ++ [2]) w)
    clear key r1 hf h
    generalize l ++ [2] = L at *
    go_enter Try.func34, Try.ntmps34
    go_wp2_with (refine appr rfl _ _ 25 25 rfl _ _ rfl rfl R1.out (Hid.out ?_))
    refine mkHid ?_
    go_wp2_with fail
    go_ret
    exact HF.out
  · obtain ⟨o1, c1, X1, r1, hf⟩ := key 1
    have R1 : Hid _ := r1
    have HF : Hid (Rp n (l ++ [1]) w (.returned (.slice o1 (l ++ [1]).length c1)) X1) := hf
    show Calls _ _ _ _ (Rp n (l ++ [1]) w)
    clear key r1 hf h
    generalize l ++ [1] = L at *
    go_enter Try.func34, Try.ntmps34
    go_wp2_with (refine appr rfl _ _ 25 25 rfl _ _ rfl rfl R1.out (Hid.out ?_))
    refine mkHid ?_
    go_wp2_with fail
    go_ret
    exact HF.out
  · obtain ⟨o1, c1, X1, r1, hf⟩ := key 3
    have R1 : Hid _ := r1
    have HF : Hid (Rp n (l ++ [3]) w (.returned (.slice o1 (l ++ [3]).length c1)) X1) := hf
    show Calls _ _ _ _ (Rp n (l ++ [3]) w)
    clear key r1 hf h
    generalize l ++ [3] = L at *
    go_enter Try.func34, Try.ntmps34
    go_wp2_with (refine appr rfl _ _ 25 25 rfl _ _ rfl rfl R1.out (Hid.out ?_))
    refine mkHid ?_
    go_wp2_with fail
    go_ret
    exact HF.out
end
end Go.Proofs.Ytcchlicokglmnaa
