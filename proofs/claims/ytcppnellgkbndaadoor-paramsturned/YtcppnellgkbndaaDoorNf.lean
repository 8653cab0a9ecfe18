/- params: what bytes.Clone answers: bytes of the call's own. What octet.Var and the reference's Read answer, for every input, in one form. params: the methods 'read' of flags, numerals, identifiers, optional identifiers. params: the methods 'read' of tokens and of optional identifiers. params: errors.Is at a number of an error; fault. -/
import Derived.Test.YtcppnellgkbndaaDoorRw
import Derived.Test.YtcppnellgkbndaaDoorOpenP
import Derived.OwnWalk
import Derived.Test.YtcppnellgkbndaaDoorRead
import Derived.Laws.CopyOwn
import Derived.LaidEql
import Derived.Stop.Asserts
import Derived.RowKitTokens
namespace Go.Proofs.YtcppnellgkbndaaDoor
open Go.ChangeShapes Go.WideShapes Go.ChangeAt Go.RowKit
set_option linter.unusedVariables false

/-- bytes of the call's own -/
def By (B : Nat) (w : World) (v : Value) (X : List UInt8) : Prop := w.ownsRow B 5 1 v X.length (bc X)
theorem By.below {B : Nat} {w w' : World} {v : Value} {X : List UInt8} (h : By B w v X) (hb : Below w.heap.size w w') : By B w' v X := by
  obtain ⟨hl, hc | ⟨g, cap, cur, he, k1, k2, k3⟩⟩ := h
  · exact ⟨hl, .inl hc⟩
  · exact ⟨hl, .inr ⟨g, cap, cur, he, k1, (hb.block g (lt_block k2)).trans k2, k3⟩⟩
theorem By.mono {B B' : Nat} {w : World} {v : Value} {X : List UInt8} (h : By B w v X) (hB : B' ≤ B) : By B' w v X := by
  obtain ⟨hl, hc | ⟨g, cap, cur, he, k1, k2⟩⟩ := h
  · exact ⟨hl, .inl hc⟩
  · exact ⟨hl, .inr ⟨g, cap, cur, he, Nat.le_trans hB k1, k2⟩⟩
theorem By.parts {B : Nat} {w : World} {v : Value} {X : List UInt8} (h : By B w v X) : ∃ ao c, v = .slice ao X.length c ∧ (ao = none → X.length = 0 ∧ c = 0) ∧ Sl w ao X ∧ X.length ≤ c ∧ c ≤ 9223372036854775807 ∧ (∀ ad, ao = some ad → ∃ g, ad = ⟨g, 0, none⟩ ∧ B ≤ g ∧ g < w.heap.size) := by
  obtain ⟨hl, ⟨h1, h2⟩ | ⟨g, cap, cur, he, k1, k2, k3, k4, k5, k6⟩⟩ := h
  · have : X = [] := List.eq_nil_of_length_eq_zero h2
    subst this
    exact ⟨none, 0, h1, fun _ => ⟨rfl, rfl⟩, fun j hj => absurd hj (by simp), by simp, by decide, fun _ h => by cases h⟩
  · exact ⟨some ⟨g, 0, none⟩, cap, he, (fun h => nomatch h), Sl_own k2 (by simpa using k6), k3, k4, fun ad h => ⟨g, (Option.some.inj h).symm, k1, lt_block k2⟩⟩

theorem eql_nil (w : World) : Sem.run Tryd.prog (binOp BinOp.eql 22 (.slice none 0 0) (.slice none 0 0)) w = .ok (.bool true) w := by kernel_rfl
theorem eql_some (ad : Addr) (n c : Nat) (w : World) : Sem.run Tryd.prog (binOp BinOp.eql 22 (.slice (some ad) n c) (.slice none 0 0)) w = .ok (.bool false) w := by kernel_rfl

set_option maxRecDepth 10000 in
theorem clone_any (ao : Option Addr) (X : List UInt8) (n c : Nat) (w : World) (hs : Sl w ao X) (hn : X.length = n) (hl : n ≤ 140737488355328) (hnil : ao = none → n = 0 ∧ c = 0) :
    Calls Tryd.prog 83 #[.slice ao n c] w fun e w' => ∃ oa cp, e = .returned (.slice oa n cp) ∧ By w.heap.size w' (.slice oa n cp) X ∧ Below w.heap.size w w' := by
  obtain ⟨i0, hi, hz0, hz1, hz2⟩ := info_parts info5
  cases ao with
  | none =>
    obtain ⟨rfl, rfl⟩ := hnil rfl
    have hX : X = [] := List.eq_nil_of_length_eq_zero hn
    clear hs hnil
    have q := eql_nil
    go_enter Tryd.func83, Tryd.ntmps83
    go_wp2
    go_ret
    subst hX
    exact ⟨none, 0, rfl, ⟨rfl, .inl ⟨rfl, rfl⟩⟩, Below.refl _ _⟩
  | some ad =>
    have HS := mkHid hs
    have HX := mkHid hn
    clear hs hn hnil
    have q := eql_some
    go_enter Tryd.func83, Tryd.ntmps83
    go_wp2_with ((at_builtin; refine wpList_append_bytes rfl (.tmp 5) (.tmp 6) rfl w.heap.size i0 Tryd.underlying22 hi hz0 hz1 hz2 _ 0 [] rfl (World.ownsRow_made w #[] 0 (Nat.le_refl _) (by decide) rfl) (some ad) n c X rfl HX.out (fun h => by cases h) (Sl_alloc HS.out _) (by omega) (by simp) ?_; intro v1 w1 hown hgrow; have HO1 := mkHid hown; have HG1 := mkHid hgrow; clear hown hgrow))
    go_ret
    have ho := HO1.out
    rw [List.nil_append, Nat.zero_add] at ho
    have hg : (w.alloc (.cells #[] 5)).grownBy w1 (Value.slice (some ⟨w.heap.size, 0, none⟩) 0 0).ownBlock := HG1.out
    have hB : Below w.heap.size w w1 := ((Below.refl w.heap.size w).alloc (Nat.le_refl _) _).grown hg (by simp) (fun k hk => by simp [Value.ownBlock] at hk; omega)
    have hy : By w.heap.size w1 v1 X := by unfold By; rw [HX.out]; exact ho
    obtain ⟨oa, cp, he, _⟩ := hy.parts
    rw [HX.out] at he
    subst he
    exact ⟨oa, cp, rfl, hy, hB⟩
end Go.Proofs.YtcppnellgkbndaaDoor
namespace Go.Proofs.YtcppnellgkbndaaDoor
open Go.ChangeShapes Go.WideShapes Go.ChangeAt Go.RowKit
set_option linter.unusedVariables false

/-- how many bytes the number at a place has -/
def wd (l : List UInt8) (a : Nat) : Nat := 2 ^ ((l.getD a 0).toNat / 64)
abbrev vOk (l : List UInt8) (a : Int) : Prop := 0 ≤ a ∧ a < l.length ∧ a + wd l a.toNat ≤ l.length
def vV (l : List UInt8) (a : Int) : Int := if vOk l a then ((num (sub l a.toNat (wd l a.toNat)) % 2 ^ (8 * wd l a.toNat - 2) : Nat) : Int) else 0
def vN (l : List UInt8) (a : Int) : Int := if vOk l a then a + wd l a.toNat else 0
def vE (l : List UInt8) (a : Int) : Int := if a < 0 ∨ (l.length : Int) < a then 2 else if vOk l a then 0 else 10

theorem wd_of {l : List UInt8} {a q : Nat} (h : a < l.length) (hq : l[a].toNat / 64 = q) : wd l a = 2 ^ q := by
  unfold wd
  rw [show l.getD a 0 = l[a] by simp [List.getD, h], hq]
theorem v_arg {l : List UInt8} {a : Int} (h : a < 0 ∨ (l.length : Int) < a) : vV l a = 0 ∧ vN l a = 0 ∧ vE l a = 2 := by
  have hn : ¬ vOk l a := by unfold vOk; omega
  exact ⟨if_neg hn, if_neg hn, if_pos h⟩
theorem v_few {l : List UInt8} {a : Nat} (h : a ≤ l.length) (hn : ¬ vOk l a) : vV l a = 0 ∧ vN l a = 0 ∧ vE l a = 10 :=
  ⟨if_neg hn, if_neg hn, (if_neg (by omega)).trans (if_neg hn)⟩
theorem v_yes {l : List UInt8} {a n : Nat} (P : Nat) (hP : 2 ^ (8 * n - 2) = P) (h : a < l.length) (hw : wd l a = n) (hl : a + n ≤ l.length) : vV l a = (num (sub l a n) : Int) % (P : Int) ∧ vN l a = a + n ∧ vE l a = 0 := by
  have ho : vOk l a := by unfold vOk; rw [Int.toNat_natCast, hw]; omega
  refine ⟨(if_pos ho).trans ?_, (if_pos ho).trans ?_, (if_neg (by omega)).trans (if_pos ho)⟩
  · rw [Int.toNat_natCast, hw, hP, Int.natCast_emod]
  · rw [Int.toNat_natCast, hw]

theorem var_any (ao : Option Addr) (l : List UInt8) (cap : Nat) (a : Int) (w : World) (ht : Tb w) (hs : Sl w ao l) (hl : l.length ≤ 9223372036854775000) :
    Calls Tryd.prog 42 #[.slice ao l.length cap, .int .i64 a] w fun e w' => e = .returned (.tuple #[.int .i64 (vV l a), .int .i64 (vN l a), .int .i64 (vE l a)]) ∧ w' = w := by
  by_cases hA : a < 0 ∨ (l.length : Int) < a
  · obtain ⟨e1, e2, e3⟩ := v_arg hA
    rw [e1, e2, e3]
    exact var_arg ao l.length cap a w hA hl
  · obtain ⟨A, rfl⟩ := Int.eq_ofNat_of_zero_le (show 0 ≤ a by omega)
    by_cases hE : A = l.length
    · obtain ⟨e1, e2, e3⟩ := v_few (l := l) (a := A) (by omega) (by unfold vOk; omega)
      rw [e1, e2, e3, hE]
      exact var_end ao l.length cap w hl
    · have hlt : A < l.length := by omega
      have hb : l[A].toNat < 256 := l[A].toNat_lt
      have hq : l[A].toNat / 64 = 0 ∨ l[A].toNat / 64 = 1 ∨ l[A].toNat / 64 = 2 ∨ l[A].toNat / 64 = 3 := by omega
      rcases hq with hq | hq | hq | hq
      · have hw : wd l A = 1 := wd_of hlt hq
        obtain ⟨e1, e2, e3⟩ := v_yes 64 (by decide) hlt hw (by omega)
        rw [e1, e2, e3]
        exact var_1 ao l cap A w ht hs hl (by omega) hq
      · have hw : wd l A = 2 := wd_of hlt hq
        by_cases hf : A + 2 ≤ l.length
        · obtain ⟨e1, e2, e3⟩ := v_yes 16384 (by decide) hlt hw hf
          rw [e1, e2, e3]
          exact var_2 ao l cap A w ht hs hl hf hq
        · obtain ⟨e1, e2, e3⟩ := v_few (l := l) (a := A) (by omega) (by unfold vOk; rw [Int.toNat_natCast, hw]; omega)
          rw [e1, e2, e3]
          exact var_few_2 ao l cap A w ht hs hl hlt (by omega) hq
      · have hw : wd l A = 4 := wd_of hlt hq
        by_cases hf : A + 4 ≤ l.length
        · obtain ⟨e1, e2, e3⟩ := v_yes 1073741824 (by decide) hlt hw hf
          rw [e1, e2, e3]
          exact var_4 ao l cap A w ht hs hl hf hq
        · obtain ⟨e1, e2, e3⟩ := v_few (l := l) (a := A) (by omega) (by unfold vOk; rw [Int.toNat_natCast, hw]; omega)
          rw [e1, e2, e3]
          exact var_few_4 ao l cap A w ht hs hl hlt (by omega) hq
      · have hw : wd l A = 8 := wd_of hlt hq
        by_cases hf : A + 8 ≤ l.length
        · obtain ⟨e1, e2, e3⟩ := v_yes 4611686018427387904 (by decide) hlt hw hf
          rw [e1, e2, e3]
          exact var_8 ao l cap A w ht hs hl hf hq
        · obtain ⟨e1, e2, e3⟩ := v_few (l := l) (a := A) (by omega) (by unfold vOk; rw [Int.toNat_natCast, hw]; omega)
          rw [e1, e2, e3]
          exact var_few_8 ao l cap A w ht hs hl hlt (by omega) hq

theorem rread_any (ao : Option Addr) (l : List UInt8) (cap : Nat) (a : Int) (w : World) (hs : Sl w ao l) (hl : l.length ≤ 9223372036854775000) (hcap : l.length ≤ cap) (hcm : cap ≤ 9223372036854775807) :
    Calls Tryd.prog 34 #[.slice ao l.length cap, .int .i64 a] w fun e w' => e = .returned (.tuple #[.int .i64 (vV l a), .int .i64 (vN l a), .int .i64 (vE l a)]) ∧ Below w.heap.size w w' := by
  by_cases hA : a < 0 ∨ (l.length : Int) < a
  · obtain ⟨e1, e2, e3⟩ := v_arg hA
    rw [e1, e2, e3]
    exact (rread_arg ao l.length cap a w hA hl).mono fun e w' h => ⟨h.1, by rw [h.2]; exact Below.refl _ _⟩
  · obtain ⟨A, rfl⟩ := Int.eq_ofNat_of_zero_le (show 0 ≤ a by omega)
    by_cases hE : A = l.length
    · obtain ⟨e1, e2, e3⟩ := v_few (l := l) (a := A) (by omega) (by unfold vOk; omega)
      rw [e1, e2, e3, hE]
      exact (rread_end ao l.length cap w hl).mono fun e w' h => ⟨h.1, by rw [h.2]; exact Below.refl _ _⟩
    · have hlt : A < l.length := by omega
      have hb : l[A].toNat < 256 := l[A].toNat_lt
      have hq : l[A].toNat / 64 = 0 ∨ l[A].toNat / 64 = 1 ∨ l[A].toNat / 64 = 2 ∨ l[A].toNat / 64 = 3 := by omega
      rcases hq with hq | hq | hq | hq
      · have hw : wd l A = 1 := wd_of hlt hq
        obtain ⟨e1, e2, e3⟩ := v_yes 64 (by decide) hlt hw (by omega)
        rw [e1, e2, e3]
        exact rread_1 ao l cap A w hs hl hcap hcm (by omega) hq
      · have hw : wd l A = 2 := wd_of hlt hq
        by_cases hf : A + 2 ≤ l.length
        · obtain ⟨e1, e2, e3⟩ := v_yes 16384 (by decide) hlt hw hf
          rw [e1, e2, e3]
          exact rread_2 ao l cap A w hs hl hcap hcm hf hq
        · obtain ⟨e1, e2, e3⟩ := v_few (l := l) (a := A) (by omega) (by unfold vOk; rw [Int.toNat_natCast, hw]; omega)
          rw [e1, e2, e3]
          exact (rread_few_2 ao l cap A w hs hl hlt (by omega) hq).mono fun e w' h => ⟨h.1, by rw [h.2]; exact Below.refl _ _⟩
      · have hw : wd l A = 4 := wd_of hlt hq
        by_cases hf : A + 4 ≤ l.length
        · obtain ⟨e1, e2, e3⟩ := v_yes 1073741824 (by decide) hlt hw hf
          rw [e1, e2, e3]
          exact rread_4 ao l cap A w hs hl hcap hcm hf hq
        · obtain ⟨e1, e2, e3⟩ := v_few (l := l) (a := A) (by omega) (by unfold vOk; rw [Int.toNat_natCast, hw]; omega)
          rw [e1, e2, e3]
          exact (rread_few_4 ao l cap A w hs hl hlt (by omega) hq).mono fun e w' h => ⟨h.1, by rw [h.2]; exact Below.refl _ _⟩
      · have hw : wd l A = 8 := wd_of hlt hq
        by_cases hf : A + 8 ≤ l.length
        · obtain ⟨e1, e2, e3⟩ := v_yes 4611686018427387904 (by decide) hlt hw hf
          rw [e1, e2, e3]
          exact rread_8 ao l cap A w hs hl hcap hcm hf hq
        · obtain ⟨e1, e2, e3⟩ := v_few (l := l) (a := A) (by omega) (by unfold vOk; rw [Int.toNat_natCast, hw]; omega)
          rw [e1, e2, e3]
          exact (rread_few_8 ao l cap A w hs hl hlt (by omega) hq).mono fun e w' h => ⟨h.1, by rw [h.2]; exact Below.refl _ _⟩
end Go.Proofs.YtcppnellgkbndaaDoor
namespace Go.Proofs.YtcppnellgkbndaaDoor
open Go.ChangeShapes Go.WideShapes Go.ChangeAt Go.RowKit
set_option linter.unusedVariables false
set_option maxRecDepth 100000

/-- Nothing that was there turns but blocks in K. -/
structure Gs (K : Nat → Prop) (w w' : World) : Prop where
  os : w'.os = w.os
  tape : w'.tape = w.tape
  output : w'.output = w.output
  size : w.heap.size ≤ w'.heap.size
  block : ∀ k, k < w.heap.size → ¬ K k → w'.heap[k]? = w.heap[k]?
theorem Gs.refl (K : Nat → Prop) (w : World) : Gs K w w := ⟨rfl, rfl, rfl, Nat.le_refl _, fun _ _ _ => rfl⟩
theorem Gs.trans {K : Nat → Prop} {a b c : World} (h : Gs K a b) (k : Gs K b c) : Gs K a c :=
  ⟨k.os.trans h.os, k.tape.trans h.tape, k.output.trans h.output, Nat.le_trans h.size k.size, fun i hi hk => (k.block i (Nat.lt_of_lt_of_le hi h.size) hk).trans (h.block i hi hk)⟩
theorem Gs.of_below {K : Nat → Prop} {w w' : World} (h : Below w.heap.size w w') : Gs K w w' := ⟨h.os, h.tape, h.output, h.size, fun k hk _ => h.block k hk⟩
theorem Gs.mono {K J : Nat → Prop} {w w' : World} (h : Gs K w w') (hk : ∀ k, K k → J k) : Gs J w w' := ⟨h.os, h.tape, h.output, h.size, fun k hk' hn => h.block k hk' fun hK => hn (hk k hK)⟩
theorem Gs.set {K : Nat → Prop} {w : World} {p j : Nat} (x : Value) (hp : K p) : Gs K w (w.setCell ⟨p, j, none⟩ x) :=
  ⟨rfl, rfl, rfl, by simp [World.setCell], fun k _ hn => Below.heap_setCell _ _ _ _ (by rintro rfl; exact hn hp)⟩
theorem Gs.toBelow {K : Nat → Prop} {n : Nat} {w w' : World} (h : Gs K w w') (hn : n ≤ w.heap.size) (hk : ∀ k, K k → n ≤ k) : Below n w w' :=
  ⟨h.os, h.tape, h.output, h.size, fun k hkn => h.block k (by omega) fun hK => by have := hk k hK; omega⟩
theorem Gs.cell {K : Nat → Prop} {w w' : World} (h : Gs K w w') {b j : Nat} {v : Value} (hc : w.cell? ⟨b, j, none⟩ = some v) (hb : ¬ K b) : w'.cell? ⟨b, j, none⟩ = some v :=
  (World.cell?_of_block (a := ⟨b, j, none⟩) (h.block b (World.block_lt_of_cell? w _ hc) hb)).trans hc
theorem Gs.sl {K : Nat → Prop} {w w' : World} (h : Gs K w w') {ao : Option Addr} {l : List UInt8} (hs : Sl w ao l) (hb : ∀ a, ao = some a → l ≠ [] → ¬ K a.block) : Sl w' ao l := by
  intro j hj
  obtain ⟨b, off, rfl, hc⟩ := hs j hj
  have hl : l ≠ [] := by rintro rfl; simp at hj
  exact ⟨b, off, rfl, h.cell hc (hb _ rfl hl)⟩
/-- A struct of parameters as it lies. -/
def Cr (w : World) (P : Nat) (cs : Array Value) : Prop := w.heap[P]? = some (.cells cs 25 (0, 0))
section
variable {w w' : World} {P : Nat} {cs : Array Value}
theorem Cr.fr (h : Cr w P cs) (j : Nat) : w.frozen? ⟨P, j, none⟩ = false := by have h' : w.heap[P]? = _ := h; simp [World.frozen?, h']
theorem Cr.cell (h : Cr w P cs) (j : Nat) (v : Value) (hj : cs[j]? = some v) : w.cell? ⟨P, j, none⟩ = some v := cellb h hj
theorem Cr.bel (h : Cr w P cs) (hb : Below w.heap.size w w') : Cr w' P cs := (hb.block P (lt_block h)).trans h
theorem Cr.set (h : Cr w P cs) (j : Nat) (x : Value) : Cr (w.setCell ⟨P, j, none⟩ x) P (cs.setIfInBounds j x) := by
  show (w.setCell ⟨P, j, none⟩ x).heap[P]? = _
  rw [heap_setCell_same w P j _ 25 _ h]
end
/-- What a read leaves. -/
def RdR (P : Nat) (cs' : Array Value) (ok : Bool) (w : World) (e : Ending) (w' : World) : Prop := e = .returned (.bool ok) ∧ Cr w' P cs' ∧ Gs (fun k => k = P) w w'
theorem hu83 : Tryd.prog.underlying 83 = some (.struct (Tryd.prog.fieldsOf 83)) := by kernel_rfl
theorem hi83 : (Tryd.prog.info? 83).map (·.size) = some 4 := by kernel_rfl
theorem zero_eq (n : Nat) : ((n : Int) == 0) = decide (n = 0) := by by_cases h : n = 0 <;> simp [h]
section
variable {w : World} {P : Nat} {cs : Array Value}
theorem flag_read (j : Nat) (old : Value) (h : Cr w P cs) (hj : cs[j]? = some old) (o : Option Addr) (n c : Nat) : Calls Tryd.prog 90 #[flagV P j, .slice o n c] w (RdR P (cs.setIfInBounds j (.bool true)) (decide (n = 0)) w) := by
  obtain ⟨W1, hW1⟩ : ∃ W1, w.alloc (.cells #[.pointer (some ⟨P, j, none⟩)] 93) = W1 := ⟨_, rfl⟩
  have hB : Below w.heap.size w W1 := by rw [← hW1]; exact bel1 w _
  have d0 : W1.cell? ⟨w.heap.size, 0, none⟩ = some (.pointer (some ⟨P, j, none⟩)) := by rw [← hW1]; exact cell_new w _ 93 0 _ rfl
  have h1 : Cr W1 P cs := h.bel hB
  have dx := h1.cell j _ hj
  have fx := h1.fr j
  rw [← zero_eq]
  have HR : Aside (RdR P (cs.setIfInBounds j (.bool true)) ((n : Int) == 0) w (.returned (.bool ((n : Int) == 0))) (W1.setCell ⟨P, j, none⟩ (.bool true))) := ⟨rfl, h1.set j _, (Gs.of_below hB).trans (Gs.set _ rfl)⟩
  clear h hj h1 hB
  unfold flagV
  go_enter Tryd.func90, Tryd.ntmps90
  go_wp2
  go_ret
  exact HR.out
theorem id_read (j : Nat) (old : Value) (h : Cr w P cs) (hj : cs[j]? = some old) (ao : Option Addr) (X : List UInt8) (c : Nat) (hs : Sl w ao X) (hl : X.length ≤ 140737488355328) (hnil : ao = none → X.length = 0 ∧ c = 0) :
    Calls Tryd.prog 81 #[idV P j, .slice ao X.length c] w fun e w' => ∃ v, RdR P (cs.setIfInBounds j v) (decide (X.length ≤ 20)) w e w' ∧ By w.heap.size w' v X := by
  obtain ⟨W1, hW1⟩ : ∃ W1, w.alloc (.cells #[.pointer (some ⟨P, j, none⟩)] 87) = W1 := ⟨_, rfl⟩
  have hB : Below w.heap.size w W1 := by rw [← hW1]; exact bel1 w _
  have d0 : W1.cell? ⟨w.heap.size, 0, none⟩ = some (.pointer (some ⟨P, j, none⟩)) := by rw [← hW1]; exact cell_new w _ 87 0 _ rfl
  have h1 : Cr W1 P cs := h.bel hB
  have HC : Aside (Calls Tryd.prog 83 #[.slice ao X.length c] W1.drew fun e w' => ∃ oa cp, e = .returned (.slice oa X.length cp) ∧ By w.heap.size w' (.slice oa X.length cp) X ∧ Below W1.heap.size W1 w' ∧ Cr w' P cs ∧ w'.cell? ⟨P, j, none⟩ = some old ∧ w'.frozen? ⟨P, j, none⟩ = false ∧ w'.cell? ⟨w.heap.size, 0, none⟩ = some (.pointer (some ⟨P, j, none⟩))) := by
    refine (clone_any ao X X.length c W1.drew (Sl_below hs hB.drew) rfl hl hnil).mono ?_
    rintro e w' ⟨oa, cp, rfl, hy, hb⟩
    have hb' : Below W1.heap.size W1 w' := (Below.refl W1.heap.size W1).drew.trans hb
    exact ⟨oa, cp, rfl, hy.mono hB.size, hb', h1.bel hb', (h1.bel hb').cell j _ hj, (h1.bel hb').fr j, cell_bel d0 hb'⟩
  have hjs : j < cs.size := by
    rcases Nat.lt_or_ge j cs.size with h | h
    · exact h
    · rw [Array.getElem?_eq_none h] at hj; cases hj
  have hP : P < w.heap.size := lt_block h
  have HB : Aside (Below w.heap.size w W1) := hB
  have HJ : Aside (j < cs.size ∧ P ≠ w.heap.size) := ⟨hjs, Nat.ne_of_lt hP⟩
  have HP : Aside (P < w.heap.size) := hP
  clear h hj hs hl hnil h1 hB hjs hP
  generalize hXL : X.length = XL at *
  have HXL : Aside _ := hXL
  clear hXL
  have d0' : W1.drew.cell? ⟨w.heap.size, 0, none⟩ = some (.pointer (some ⟨P, j, none⟩)) := d0
  have HG : Aside (∀ (w2 : World) (oa : Option Addr) (cp : Nat), Below W1.heap.size W1 w2 → Cr w2 P cs → By w.heap.size w2 (.slice oa XL cp) X → w2.cell? ⟨w.heap.size, 0, none⟩ = some (.pointer (some ⟨P, j, none⟩)) →
      (w2.setCell ⟨P, j, none⟩ (.slice oa XL cp)).cell? ⟨w.heap.size, 0, none⟩ = some (.pointer (some ⟨P, j, none⟩)) ∧
      Calls Tryd.prog 79 #[idV P j] (w2.setCell ⟨P, j, none⟩ (.slice oa XL cp)) fun e w' => e = .returned (.bool (decide (XL ≤ 20))) ∧ (∃ v, RdR P (cs.setIfInBounds j v) (decide (XL ≤ 20)) w (.returned (.bool (decide (XL ≤ 20)))) w' ∧ By w.heap.size w' v X)) := by
    intro w2 oa cp hb hcr hy he
    have hs3 := hcr.set j (.slice oa XL cp)
    have hg : Gs (fun k => k = P) w2 (w2.setCell ⟨P, j, none⟩ (.slice oa XL cp)) := Gs.set _ rfl
    refine ⟨hg.cell he (fun h => HJ.out.2 h.symm), (id_allowed P j oa XL cp _ (hs3.cell j _ (by simp [HJ.out.1]))).mono ?_⟩
    rintro e w' ⟨rfl, hb2⟩
    refine ⟨rfl, _, ⟨rfl, hs3.bel hb2, ((Gs.of_below HB.out).trans ((Gs.of_below hb).trans hg)).trans (Gs.of_below hb2)⟩, ?_⟩
    refine By.below ?_ hb2
    obtain ⟨y1, y2 | ⟨g, cap, cur, y3, y4, y5, y6⟩⟩ := hy
    · exact ⟨y1, .inl y2⟩
    · refine ⟨y1, .inr ⟨g, cap, cur, y3, y4, (hg.block g (lt_block y5) (fun hh => ?_)).trans y5, y6⟩⟩
      have := HP.out
      omega
  have hHC := HC
  clear HC
  unfold idV
  go_enter Tryd.func81, Tryd.ntmps81
  go_wp2_with fail
  go_region_held3 (fun X => X.cell? ⟨w.heap.size, 0, none⟩ = some (.pointer (some ⟨P, j, none⟩)) ∧ True) (first | exact ⟨d0', trivial⟩ | exact ⟨e0, trivial⟩ | exact ⟨e3, trivial⟩) (first | (go_at_call 83; refine hHC.out.mono ?_; rintro e w2 ⟨oa, cp, rfl, hy, hb, hcr, ex, ef, e0⟩; obtain ⟨e3, hid⟩ := HG.out w2 oa cp hb hcr hy e0; have HID : Aside _ := hid; clear hy hb hcr hHC HG hid))
  have hid : Calls Tryd.prog 79 #[idV P j] _ _ := HID.out
  clear HID
  go_wp2_with fail
  refine Calls.mono hid ?_
  rintro e w4 ⟨rfl, hr⟩
  have HR : Aside _ := hr
  clear hr hid
  go_wp2
  go_ret
  exact HR.out
theorem num_read (j : Nat) (lo hi un : Int) (old : Value) (h : Cr w P cs) (hj : cs[j]? = some old) (ht : Tb w) (ao : Option Addr) (l : List UInt8) (c : Nat) (hs : Sl w ao l) (hl : l.length ≤ 9223372036854775000) :
    Calls Tryd.prog 77 #[numV P j lo hi un, .slice ao l.length c] w (RdR P (cs.setIfInBounds j (.int .i64 (vV l 0))) ((vE l 0 == 0) && ((vN l 0 == (l.length : Int)) && decide (lo ≤ vV l 0 ∧ vV l 0 ≤ hi))) w) := by
  obtain ⟨W1, hW1⟩ : ∃ W1, w.alloc (.cells #[.pointer (some ⟨P, j, none⟩), .int .i64 lo, .int .i64 hi, .int .i64 un] 83) = W1 := ⟨_, rfl⟩
  have hB : Below w.heap.size w W1 := by rw [← hW1]; exact bel1 w _
  have hr : W1.heap[w.heap.size]? = some (.cells #[.pointer (some ⟨P, j, none⟩), .int .i64 lo, .int .i64 hi, .int .i64 un] 83 (0, 0)) := by rw [← hW1]; exact heap_alloc_new w _
  have d0 : W1.cell? ⟨w.heap.size, 0, none⟩ = some (.pointer (some ⟨P, j, none⟩)) := by rw [← hW1]; exact cell_new w _ 83 0 _ rfl
  have h1 : Cr W1 P cs := h.bel hB
  have hjs : j < cs.size := by
    rcases Nat.lt_or_ge j cs.size with h | h
    · exact h
    · rw [Array.getElem?_eq_none h] at hj; cases hj
  have hP : P < w.heap.size := lt_block h
  have hv := var_any ao l c 0 W1 (Tb_below ht hB (Tb_pos ht)) (Sl_below hs hB) hl
  have dx := h1.cell j _ hj
  have fx := h1.fr j
  generalize vV l 0 = x at *
  generalize vN l 0 = nx at *
  generalize vE l 0 = er at *
  generalize l.length = n at *
  obtain ⟨W2, hW2⟩ : ∃ W2, W1.setCell ⟨P, j, none⟩ (.int .i64 x) = W2 := ⟨_, rfl⟩
  have hs2 : Cr W2 P (cs.setIfInBounds j (.int .i64 x)) := by rw [← hW2]; exact h1.set j _
  have hg : Gs (fun k => k = P) W1 W2 := by rw [← hW2]; exact Gs.set _ rfl
  have hr2 : W2.heap[w.heap.size]? = some (.cells #[.pointer (some ⟨P, j, none⟩), .int .i64 lo, .int .i64 hi, .int .i64 un] 83 (0, 0)) := (hg.block _ (lt_block hr) (by omega)).trans hr
  have hal := num_allowed P j lo hi un x W2 (hs2.cell j _ (by simp [hjs]))
  have HG : Aside (∀ X, Below W2.heap.size W2 X → Cr X P (cs.setIfInBounds j (.int .i64 x)) ∧ Gs (fun k => k = P) w X) := fun X hX => ⟨hs2.bel hX, ((Gs.of_below hB).trans hg).trans (Gs.of_below hX)⟩
  have HR : Aside (W2.heap[w.heap.size]? = some (.cells #[.pointer (some ⟨P, j, none⟩), .int .i64 lo, .int .i64 hi, .int .i64 un] 83 (0, 0))) := hr2
  clear h hj ht hs hl hB hr h1 hjs hP hs2 hg hr2
  generalize decide (lo ≤ x ∧ x ≤ hi) = y at *
  have hal' : Calls Tryd.prog 75 #[.agg #[.pointer (some ⟨P, j, none⟩), .int .i64 lo, .int .i64 hi, .int .i64 un]] W2 fun e w' => e = .returned (.bool y) ∧ Below W2.heap.size W2 w' := hal
  clear hal
  unfold numV
  cases h0 : (er == 0)
  · simp only [Bool.false_and]
    clear hal' HR
    go_enter Tryd.func77, Tryd.ntmps77
    go_wp2_with fail
    refine hv.mono ?_
    rintro e w' ⟨rfl, hw⟩
    subst w'
    clear hv
    go_wp2
    go_ret
    obtain ⟨g1, g2⟩ := HG.out W2 (Below.refl _ _)
    exact ⟨rfl, g1, g2⟩
  · cases h3 : (nx == (n : Int))
    · simp only [Bool.false_and, Bool.and_false]
      clear hal' HR
      go_enter Tryd.func77, Tryd.ntmps77
      go_wp2_with fail
      refine hv.mono ?_
      rintro e w' ⟨rfl, hw⟩
      subst w'
      clear hv
      go_wp2
      go_ret
      obtain ⟨g1, g2⟩ := HG.out W2 (Below.refl _ _)
      exact ⟨rfl, g1, g2⟩
    · simp only [Bool.true_and]
      go_enter Tryd.func77, Tryd.ntmps77
      go_wp2_with fail
      refine hv.mono ?_
      rintro e w' ⟨rfl, hw⟩
      subst w'
      clear hv
      go_wp2_with (first | (refine wpList_load_row_g (by rfl) 83 (.tmp 2) rfl w.heap.size rfl 83 _ (0, 0) _ HR.out hu83 rfl hi83 ?_))
      refine hal'.mono ?_
      rintro e W4 ⟨rfl, hb4⟩
      obtain ⟨g1, g2⟩ := HG.out W4 hb4
      have HE : Aside (RdR P (cs.setIfInBounds j (.int .i64 x)) y w (.returned (.bool y)) W4) := ⟨rfl, g1, g2⟩
      clear hal' hb4 g1 g2
      go_wp2
      go_ret
      exact HE.out
end
end Go.Proofs.YtcppnellgkbndaaDoor
namespace Go.Proofs.YtcppnellgkbndaaDoor
open Go.ChangeShapes Go.WideShapes Go.ChangeAt Go.RowKit
set_option linter.unusedVariables false
set_option maxRecDepth 100000

/-- The cells behind a token that was read: it is there, and its first bytes are those that came. -/
def rsA (cs : Array Value) (j k : Nat) (X : List UInt8) : Array Value := ((cs.toList.set k (.bool true)).take j ++ (bc (X.take 16) ++ (cs.toList.set k (.bool true)).drop (j + (bc (X.take 16)).length))).toArray
theorem size1 : (Tryd.prog.info? 5).map (·.size) = some 1 := by kernel_rfl
theorem n16_eq (n : Nat) : ((n : Int) == 16) = decide (n = 16) := by by_cases h : n = 16 <;> simp [h]; omega
theorem rsA_nil (cs : Array Value) (j k : Nat) : rsA cs j k [] = cs.setIfInBounds k (.bool true) := by apply Array.ext'; simp [rsA, bc]
section
variable {w : World} {P : Nat} {cs : Array Value}
theorem Cr.row (h : Cr w P cs) (ds : Array Value) : Cr (w.setRow P ds) P ds := setRow_heap w P _ _ 25 (0, 0) h
theorem Gs.row (h : Cr w P cs) (ds : Array Value) : Gs (fun k => k = P) w (w.setRow P ds) := ⟨rfl, rfl, rfl, by simp, fun k _ hn => setRow_other w P k _ hn⟩
theorem reset_read (j k : Nat) (old : Value) (h : Cr w P cs) (hk : cs[k]? = some old) (hj : j + 16 ≤ cs.size) (ao : Option Addr) (X : List UInt8) (c : Nat) (hs : Sl w ao X) (hne : ∀ a, ao = some a → X ≠ [] → a.block ≠ P) :
    Calls Tryd.prog 86 #[resetV P j k, .slice ao X.length c] w (RdR P (rsA cs j k X) (decide (X.length = 16)) w) := by
  obtain ⟨W1, hW1, hB, d0, d1⟩ := two_cells P j k 91 w
  have h1 : Cr W1 P cs := h.bel hB
  have hP : P < w.heap.size := lt_block h
  have dx := h1.cell k _ hk
  have fx := h1.fr k
  obtain ⟨W2, hW2⟩ : ∃ W2, W1.setCell ⟨P, k, none⟩ (.bool true) = W2 := ⟨_, rfl⟩
  have hs2 : Cr W2 P (cs.setIfInBounds k (.bool true)) := by rw [← hW2]; exact h1.set k _
  have hg : Gs (fun k => k = P) W1 W2 := by rw [← hW2]; exact Gs.set _ rfl
  have e0 : W2.cell? ⟨w.heap.size, 0, none⟩ = some (.pointer (some ⟨P, j, none⟩)) := hg.cell d0 (by omega)
  have hx2 : Sl W2 ao X := hg.sl (Sl_below hs hB) hne
  have HG : Aside (Gs (fun k => k = P) w W2) := (Gs.of_below hB).trans hg
  rw [← n16_eq]
  have HC : Aside (Cr W2 P (cs.setIfInBounds k (.bool true))) := hs2
  by_cases hX : X = []
  · subst hX
    have HF : Aside (RdR P (rsA cs j k []) (([] : List UInt8).length == (16 : Int)) w (.returned (.bool false)) W2) := ⟨rfl, by rw [rsA_nil]; exact hs2, HG.out⟩
    clear h hk hj hs hne hB h1 hP hs2 hg hx2
    show Calls Tryd.prog 86 #[resetV P j k, .slice ao 0 c] w _
    unfold resetV
    go_enter Tryd.func86, Tryd.ntmps86
    go_wp2_with (first | (refine wpList_copy_nothing rfl (.tmp 11) (.tmp 12) 22 22 rfl 5 Tryd.underlying22 size1 (some ⟨P, j, none⟩) ao 16 16 0 c rfl rfl (by simp) ?_))
    go_ret
    exact HF.out
  · obtain ⟨b, off, rfl, hcell⟩ := Sl_addr hx2 (List.length_pos_iff.2 hX)
    have hlen : (bc (X.take 16)).length = Nat.min X.length 16 := by rw [bc_length, List.length_take]; exact Nat.min_comm _ _
    have hsrc : ∀ i v, (bc (X.take 16))[i]? = some v → W2.cell? ((⟨b, off, none⟩ : Addr).add i) = some v := by
      intro i v hv
      have hi : i < (X.take 16).length := by have := (List.getElem?_eq_some_iff.1 hv).1; simpa [bc] using this
      have hiX : i < X.length := by simp at hi; omega
      have hv' : v = .int .u8 (X[i].toNat) := by
        simp only [bc, List.getElem?_map, List.getElem?_eq_getElem hi, Option.map_some, Option.some.injEq] at hv
        rw [← hv]; simp
      rw [hv', add_none]
      exact hcell i hiX
    have hfit : j + (bc (X.take 16)).length ≤ (cs.setIfInBounds k (.bool true)).size := by simp only [Array.size_setIfInBounds, hlen]; have : Nat.min X.length 16 ≤ 16 := Nat.min_le_right _ _; omega
    have HF : Aside (RdR P (rsA cs j k X) ((X.length : Int) == 16) w (.returned (.bool ((X.length : Int) == 16))) (W2.setRow P (rsA cs j k X))) := ⟨rfl, hs2.row _, HG.out.trans (Gs.row hs2 _)⟩
    have HS : Aside (∀ i v, (bc (X.take 16))[i]? = some v → W2.cell? ((⟨b, off, none⟩ : Addr).add i) = some v) := hsrc
    have HFIT : Aside _ := hfit
    have HLEN : Aside _ := hlen
    clear h hk hj hs hne hB h1 hP hs2 hg hx2 hcell hsrc hfit hlen HG
    unfold resetV
    go_enter Tryd.func86, Tryd.ntmps86
    go_wp2_with (first | (refine wpList_copy_own rfl (.tmp 11) (.tmp 12) 22 22 rfl 5 Tryd.underlying22 size1 P j 16 16 ⟨b, off, none⟩ X.length c rfl rfl _ 25 HC.out (bc (X.take 16)) HLEN.out HS.out HFIT.out (bc_one _) ?_))
    go_ret
    exact HF.out
theorem opt_read (j k : Nat) (old old2 : Value) (h : Cr w P cs) (hj : cs[j]? = some old) (hk : cs[k]? = some old2) (hjk : j ≠ k) (ao : Option Addr) (X : List UInt8) (c : Nat) (hs : Sl w ao X) (hne : ∀ a, ao = some a → X ≠ [] → a.block ≠ P) (hl : X.length ≤ 140737488355328) (hnil : ao = none → X.length = 0 ∧ c = 0) :
    Calls Tryd.prog 93 #[optV P j k, .slice ao X.length c] w fun e w' => ∃ v, RdR P ((cs.setIfInBounds k (.bool true)).setIfInBounds j v) (decide (X.length ≤ 20)) w e w' ∧ By w.heap.size w' v X := by
  obtain ⟨W1, hW1, hB, d0, d1⟩ := two_cells P j k 95 w
  have h1 : Cr W1 P cs := h.bel hB
  have hP : P < w.heap.size := lt_block h
  have dx := h1.cell k _ hk
  have fx := h1.fr k
  obtain ⟨W2, hW2⟩ : ∃ W2, W1.setCell ⟨P, k, none⟩ (.bool true) = W2 := ⟨_, rfl⟩
  have hs2 : Cr W2 P (cs.setIfInBounds k (.bool true)) := by rw [← hW2]; exact h1.set k _
  have hg : Gs (fun k => k = P) W1 W2 := by rw [← hW2]; exact Gs.set _ rfl
  have e0 : W2.cell? ⟨w.heap.size, 0, none⟩ = some (.pointer (some ⟨P, j, none⟩)) := hg.cell d0 (by omega)
  have hx2 : Sl W2 ao X := hg.sl (Sl_below hs hB) hne
  have hg2 : Gs (fun k => k = P) w W2 := (Gs.of_below hB).trans hg
  have hid : Calls Tryd.prog 81 #[idV P j, .slice ao X.length c] W2 fun e w' => e = .returned (.bool (decide (X.length ≤ 20))) ∧ ∃ v, RdR P ((cs.setIfInBounds k (.bool true)).setIfInBounds j v) (decide (X.length ≤ 20)) w (.returned (.bool (decide (X.length ≤ 20)))) w' ∧ By w.heap.size w' v X := by
    refine (id_read j old hs2 (by rw [Array.getElem?_setIfInBounds_ne (Ne.symm hjk)]; exact hj) ao X c hx2 hl hnil).mono ?_
    rintro e w' ⟨v, ⟨rfl, hc, hgs⟩, hy⟩
    exact ⟨rfl, v, ⟨rfl, hc, hg2.trans hgs⟩, hy.mono hg2.size⟩
  clear h hk hj hs hne hB h1 hP hs2 hg hx2 hg2 hnil hl
  unfold optV
  generalize X.length = n at *
  go_enter Tryd.func93, Tryd.ntmps93
  go_wp2_with fail
  refine hid.mono ?_
  rintro e w4 ⟨rfl, hr⟩
  have HR : Aside _ := hr
  clear hr hid
  go_wp2
  go_ret
  exact HR.out
end
end Go.Proofs.YtcppnellgkbndaaDoor
namespace Go.Proofs.YtcppnellgkbndaaDoor
open Go.RowKit Go.Extern.Stop Go.Stop Go.Extern
set_option linter.unusedVariables false
set_option maxRecDepth 100000

theorem eqlE (a b : Int) (w : World) : (binOp .eql 76 (.iface 26 (.int .i64 a)) (.iface 26 (.int .i64 b))).run Tryd.prog w = .ok (.bool (a == b)) w := by kernel_rfl
theorem isTypeOf (v : Value) (w : World) : (Extern.ReflectliteType.typeOf #[.iface 26 v]).run Tryd.prog w = .ok (.iface 129 (.agg #[.pointer (some ⟨2, 26, none⟩)])) w := by kernel_rfl
theorem comparable_c : ∃ M : Array Value → Sem Value, (∀ (args : Array Value) (w : World), (callFunc 98 args).run Tryd.prog w = ((M args).run Tryd.prog w).andThen fun v w' => .ok (.value v) w') ∧ ∀ w, (M #[.agg #[.pointer (some ⟨2, 26, none⟩)]]).run Tryd.prog w = .ok (.bool true) w :=
  ⟨_, @run_callFunc_extern Tryd.prog 98 _ (Extern.ReflectliteType.method fun t => do Go.Extern.Rtype.noPackHeld "Comparable" t; pure (.bool (← typeInfo t).comparable)) Tryd.func98 (by kernel_rfl) (by kernel_rfl) (by kernel_rfl) (by kernel_rfl), fun w => by kernel_rfl⟩
theorem isMethodComparable (v : Value) (w : World) : (Go.method 277 129 v "Comparable").run Tryd.prog w = .ok (98, v) w := by kernel_rfl
theorem noIsN (v : Value) (xT : TypeId) (w : World) : (Instr.typeAssert (.iface 26 v) xT 131 true).run Tryd.prog w = .ok (.tuple #[.nilIface, .bool false]) w := run_typeAssert_lacksB Tryd.underlying131 (by kernel_rfl) (by kernel_rfl) v xT w
theorem noUnwrapN (v : Value) (xT : TypeId) (w : World) : (Instr.typeAssert (.iface 26 v) xT 134 true).run Tryd.prog w = .ok (.tuple #[.nilIface, .bool false]) w := run_typeAssert_lacksB Tryd.underlying134 (by kernel_rfl) (by kernel_rfl) v xT w
theorem noUnwrapsN (v : Value) (xT : TypeId) (w : World) : (Instr.typeAssert (.iface 26 v) xT 135 true).run Tryd.prog w = .ok (.tuple #[.nilIface, .bool false]) w := run_typeAssert_lacksB Tryd.underlying135 (by kernel_rfl) (by kernel_rfl) v xT w
theorem noIsP (v : Value) (xT : TypeId) (w : World) : (Instr.typeAssert (.iface 138 v) xT 131 true).run Tryd.prog w = .ok (.tuple #[.nilIface, .bool false]) w := run_typeAssert_lacksB Tryd.underlying131 (by kernel_rfl) (by kernel_rfl) v xT w
theorem noUnwrapP (v : Value) (xT : TypeId) (w : World) : (Instr.typeAssert (.iface 138 v) xT 134 true).run Tryd.prog w = .ok (.tuple #[.nilIface, .bool false]) w := run_typeAssert_lacksB Tryd.underlying134 (by kernel_rfl) (by kernel_rfl) v xT w
theorem noUnwrapsP (v : Value) (xT : TypeId) (w : World) : (Instr.typeAssert (.iface 138 v) xT 135 true).run Tryd.prog w = .ok (.tuple #[.nilIface, .bool false]) w := run_typeAssert_lacksB Tryd.underlying135 (by kernel_rfl) (by kernel_rfl) v xT w
/-- What errors.Is answers at the number t: y. -/
def IsR (ev : Value) (t : Int) (y : Bool) : Prop := ∀ w, Calls Tryd.prog 41 #[ev, .iface 26 (.int .i64 t)] w fun e w' => e = .returned (.bool y) ∧ w' = w
theorem is_num (a t : Int) : IsR (.iface 26 (.int .i64 a)) t (a == t) := by
  intro w
  have h8 := @run_callFunc_extern Tryd.prog 49 _ Extern.ReflectliteType.typeOf Tryd.func49 (by kernel_rfl) (by kernel_rfl) (by kernel_rfl) (by kernel_rfl)
  obtain ⟨M, h32, cT⟩ := comparable_c
  have tT := isTypeOf
  have mR := isMethodComparable
  have nE := noIsN
  have uE := noUnwrapN
  have vE := noUnwrapsN
  have heq := eqlE a t
  generalize (a == t) = y at *
  cases y
  all_goals
    go_enter Tryd.func41, Tryd.ntmps41
    go_wp2
    refine wp_loop_rounds 1 ?_
    rw [rounds_succ]
    go_wp2
    go_ret
    exact ⟨rfl, rfl⟩
theorem is_nil (t : Int) : IsR .nilIface t false := by
  intro w
  have hn := run_eql_iface_nil_left (P := Tryd.prog) w 26 (.int .i64 t) Tryd.underlying76
  go_enter Tryd.func41, Tryd.ntmps41
  go_wp2
  go_ret
  exact ⟨rfl, rfl⟩
theorem is_ptr (x : Option Addr) (t : Int) : IsR (.iface 138 (.pointer x)) t false := by
  intro w
  have h8 := @run_callFunc_extern Tryd.prog 49 _ Extern.ReflectliteType.typeOf Tryd.func49 (by kernel_rfl) (by kernel_rfl) (by kernel_rfl) (by kernel_rfl)
  obtain ⟨M, h32, cT⟩ := comparable_c
  have tT := isTypeOf
  have mR := isMethodComparable
  have nE := noIsP
  have uE := noUnwrapP
  have vE := noUnwrapsP
  have hty := run_eql_iface_types (P := Tryd.prog) 138 26 (.pointer x) (.int .i64 t) Tryd.underlying76 (by decide) w
  go_enter Tryd.func41, Tryd.ntmps41
  go_wp2
  refine wp_loop_rounds 1 ?_
  rw [rounds_succ]
  go_wp2
  go_ret
  exact ⟨rfl, rfl⟩
/-- The number that is told. -/
def fltE (a b c : Bool) : Int := if a then 10 else if b then 13 else if c then 11 else 0
theorem fault_c (ev : Value) (a b c : Bool) (w : World) (ha : IsR ev 10 a) (hb : IsR ev 13 b) (hc : IsR ev 11 c) : Calls Tryd.prog 31 #[ev] w fun e w' => e = .returned (.int .i64 (fltE a b c)) ∧ Below w.heap.size w w' := by
  obtain ⟨W1, hW1⟩ : ∃ W1, w.alloc (.cells #[.int .i64 10, .int .i64 13, .int .i64 11] 26) = W1 := ⟨_, rfl⟩
  have HB : Aside (Below w.heap.size w W1) := by show Below _ _ _; rw [← hW1]; exact bel1 w _
  have c0 : W1.cell? ⟨w.heap.size, 0, none⟩ = some (.int .i64 10) := by rw [← hW1]; exact cell_new w _ 26 0 _ rfl
  have c1 : W1.cell? ⟨w.heap.size, 1, none⟩ = some (.int .i64 13) := by rw [← hW1]; exact cell_new w _ 26 1 _ rfl
  have c2 : W1.cell? ⟨w.heap.size, 2, none⟩ = some (.int .i64 11) := by rw [← hW1]; exact cell_new w _ 26 2 _ rfl
  have h1 := ha W1
  have h2 := hb W1
  have h3 := hc W1
  clear ha hb hc
  cases a
  · cases b
    · cases c
      all_goals
        go_enter Tryd.func31, Tryd.ntmps31
        go_wp2
        refine wp_loop_rounds 4 ?_
        rw [rounds_succ]
        go_wp2_with fail
        refine h1.mono ?_
        rintro e w' ⟨rfl, hw⟩
        subst w'
        go_wp2
        rw [rounds_succ]
        go_wp2_with fail
        refine h2.mono ?_
        rintro e w' ⟨rfl, hw⟩
        subst w'
        go_wp2
        rw [rounds_succ]
        go_wp2_with fail
        refine h3.mono ?_
        rintro e w' ⟨rfl, hw⟩
        subst w'
        go_wp2
        first | (go_ret; exact ⟨rfl, HB.out⟩) | (rw [rounds_succ]; go_wp2; go_ret; exact ⟨rfl, HB.out⟩)
    · go_enter Tryd.func31, Tryd.ntmps31
      go_wp2
      refine wp_loop_rounds 4 ?_
      rw [rounds_succ]
      go_wp2_with fail
      refine h1.mono ?_
      rintro e w' ⟨rfl, hw⟩
      subst w'
      go_wp2
      rw [rounds_succ]
      go_wp2_with fail
      refine h2.mono ?_
      rintro e w' ⟨rfl, hw⟩
      subst w'
      go_wp2
      go_ret
      exact ⟨rfl, HB.out⟩
  · go_enter Tryd.func31, Tryd.ntmps31
    go_wp2
    refine wp_loop_rounds 4 ?_
    rw [rounds_succ]
    go_wp2_with fail
    refine h1.mono ?_
    rintro e w' ⟨rfl, hw⟩
    subst w'
    go_wp2
    go_ret
    exact ⟨rfl, HB.out⟩
end Go.Proofs.YtcppnellgkbndaaDoor
