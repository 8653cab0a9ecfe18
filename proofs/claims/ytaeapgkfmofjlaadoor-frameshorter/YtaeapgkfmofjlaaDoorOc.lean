/- frame: Put and Read as a law uses them. -/
import Derived.Test.YtaeapgkfmofjlaaDoorNc
import Derived.Test.YtaeapgkfmofjlaaDoorOb
namespace Go.Proofs.YtaeapgkfmofjlaaDoor
open Go.ChangeShapes Go.WideShapes Go.ChangeAt Go.RowKit
set_option linter.unusedVariables false
set_option maxRecDepth 100000

theorem Fg.fi {w : World} {lo p F : Nat} {f : Fr} {d : Da} (h : Fg w lo p F f d) (lD : d.D.length ≤ 140737488355328) (lA : d.A.length ≤ 140737488355328) : Fi w f d := by
  obtain ⟨ao, c, e, n1, s1, k1, k2, b1⟩ := h.bD.parts
  obtain ⟨ao', c', e', n1', s1', k1', k2', b1'⟩ := h.bI.parts
  rw [h.vD] at e
  rw [h.vI] at e'
  injection e with e1 e2 e3
  injection e' with e1' e2' e3'
  subst e1 e1' e3 e3'
  refine ⟨h.on', s1, n1, fun ad ha => ?_, s1', n1', fun ad ha => ?_, ?_, fun ad ha => ?_, lD, lA⟩
  · obtain ⟨g, rfl, _, hg⟩ := b1 ad ha
    exact hg
  · obtain ⟨g, rfl, _, hg⟩ := b1' ad ha
    exact hg
  · intro j hj
    obtain ⟨hl, ⟨hv, hn⟩ | ⟨g, cap, cur, hv, q1, q2, q3, q4, q5, q6⟩⟩ := h.bA
    · omega
    · rw [h.vA] at hv
      injection hv with hv1 hv2 hv3
      have hcell : ∀ i v, (fl d.A)[i]? = some v → w.cell? ⟨g, 0 + i, none⟩ = some v := by
        intro i v hi
        unfold World.cell?
        rw [q2]
        rw [← q6] at hi
        rw [List.getElem?_take] at hi
        split at hi
        · rw [Nat.zero_add]
          simpa using hi
        · cases hi
      obtain ⟨g1, g2⟩ := fl_get d.A j hj
      exact ⟨g, 0, hv1, hcell _ _ g1, by have := hcell _ _ g2; rwa [← Nat.add_assoc] at this⟩
  · have := h.bA.lt ad.block (by rw [h.vA, ha]; rfl)
    exact this.2
theorem Fg.below {w w' : World} {lo p F : Nat} {f : Fr} {d : Da} (h : Fg w lo p F f d) (hb : Below w.heap.size w w') : Fg w' lo p F f d := h.on (Chg.of_below hb)
/-- What Put answered, as a law holds it. -/
structure Pb (w : World) (B : Nat) (o : Option Addr) (c : Nat) (Y : List UInt8) : Prop where
  by' : By B w (.slice o Y.length c) Y
theorem Pb.below {w w' : World} {B : Nat} {o : Option Addr} {c : Nat} {Y : List UInt8} (h : Pb w B o c Y) (hb : Below w.heap.size w w') : Pb w' B o c Y := ⟨h.by'.below hb⟩
theorem Pb.parts {w : World} {B : Nat} {o : Option Addr} {c : Nat} {Y : List UInt8} (h : Pb w B o c Y) : (o = none → Y.length = 0 ∧ c = 0) ∧ Sl w o Y ∧ Y.length ≤ c ∧ (∀ ad, o = some ad → ∃ g, ad = ⟨g, 0, none⟩ ∧ B ≤ g ∧ g < w.heap.size) := by
  obtain ⟨ao, c', e, n1, s1, k1, k2, b1⟩ := h.by'.parts
  injection e with e1 e2 e3
  subst e1 e3
  exact ⟨n1, s1, k1, b1⟩
/-- What a law knows of the package's variables. -/
structure Gl (w : World) (wa : Option Addr) : Prop where
  tb : Tb w
  w0 : w.cell? ⟨0, 0, none⟩ = some (eV wa (-1))
  e1 : w.cell? ⟨1, 0, none⟩ = some (rtp 38)
theorem Gl.below {w w' : World} {wa : Option Addr} (h : Gl w wa) (hb : Below w.heap.size w w') : Gl w' wa := by
  have hp := Tb_pos h.tb
  exact ⟨Tb_below h.tb hb hp, (World.cell?_of_block (a := ⟨0, 0, none⟩) (hb.block 0 (by omega))).trans h.w0, (World.cell?_of_block (a := ⟨1, 0, none⟩) (hb.block 1 (by omega))).trans h.e1⟩
/-- Read at the beginning of bytes that a law holds. -/
theorem Gl.read {w : World} {wa : Option Addr} {B : Nat} {o : Option Addr} {c : Nat} {Y : List UInt8} (h : Gl w wa) (hp : Pb w B o c Y) (h0 : 0 < Y.length) (hY : Y.length ≤ 200000000000000) :
    Calls Tryd.prog 12 #[.slice o Y.length c, .int .i64 0] w fun e w' => (if rdE Y 0 = 0 then RdOk w w' Y 0 e else RdNo w w' Y 0 e) ∧ Below w.heap.size w w' := by
  obtain ⟨n1, s1, k1, b1⟩ := hp.parts
  cases o with
  | none => have := (n1 rfl).1; omega
  | some ad =>
    obtain ⟨g, rfl, _, hg⟩ := b1 ad rfl
    exact readf_c w g 0 c wa Y 0 s1 h.tb hY k1 (by omega) hg h.w0 h.e1
theorem put_ping : putR (ab (fz 1) dz) = ([1], 0) := by decide +kernel
theorem fz_fi (k : Int) (w : World) : Fi w (fz k) dz := ⟨fz_on k false false, fun j hj => absurd hj (by simp [dz]), fun _ => ⟨rfl, rfl⟩, (fun _ e => by cases e), fun j hj => absurd hj (by simp [dz]), fun _ => ⟨rfl, rfl⟩, (fun _ e => by cases e), fun j hj => absurd hj (by simp [dz]), (fun _ e => by cases e), by decide, by decide⟩
theorem putR_le (a : Fa) (hR : a.R.length = 16) (hT : a.T.length = 8) : (putR a).1.length ≤ 1060001 := by
  by_cases hp : (putR a).2 = 0
  · obtain ⟨h1, h2, hm, hx, he⟩ := putR_parts hp
    obtain ⟨s1, s2, s3⟩ := stB_kd a h1 h2
    have hI : stB a = 24 → a.I.length ≤ 20 := by
      intro e
      have hk : a.k = 24 := by
        unfold stB at e
        split at e
        · split at e <;> split at e <;> split at e <;> omega
        · exact e
      have hm3 : mayB a = (decide (a.ret ≤ a.seq) && decide (1 ≤ a.I.length) && decide (a.I.length ≤ 20)) := by unfold mayB; rw [hk]; rfl
      rw [hm3] at hm
      exact of_decide_eq_true ((Bool.and_eq_true _ _).mp hm).2
    have := pB_le (stB a) a s1 hR hT hI
    rw [he, List.length_append, (encv_one s2 s3).1]
    omega
  · have : (putR a).1 = [] := by
      unfold putR at hp ⊢
      split
      · rfl
      · split
        · rfl
        · split
          · rfl
          · rename_i h1 h2 h3
            rw [if_neg h1, if_neg h2, if_neg h3] at hp
            exact absurd rfl hp
    rw [this]
    simp
theorem putR_pos {a : Fa} (hp : (putR a).2 = 0) : 0 < (putR a).1.length := by
  obtain ⟨h1, h2, hm, hx, he⟩ := putR_parts hp
  obtain ⟨s1, s2, s3⟩ := stB_kd a h1 h2
  rw [he, List.length_append, (encv_one s2 s3).1]
  omega
theorem putR_nil {a : Fa} (hp : (putR a).2 ≠ 0) : (putR a).1 = [] := by
  unfold putR at hp ⊢
  split
  · rfl
  · split
    · rfl
    · split
      · rfl
      · rename_i h1 h2 h3
        rw [if_neg h1, if_neg h2, if_neg h3] at hp
        exact absurd rfl hp
/-- 'append(v, xs...)', v the call's own, xs whatever bytes, nil too; of many. -/
theorem wpList_append_bytes_w {P : Program} {w : World} {ops : Array Oper} {rest : List Oper} {o : Oper} {a : Act} {Q : Exit → Act → World → Prop} (hgd : o.guard = none) (s x : Operand)
    (ho : o.op = .call { callee := .builtin .append, args := #[s, x], argTypes := #[22, 22] })
    (base : Nat) (i : TypeInfo) (ht : P.underlying 22 = some (.slice 5)) (hi : P.info? 5 = some i) (hz : i.zero = some (.int .u8 0)) (hsize : i.size = 1) (hby : i.bytes = 1)
    (v : Value) (n : Nat) (xs : List Value) (hs : a.eval s = v) (hown : w.ownsRow base 5 1 v n xs)
    (ao : Option Addr) (m c : Nat) (l : List UInt8) (hx : a.eval x = .slice ao m c) (hl : l.length = m) (hnil : ao = none → m = 0 ∧ c = 0) (hsl : Sl w ao l)
    (hb : n + m ≤ 200000000000000) (hbase : base ≤ w.heap.size)
    (h : ∀ v' w', w'.ownsRow base 5 1 v' (n + m) (xs ++ bc l) → w.grownBy w' v.ownBlock → wpList P ops Q rest (a.put o.dst v') w') : wpList P ops Q (o :: rest) a w := by
  cases ao with
  | none =>
    obtain ⟨rfl, rfl⟩ := hnil rfl
    obtain rfl : l = [] := List.eq_nil_of_length_eq_zero hl
    refine wpList_append_own_none hgd s x 22 ho base 5 i 1 ht hi v n xs hs hown hx ?_
    refine h v w ?_ ⟨rfl, rfl, rfl, Nat.le_refl _, fun _ _ _ => rfl⟩
    simpa [bc] using hown
  | some ad =>
    refine wpList_append_own_wide w hgd s x 22 ho base 5 i (.int .u8 0) 1 1 ht hi hz hsize hby rfl (by decide) v n xs hs hown ad m c (bc l) hx (by rw [bc_length]; omega) (Sl_cells hsl) (bc_one l) (by unfold maxLen; omega) (by omega) hbase ?_
    intro v' w' h1 h2 _
    exact h v' w' h1 h2
theorem rd_any {w w' : World} {l : List UInt8} {at' : Nat} {e : Ending} (h : if rdE l at' = 0 then RdOk w w' l at' e else RdNo w w' l at' e) : ∃ (f : Fr) (d : Da) (n : Int) (v : Value), e = .returned (.tuple #[.agg f.cells.toArray, .int .i64 n, v]) ∧ On f d := by
  split at h
  · obtain ⟨f, d, p, F, h1, _, h2⟩ := h
    exact ⟨f, d, _, _, h1, h2.on'⟩
  · obtain ⟨v, h1, _⟩ := h
    exact ⟨fz 0, dz, _, _, h1, fz_on 0 false false⟩
theorem By.of_own {B n : Nat} {w : World} {v : Value} {X : List UInt8} (h : w.ownsRow B 5 1 v n (bc X)) : ∃ o c, v = .slice o n c ∧ X.length = n ∧ By B w (.slice o X.length c) X := by
  have hl : X.length = n := by have := h.1; rw [bc_length] at this; omega
  obtain ⟨o, c, rfl⟩ := own_val h
  subst hl
  exact ⟨o, c, rfl, rfl, h⟩
theorem grown_below {n : Nat} {w w' : World} {v : Value} {xs : List Value} {k : Nat} (h : w.grownBy w' v.ownBlock) (ho : w.ownsRow n 5 1 v k xs) (hn : n ≤ w.heap.size) : Below n w w' :=
  (Below.refl n w).grown h hn (fun j e => (ho.lt j e).1)
end Go.Proofs.YtaeapgkfmofjlaaDoor
