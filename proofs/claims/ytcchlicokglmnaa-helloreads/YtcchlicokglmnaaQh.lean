/- The reference's Read: what is known at the start, and what is to be shown at the end. -/
import Derived.Test.YtcchlicokglmnaaQd
import Derived.Test.YtcchlicokglmnaaQg
import Derived.Test.YtcchlicokglmnaaRd
namespace Go.Proofs.Ytcchlicokglmnaa
open Go.ChangeShapes Go.WideShapes Go.ChangeAt Go.RowKit Go.Lib
set_option linter.unusedVariables false

theorem rz34 (w : World) : (zeroValue 34).run Try.prog w = .ok (.agg (m0 0).cells.toArray) w := by kernel_rfl
theorem ru34 : Try.prog.underlying 34 = some (.struct (Try.prog.fieldsOf 34)) := by kernel_rfl
theorem ri34 : (Try.prog.info? 34).map (·.size) = some 72 := by kernel_rfl
section
variable {w X : World} {o : Option Addr} {L : List UInt8} {c : Nat} {a : Int}
theorem cell_bel {x : Value} {g j : Nat} (hb : Below w.heap.size w X) (h : w.cell? ⟨g, j, none⟩ = some x) : X.cell? ⟨g, j, none⟩ = some x := by
  unfold World.cell? at h ⊢
  cases hg : w.heap[g]? with
  | none => rw [hg] at h; simp at h
  | some ob => rw [hg] at h; rw [hb.block g (lt_block hg), hg]; exact h
theorem num_three (l : List UInt8) (h : l.length = 3) : num l = (l.headD 0).toNat * 65536 + ((l.drop 1).headD 0).toNat * 256 + ((l.drop 2).headD 0).toNat := by
  match l, h with
  | [a, b, d], _ => simp [num]; omega
theorem pre_c (hs : Sl w o L) (hE : cutE L a = 0) : ∃ A b off N0 N1 N2 N3 : Nat, a = (A : Int) ∧ o = some ⟨b, off, none⟩ ∧ A + 4 + (N1 * 65536 + N2 * 256 + N3) ≤ L.length ∧ cutN L a = N1 * 65536 + N2 * 256 + N3 ∧ getV L a 1 = (N0 : Int) ∧ N0 < 256 ∧ N1 < 256 ∧ N2 < 256 ∧ N3 < 256 ∧
    w.cell? ⟨b, off + A, none⟩ = some (.int .u8 (N0 : Int)) ∧ w.cell? ⟨b, off + A + 1, none⟩ = some (.int .u8 (N1 : Int)) ∧ w.cell? ⟨b, off + A + 2, none⟩ = some (.int .u8 (N2 : Int)) ∧ w.cell? ⟨b, off + A + 3, none⟩ = some (.int .u8 (N3 : Int)) := by
  unfold cutE at hE
  by_cases e1 : getE L a 1 = 0
  · rw [if_neg (by simpa using e1)] at hE
    by_cases e2 : getE L (a + 1) 3 = 0
    · rw [if_neg (by simpa using e2)] at hE
      have k1 : 0 ≤ a ∧ a + 1 + 3 ≤ (L.length : Int) := by
        unfold getE at e1 e2
        split at e1
        · cases e1
        · rename_i h1
          split at e2
          · cases e2
          · split at e2
            · rename_i h2; exact ⟨by omega, by exact_mod_cast h2⟩
            · cases e2
      obtain ⟨A, rfl⟩ := Int.eq_ofNat_of_zero_le k1.1
      have kl : A + 4 ≤ L.length := by omega
      have v3 : getV L ((A : Int) + 1) 3 = (num (sub L (A + 1) 3) : Nat) := by
        unfold getV
        rw [if_pos ⟨by omega, by have := k1.2; exact_mod_cast this⟩]
        rfl
      have v1 : getV L (A : Int) 1 = (num (sub L A 1) : Nat) := by
        unfold getV
        rw [if_pos ⟨by omega, by omega⟩]
        rfl
      have s3 : (sub L (A + 1) 3) = [L[A + 1], L[A + 2], L[A + 3]] := by
        unfold sub
        rw [List.drop_eq_getElem_cons (by omega), List.drop_eq_getElem_cons (by omega), List.drop_eq_getElem_cons (by omega)]
        rfl
      have s1 : (sub L A 1) = [L[A]] := by
        unfold sub
        rw [List.drop_eq_getElem_cons (by omega)]
        rfl
      rw [s3] at v3
      rw [s1] at v1
      rw [num_three _ rfl] at v3
      rw [num_one _ rfl] at v1
      replace v3 : getV L ((A : Int) + 1) 3 = ((L[A + 1].toNat * 65536 + L[A + 2].toNat * 256 + L[A + 3].toNat : Nat) : Int) := v3
      replace v1 : getV L (A : Int) 1 = (L[A].toNat : Int) := v1
      rw [v3] at hE
      obtain ⟨b, off, ho, q0⟩ := hs A (by omega)
      obtain ⟨b1, off1, ho1, q1⟩ := hs (A + 1) (by omega)
      obtain ⟨b2, off2, ho2, q2⟩ := hs (A + 2) (by omega)
      obtain ⟨b3, off3, ho3, q3⟩ := hs (A + 3) (by omega)
      subst ho
      cases ho1
      cases ho2
      cases ho3
      have m0 := L[A].toNat_lt
      have m1 := L[A + 1].toNat_lt
      have m2 := L[A + 2].toNat_lt
      have m3 := L[A + 3].toNat_lt
      refine ⟨A, b, off, L[A].toNat, L[A + 1].toNat, L[A + 2].toNat, L[A + 3].toNat, rfl, rfl, ?_, ?_, v1, m0, m1, m2, m3, q0, q1, q2, q3⟩
      · split at hE
        · cases hE
        · omega
      · unfold cutN
        rw [v3]
        rfl
    · rw [if_pos (by simpa using e2)] at hE
      exact absurd hE e2
  · rw [if_pos (by simpa using e1)] at hE
    exact absurd hE e1
/-- The bytes as they lie at the start. -/
structure Stt (X : World) (b off : Nat) (L : List UInt8) (A n c : Nat) : Prop where
  sl : Sl X (some ⟨b, off, none⟩) L
  fit : A + 4 + n ≤ L.length
  cn : cutN L (A : Int) = n
  cap : L.length ≤ c
  big : c ≤ 9223372036854775807
theorem st_of {b off A n : Nat} (h : Sl X (some ⟨b, off, none⟩) L) (fit : A + 4 + n ≤ L.length) (cn : cutN L (A : Int) = n) (hc : L.length ≤ c) (h63 : c ≤ 9223372036854775807) : Stt X b off L A n c := ⟨h, fit, cn, hc, h63⟩
/-- What is to be shown at the end. -/
def Fin (w1 w : World) (L : List UInt8) (a k : Int) : Prop := ∀ (X : World) (p M : Nat) (o : Option Addr) (c : Nat) (s : Sd) (m : Msg), Qm w1 X p M o (bdy L a) c s m → s = (rr k (bdy L a) (false, 0)).1 → m.pl = (rr k (bdy L a) (false, 0)).2 →
  ((s.1 = true ∨ s.2 < cutN L a ∨ mayB m = false) → ∀ X', Below w.heap.size w X' → ReadR L a w (.returned (.tuple #[.agg (m0 0).cells.toArray, .int .i64 0, .int .i64 11])) X') ∧
  ((s.1 = false ∧ cutN L a ≤ s.2 ∧ mayB m = true) → ∀ X', (∀ (g : Nat) (cs : Array Value) (t : Nat), t ≠ 34 → X.heap[g]? = some (.cells cs t (0, 0)) → X'.heap[g]? = X.heap[g]?) → Below w.heap.size w X' → ReadR L a w (.returned (.tuple #[.agg m.cells.toArray, .int .i64 (a + 4 + cutN L a), .int .i64 0])) X')
theorem mayB_pl (m : Msg) : mayB m.pl = mayB m := rfl
theorem fin_of {k : Nat} {w1 : World} (hs : Sl w o L) (hE : cutE L a = 0) (hk : getV L a 1 = (k : Int)) (hb : Below w.heap.size w w1) (hKK : isK k = true := by decide) : Fin w1 w L a k := by
  intro X p M o c s m h e1 e2
  have hlen : (bdy L a).length = cutN L a := by
    obtain ⟨A, b, off, N0, N1, N2, N3, rfl, rfl, fit, hn, _⟩ := pre_c hs hE
    unfold bdy
    exact sub_length L _ _ (by rw [hn]; simpa using fit)
  have hag := agr_all (L := bdy L a) (s := (false, 0)) (k : Int) rfl
  have hrd : rdAt L a = rd k (bdy L a) (false, 0) := by unfold rdAt; rw [hk]
  have hle : s.2 ≤ cutN L a := by rw [← hlen]; exact h.rq.le
  have hm : mayB m = mayB (rr k (bdy L a) (false, 0)).2 := by rw [← e2]; rfl
  constructor
  · intro hbad X' hX'
    have : readE L a = 11 := by
      unfold readE
      rw [if_neg (by simpa using hE), hk, hKK, if_neg (by simp), if_pos]
      rw [hrd]
      by_cases hd : (rd k (bdy L a) (false, 0)).1.1 = false
      · have e := hag.2 hd
        have := hag.1.1 hd
        rw [e]
        rw [← e1] at this ⊢
        rw [hm] at hbad
        rcases hbad with hbad | hbad | hbad
        · rw [hbad] at this; cases this.1
        · simp; exact .inr (by omega)
        · rw [this.2] at hbad; cases hbad
      · simp [show (rd k (bdy L a) (false, 0)).1.1 = true by simpa using hd]
    exact ⟨hX', fun _ => by rw [this], fun h => by rw [this] at h; cases h⟩
  · rintro ⟨h1, h2, h3⟩ X' hX1 hX'
    have hd : (rd k (bdy L a) (false, 0)).1.1 = false := hag.1.2 ⟨by rw [← e1]; exact h1, by rw [← hm]; exact h3⟩
    have e := hag.2 hd
    have : readE L a = 0 := by
      unfold readE
      rw [if_neg (by simpa using hE), hk, hKK, if_neg (by simp), if_neg]
      rw [hrd, e, ← e1, h1]
      have : s.2 = cutN L a := by omega
      simp [this]
    refine ⟨hX', fun h => absurd this h, fun _ => ⟨m, rfl, ?_, h.ln, ?_, ?_, ?_⟩⟩
    · rw [e2, hrd, e]
    · exact own_low (own9 h.nm (fun g cs hg => hX1 g cs _ (by decide) hg)) hb.size
    · exact By.less2 (By.blk h.pa (fun g cs hg => hX1 g cs _ (by decide) hg)) hb.size
    · exact By.less2 (By.blk h.ti (fun g cs hg => hX1 g cs _ (by decide) hg)) hb.size
theorem wb34 {ops : Array Oper} {rest : List Oper} {o : Oper} {a : Act} {w : World} {Q : Exit → Act → World → Prop} (hg : o.guard = none) (x0 : Operand) (ho : o.op = .build 34 #[(0, x0)]) (v0 D : Value) (e0 : a.eval x0 = v0)
    (hD : ∀ X, (Instr.build 34 #[(0, v0)]).run Try.prog X = .ok D X)
    (h : wpList Try.prog ops Q rest (a.put o.dst D) w) : wpList Try.prog ops Q (o :: rest) a w :=
  wpList_plain hg fun K hK => by
    unfold Oper.wp execOp
    simp only [ho, List.map_toArray, List.map_cons, List.map_nil, e0, Sem.run_bind, hD, Result.andThen_ok, Sem.run_pure]
    exact hK _ _ h
theorem bd34k (k : Int) (X : World) : (Instr.build 34 #[(0, .int .i64 k)]).run Try.prog X = .ok (.agg (m0 k).cells.toArray) X := by kernel_rfl
theorem store34 {X : World} {g : Nat} {cs : Array Value} (hg : X.heap[g]? = some (.cells cs 34 (0, 0))) (hc : cs.size = 72) : (storeCells ⟨g, 0, none⟩ (m0 0).cells.toArray.toList).run Try.prog X = .ok () (X.setRow g (m0 0).cells.toArray) := by
  have h1 : ∀ v ∈ (m0 0).cells, v.oneCell' = true := by decide
  have := run_storeCells_from (P := Try.prog) g 34 (m0 0).cells 0 cs X hg (by rw [hc]; rfl) h1
  simpa using this
theorem results_rread {X : World} {g : Nat} {cs : Array Value} (tmps : Array Value) (hp : tmps.getD 4 undef = .pointer (some ⟨g, 0, none⟩)) (hg : X.heap[g]? = some (.cells cs 34 (0, 0))) (hc : cs.size = 72) : (results Try.f14 tmps).run Try.prog X = .ok (.tuple #[.agg cs, tmps.getD 5 undef, tmps.getD 6 undef]) X := by
  have hp' : tmps[4]?.getD undef = .pointer (some ⟨g, 0, none⟩) := by simpa using hp
  have hl := run_loadVar_row (P := Try.prog) X g 34 34 cs (0, 0) _ hg ru34 rfl (by rw [hc]; exact ri34)
  simp [results, hp', asAddr, hl, Result.andThen]
theorem qm_start {w1 X1 : World} {b off A n ca : Nat} {k : Int} {T0 : Array Value} (hS : Stt w1 b off L A n c) (hb : Below w1.heap.size w1 X1) (hca : A + ca = c) (h16 : n < 16777216) (o2 : Option Addr) (ho2 : (if ca = 4 then some ⟨b, off + A, none⟩ else some ⟨b, off + A + 4, none⟩) = o2) :
    Qm w1 (((X1.alloc (.cells T0 34)).setRow X1.heap.size (m0 k).cells.toArray).alloc (.cells #[.slice o2 n (ca - 4), .int .i64 0, .bool false] 69)) (X1.heap.size + 1) X1.heap.size o2 (bdy L (A : Int)) (ca - 4) (false, 0) (m0 k) := by
  have hbd : bdy L (A : Int) = sub L (A + 4) n := by unfold bdy; rw [hS.cn]; rfl
  have hfit := hS.fit
  have hcap := hS.cap
  have hbig := hS.big
  have hlen : (bdy L (A : Int)).length = n := by rw [hbd]; exact sub_length L _ n hfit
  have hb1 : Below w1.heap.size w1 (X1.alloc (.cells T0 34)) := hb.trans ((bl1 X1 _).mono hb.size)
  have hr1 := heap_alloc_new X1 (.cells T0 34)
  have hr2 := setRow_heap (X1.alloc (.cells T0 34)) X1.heap.size _ (m0 k).cells.toArray 34 (0, 0) hr1
  have hb2 : Below w1.heap.size w1 ((X1.alloc (.cells T0 34)).setRow X1.heap.size (m0 k).cells.toArray) := below_setRow hb1 hb.size _
  have hsz : ((X1.alloc (.cells T0 34)).setRow X1.heap.size (m0 k).cells.toArray).heap.size = X1.heap.size + 1 := by simp [World.setRow]
  have hr3 := heap_alloc_new ((X1.alloc (.cells T0 34)).setRow X1.heap.size (m0 k).cells.toArray) (.cells #[.slice o2 n (ca - 4), .int .i64 0, .bool false] 69)
  rw [hsz] at hr3
  have hb3 := hb2.trans ((bl1 ((X1.alloc (.cells T0 34)).setRow X1.heap.size (m0 k).cells.toArray) (.cells #[.slice o2 n (ca - 4), .int .i64 0, .bool false] 69)).mono hb2.size)
  have hM := ((bl1 ((X1.alloc (.cells T0 34)).setRow X1.heap.size (m0 k).cells.toArray) (.cells #[.slice o2 n (ca - 4), .int .i64 0, .bool false] 69)).block X1.heap.size (lt_block hr2)).trans hr2
  generalize (((X1.alloc (.cells T0 34)).setRow X1.heap.size (m0 k).cells.toArray).alloc (.cells #[.slice o2 n (ca - 4), .int .i64 0, .bool false] 69)) = X3 at *
  have hsl : Sl X3 o2 (bdy L (A : Int)) := by
    rw [hbd]
    intro j hj
    rw [sub_length L _ n hfit] at hj
    obtain ⟨b', off', e, hcell⟩ := (Sl_bel hS.sl hb3) (A + 4 + j) (by omega)
    cases e
    rw [if_neg (by omega)] at ho2
    subst ho2
    refine ⟨b, off + A + 4, rfl, ?_⟩
    rw [show off + A + 4 + j = off + (A + 4 + j) by omega, hcell]
    simp [sub]
  have hlt : ∀ x, o2 = some x → bdy L (A : Int) ≠ [] → x.block < w1.heap.size := by
    intro x hx _
    have h1 := Sl_lt hS.sl (by intro h; rw [h] at hfit; simp at hfit)
    subst hx
    split at ho2 <;> (cases ho2; exact h1)
  have hX := hb.size
  refine ⟨⟨by rw [hlen]; exact hr3, hsl, Nat.zero_le _, by rw [hlen]; omega, by omega, by rw [hlen]; omega, fun x hx hn => by have := hlt x hx hn; omega, fun h => ?_⟩, hM, m0_len k, ?_, ?_, ?_, hb3, by omega, hX, hlt⟩
  · subst h; split at ho2 <;> cases ho2
  · exact World.ownsRow_nil _ _ _ _
  · exact World.ownsRow_nil _ _ _ _
  · exact World.ownsRow_nil _ _ _ _
theorem w4a (n : Nat) (h : n < 16777216) : wrap64 (4 + (n : Int)) = 4 + (n : Int) := by unfold wrap64; omega
theorem w4b (n : Nat) (h : n < 16777216) : IntKind.i64.wrap (4 + (n : Int)) = 4 + (n : Int) := by rw [IntKind.wrap_i64]; omega
theorem known_k (k : Int) (h : isK k = true) (X : World) : Calls Try.prog 19 #[.int .i64 k] X fun e w' => e = .returned (.bool true) ∧ w' = X := by
  have := known_c k X
  rw [h] at this
  exact this
theorem cell0 {X : World} {g : Nat} {k : Int} (h : X.heap[g]? = some (.cells (m0 k).cells.toArray 34 (0, 0))) : X.cell? ⟨g, 0, none⟩ = some (.int .i64 k) := by unfold World.cell?; rw [h]; rfl
end
end Go.Proofs.Ytcchlicokglmnaa
