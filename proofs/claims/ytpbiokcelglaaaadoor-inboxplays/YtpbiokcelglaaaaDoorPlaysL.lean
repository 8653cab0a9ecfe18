/- inbox: what InboxPlays' walk keeps. -/
import Derived.Test.YtpbiokcelglaaaaDoorPlB
import Derived.Test.YtpbiokcelglaaaaDoorBackL
namespace Go.Proofs.YtpbiokcelglaaaaDoor
open Go.RowKit Go.Maps
set_option linter.unusedVariables false

/-- An act, as it came. -/
structure ActR where
  k : Int
  o : Int
  la : Option Addr
  l : List UInt8
  cap : Nat
  f : Bool
  n : Int
/-- Acts as they lie. -/
def Ac (w : World) (la : Option Addr) (L : List ActR) : Prop := ∀ i (h : i < L.length), ∃ b off, la = some ⟨b, off, none⟩ ∧
  w.cell? ⟨b, off + i * 5, none⟩ = some (.int .i64 L[i].k) ∧ w.cell? ⟨b, off + i * 5 + 1, none⟩ = some (.int .i64 L[i].o) ∧ w.cell? ⟨b, off + i * 5 + 2, none⟩ = some (.slice L[i].la L[i].l.length L[i].cap) ∧ w.cell? ⟨b, off + i * 5 + 3, none⟩ = some (.bool L[i].f) ∧ w.cell? ⟨b, off + i * 5 + 4, none⟩ = some (.int .i64 L[i].n) ∧
  Sl w L[i].la L[i].l ∧ L[i].l.length ≤ 140737488351232 ∧ (L[i].la = none → L[i].l.length = 0 ∧ L[i].cap = 0) ∧ (-9223372036854775808 ≤ L[i].o ∧ L[i].o ≤ 9223372036854775807) ∧ (-9223372036854775808 ≤ L[i].n ∧ L[i].n ≤ 9223372036854775807)

/-- What the law's loop keeps. -/
structure Lp (W : World) (b mb r i : Nat) (nn p R lm rc rm : Nat) (V : Nat → Option UInt8) (kn : Bool) (fi : Int) (w : World) : Prop where
  ib : IbP b mb nn p R lm rc rm V kn w
  rf : RfP r p lm rc rm V kn fi w
  nu : Nu p R lm rc rm V kn fi
  bel : Below W.heap.size W w
  hb : W.heap.size ≤ b
  hm : W.heap.size ≤ mb
  hr : W.heap.size ≤ r
  hnn : nn ≤ 20000 * i
  hpi : p ≤ 1048576 * i
section
variable {W : World} {b mb r i : Nat} {nn p R lm rc rm : Nat} {V : Nat → Option UInt8} {kn : Bool} {fi : Int} {w w' : World}
theorem Lp.lt (h : Lp W b mb r i nn p R lm rc rm V kn fi w) : b < w.heap.size ∧ mb < w.heap.size ∧ r < w.heap.size := by
  obtain ⟨ca, cc, hr⟩ := h.rf
  exact ⟨(Array.getElem?_eq_some_iff.1 h.ib.1).1, h.ib.2.lt, hr.lt⟩
theorem IbP.kept {X : Nat → Prop} (h : IbP b mb nn p R lm rc rm V kn w) (hc : Chg X w w') (h1 : ¬ X b) (h2 : ¬ X mb) : IbP b mb nn p R lm rc rm V kn w' := Ib.kept h hc h1 h2
theorem RfP.kept {X : Nat → Prop} (h : RfP r p lm rc rm V kn fi w) (hc : Chg X w w') (h1 : ¬ X r) (hx : ∀ g cur, w.heap[g]? = some (.cells cur 62 (0, 0)) → ¬ X g) : RfP r p lm rc rm V kn fi w' := by
  obtain ⟨ca, cc, hr⟩ := h
  exact ⟨ca, cc, hr.kept hc h1 hx⟩
theorem IbP.ne_r (h : IbP b mb nn p R lm rc rm V kn w) (hr : RfP r p lm rc rm V kn fi w) : ¬ r = b ∧ ¬ r = mb := by
  obtain ⟨ca, cc, h2⟩ := hr
  refine ⟨?_, ?_⟩
  · rintro rfl
    have := h2.1.symm.trans h.1
    simp at this
  · rintro rfl
    obtain ⟨_, D, ⟨es, ck, h3, _⟩, _⟩ := h
    have := h2.1.symm.trans h3
    simp at this
theorem IbP.not62 (h : IbP b mb nn p R lm rc rm V kn w) {g : Nat} {cur : Array Value} (hg : w.heap[g]? = some (.cells cur 62 (0, 0))) : ¬ (g = b ∨ g = mb) := by
  rintro (rfl | rfl)
  · have := hg.symm.trans h.1
    simp at this
  · obtain ⟨_, D, ⟨es, ck, h3, _⟩, _⟩ := h
    have := hg.symm.trans h3
    simp at this
/-- A change elsewhere: new blocks, and rows of bytes. -/
theorem Lp.kept {X : Nat → Prop} (h : Lp W b mb r i nn p R lm rc rm V kn fi w) (hc : Chg X w w') (hX : ∀ j, j < w.heap.size → X j → W.heap.size ≤ j ∧ ∃ cur, w.heap[j]? = some (.cells cur 5 (0, 0))) : Lp W b mb r i nn p R lm rc rm V kn fi w' := by
  obtain ⟨hlb, hlm, hlr⟩ := h.lt
  obtain ⟨ca, cc, hr⟩ := h.rf
  refine ⟨h.ib.kept hc (fun e => ?_) (fun e => ?_), h.rf.kept hc (fun e => ?_) (fun g cur hg e => ?_), h.nu, ?_, h.hb, h.hm, h.hr, h.hnn, h.hpi⟩
  · obtain ⟨cur, h1⟩ := (hX b hlb e).2
    have := h1.symm.trans h.ib.1
    simp at this
  · obtain ⟨cur, h1⟩ := (hX mb hlm e).2
    obtain ⟨_, D, ⟨es, ck, h3, _⟩, _⟩ := h.ib
    have := h1.symm.trans h3
    simp at this
  · obtain ⟨cur, h1⟩ := (hX r hlr e).2
    have := h1.symm.trans hr.1
    simp at this
  · obtain ⟨cur', h1⟩ := (hX g (Array.getElem?_eq_some_iff.1 hg).1 e).2
    have := h1.symm.trans hg
    simp at this
  · refine h.bel.trans ⟨hc.1, hc.2.1, hc.2.2.1, hc.2.2.2.1, fun j hj => hc.2.2.2.2 j (Nat.lt_of_lt_of_le hj h.bel.size) (fun e => ?_)⟩
    have := (hX j (Nat.lt_of_lt_of_le hj h.bel.size) e).1
    omega
theorem Lp.alloc (h : Lp W b mb r i nn p R lm rc rm V kn fi w) (o : Obj) : Lp W b mb r i nn p R lm rc rm V kn fi (w.alloc o) := h.kept (X := fun _ => False) ((Chg.refl _ _).alloc _) (fun _ _ e => e.elim)
theorem Lp.drew (h : Lp W b mb r i nn p R lm rc rm V kn fi w) (n : Nat) : Lp W b mb r i nn p R lm rc rm V kn fi (w.drewN n) := h.kept (X := fun _ => False) (chg_drew _ _ _) (fun _ _ e => e.elim)
theorem Lp.step (h : Lp W b mb r i nn p R lm rc rm V kn fi w) : Lp W b mb r (i + 1) nn p R lm rc rm V kn fi w := ⟨h.ib, h.rf, h.nu, h.bel, h.hb, h.hm, h.hr, by have := h.hnn; omega, by have := h.hpi; omega⟩
end
/-- One half behind, the other not yet. -/
structure Lh (W : World) (b mb r i : Nat) (A B : World → Prop) (w : World) : Prop where
  a : A w
  c : B w
  bel : Below W.heap.size W w
  sz : b < w.heap.size ∧ mb < w.heap.size ∧ r < w.heap.size

/-- A row of bytes that is turned. -/
structure Tn (g n : Nat) (w0 wk : World) : Prop where
  row : ∃ cur, wk.heap[g]? = some (.cells cur 5 (0, 0)) ∧ ∀ j, j < n → ∃ z : Int, cur[j]? = some (.int .u8 z)
  ch : Chg (fun j => j = g) w0 wk
theorem Tn.next {g n k : Nat} {w0 wk : World} (h : Tn g n w0 wk) (hk : k < n) : ∃ z : Int, wk.cell? ⟨g, k, none⟩ = some (.int .u8 z) ∧ wk.frozen? ⟨g, k, none⟩ = false ∧ Tn g n w0 (wk.setCell ⟨g, k, none⟩ (.int .u8 (IntKind.u8.wrap (z + 1)))) := by
  obtain ⟨⟨cur, hg, hc⟩, hch⟩ := h
  obtain ⟨z, hz⟩ := hc k hk
  refine ⟨z, by simp [World.cell?, hg, hz], by simp [World.frozen?, hg], ⟨cur.setIfInBounds k (.int .u8 (IntKind.u8.wrap (z + 1))), ?_, fun j hj => ?_⟩, hch.trans ?_⟩
  · rw [setCell_eq_setRow wk g k _ 5 (0, 0) _ hg, setRow_heap _ g _ _ 5 (0, 0) hg]
  · by_cases e : k = j
    · subst e
      have hlt := (Array.getElem?_eq_some_iff.1 hz).1
      exact ⟨_, by rw [Array.getElem?_setIfInBounds_self_of_lt hlt]⟩
    · obtain ⟨z', hz'⟩ := hc j hj
      exact ⟨z', by rw [Array.getElem?_setIfInBounds_ne e]; exact hz'⟩
  · rw [setCell_eq_setRow wk g k _ 5 (0, 0) _ hg]
    exact ⟨rfl, rfl, rfl, by simp, fun j hj hx => setRow_other _ g j _ hx⟩
/-- A row of the call's own, from its first place on. -/
theorem own_row {w : World} {base : Nat} {v : Value} {n : Nat} {l : List UInt8} (h : w.ownsRow base 5 1 v n (bs l)) (hn : 0 < n) : ∃ g c cur, v = .slice (some ⟨g, 0, none⟩) n c ∧ base ≤ g ∧ w.heap[g]? = some (.cells cur 5 (0, 0)) ∧ n ≤ c ∧ l.length = n ∧ ∀ j (hj : j < l.length), cur[j]? = some (.int .u8 (l[j].toNat : Int)) := by
  obtain ⟨h1, h2⟩ := h
  have hl : l.length = n := by simpa using h1
  rcases h2 with ⟨_, rfl⟩ | ⟨g, cap, cur, hv, hb, hg, h3, h4, h5, h6⟩
  · omega
  · refine ⟨g, cap, cur, hv, hb, hg, h3, hl, fun j hj => ?_⟩
    have hj' : (bs l)[j]? = some (.int .u8 (l[j].toNat : Int)) := by simp [bs, hj]
    rw [← h6, List.getElem?_take, if_pos (by omega)] at hj'
    simpa using hj'
/-- 'append(v, xs...)', v the call's own, xs whatever bytes, nil too. -/
theorem wpList_append_b31 {w : World} {ops : Array Oper} {rest : List Oper} {o : Oper} {a : Act} {Q : Exit → Act → World → Prop} (hgd : o.guard = none) (s x : Operand)
    (ho : o.op = .call { callee := .builtin .append, args := #[s, x], argTypes := #[31, 31] })
    (base : Nat) (v : Value) (n : Nat) (xs : List Value) (hs : a.eval s = v) (hown : w.ownsRow base 5 1 v n xs)
    (ao : Option Addr) (m c : Nat) (l : List UInt8) (hx : a.eval x = .slice ao m c) (hl : l.length = m) (hnil : ao = none → m = 0 ∧ c = 0) (hsl : Sl w ao l)
    (hb : n + m ≤ 140737488355328) (hbase : base ≤ w.heap.size)
    (h : ∀ v' w', w'.ownsRow base 5 1 v' (n + m) (xs ++ bs l) → w.grownBy w' v.ownBlock → wpList Tryd.prog ops Q rest (a.put o.dst v') w') : wpList Tryd.prog ops Q (o :: rest) a w := by
  obtain ⟨i, hi, hz, hsz, hby⟩ := info_parts info5
  cases ao with
  | none =>
    obtain ⟨rfl, rfl⟩ := hnil rfl
    obtain rfl : l = [] := List.eq_nil_of_length_eq_zero hl
    refine wpList_append_own_none hgd s x 31 ho base 5 i 1 Tryd.underlying31 hi v n xs hs hown hx ?_
    refine h v w ?_ ⟨rfl, rfl, rfl, Nat.le_refl _, fun _ _ _ => rfl⟩
    simpa [bs] using hown
  | some ad =>
    refine wpList_append_own w hgd s x 31 ho base 5 i (.int .u8 0) 1 1 Tryd.underlying31 hi hz hsz hby rfl (by decide) v n xs hs hown ad m c (bs l) hx (by rw [bs_length]; omega) (fun j u hj => ?_) (bs_one l) (by unfold maxLen; omega) (by omega) hbase ?_
    · obtain ⟨hj', rfl⟩ := bs_get hj
      obtain ⟨bb, oo, e, hcx⟩ := hsl j hj'
      injection e with e
      subst e
      rw [Addr.add_lit]
      exact hcx
    · intro v' w' h1 h2 _
      exact h v' w' h1 h2
section
variable {W : World} {b mb r i : Nat} {nn p R lm rc rm : Nat} {V : Nat → Option UInt8} {kn : Bool} {fi : Int} {nn' p' R' lm' rc' rm' : Nat} {V' : Nat → Option UInt8} {kn' : Bool} {fi' : Int} {w0 w1 w2 : World}
theorem bel_chg {X : Nat → Prop} (h : Below W.heap.size W w0) (hc : Chg X w0 w1) (hX : ∀ j, X j → W.heap.size ≤ j) : Below W.heap.size W w1 :=
  h.trans ⟨hc.1, hc.2.1, hc.2.2.1, hc.2.2.2.1, fun j hj => hc.2.2.2.2 j (Nat.lt_of_lt_of_le hj h.size) (fun e => by have := hX j e; omega)⟩
/-- Both have acted, the inbox first. -/
theorem Lp.two1 (h : Lp W b mb r i nn p R lm rc rm V kn fi w0) (nu : Nu p' R' lm' rc' rm' V' kn' fi') (hc1 : Chg (fun j => j = b ∨ j = mb) w0 w1) (hI : IbP b mb nn' p' R' lm' rc' rm' V' kn' w1) (hc2 : Chg (fun k => k = r) w1 w2) (hR : RfP r p' lm' rc' rm' V' kn' fi' w2) (hn : nn' ≤ nn + 20000) (hp : p' ≤ p + 1048576) : Lp W b mb r (i + 1) nn' p' R' lm' rc' rm' V' kn' fi' w2 := by
  have hne := IbP.ne_r h.ib h.rf
  exact ⟨hI.kept hc2 (fun e => hne.1 e.symm) (fun e => hne.2 e.symm), hR, nu, bel_chg (bel_chg h.bel hc1 (fun j e => by rcases e with rfl | rfl; exact h.hb; exact h.hm)) hc2 (fun j e => by rw [e]; exact h.hr), h.hb, h.hm, h.hr, by have := h.hnn; omega, by have := h.hpi; omega⟩
/-- Both have acted, the reference first. -/
theorem Lp.two2 (h : Lp W b mb r i nn p R lm rc rm V kn fi w0) (nu : Nu p' R' lm' rc' rm' V' kn' fi') (hc1 : Chg (fun k => k = r) w0 w1) (hR : RfP r p' lm' rc' rm' V' kn' fi' w1) (hc2 : Chg (fun j => j = b ∨ j = mb) w1 w2) (hI : IbP b mb nn' p' R' lm' rc' rm' V' kn' w2) (hn : nn' ≤ nn + 20000) (hp : p' ≤ p + 1048576) : Lp W b mb r (i + 1) nn' p' R' lm' rc' rm' V' kn' fi' w2 := by
  have hne := IbP.ne_r h.ib h.rf
  have hI1 : IbP b mb nn p R lm rc rm V kn w1 := h.ib.kept hc1 (fun e => hne.1 e.symm) (fun e => hne.2 e.symm)
  exact ⟨hI, hR.kept hc2 (fun e => e.elim hne.1 hne.2) (fun g cur hg => hI1.not62 hg), nu, bel_chg (bel_chg h.bel hc1 (fun j e => by rw [e]; exact h.hr)) hc2 (fun j e => by rcases e with rfl | rfl; exact h.hb; exact h.hm), h.hb, h.hm, h.hr, by have := h.hnn; omega, by have := h.hpi; omega⟩
theorem Lp.drew1 (h : Lp W b mb r i nn p R lm rc rm V kn fi w0) : Lp W b mb r i nn p R lm rc rm V kn fi w0.drew := h.drew 1
theorem Lp.box (h : Lp W b mb r i nn p R lm rc rm V kn fi w0) {g : Nat} {cur : Array Value} (hg : w0.heap[g]? = some (.cells cur 33 (0, 0))) : ¬ (g = b ∨ g = mb) ∧ ¬ g = r := by
  obtain ⟨ca, cc, hr⟩ := h.rf
  refine ⟨?_, ?_⟩
  · rintro (rfl | rfl)
    · have := hg.symm.trans h.ib.1
      simp at this
    · obtain ⟨_, D, ⟨es, ck, h3, _⟩, _⟩ := h.ib
      have := hg.symm.trans h3
      simp at this
  · rintro rfl
    have := hg.symm.trans hr.1
    simp at this
theorem cell_chg {X : Nat → Prop} {g j : Nat} {v : Value} (h : w0.cell? ⟨g, j, none⟩ = some v) (hc : Chg X w0 w1) (hX : ¬ X g) : w1.cell? ⟨g, j, none⟩ = some v :=
  (World.cell?_of_block (w := w0) (a := ⟨g, j, none⟩) (hc.2.2.2.2 g (World.block_lt_of_cell? _ _ h) hX)).trans h
theorem Lp.tb (h : Lp W b mb r i nn p R lm rc rm V kn fi w0) (hT : Tb w0) (hc : Chg (fun k => k = r) w0 w1) : Tb w1 := by
  obtain ⟨ca, cc, hr⟩ := h.rf
  intro j hj
  have hx := hT j hj
  exact cell_chg hx hc (hr.byte hx)
end
theorem own_tn {w : World} {base g n c : Nat} {l : List UInt8} (h : w.ownsRow base 5 1 (.slice (some ⟨g, 0, none⟩) n c) n (bs l)) : Tn g n w w ∧ base ≤ g ∧ ∃ cur, w.heap[g]? = some (.cells cur 5 (0, 0)) := by
  obtain ⟨h1, h2⟩ := h
  have hl : l.length = n := by simpa using h1
  rcases h2 with ⟨h0, _⟩ | ⟨g', cap, cur, hv, hb, hg, h3, h4, h5, h6⟩
  · cases h0
  · cases hv
    refine ⟨⟨⟨cur, hg, fun j hj => ?_⟩, Chg.refl _ _⟩, hb, cur, hg⟩
    have hj' : (bs l)[j]? = some (.int .u8 ((l[j]'(by omega)).toNat : Int)) := by simp [bs, show j < l.length by omega]
    rw [← h6, List.getElem?_take, if_pos (by omega)] at hj'
    exact ⟨_, by simpa using hj'⟩
theorem Lp.turned {W : World} {b mb r i : Nat} {nn p R lm rc rm : Nat} {V : Nat → Option UInt8} {kn : Bool} {fi : Int} {w w' : World} {g n : Nat} (h : Lp W b mb r i nn p R lm rc rm V kn fi w) (ht : Tn g n w w') (hg : W.heap.size ≤ g) (hc : ∃ cur, w.heap[g]? = some (.cells cur 5 (0, 0))) : Lp W b mb r i nn p R lm rc rm V kn fi w' :=
  h.kept ht.ch (fun j _ e => by subst e; exact ⟨hg, hc⟩)
theorem chg_below {w w' : World} (h : Below w.heap.size w w') : Chg (fun _ => False) w w' := ⟨h.os, h.tape, h.output, h.size, fun j hj _ => h.block j hj⟩
end Go.Proofs.YtpbiokcelglaaaaDoor
