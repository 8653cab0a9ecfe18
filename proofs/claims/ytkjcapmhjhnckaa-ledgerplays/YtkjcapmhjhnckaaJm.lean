/- LedgerPlays on lists: flight, what is due, the greatest, what arrives, the numbers that were sent. -/
import Derived.Test.YtkjcapmhjhnckaaJl
import Derived.Test.YtkjcapmhjhnckaaCn
import Derived.Test.YtkjcapmhjhnckaaRd
import Derived.Test.YtkjcapmhjhnckaaRt
namespace Go.Proofs.Ytkjcapmhjhnckaa
open Go.RowKit Go.Maps Go.Shelf
set_option linter.unusedVariables false

theorem flt_z (Q : List (Pk × Int)) : (flt Q).1 = zs (mks Q) ∧ (flt Q).2.1 = ce (mks Q) := by
  suffices H : ∀ R : List (Pk × Int), (flt R.reverse).1 = zs (mks R.reverse) ∧ (flt R.reverse).2.1 = ce (mks R.reverse) by
    have := H Q.reverse
    rwa [List.reverse_reverse] at this
  intro R
  induction R with
  | nil => exact ⟨rfl, rfl⟩
  | cons x R ih =>
    rw [List.reverse_cons, flt_snoc, mks_app, zs_app, ce_app]
    have e1 : zs (mks [x]) = if x.2 = 0 then x.1.s else 0 := by simp [mks, zs]
    have e2 : ce (mks [x]) = if x.2 = 0 ∧ x.1.e = true then 1 else 0 := by simp [mks, ce]
    rw [e1, e2, ← ih.1, ← ih.2]
    unfold fl1
    constructor <;> dsimp only <;> split <;> omega
theorem zs_off0 {O : List (Pk × Bool)} (h : ∀ x ∈ O, x.2 = false) : zs O = 0 ∧ ce O = 0 := by
  induction O with
  | nil => exact ⟨rfl, rfl⟩
  | cons x t ih =>
    have h1 := h x (by simp)
    obtain ⟨h2, h3⟩ := ih fun y hy => h y (by simp [hy])
    simp [zs, ce, h1, h2, h3]
theorem Jn.flight {f : Nat} {Q : List (Pk × Int)} {O : List (Pk × Bool)} (h : Jn f Q O) : (flt Q).1 = zs O ∧ (flt Q).2.1 = ce O := by
  obtain ⟨rfl, hh, hn⟩ := h
  obtain ⟨h1, h2⟩ := flt_z Q
  have e : mks Q = mks (Q.take f) ++ mks (Q.drop f) := by rw [← mks_app, List.take_append_drop]
  obtain ⟨z1, z2⟩ := zs_off0 (O := mks (Q.take f)) (by
    intro x hx
    obtain ⟨y, hy, rfl⟩ := List.mem_map.1 hx
    simp [hh y hy])
  rw [h1, h2, e, zs_app, ce_app, z1, z2]
  constructor <;> omega
/-- When the last eliciting one was sent hangs on the packets alone. -/
theorem flt_d {Q Q' : List (Pk × Int)} (h : Q.map (fun x => x.1) = Q'.map fun x => x.1) : (flt Q).2.2 = (flt Q').2.2 := by
  have key : ∀ (l l' : List (Pk × Int)) (a b : Int × Int × Int), l.map (fun x => x.1) = l'.map (fun x => x.1) → a.2.2 = b.2.2 → (l.foldl fl1 a).2.2 = (l'.foldl fl1 b).2.2 := by
    intro l
    induction l with
    | nil =>
      intro l' a b h1 h2
      have : l' = [] := by simpa using h1.symm
      subst this
      exact h2
    | cons x t ih =>
      intro l' a b h1 h2
      cases l' with
      | nil => simp at h1
      | cons y t' =>
        simp only [List.map_cons, List.cons.injEq] at h1
        refine ih t' _ _ h1.2 ?_
        simp only [fl1, h1.1, h2]
  exact key Q Q' _ _ h rfl
theorem rlm_fst (g old : Int) (Q : List (Pk × Int)) : (rlm g old Q).map (fun x => x.1) = Q.map fun x => x.1 := by
  unfold rlm
  rw [List.map_map]
  refine List.map_congr_left fun x _ => ?_
  simp only [Function.comp]
  split <;> rfl
theorem Rq_fst {Q Q' : List (Pk × Int)} (h : Q.map (fun x => x.1) = Q'.map fun x => x.1) (hr : Rq Q) : Rq Q' := by
  have h1 : (Q.map fun x => x.1).Pairwise fun x y : Pk => x.n < y.n ∧ x.a ≤ y.a := List.pairwise_map.2 hr
  rw [h] at h1
  exact List.pairwise_map.1 h1
/-- g is the greatest that arrived. -/
def Gv (g : Int) (Q : List (Pk × Int)) : Prop := (g = -1 ∨ ∃ x ∈ Q, x.2 = 1 ∧ x.1.n = g) ∧ ∀ x ∈ Q, x.2 = 1 → x.1.n ≤ g
theorem Gv.uniq {g g' : Int} {Q : List (Pk × Int)} (h : Gv g Q) (h' : Gv g' Q) (h0 : -1 ≤ g) (h0' : -1 ≤ g') : g = g' := by
  have a : g ≤ g' := by
    rcases h.1 with rfl | ⟨x, h1, h2, rfl⟩
    · exact h0'
    · exact h'.2 x h1 h2
  have b : g' ≤ g := by
    rcases h'.1 with rfl | ⟨x, h1, h2, rfl⟩
    · exact h0
    · exact h.2 x h1 h2
  omega
theorem Gv.lose {g g1 old : Int} {Q : List (Pk × Int)} (h : Gv g Q) : Gv g (rlm g1 old Q) := by
  refine ⟨h.1.imp id ?_, fun x hx h1 => h.2 x (rlm_same hx h1) h1⟩
  rintro ⟨x, hx, h1, h2⟩
  refine ⟨x, List.mem_map.2 ⟨x, hx, ?_⟩, h1, h2⟩
  rw [il_off (by omega)]
  simp
/-- The reference's look for the greatest. -/
def rg (g : Int) (Q : List (Pk × Int)) : Int := Q.foldl (fun g x => if x.2 = 1 then x.1.n else g) g
theorem rg_snoc (g : Int) (Q : List (Pk × Int)) (x : Pk × Int) : rg g (Q ++ [x]) = if x.2 = 1 then x.1.n else rg g Q := by simp [rg, List.foldl_append]
theorem rg_is (g : Int) (Q : List (Pk × Int)) (hr : Rq Q) (hg : (∀ x ∈ Q, x.2 ≠ 1) → g = -1) : Gv (rg g Q) Q := by
  suffices H : ∀ R : List (Pk × Int), Rq R.reverse → (((∀ x ∈ R.reverse, x.2 ≠ 1) ∧ rg g R.reverse = g) ∨ ((∃ x ∈ R.reverse, x.2 = 1 ∧ x.1.n = rg g R.reverse) ∧ ∀ x ∈ R.reverse, x.2 = 1 → x.1.n ≤ rg g R.reverse)) by
    have := H Q.reverse (by rwa [List.reverse_reverse])
    rw [List.reverse_reverse] at this
    rcases this with ⟨h1, h2⟩ | ⟨h1, h2⟩
    · exact ⟨.inl (h2.trans (hg h1)), fun x hx hq => absurd hq (h1 x hx)⟩
    · exact ⟨.inr h1, h2⟩
  intro R
  induction R with
  | nil => intro _; exact .inl ⟨fun x hx => by simp at hx, rfl⟩
  | cons x R ih =>
    intro hr
    rw [List.reverse_cons] at hr ⊢
    obtain ⟨hr1, -, hr2⟩ := List.pairwise_append.1 hr
    rw [rg_snoc]
    by_cases hx : x.2 = 1
    · rw [if_pos hx]
      refine .inr ⟨⟨x, by simp, hx, rfl⟩, fun y hy hq => ?_⟩
      rcases List.mem_append.1 hy with hy | hy
      · have := (hr2 y hy x (by simp)).1; omega
      · simp only [List.mem_singleton] at hy
        rw [hy]; exact Int.le_refl _
    · rw [if_neg hx]
      rcases ih hr1 with ⟨h1, h2⟩ | ⟨⟨y, h1, h2, h3⟩, h4⟩
      · refine .inl ⟨fun y hy => ?_, h2⟩
        rcases List.mem_append.1 hy with hy | hy
        · exact h1 y hy
        · simp only [List.mem_singleton] at hy
          rw [hy]; exact hx
      · refine .inr ⟨⟨y, by simp [h1], h2, h3⟩, fun z hz hq => ?_⟩
        rcases List.mem_append.1 hz with hz | hz
        · exact h4 z hz hq
        · simp only [List.mem_singleton] at hz
          rw [hz] at hq
          exact absurd hq hx
/-- Those that arrive now. -/
def ra (S : List (Int × Int)) (x : Pk × Int) : Bool := decide (x.2 = 0) && inS S x.1
def ram (S : List (Int × Int)) (Q : List (Pk × Int)) : List (Pk × Int) := Q.map fun x => if ra S x = true then (x.1, 1) else x
def rat (S : List (Int × Int)) (Q : List (Pk × Int)) : List (Pk × Int) := Q.filter (ra S)
theorem ram_fst (S : List (Int × Int)) (Q : List (Pk × Int)) : (ram S Q).map (fun x => x.1) = Q.map fun x => x.1 := by
  unfold ram
  rw [List.map_map]
  refine List.map_congr_left fun x _ => ?_
  simp only [Function.comp]
  split <;> rfl
theorem ra_off {S : List (Int × Int)} {x : Pk × Int} (h : x.2 ≠ 0) : ra S x = false := by simp [ra, h]
theorem Jn.arr {f : Nat} {Q : List (Pk × Int)} {O : List (Pk × Bool)} (h : Jn f Q O) (S : List (Int × Int)) : Jn f (ram S Q) (un (inS S) O) ∧ (rat S Q).map (fun x => x.1) = (ons O).filter (inS S) := by
  have hon := h.on
  obtain ⟨rfl, hh, hn⟩ := h
  refine ⟨⟨?_, ?_, ?_⟩, ?_⟩
  · unfold ram un mks
    rw [← List.map_drop, List.map_map, List.map_map]
    refine List.map_congr_left fun x hx => ?_
    simp only [Function.comp]
    by_cases h0 : x.2 = 0
    · cases hs : inS S x.1 <;> simp [ra, h0, hs]
    · simp [ra_off h0, h0]
  · intro x hx
    have : (ram S Q).take f = Q.take f := by
      unfold ram
      rw [← List.map_take]
      exact map_same fun x hx => by rw [ra_off (hh x hx)]; simp
    rw [this] at hx
    exact hh x hx
  · intro x hx
    unfold ram at hx
    rw [← List.map_drop] at hx
    obtain ⟨y, hy, rfl⟩ := List.mem_map.1 hx
    split
    · exact .inr rfl
    · exact hn y hy
  · rw [hon]
    unfold rat ons mks
    rw [List.filter_map, List.filter_filter, List.filter_map, List.map_map]
    congr 1
    refine List.filter_congr fun x hx => ?_
    simp only [ra, Function.comp]
    rw [Bool.and_comm]
theorem gq_is (g : Int) (ps : List Pk) : g ≤ gq g ps ∧ (∀ p ∈ ps, p.n ≤ gq g ps) ∧ (gq g ps = g ∨ ∃ p ∈ ps, gq g ps = p.n) := by
  induction ps generalizing g with
  | nil => exact ⟨Int.le_refl _, fun p h => by simp at h, .inl rfl⟩
  | cons p t ih =>
    obtain ⟨h1, h2, h3⟩ := ih (max g p.n)
    have hu : gq g (p :: t) = gq (max g p.n) t := rfl
    rw [hu]
    generalize gq (max g p.n) t = r at *
    refine ⟨by omega, fun q hq => ?_, ?_⟩
    · rcases List.mem_cons.1 hq with rfl | hq
      · omega
      · exact h2 q hq
    · rcases h3 with h3 | ⟨q, q1, q2⟩
      · by_cases hc : g ≤ p.n
        · exact .inr ⟨p, by simp, by omega⟩
        · exact .inl (by omega)
      · exact .inr ⟨q, by simp [q1], q2⟩
theorem Gv.arr {g : Int} {Q : List (Pk × Int)} (h : Gv g Q) (S : List (Int × Int)) : Gv (gq g ((rat S Q).map fun x => x.1)) (ram S Q) := by
  obtain ⟨h1, h2, h3⟩ := gq_is g ((rat S Q).map fun x => x.1)
  generalize hr : gq g ((rat S Q).map fun x => x.1) = r at *
  constructor
  · rcases h3 with rfl | ⟨p, hp, rfl⟩
    · refine h.1.imp id ?_
      rintro ⟨x, hx, q1, q2⟩
      refine ⟨x, List.mem_map.2 ⟨x, hx, ?_⟩, q1, q2⟩
      rw [ra_off (by omega)]
      simp
    · obtain ⟨x, hx, rfl⟩ := List.mem_map.1 hp
      obtain ⟨x1, x2⟩ := List.mem_filter.1 hx
      exact .inr ⟨(x.1, 1), List.mem_map.2 ⟨x, x1, by rw [if_pos x2]⟩, rfl, rfl⟩
  · intro x hx q
    obtain ⟨y, hy, e⟩ := List.mem_map.1 hx
    by_cases hc : ra S y = true
    · rw [if_pos hc] at e
      subst e
      exact h2 y.1 (List.mem_map.2 ⟨y, List.mem_filter.2 ⟨hy, hc⟩, rfl⟩)
    · rw [if_neg hc] at e
      subst e
      have := h.2 y hy q
      omega
/-- Rising numbers within bounds. -/
theorem pigeon {l : List Int} (hr : l.Pairwise (· < ·)) {a b : Int} (h : ∀ x ∈ l, a ≤ x ∧ x ≤ b) (hab : a ≤ b + 1) : (l.length : Int) ≤ b - a + 1 ∧ ((l.length : Int) = b - a + 1 ↔ ∀ n, a ≤ n → n ≤ b → n ∈ l) := by
  induction l generalizing a with
  | nil =>
    refine ⟨by simp; omega, fun h n h1 h2 => ?_, fun h => ?_⟩
    · simp at h; omega
    · by_cases hc : a ≤ b
      · have := h a (Int.le_refl _) hc
        simp at this
      · simp; omega
  | cons x t ih =>
    obtain ⟨hx, ht⟩ := List.pairwise_cons.1 hr
    have hxb := h x (by simp)
    obtain ⟨i1, i2⟩ := ih ht (a := x + 1) (fun y hy => ⟨by have := hx y hy; omega, (h y (by simp [hy])).2⟩) (by omega)
    refine ⟨by simp only [List.length_cons]; omega, fun he n h1 h2 => ?_, fun ha => ?_⟩
    · simp only [List.length_cons] at he
      have hxa : x = a := by omega
      subst hxa
      by_cases hn : n = x
      · simp [hn]
      · exact List.mem_cons_of_mem _ (i2.1 (by omega) n (by omega) h2)
    · have hxa : x = a := by
        have := ha a (Int.le_refl _) (by omega)
        rcases List.mem_cons.1 this with h' | h'
        · exact h'.symm
        · have := hx a h'; omega
      subst hxa
      have := i2.2 fun n h1 h2 => by
        rcases List.mem_cons.1 (ha n (by omega) h2) with h' | h'
        · omega
        · exact h'
      simp only [List.length_cons]
      omega
theorem cnt_all (Q : List (Pk × Int)) (hr : Rq Q) (f l : Int) (hfl : f ≤ l) : (cnt f l Q : Int) = l - f + 1 ↔ ∀ n, f ≤ n → n ≤ l → n ∈ Q.map fun x => x.1.n := by
  have hp : ((Q.filter (inb f l)).map fun x => x.1.n).Pairwise (· < ·) := by
    rw [List.pairwise_map]
    exact (hr.imp fun h => h.1).sublist List.filter_sublist
  obtain ⟨h1, h2⟩ := pigeon hp (a := f) (b := l) (by
    intro x hx
    obtain ⟨y, hy, rfl⟩ := List.mem_map.1 hx
    have := (List.mem_filter.1 hy).2
    simpa [inb] using this) (by omega)
  have e : ((Q.filter (inb f l)).map fun x => x.1.n).length = cnt f l Q := by
    rw [List.length_map]
    unfold cnt
    exact List.countP_eq_length_filter.symm
  rw [e] at h2
  rw [h2]
  refine forall_congr' fun n => forall_congr' fun n0 => forall_congr' fun n1 => ?_
  simp only [List.mem_map, List.mem_filter]
  constructor
  · rintro ⟨y, ⟨q1, _⟩, rfl⟩
    exact ⟨y, q1, rfl⟩
  · rintro ⟨y, q1, rfl⟩
    exact ⟨y, ⟨q1, by simp [inb, n0, n1]⟩, rfl⟩
/-- Spans that rise and do not touch. -/
def Gp (T : List (Int × Int)) : Prop := T.Pairwise fun x y => x.2 + 1 < y.1
theorem hv_all {T : List (Int × Int)} (hg : Gp T) (hb : ∀ t ∈ T, t.1 ≤ t.2) (s : Int × Int) (hs : s.1 ≤ s.2) : hv1 T s = true ↔ ∀ n, s.1 ≤ n → n ≤ s.2 → ∃ t ∈ T, t.1 ≤ n ∧ n ≤ t.2 := by
  have hsp := tw_split (fun t : Int × Int => decide (t.2 < s.1)) T
  have hbe : (T.takeWhile fun t => decide (t.2 < s.1)).length = bel T s.1 := rfl
  rw [hbe] at hsp
  unfold hv1
  cases hd : T[bel T s.1]? with
  | none =>
    simp only [Bool.false_eq_true, false_iff]
    intro h
    obtain ⟨t, ht, h1, h2⟩ := h s.1 (Int.le_refl _) hs
    have hl : T.length ≤ bel T s.1 := by
      rcases Nat.lt_or_ge (bel T s.1) T.length with h' | h'
      · rw [List.getElem?_eq_getElem h'] at hd; cases hd
      · exact h'
    have := hsp.1 t (by rw [List.take_of_length_le hl]; exact ht)
    simp at this
    omega
  | some t =>
    obtain ⟨hlt, ht⟩ := List.getElem?_eq_some_iff.1 hd
    have hdr : T.drop (bel T s.1) = t :: T.drop (bel T s.1 + 1) := by rw [List.drop_eq_getElem_cons hlt, ht]
    have hT : T = T.take (bel T s.1) ++ t :: T.drop (bel T s.1 + 1) := by rw [← hdr, List.take_append_drop]
    have h1 := hsp.1
    have h2 := hsp.2 t _ hdr
    simp only [decide_eq_false_iff_not] at h2
    have htm : t ∈ T := by rw [hT]; simp
    rw [hT] at hg
    obtain ⟨-, g2, g3⟩ := List.pairwise_append.1 hg
    have g4 := (List.pairwise_cons.1 g2).1
    simp only [Bool.and_eq_true, decide_eq_true_eq]
    constructor
    · rintro ⟨q1, q2⟩ n n0 n1
      exact ⟨t, htm, by omega, by omega⟩
    · intro h
      have hmem : ∀ u ∈ T, u ∈ T.take (bel T s.1) ∨ u = t ∨ u ∈ T.drop (bel T s.1 + 1) := by
        intro u hu
        rw [hT] at hu
        rcases List.mem_append.1 hu with hu | hu
        · exact .inl hu
        · rcases List.mem_cons.1 hu with hu | hu
          · exact .inr (.inl hu)
          · exact .inr (.inr hu)
      have q1 : t.1 ≤ s.1 := by
        obtain ⟨u, hu, u1, u2⟩ := h s.1 (Int.le_refl _) hs
        rcases hmem u hu with hu | rfl | hu
        · have := h1 u hu
          simp at this
          omega
        · exact u1
        · have := g4 u hu
          omega
      refine ⟨q1, ?_⟩
      by_cases hc : s.2 ≤ t.2
      · exact hc
      · exfalso
        obtain ⟨u, hu, u1, u2⟩ := h (t.2 + 1) (by omega) (by omega)
        rcases hmem u hu with hu' | rfl | hu'
        · have := h1 u hu'
          simp at this
          omega
        · omega
        · have := g4 u hu'
          omega
/-- T has just the numbers of Q. -/
def Tq (T : List (Int × Int)) (Q : List (Pk × Int)) : Prop := ∀ n, (∃ t ∈ T, t.1 ≤ n ∧ n ≤ t.2) ↔ n ∈ Q.map fun x => x.1.n
theorem hv_cnt {T : List (Int × Int)} {Q : List (Pk × Int)} (hg : Gp T) (hb : ∀ t ∈ T, t.1 ≤ t.2) (hq : Tq T Q) (hr : Rq Q) (s : Int × Int) (hs : s.1 ≤ s.2) : hv1 T s = true ↔ (cnt s.1 s.2 Q : Int) = s.2 - s.1 + 1 := by
  rw [hv_all hg hb s hs, cnt_all Q hr _ _ hs]
  refine forall_congr' fun n => forall_congr' fun n0 => forall_congr' fun n1 => hq n
theorem addT_gp {T : List (Int × Int)} {n : Int} (hg : Gp T) (hb : ∀ t ∈ T, t.1 ≤ t.2) (ht : top T < n) : Gp (addT T n) ∧ (∀ t ∈ addT T n, t.1 ≤ t.2) ∧ ∀ m, (∃ t ∈ addT T n, t.1 ≤ m ∧ m ≤ t.2) ↔ ((∃ t ∈ T, t.1 ≤ m ∧ m ≤ t.2) ∨ m = n) := by
  unfold addT
  cases hl : T.getLast? with
  | none =>
    have e : T = [] := by simpa using hl
    subst e
    refine ⟨List.pairwise_singleton _ _, fun t h => ?_, fun m => ?_⟩
    · simp only [List.mem_singleton] at h; subst h; exact Int.le_refl _
    · simp; omega
  | some x =>
    obtain ⟨ys, rfl⟩ := List.getLast?_eq_some_iff.1 hl
    have hx := hb x (by simp)
    have htx : top (ys ++ [x]) = x.2 := by simp [top]
    rw [htx] at ht
    obtain ⟨g1, -, g3⟩ := List.pairwise_append.1 hg
    simp only
    split
    · rename_i e
      rw [List.dropLast_concat]
      refine ⟨List.pairwise_append.2 ⟨g1, List.pairwise_singleton _ _, fun a ha b hb' => ?_⟩, fun y hy => ?_, fun m => ?_⟩
      · simp only [List.mem_singleton] at hb'
        subst hb'
        exact g3 a ha x (by simp)
      · rcases List.mem_append.1 hy with hy | hy
        · exact hb y (by simp [hy])
        · simp only [List.mem_singleton] at hy
          subst hy
          simp only
          omega
      · constructor
        · rintro ⟨t, h1, h2, h3⟩
          rcases List.mem_append.1 h1 with h1 | h1
          · exact .inl ⟨t, by simp [h1], h2, h3⟩
          · simp only [List.mem_singleton] at h1
            subst h1
            simp only at h2 h3
            by_cases hm : m = n
            · exact .inr hm
            · exact .inl ⟨x, by simp, h2, by omega⟩
        · rintro (⟨t, h1, h2, h3⟩ | rfl)
          · rcases List.mem_append.1 h1 with h1 | h1
            · exact ⟨t, by simp [h1], h2, h3⟩
            · simp only [List.mem_singleton] at h1
              subst h1
              exact ⟨(t.1, n), by simp, h2, by simp only; omega⟩
          · exact ⟨(x.1, m), by simp, by simp only; omega, Int.le_refl _⟩
    · rename_i e
      refine ⟨List.pairwise_append.2 ⟨hg, List.pairwise_singleton _ _, fun a ha b hb' => ?_⟩, fun y hy => ?_, fun m => ?_⟩
      · simp only [List.mem_singleton] at hb'
        subst hb'
        rcases List.mem_append.1 ha with ha | ha
        · have := g3 a ha x (by simp)
          simp only
          omega
        · simp only [List.mem_singleton] at ha
          subst ha
          simp only
          omega
      · rcases List.mem_append.1 hy with hy | hy
        · exact hb y hy
        · simp only [List.mem_singleton] at hy
          subst hy
          exact Int.le_refl _
      · constructor
        · rintro ⟨t, h1, h2, h3⟩
          rcases List.mem_append.1 h1 with h1 | h1
          · exact .inl ⟨t, h1, h2, h3⟩
          · simp only [List.mem_singleton] at h1
            subst h1
            simp only at h2 h3
            exact .inr (by omega)
        · rintro (⟨t, h1, h2, h3⟩ | rfl)
          · exact ⟨t, List.mem_append_left _ h1, h2, h3⟩
          · exact ⟨(m, m), by simp, Int.le_refl _, Int.le_refl _⟩
/-- The first, if it is below g. -/
def hdue (g : Int) : List (Pk × Bool) → Option Pk
  | [] => none
  | x :: _ => if g ≤ x.1.n then none else some x.1
/-- What is due is the same. -/
theorem Jn.due {f : Nat} {Q : List (Pk × Int)} {O : List (Pk × Bool)} (h : Jn f Q O) (hr : Rq Q) (hd : fst O = 0) (g : Int) : (Q.find? (isd g)).map (fun x => x.1) = hdue g O := by
  obtain ⟨rfl, hh, hn⟩ := h
  have e : Q.find? (isd g) = (Q.drop f).find? (isd g) := by
    conv => lhs; rw [← List.take_append_drop f Q, List.find?_append]
    rw [List.find?_eq_none.2 (fun x hx => by simp [isd, hh x hx])]
    rfl
  rw [e]
  have hD : Rq (Q.drop f) := hr.sublist (List.drop_sublist _ _)
  generalize Q.drop f = D at *
  cases D with
  | nil => rfl
  | cons x t =>
    have hx : x.2 = 0 := by
      by_cases h0 : x.2 = 0
      · exact h0
      · exfalso
        simp [fst, mks, h0] at hd
    have he : mks (x :: t) = (x.1, decide (x.2 = 0)) :: mks t := rfl
    rw [he]
    unfold hdue
    simp only
    by_cases hg : g ≤ x.1.n
    · rw [if_pos hg, List.find?_eq_none.2]
      · rfl
      · intro y hy
        have hy' : x.1.n ≤ y.1.n := by
          rcases List.mem_cons.1 hy with rfl | hy
          · exact Int.le_refl _
          · have := ((List.pairwise_cons.1 hD).1 y hy).1; omega
        have : ¬ y.1.n < g := by omega
        simp [isd, this]
    · rw [if_neg hg, List.find?_cons_of_pos (by simp [isd, hx]; omega)]
      rfl
/-- The sample is the same: what the reference took of those that arrive, one by one. -/
def tk1 (hi now : Int) (t : Int) (p : Pk) : Int := if p.n = hi then now - p.a else t
def tks (hi now : Int) (ps : List Pk) : Int := ps.foldl (tk1 hi now) (-1)
theorem tks_snoc (hi now : Int) (ps : List Pk) (p : Pk) : tks hi now (ps ++ [p]) = tk1 hi now (tks hi now ps) p := by simp [tks, List.foldl_append]
theorem tks_none (hi now : Int) (ps : List Pk) (h : ∀ p ∈ ps, p.n ≠ hi) : tks hi now ps = -1 := by
  have key : ∀ (l : List Pk) (t : Int), (∀ p ∈ l, p.n ≠ hi) → l.foldl (tk1 hi now) t = t := by
    intro l
    induction l with
    | nil => intro t _; rfl
    | cons p l ih =>
      intro t h
      rw [List.foldl_cons, ih _ fun q hq => h q (by simp [hq])]
      unfold tk1
      rw [if_neg (h p (by simp))]
  exact key ps _ h
theorem smp_is (ps : List Pk) (hr : ps.Pairwise fun x y => x.n < y.n) (hi now : Int) (hb : ∀ p ∈ ps, p.n ≤ hi) : smp ps hi now = if (ps.any fun p => p.e) = true then tks hi now ps else -1 := by
  unfold smp
  cases hl : ps.getLast? with
  | none =>
    have e : ps = [] := by simpa using hl
    subst e
    rfl
  | some p =>
    obtain ⟨ys, rfl⟩ := List.getLast?_eq_some_iff.1 hl
    obtain ⟨-, -, h3⟩ := List.pairwise_append.1 hr
    simp only
    cases ha : (ys ++ [p]).any fun p => p.e with
    | false => simp
    | true =>
      simp only [Bool.true_eq_false, or_false, if_true]
      rw [tks_snoc]
      unfold tk1
      by_cases hp : p.n = hi
      · rw [if_neg (by simpa using hp), if_pos hp]
      · rw [if_pos hp, if_neg hp, tks_none]
        intro q hq
        have := h3 q hq p (by simp)
        have := hb p (by simp)
        omega
theorem Gv.low {g : Int} {Q : List (Pk × Int)} (h : Gv g Q) (h0 : ∀ x ∈ Q, 0 ≤ x.1.n) : (∀ x ∈ Q, x.2 ≠ 1) → g = -1 := by
  intro hn
  rcases h.1 with h1 | ⟨x, hx, h1, _⟩
  · exact h1
  · exact absurd h1 (hn x hx)
end Go.Proofs.Ytkjcapmhjhnckaa
