/- StreamsOpen: what its calls leave. -/
import Derived.Test.YtekgnibdnfephaaDoorUc
import Derived.Test.YtekgnibdnfephaaDoorUe
import Derived.Test.YtekgnibdnfephaaDoorUf
import Derived.Test.YtekgnibdnfephaaDoorNx
import Derived.Lib.SlBytesConst
namespace Go.Proofs.YtekgnibdnfephaaDoor
open Go.RowKit Go.Maps
set_option linter.unusedVariables false

/-- The box of both limits, as they came. -/
structure Lc (c s : Lm) (w X : World) : Prop where
  bx : X.heap[w.heap.size]? = some (.cells (c.v ++ s.v).toArray 25 (0, 0))
  bel : Below w.heap.size w X
theorem Lc.go {c s : Lm} {w X Z : World} (h : Lc c s w X) (hb : Below X.heap.size X Z) : Lc c s w Z := ⟨heap_bel h.bx hb, bel_trans h.bel hb⟩
theorem Lc.b0 {c s : Lm} {w X : World} (h : Lc c s w X) : X.rangeAt w.heap.size 0 c.v := by
  intro j v hv
  have h' := h.bx
  unfold World.cell?
  simp only [h']
  rcases j with _ | _ | _ | _ | _ | _ | j <;> simp [Lm.v] at hv <;> subst hv <;> simp [Lm.v]
theorem Lc.b6 {c s : Lm} {w X : World} (h : Lc c s w X) : X.rangeAt w.heap.size 6 s.v := by
  intro j v hv
  have h' := h.bx
  unfold World.cell?
  simp only [h']
  rcases j with _ | _ | _ | _ | _ | _ | j <;> simp [Lm.v] at hv <;> subst hv <;> simp [Lm.v]
/-- Both limits, made small, as they lie. -/
structure Lb (a b : Lm) (w : World) (pa pb : Nat) (X : World) : Prop where
  a : X.heap[pa]? = some (.cells a.v.toArray 23 (0, 0))
  b : X.heap[pb]? = some (.cells b.v.toArray 23 (0, 0))
  bel : Below w.heap.size w X
section
variable {a b : Lm} {w X Z : World} {pa pb : Nat}
theorem Lb.go (h : Lb a b w pa pb X) (hb : Below X.heap.size X Z) : Lb a b w pa pb Z := ⟨heap_bel h.a hb, heap_bel h.b hb, bel_trans h.bel hb⟩
theorem Lb.lt (h : Lb a b w pa pb X) : pa < X.heap.size ∧ pb < X.heap.size := ⟨(Array.getElem?_eq_some_iff.1 h.a).1, (Array.getElem?_eq_some_iff.1 h.b).1⟩
theorem Lb.chg (h : Lb a b w pa pb X) {J : Nat → Prop} (hc : Chg J X Z) {n0 : Nat} (hJ : ∀ j, J j → n0 ≤ j) (ha : pa < n0) (hb : pb < n0) (hw : w.heap.size ≤ n0) : Lb a b w pa pb Z := by
  have hne : ∀ j, j < n0 → ¬ J j := fun j hj e => by have := hJ j e; omega
  obtain ⟨l1, l2⟩ := h.lt
  refine ⟨(hc.2.2.2.2 _ l1 (hne _ ha)).trans h.a, (hc.2.2.2.2 _ l2 (hne _ hb)).trans h.b, ⟨hc.1.trans h.bel.os, hc.2.1.trans h.bel.tape, hc.2.2.1.trans h.bel.output, Nat.le_trans h.bel.size hc.2.2.2.1, fun j hj => ?_⟩⟩
  exact (hc.2.2.2.2 j (Nat.lt_of_lt_of_le hj h.bel.size) (hne j (by omega))).trans (h.bel.block j hj)
/-- Both stores of the limits. -/
theorem Lb.made {c s : Lm} {za zb : Array Value} (h : Lc c s w X) (ha : X.heap[pa]? = some (.cells za 23 (0, 0))) (hb : X.heap[pb]? = some (.cells zb 23 (0, 0))) (hne : pa ≠ pb) (hpa : w.heap.size ≤ pa) (hpb : w.heap.size ≤ pb) :
    Lb a b w pa pb ((X.setRow pa a.v.toArray).setRow pb b.v.toArray) := by
  have h1 := setRow_heap X pa _ a.v.toArray 23 (0, 0) ha
  have h2 : (X.setRow pa a.v.toArray).heap[pb]? = some (.cells zb 23 (0, 0)) := (setRow_other _ _ _ _ (by omega)).trans hb
  exact ⟨(setRow_other _ _ _ _ (by omega)).trans h1, setRow_heap _ pb _ _ 23 (0, 0) h2, bel_set (bel_set h.bel hpa _) hpb _⟩
theorem lc_set {c s : Lm} {za : Array Value} (h : Lc c s w X) (hne : pa ≠ w.heap.size) (hpa : w.heap.size ≤ pa) : Lc c s w (X.setRow pa za) := ⟨(setRow_other _ _ _ _ (by omega)).trans h.bx, bel_set h.bel hpa _⟩
end
/-- What holds of a table's blocks, and of those that are older. -/
structure Old (w : World) (pa pb n0 : Nat) (k : Bks) : Prop where
  lo : ∀ b ∈ k.l, n0 ≤ b
  a : pa < n0
  b : pb < n0
  w : w.heap.size ≤ n0
theorem Old.j {w : World} {pa pb n0 : Nat} {k : Bks} (h : Old w pa pb n0 k) (u : Bool) : ∀ j, (j = k.T ∨ j = k.sb ∨ j = k.gk u) → n0 ≤ j := by
  rintro j (rfl | rfl | rfl)
  · exact h.lo _ (by simp [Bks.l])
  · exact h.lo _ (by simp [Bks.l])
  · exact h.lo _ (by cases u <;> simp [Bks.l, Bks.gk])
/-- The first table, i streams of a kind opened, l allowed. -/
structure L1 (a b : Lm) (w : World) (pa pb : Nat) (k : Bks) (u : Bool) (l i : Nat) (X : World) : Prop where
  lb : Lb a b w pa pb X
  tb : Tb false a b k ((Tst.begin a b).opd u ⟨(l : Int), (i : Int), -1⟩ (i : Int)) X
  mp : ∃ G, Sx X k.sb i G ∧ (∀ z, G z ≠ none → ∃ j, j < i ∧ z = sid j false u) ∧ (∀ z v, G z = some v → Ok X v)
theorem ty_ok {a b : Lm} (hb : b.tiny) (u : Bool) (l i : Nat) (hi : i ≤ l) (hl : l ≤ 1000) : ((Tst.begin a b).opd u ⟨(l : Int), (i : Int), -1⟩ (i : Int)).fine :=
  opd_fine (begin_fine hb.peer) u _ _ ⟨by show (0 : Int) ≤ (i : Int); omega, by show (i : Int) ≤ (l : Int); omega, by show (l : Int) ≤ _; omega⟩
theorem sid_inj {p q : Nat} {s u : Bool} (h : sid p s u = sid q s u) : p = q := by
  cases s <;> cases u <;> simp [sid] at h <;> omega
section
variable {a b : Lm} {w X : World} {pa pb n0 : Nat} {k : Bks} {u : Bool} {l i : Nat}
theorem L1.full (h : L1 a b w pa pb k u l i X) (ha : a.tiny) (hb : b.tiny) (ho : Old w pa pb n0 k) (hl : l = i) (hi : i ≤ 100) :
    Calls Tryd.prog 6 #[.pointer (some ⟨k.T, 0, none⟩), .bool u] X fun e w' => e = .returned (.tuple #[.int .i64 0, .int .i64 31]) ∧ L1 a b w pa pb k u l i w' := by
  obtain ⟨G, hs, hz, hok⟩ := h.mp
  subst hl
  refine (open_full ha.own hb.peer h.tb (ty_ok hb u l l (Nat.le_refl _) (by omega)) hs u l (by rw [opd_gk]) (by rw [opd_live]; omega) (by omega) (by rw [opd_gk])).mono ?_
  rintro e w' ⟨rfl, ht, hsx, hc⟩
  exact ⟨rfl, h.lb.chg hc (ho.j u) ho.a ho.b ho.w, ht, G, hsx, hz, fun z v hv => ok_turn h.tb hs.map hc (hok z v hv)⟩
theorem L1.more (h : L1 a b w pa pb k u l i X) (ha : a.tiny) (hb : b.tiny) (ho : Old w pa pb n0 k) (hl : i < l) (hl2 : l ≤ 100) :
    Calls Tryd.prog 6 #[.pointer (some ⟨k.T, 0, none⟩), .bool u] X fun e w' => e = .returned (.tuple #[.int .i64 (sid i false u), .int .i64 0]) ∧ L1 a b w pa pb k u l (i + 1) w' := by
  obtain ⟨G, hs, hz, hok⟩ := h.mp
  have hG : G (sid i false u) = none := by
    cases hg : G (sid i false u) with
    | none => rfl
    | some v =>
      obtain ⟨j, hj, e⟩ := hz _ (by rw [hg]; simp)
      have := sid_inj e
      omega
  refine (open_more ha.own hb.peer h.tb (ty_ok hb u l i (by omega) (by omega)) hs u i (by rw [opd_gk]) (by rw [opd_live]; omega) (by omega) (by rw [opd_gk]; show (i : Int) < (l : Int); omega) hG (by omega)).mono ?_
  rintro e w' ⟨rfl, v, ht, hsx, hv, hc⟩
  refine ⟨rfl, h.lb.chg hc (ho.j u) ho.a ho.b ho.w, ?_, _, hsx, fun z hne => ?_, fun z v' hv' => ?_⟩
  · rw [opd_gk, opd_live, opd_opd] at ht
    exact ht
  · by_cases e : z = sid i false u
    · exact ⟨i, by omega, e⟩
    · simp only [if_neg e] at hne
      obtain ⟨j, hj, e'⟩ := hz z hne
      exact ⟨j, by omega, e'⟩
  · by_cases e : z = sid i false u
    · simp only [if_pos e, Option.some.injEq] at hv'
      subst hv'
      exact hv
    · simp only [if_neg e] at hv'
      exact ok_turn h.tb hs.map hc (hok z v' hv')
theorem rai_nat (l m i : Nat) (hm : m ≤ 1000) : (Gv.rai ⟨(l : Int), (i : Int), -1⟩ (m : Int)).2 = ⟨((max l m : Nat) : Int), (i : Int), -1⟩ := by
  unfold Gv.rai
  rw [if_neg (by omega)]
  show (if (l : Int) < (m : Int) then _ else _) = _
  by_cases h : l < m
  · rw [if_pos (by omega), Nat.max_eq_right (by omega)]
  · rw [if_neg (by omega), Nat.max_eq_left (by omega)]
theorem L1.raise (h : L1 a b w pa pb k u l i X) (ho : Old w pa pb n0 k) (m : Nat) (hm : m ≤ 1000) :
    Calls Tryd.prog 7 #[.pointer (some ⟨k.T, 0, none⟩), .agg (frL (mxk u) (m : Int)).toArray] X fun e w' => e = .returned .nilIface ∧ L1 a b w pa pb k u (max l m) i w' := by
  obtain ⟨G, hs, hz, hok⟩ := h.mp
  refine (take_max h.tb hs u (m : Int) (by omega) (by rw [opd_gk]; show (-1 : Int) ≤ (l : Int); omega)).mono ?_
  rintro e w' ⟨rfl, ht, hsx, hc⟩
  rw [opd_gk, opd_live, opd_opd, rai_nat l m i hm] at ht
  exact ⟨rfl, h.lb.chg hc (ho.j u) ho.a ho.b ho.w, ht, G, hsx, hz, fun z v hv => ok_turn h.tb hs.map hc (hok z v hv)⟩
theorem L1.told (h : L1 a b w pa pb k u l i X) :
    Calls Tryd.prog 8 #[.pointer (some ⟨k.T, 0, none⟩)] X fun e w' => (∃ x y z, e = .returned (.tuple #[.int .i64 x, .int .i64 y, .int .i64 z, .int .i64 (i : Int)])) ∧ Lb a b w pa pb w' := by
  obtain ⟨G, hs, hz, hok⟩ := h.mp
  exact (told_all h.tb hs hok).mono fun e w' ⟨h1, hb⟩ => ⟨h1, h.lb.go hb⟩
theorem L1.start (hl : Lb a b w pa pb X) (ht : Tb false a b k (Tst.begin a b) X) (hs : X.heap[k.sb]? = some (.map #[] 0)) (hm : b.most u = (l : Int)) : L1 a b w pa pb k u l 0 X := by
  refine ⟨hl, ?_, fun _ => none, Sx.made hs, fun z h => absurd rfl h, fun z v h => by cases h⟩
  have e : (Tst.begin a b).opd u ⟨(l : Int), ((0 : Nat) : Int), -1⟩ ((0 : Nat) : Int) = Tst.begin a b := by
    rw [← hm]
    cases u <;> rfl
  rw [e]
  exact ht
end
theorem tnew_p (srv : Bool) (x y : Lm) (w : World) (hx : x.le ownM = true) (hy : y.tiny) : Calls Tryd.prog 5 #[.bool srv, .agg x.v.toArray, .agg y.v.toArray] w fun e w' => ∃ k : Bks, e = .returned (.tuple #[.pointer (some ⟨k.T, 0, none⟩), .int .i64 0]) ∧ Tb srv x y k (Tst.begin x y) w' ∧ w'.heap[k.sb]? = some (.map #[] 0) ∧ w'.heap[k.nb]? = some (.map #[] 0) ∧ (∀ b ∈ k.l, w.heap.size ≤ b) ∧ Below w.heap.size w w' :=
  (tnew_c srv x y w hx hy.peer).mono fun _ _ ⟨k, h1, h2, h3, _, h5, h6, h7⟩ => ⟨k, h1, h2, h3, h5, h6, h7⟩
/-- The limits of the second table. -/
def x9 : Lm := ⟨9, 9, 9, 9, 20, 20⟩
theorem x9_mid : x9.mid := by
  simp only [Lm.mid, x9]
  omega
/-- The second table, i of m streams accepted. -/
structure L2 (a : Lm) (w : World) (k : Bks) (zs : List Int) (i : Nat) (X : World) : Prop where
  bel : Below w.heap.size w X
  kt : w.heap.size ≤ k.T
  tb : ∃ st o c g, Tb true x9 a k st X ∧ st.ws = .slice o (zs.length - i) c ∧ zs.length - i ≤ c ∧ (i < zs.length → o = some ⟨g, i, none⟩) ∧ (∀ j, (hj : j < zs.length) → X.cell? ⟨g, j, none⟩ = some (.int .i64 zs[j])) ∧ g ≠ k.T
section
variable {a : Lm} {w X : World} {k : Bks} {zs : List Int} {i : Nat}
theorem L2.step (h : L2 a w k zs i X) (hi : i < zs.length) :
    Calls Tryd.prog 9 #[.pointer (some ⟨k.T, 0, none⟩)] X fun e w' => e = .returned (.tuple #[.int .i64 zs[i], .bool true]) ∧ L2 a w k zs (i + 1) w' := by
  obtain ⟨st, o, c, g, ht, hws, hc, ho, hz, hg⟩ := h.tb
  obtain rfl := ho hi
  obtain ⟨m, hm⟩ : ∃ m, zs.length - i = m + 1 := ⟨zs.length - i - 1, by omega⟩
  obtain ⟨c, rfl⟩ : ∃ d, c = d + 1 := ⟨c - 1, by omega⟩
  rw [hm] at hws
  refine (accept_one ht hws (hz i hi) (by omega)).mono ?_
  rintro e w' ⟨rfl, o', ht', ho', hn⟩
  refine ⟨rfl, ⟨hn.1.trans h.bel.os, hn.2.1.trans h.bel.tape, hn.2.2.1.trans h.bel.output, Nat.le_trans h.bel.size hn.2.2.2.1, fun j hj => (hn.2.2.2.2 j (Nat.lt_of_lt_of_le hj h.bel.size) (by have := h.kt; omega)).trans (h.bel.block j hj)⟩, h.kt, _, o', c, g, ht', ?_, by omega, fun hi' => ho' (by omega), fun j hj => ?_, hg⟩
  · show Value.slice o' m c = .slice o' (zs.length - (i + 1)) c
    rw [show zs.length - (i + 1) = m by omega]
  · have hx := hz j hj
    exact (World.cell?_of_block (w := X) (a := ⟨g, j, none⟩) (hn.2.2.2.2 g (World.block_lt_of_cell? _ _ hx) hg)).trans hx
theorem L2.none (h : L2 a w k zs i X) (hi : i = zs.length) :
    Calls Tryd.prog 9 #[.pointer (some ⟨k.T, 0, none⟩)] X fun e w' => e = .returned (.tuple #[.int .i64 0, .bool false]) ∧ Below w.heap.size w w' := by
  obtain ⟨st, o, c, g, ht, hws, hc, ho, hz, hg⟩ := h.tb
  rw [show zs.length - i = 0 by omega] at hws
  exact (accept_none ht hws).mono fun e w' ⟨h1, hb⟩ => ⟨h1, bel_trans h.bel hb⟩
theorem L2.start {Z : World} {st : Tst} {o : Option Addr} {c n0 : Nat} (hb : Below w.heap.size w Z) (hlo : ∀ b ∈ k.l, n0 ≤ b) (hw : w.heap.size ≤ n0) (hc : Chg (fun j => j ∈ k.l ∨ k.T ≤ j) Z X) (ht : Tb true x9 a k st X) (hws : st.ws = .slice o zs.length c) (hi : Iy k.T X (.slice o zs.length c) zs) (hn : 0 < zs.length) : L2 a w k zs 0 X := by
  have hk : n0 ≤ k.T := hlo k.T (by simp [Bks.l])
  have hcap : zs.length ≤ c := by
    obtain ⟨_, ⟨_, h2⟩ | ⟨g, cap, cur, e, k1, k2, k3, k4, k5, k6⟩⟩ := hi
    · omega
    · simp only [Value.slice.injEq] at e
      omega
  obtain ⟨g, ho, _⟩ := hi.at 0 hn
  refine ⟨⟨hc.1.trans hb.os, hc.2.1.trans hb.tape, hc.2.2.1.trans hb.output, Nat.le_trans hb.size hc.2.2.2.1, fun j hj => (hc.2.2.2.2 j (Nat.lt_of_lt_of_le hj hb.size) ?_).trans (hb.block j hj)⟩, by omega, st, o, c, g, ht, hws, hcap, fun _ => ho, fun j hj => ?_, ?_⟩
  · rintro (e | e)
    · have := hlo j e; omega
    · omega
  · obtain ⟨g', ho', hz⟩ := hi.at j hj
    rw [ho] at ho'
    simp only [Option.some.injEq, Addr.mk.injEq, and_true] at ho'
    subst ho'
    exact hz
  · rintro rfl
    obtain ⟨_, _, hz⟩ := hi.at 0 hn
    obtain ⟨_, ⟨_, h2⟩ | ⟨g, cap, cur, e, k1, k2, k3⟩⟩ := hi
    · omega
    · simp only [Value.slice.injEq] at e
      obtain ⟨e, _⟩ := e
      rw [ho] at e
      simp only [Option.some.injEq, Addr.mk.injEq, and_true] at e
      rw [← e] at k2
      have h' : X.heap[k.T]? = _ := ht.tab
      rw [k2] at h'
      simp at h'
end
theorem cv_one (b : Int) (w : World) : (convert 36 36 (.slice (some ⟨w.heap.size, 0, none⟩) 1 1)).run Tryd.prog (w.alloc (.cells #[.int .u8 b] 5)) = .ok (.slice (some ⟨w.heap.size, 0, none⟩) 1 1) (w.alloc (.cells #[.int .u8 b] 5 (1, 2))) :=
  Lib.run_convert_bytes_const (P := Tryd.prog) w 36 5 #[.int .u8 b] 1 1 Tryd.underlying36 Tryd.underlying5
theorem sl_97 (W : World) : Sl (W.alloc (.cells #[.int .u8 97] 5 (1, 2))) (some ⟨W.heap.size, 0, none⟩) [97] := by
  intro j hj
  have hj0 : j = 0 := by simp at hj; exact hj
  subst hj0
  refine ⟨_, _, rfl, ?_⟩
  have := heap_alloc_new W (.cells #[.int .u8 97] 5 (1, 2))
  simp only [World.cell?, this, Nat.zero_add]
  rfl
theorem box_s (c s : Lm) (w : World) : ∃ X, w.alloc (.cells (c.v ++ s.v).toArray 25) = X ∧ Lc c s w X := ⟨_, rfl, heap_alloc_new w (.cells (c.v ++ s.v).toArray 25), bel1 _ _⟩
end Go.Proofs.YtekgnibdnfephaaDoor
