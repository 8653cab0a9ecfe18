/- VaultAgrees, the walk. -/
import Derived.Test.YthhoknkdmmldbaaAg
import Derived.Test.YthhoknkdmmldbaaAp
namespace Go.Proofs.Ythhoknkdmmldbaa
open Go.RowKit Go.Shelf Go.Lib
set_option linter.unusedVariables false

abbrev L4 : List Tm := [rt, fr, fr, fr]
abbrev L6 : List Tm := [rt, fr, fr, fr, ⟨3, 1, 0, ⟨#[]⟩, ⟨#[]⟩⟩, ⟨3, 2, 0, ⟨#[]⟩, ⟨#[]⟩⟩]
abbrev L8 : List Tm := [rt, fr, fr, fr, ⟨3, 1, 0, ⟨#[]⟩, ⟨#[]⟩⟩, ⟨3, 2, 0, ⟨#[]⟩, ⟨#[]⟩⟩, ⟨4, 1, ((2 : Nat) : Int), ⟨#[]⟩, ⟨#[]⟩⟩, ⟨4, 2, ((3 : Nat) : Int), ⟨#[]⟩, ⟨#[]⟩⟩]
abbrev L9 (l : List UInt8) : List Tm := L8 ++ [⟨5, 1, 0, ⟨#[]⟩, ⟨l.toArray⟩⟩]
theorem uniq6 (i : Nat) : [rt, fr, fr, fr, ⟨3, 1, 0, ⟨#[]⟩, ⟨#[]⟩⟩, ⟨3, 2, 0, ⟨#[]⟩, ⟨#[]⟩⟩, (⟨4, 1, ((2 : Nat) : Int), ⟨#[]⟩, ⟨#[]⟩⟩ : Tm)][i]? = some ⟨4, 1, ((2 : Nat) : Int), ⟨#[]⟩, ⟨#[]⟩⟩ ↔ i = 6 := by
  constructor
  · intro h
    have hl := (List.getElem?_eq_some_iff.1 h).1
    simp at hl
    rcases (show i = 0 ∨ i = 1 ∨ i = 2 ∨ i = 3 ∨ i = 4 ∨ i = 5 ∨ i = 6 by omega) with rfl | rfl | rfl | rfl | rfl | rfl | rfl <;> simp at h ⊢
  · rintro rfl; rfl
theorem small9' (l : List UInt8) (i : Nat) (t : Tm) (ht : (L9 l)[i]? = some t) : t.kd ≠ 6 := by
  have hm := List.mem_of_getElem? ht
  simp only [List.cons_append, List.nil_append, List.mem_cons, List.not_mem_nil, or_false] at hm
  rcases hm with rfl | rfl | rfl | rfl | rfl | rfl | rfl | rfl | rfl <;> simp
theorem small9 (l : List UInt8) : Small (L9 l) := by
  intro i t ht h6
  exact absurd h6 (small9' l i t ht)
/-- One who sees both public handles knows no more than these. -/
theorem kn_no (l : List UInt8) : ¬ Kn (L9 l) [nameL 4, nameL 5] 6 := by
  have key : ∀ x, Kn (L9 l) [nameL 4, nameL 5] x → x = 0 ∨ x = 4 ∨ x = 5 := by
    intro x h
    induction h with
    | root => exact .inl rfl
    | seen hb hx _ =>
      simp only [List.mem_cons, List.not_mem_nil, or_false] at hb
      rcases hb with rfl | rfl
      · rw [wins_name 4 (by omega)] at hx; simp at hx; exact .inr (.inl hx)
      · rw [wins_name 5 (by omega)] at hx; simp at hx; exact .inr (.inr hx)
    | made ht h2 h6 hd _ ih =>
      have hm := List.mem_of_getElem? ht
      simp only [List.cons_append, List.nil_append, List.mem_cons, List.not_mem_nil, or_false] at hm
      rcases hm with rfl | rfl | rfl | rfl | rfl | rfl | rfl | rfl | rfl <;> simp at h2 hd <;> omega
    | text ht h6 _ _ _ _ _ _ => exact absurd (small9' l _ _ ht) (by omega)
  intro h
  have := key 6 h
  omega
/-- One who sees the one's public handle and the other's secret knows what they agreed upon. -/
theorem kn_yes (l : List UInt8) : Kn (L9 l) [nameL 4, nameL 2] 6 := by
  refine Kn.made (i := 2) (t := ⟨4, 1, ((2 : Nat) : Int), ⟨#[]⟩, ⟨#[]⟩⟩) rfl (by simp) (by simp) (.inr ⟨rfl, rfl⟩) ?_
  exact Kn.seen (b := nameL 2) (by simp) (by rw [wins_name 2 (by omega)]; simp) (by simp)
theorem step_append_g {P : Program} {ops : Array Oper} {o : Oper} {a : Act} {w : World} {K : Act → World → Prop} {Q : Exit → Act → World → Prop} {E : Prop}
    (hw : Region.wanted o (yielded ops a.tmps) = true) (d x : Operand) (dT sT : TypeId) (hop : o.op = Op.call { callee := Callee.builtin Builtin.append, args := #[d, x], argTypes := #[dT, sT] })
    (v u : Value) (hd : a.eval d = v) (hx : a.eval x = u) {v' : Value} {w' : World} (hr : (Builtin.append_ #[dT, sT] o.type #[v, u]).run P w = .ok v' w') (hK : K (a.put o.dst v') w') :
    if Region.wanted o (yielded ops a.tmps) = true then Oper.wp P o a w K Q else E := by
  rw [if_pos hw]
  unfold Oper.wp
  simp [execOp, hop, resolve, invoke, builtin, hd, hx, hr, Result.andThen]
  exact hK
set_option maxRecDepth 100000 in
set_option maxHeartbeats 8000000 in
theorem agrees_walk (o : Option Addr) (cp : Nat) (l : List UInt8) (w : World) (hS : Sl w o l) (hlen : l.length ≤ 140737488351232) (hcap : l.length ≤ cp) (hc64 : cp ≤ 9223372036854775807) : Calls Try.prog 6 #[.slice o l.length cp] w fun e w' => e = .returned (.bool true) ∧ Below w.heap.size w w' := by
  obtain ⟨NL, hNL⟩ : ∃ NL, l.length = NL := ⟨_, rfl⟩
  rw [hNL]
  have HS : Aside _ := hS
  have HNL : Aside _ := hNL
  have HLEN : Aside _ := hlen
  have HCAP : Aside _ := hcap
  have HC64 : Aside _ := hc64
  clear hS hNL hlen hcap hc64
  go_enter Try.func6, Try.ntmps6
  go_wp2_with fail
  refine (new_c _).mono ?_
  rintro e W1 ⟨V, G, c, M, rfl, hv, hb⟩
  have HA0 : Aside (Ag w W1 V [rt]) := ⟨hb, G, c, M, hv⟩
  clear hv hb
  go_wp2_with fail
  refine Calls.mono (HA0.out.new (by simp)) ?_
  rintro e W2 ⟨rfl, ha, hbx⟩
  have HA1 : Aside (Ag w W2 V [rt, fr]) := ha
  clear ha hbx HA0
  go_wp2_with fail
  refine Calls.mono (HA1.out.new (by simp)) ?_
  rintro e W3 ⟨rfl, ha, hbx⟩
  have HA2 : Aside (Ag w W3 V [rt, fr, fr]) := ha
  clear ha hbx HA1
  go_wp2_with fail
  refine Calls.mono (HA2.out.new (by simp)) ?_
  rintro e W4 ⟨rfl, ha, hbx⟩
  have HA : Aside (Ag w W4 V L4) := ha
  clear ha hbx HA2
  have X3 : Aside _ := a3 W4 (.cells (hl z16).toArray 28) (.cells (hl z16).toArray 28) (.cells (hl z16).toArray 28)
  go_wp2_with (refine st28 rfl (.tmp 4) (.tmp 23) rfl W4.heap.size (nameL 1) rfl rfl z16 X3.out.1 (nameL_len 1) rfl (Hid.out ?_))
  rw [hz28, hz28, hz28]
  have hsz : w.heap.size ≤ W4.heap.size := HA.out.bel.size
  have HA' : Aside (Ag w (((W4.alloc (.cells (hl z16).toArray 28)).alloc (.cells (hl z16).toArray 28)).alloc (.cells (hl z16).toArray 28)) V L4) := HA.out.go X3.out.2.2.2
  obtain ⟨B4, hB4⟩ : ∃ B4, W4.heap.size = B4 := ⟨_, rfl⟩
  rw [hB4] at hsz ⊢
  have X4 : Aside _ := X3.out.1
  have X5 : Aside _ := X3.out.2.1
  have X6 : Aside _ := X3.out.2.2.1
  rw [hB4] at X4 X5 X6
  obtain ⟨B5, hB5⟩ : ∃ B5, B4 + 1 = B5 := ⟨_, rfl⟩
  rw [hB5] at X5 X6 ⊢
  obtain ⟨B6, hB6⟩ : ∃ B6, B5 + 1 = B6 := ⟨_, rfl⟩
  rw [hB6] at X6 ⊢
  clear X3 HA
  generalize ((W4.alloc (.cells (hl z16).toArray 28)).alloc (.cells (hl z16).toArray 28)).alloc (.cells (hl z16).toArray 28) = W5 at *
  have g4 : w.heap.size ≤ B4 := hsz
  have g5 : w.heap.size ≤ B5 := by omega
  have g6 : w.heap.size ≤ B6 := by omega
  have n45 : B4 ≠ B5 := by omega
  have n46 : B4 ≠ B6 := by omega
  have n56 : B5 ≠ B6 := by omega
  clear hB4 hB5 hB6 hsz
  have HA1 : Aside (Ag w (W5.setRow B4 (hl (nameL 1)).toArray) V L4) := HA'.out.set X4.out g4 _
  have Y4 : Aside _ := setRow_heap W5 B4 _ (hl (nameL 1)).toArray 28 (0, 0) X4.out
  have Y5 : Aside _ := (setRow_other W5 B4 B5 (hl (nameL 1)).toArray n45.symm).trans X5.out
  have Y6 : Aside _ := (setRow_other W5 B4 B6 (hl (nameL 1)).toArray n46.symm).trans X6.out
  clear X4 X5 X6 HA'
  generalize W5.setRow B4 (hl (nameL 1)).toArray = W6 at *
  refine mkHid ?_
  go_wp2_with (refine st28 rfl (.tmp 5) (.tmp 25) rfl B5 (nameL 2) rfl rfl z16 Y5.out (nameL_len 2) rfl (Hid.out ?_))
  have HA2 : Aside (Ag w (W6.setRow B5 (hl (nameL 2)).toArray) V L4) := HA1.out.set Y5.out g5 _
  have Z4 : Aside _ := (setRow_other W6 B5 B4 (hl (nameL 2)).toArray n45).trans Y4.out
  have Z5 : Aside _ := setRow_heap W6 B5 _ (hl (nameL 2)).toArray 28 (0, 0) Y5.out
  have Z6 : Aside _ := (setRow_other W6 B5 B6 (hl (nameL 2)).toArray n56.symm).trans Y6.out
  clear Y4 Y5 Y6 HA1
  generalize W6.setRow B5 (hl (nameL 2)).toArray = W7 at *
  refine mkHid ?_
  go_wp2_with (refine st28 rfl (.tmp 6) (.tmp 27) rfl B6 (nameL 3) rfl rfl z16 Z6.out (nameL_len 3) rfl (Hid.out ?_))
  have HA : Aside (Ag w (W7.setRow B6 (hl (nameL 3)).toArray) V L4) := HA2.out.set Z6.out g6 _
  have X4 : Aside _ := (setRow_other W7 B6 B4 (hl (nameL 3)).toArray n46).trans Z4.out
  have X5 : Aside _ := (setRow_other W7 B6 B5 (hl (nameL 3)).toArray n56).trans Z5.out
  have X6 : Aside _ := setRow_heap W7 B6 _ (hl (nameL 3)).toArray 28 (0, 0) Z6.out
  clear Z4 Z5 Z6 HA2
  generalize W7.setRow B6 (hl (nameL 3)).toArray = W8 at *
  refine mkHid ?_
  go_wp2_with (refine ld28 rfl (.tmp 4) rfl B4 rfl (nameL 1) X4.out (nameL_len 1) ?_)
  refine Calls.mono (HA.out.pub (by simp) 1 (by simp) (by simp)) ?_
  rintro e W9 ⟨rfl, ha, hbx⟩
  have X4' : Aside _ := hbx _ _ X4.out
  have X5' : Aside _ := hbx _ _ X5.out
  have X6' : Aside _ := hbx _ _ X6.out
  clear X4 X5 X6
  clear HA
  have HA : Aside (Ag w W9 V (L4 ++ [⟨3, 1, 0, ⟨#[]⟩, ⟨#[]⟩⟩])) := ha
  clear ha hbx
  have X4 : Aside _ := X4'.out
  have X5 : Aside _ := X5'.out
  have X6 : Aside _ := X6'.out
  clear X4' X5' X6'
  go_wp2_with (refine st28 rfl (.tmp 7) (.tmp 32) rfl W9.heap.size (nameL 4) rfl rfl z16 (heap_alloc_new W9 _) (nameL_len 4) rfl (Hid.out ?_))
  rw [hz28]
  have HA' : Aside (Ag w ((W9.alloc (.cells (hl z16).toArray 28)).setRow W9.heap.size (hl (nameL 4)).toArray) V (L4 ++ [⟨3, 1, 0, ⟨#[]⟩, ⟨#[]⟩⟩])) := HA.out.go (nbox W9 z16 (nameL 4)).2
  have g7 : w.heap.size ≤ W9.heap.size := HA.out.bel.size
  have X4' : Aside _ := heap_bel X4.out (nbox W9 z16 (nameL 4)).2
  have X5' : Aside _ := heap_bel X5.out (nbox W9 z16 (nameL 4)).2
  have X6' : Aside _ := heap_bel X6.out (nbox W9 z16 (nameL 4)).2
  clear X4 X5 X6
  have X7' : Aside _ := (nbox W9 z16 (nameL 4)).1
  generalize (W9.alloc (.cells (hl z16).toArray 28)).setRow W9.heap.size (hl (nameL 4)).toArray = W10 at *
  clear HA
  generalize W9.heap.size = B7 at *
  have HA : Aside (Ag w W10 V (L4 ++ [⟨3, 1, 0, ⟨#[]⟩, ⟨#[]⟩⟩])) := HA'.out
  clear HA'
  have X4 : Aside _ := X4'.out
  have X5 : Aside _ := X5'.out
  have X6 : Aside _ := X6'.out
  have X7 : Aside _ := X7'.out
  clear X4' X5' X6' X7'
  refine mkHid ?_
  go_wp2_with (refine ld28 rfl (.tmp 5) rfl B5 rfl (nameL 2) X5.out (nameL_len 2) ?_)
  refine Calls.mono (HA.out.pub (by simp) 2 (by simp) (by simp)) ?_
  rintro e W11 ⟨rfl, ha, hbx⟩
  have X4' : Aside _ := hbx _ _ X4.out
  have X5' : Aside _ := hbx _ _ X5.out
  have X6' : Aside _ := hbx _ _ X6.out
  have X7' : Aside _ := hbx _ _ X7.out
  clear X4 X5 X6 X7
  clear HA
  have HA : Aside (Ag w W11 V L6) := ha
  clear ha hbx
  have X4 : Aside _ := X4'.out
  have X5 : Aside _ := X5'.out
  have X6 : Aside _ := X6'.out
  have X7 : Aside _ := X7'.out
  clear X4' X5' X6' X7'
  go_wp2_with (refine st28 rfl (.tmp 9) (.tmp 38) rfl W11.heap.size (nameL 5) rfl rfl z16 (heap_alloc_new W11 _) (nameL_len 5) rfl (Hid.out ?_))
  rw [hz28]
  have HA' : Aside (Ag w ((W11.alloc (.cells (hl z16).toArray 28)).setRow W11.heap.size (hl (nameL 5)).toArray) V L6) := HA.out.go (nbox W11 z16 (nameL 5)).2
  have g9 : w.heap.size ≤ W11.heap.size := HA.out.bel.size
  have X4' : Aside _ := heap_bel X4.out (nbox W11 z16 (nameL 5)).2
  have X5' : Aside _ := heap_bel X5.out (nbox W11 z16 (nameL 5)).2
  have X6' : Aside _ := heap_bel X6.out (nbox W11 z16 (nameL 5)).2
  have X7' : Aside _ := heap_bel X7.out (nbox W11 z16 (nameL 5)).2
  clear X4 X5 X6 X7
  have X9' : Aside _ := (nbox W11 z16 (nameL 5)).1
  generalize (W11.alloc (.cells (hl z16).toArray 28)).setRow W11.heap.size (hl (nameL 5)).toArray = W12 at *
  clear HA
  generalize W11.heap.size = B9 at *
  have HA : Aside (Ag w W12 V L6) := HA'.out
  clear HA'
  have X4 : Aside _ := X4'.out
  have X5 : Aside _ := X5'.out
  have X6 : Aside _ := X6'.out
  have X7 : Aside _ := X7'.out
  have X9 : Aside _ := X9'.out
  clear X4' X5' X6' X7' X9'
  refine mkHid ?_
  go_wp2_with (first | refine ld28 rfl (.tmp 4) rfl B4 rfl (nameL 1) X4.out (nameL_len 1) ?_ | refine ld28 rfl (.tmp 9) rfl B9 rfl (nameL 5) X9.out (nameL_len 5) ?_)
  refine Calls.mono (HA.out.agr (by simp) 1 5 (by simp) ⟨3, 2, 0, ⟨#[]⟩, ⟨#[]⟩⟩ rfl rfl 1 2 (.inl ⟨rfl, rfl, by simp⟩) (by simp)) ?_
  rintro e W13 ⟨rfl, ha, hbx⟩
  have X4' : Aside _ := hbx _ _ X4.out
  have X5' : Aside _ := hbx _ _ X5.out
  have X6' : Aside _ := hbx _ _ X6.out
  have X7' : Aside _ := hbx _ _ X7.out
  have X9' : Aside _ := hbx _ _ X9.out
  clear X4 X5 X6 X7 X9
  clear HA
  have HA : Aside (Ag w W13 V (L6 ++ [⟨4, 1, ((2 : Nat) : Int), ⟨#[]⟩, ⟨#[]⟩⟩])) := ha
  clear ha hbx
  have X4 : Aside _ := X4'.out
  have X5 : Aside _ := X5'.out
  have X6 : Aside _ := X6'.out
  have X7 : Aside _ := X7'.out
  have X9 : Aside _ := X9'.out
  clear X4' X5' X6' X7' X9'
  go_wp2_with (refine st28 rfl (.tmp 11) (.tmp 45) rfl W13.heap.size (nameL 6) rfl rfl z16 (heap_alloc_new W13 _) (nameL_len 6) rfl (Hid.out ?_))
  rw [hz28]
  have HA' : Aside (Ag w ((W13.alloc (.cells (hl z16).toArray 28)).setRow W13.heap.size (hl (nameL 6)).toArray) V (L6 ++ [⟨4, 1, ((2 : Nat) : Int), ⟨#[]⟩, ⟨#[]⟩⟩])) := HA.out.go (nbox W13 z16 (nameL 6)).2
  have g11 : w.heap.size ≤ W13.heap.size := HA.out.bel.size
  have X4' : Aside _ := heap_bel X4.out (nbox W13 z16 (nameL 6)).2
  have X5' : Aside _ := heap_bel X5.out (nbox W13 z16 (nameL 6)).2
  have X6' : Aside _ := heap_bel X6.out (nbox W13 z16 (nameL 6)).2
  have X7' : Aside _ := heap_bel X7.out (nbox W13 z16 (nameL 6)).2
  have X9' : Aside _ := heap_bel X9.out (nbox W13 z16 (nameL 6)).2
  clear X4 X5 X6 X7 X9
  have X11' : Aside _ := (nbox W13 z16 (nameL 6)).1
  generalize (W13.alloc (.cells (hl z16).toArray 28)).setRow W13.heap.size (hl (nameL 6)).toArray = W14 at *
  clear HA
  generalize W13.heap.size = B11 at *
  have HA : Aside (Ag w W14 V (L6 ++ [⟨4, 1, ((2 : Nat) : Int), ⟨#[]⟩, ⟨#[]⟩⟩])) := HA'.out
  clear HA'
  have X4 : Aside _ := X4'.out
  have X5 : Aside _ := X5'.out
  have X6 : Aside _ := X6'.out
  have X7 : Aside _ := X7'.out
  have X9 : Aside _ := X9'.out
  have X11 : Aside _ := X11'.out
  clear X4' X5' X6' X7' X9' X11'
  refine mkHid ?_
  go_wp2_with (first | refine ld28 rfl (.tmp 5) rfl B5 rfl (nameL 2) X5.out (nameL_len 2) ?_ | refine ld28 rfl (.tmp 7) rfl B7 rfl (nameL 4) X7.out (nameL_len 4) ?_)
  refine Calls.mono (HA.out.agr_old (by simp) 2 4 (by simp) ⟨3, 1, 0, ⟨#[]⟩, ⟨#[]⟩⟩ rfl rfl 1 2 (.inr ⟨rfl, rfl, by simp⟩) 6 uniq6) ?_
  rintro e W15 ⟨rfl, ha, hbx⟩
  have X4' : Aside _ := hbx _ _ X4.out
  have X5' : Aside _ := hbx _ _ X5.out
  have X6' : Aside _ := hbx _ _ X6.out
  have X7' : Aside _ := hbx _ _ X7.out
  have X9' : Aside _ := hbx _ _ X9.out
  have X11' : Aside _ := hbx _ _ X11.out
  clear X4 X5 X6 X7 X9 X11
  clear HA
  have HA : Aside (Ag w W15 V (L6 ++ [⟨4, 1, ((2 : Nat) : Int), ⟨#[]⟩, ⟨#[]⟩⟩])) := ha
  clear ha hbx
  have X4 : Aside _ := X4'.out
  have X5 : Aside _ := X5'.out
  have X6 : Aside _ := X6'.out
  have X7 : Aside _ := X7'.out
  have X9 : Aside _ := X9'.out
  have X11 : Aside _ := X11'.out
  clear X4' X5' X6' X7' X9' X11'
  go_wp2_with (refine st28 rfl (.tmp 13) (.tmp 52) rfl W15.heap.size (nameL 6) rfl rfl z16 (heap_alloc_new W15 _) (nameL_len 6) rfl (Hid.out ?_))
  rw [hz28]
  have HA' : Aside (Ag w ((W15.alloc (.cells (hl z16).toArray 28)).setRow W15.heap.size (hl (nameL 6)).toArray) V (L6 ++ [⟨4, 1, ((2 : Nat) : Int), ⟨#[]⟩, ⟨#[]⟩⟩])) := HA.out.go (nbox W15 z16 (nameL 6)).2
  have g13 : w.heap.size ≤ W15.heap.size := HA.out.bel.size
  have X4' : Aside _ := heap_bel X4.out (nbox W15 z16 (nameL 6)).2
  have X5' : Aside _ := heap_bel X5.out (nbox W15 z16 (nameL 6)).2
  have X6' : Aside _ := heap_bel X6.out (nbox W15 z16 (nameL 6)).2
  have X7' : Aside _ := heap_bel X7.out (nbox W15 z16 (nameL 6)).2
  have X9' : Aside _ := heap_bel X9.out (nbox W15 z16 (nameL 6)).2
  have X11' : Aside _ := heap_bel X11.out (nbox W15 z16 (nameL 6)).2
  clear X4 X5 X6 X7 X9 X11
  have X13' : Aside _ := (nbox W15 z16 (nameL 6)).1
  generalize (W15.alloc (.cells (hl z16).toArray 28)).setRow W15.heap.size (hl (nameL 6)).toArray = W16 at *
  clear HA
  generalize W15.heap.size = B13 at *
  have HA : Aside (Ag w W16 V (L6 ++ [⟨4, 1, ((2 : Nat) : Int), ⟨#[]⟩, ⟨#[]⟩⟩])) := HA'.out
  clear HA'
  have X4 : Aside _ := X4'.out
  have X5 : Aside _ := X5'.out
  have X6 : Aside _ := X6'.out
  have X7 : Aside _ := X7'.out
  have X9 : Aside _ := X9'.out
  have X11 : Aside _ := X11'.out
  have X13 : Aside _ := X13'.out
  clear X4' X5' X6' X7' X9' X11' X13'
  refine mkHid ?_
  go_wp2_with (first | refine ld28 rfl (.tmp 6) rfl B6 rfl (nameL 3) X6.out (nameL_len 3) ?_ | refine ld28 rfl (.tmp 9) rfl B9 rfl (nameL 5) X9.out (nameL_len 5) ?_)
  refine Calls.mono (HA.out.agr (by simp) 3 5 (by simp) ⟨3, 2, 0, ⟨#[]⟩, ⟨#[]⟩⟩ rfl rfl 2 3 (.inr ⟨rfl, rfl, by simp⟩) (by simp)) ?_
  rintro e W17 ⟨rfl, ha, hbx⟩
  have X4' : Aside _ := hbx _ _ X4.out
  have X5' : Aside _ := hbx _ _ X5.out
  have X6' : Aside _ := hbx _ _ X6.out
  have X7' : Aside _ := hbx _ _ X7.out
  have X9' : Aside _ := hbx _ _ X9.out
  have X11' : Aside _ := hbx _ _ X11.out
  have X13' : Aside _ := hbx _ _ X13.out
  clear X4 X5 X6 X7 X9 X11 X13
  clear HA
  have HA : Aside (Ag w W17 V L8) := ha
  clear ha hbx
  have X4 : Aside _ := X4'.out
  have X5 : Aside _ := X5'.out
  have X6 : Aside _ := X6'.out
  have X7 : Aside _ := X7'.out
  have X9 : Aside _ := X9'.out
  have X11 : Aside _ := X11'.out
  have X13 : Aside _ := X13'.out
  clear X4' X5' X6' X7' X9' X11' X13'
  go_wp2_with (refine st28 rfl (.tmp 15) (.tmp 59) rfl W17.heap.size (nameL 7) rfl rfl z16 (heap_alloc_new W17 _) (nameL_len 7) rfl (Hid.out ?_))
  rw [hz28]
  have HA' : Aside (Ag w ((W17.alloc (.cells (hl z16).toArray 28)).setRow W17.heap.size (hl (nameL 7)).toArray) V L8) := HA.out.go (nbox W17 z16 (nameL 7)).2
  have g15 : w.heap.size ≤ W17.heap.size := HA.out.bel.size
  have X4' : Aside _ := heap_bel X4.out (nbox W17 z16 (nameL 7)).2
  have X5' : Aside _ := heap_bel X5.out (nbox W17 z16 (nameL 7)).2
  have X6' : Aside _ := heap_bel X6.out (nbox W17 z16 (nameL 7)).2
  have X7' : Aside _ := heap_bel X7.out (nbox W17 z16 (nameL 7)).2
  have X9' : Aside _ := heap_bel X9.out (nbox W17 z16 (nameL 7)).2
  have X11' : Aside _ := heap_bel X11.out (nbox W17 z16 (nameL 7)).2
  have X13' : Aside _ := heap_bel X13.out (nbox W17 z16 (nameL 7)).2
  clear X4 X5 X6 X7 X9 X11 X13
  have X15' : Aside _ := (nbox W17 z16 (nameL 7)).1
  generalize (W17.alloc (.cells (hl z16).toArray 28)).setRow W17.heap.size (hl (nameL 7)).toArray = W18 at *
  clear HA
  generalize W17.heap.size = B15 at *
  have HA : Aside (Ag w W18 V L8) := HA'.out
  clear HA'
  have X4 : Aside _ := X4'.out
  have X5 : Aside _ := X5'.out
  have X6 : Aside _ := X6'.out
  have X7 : Aside _ := X7'.out
  have X9 : Aside _ := X9'.out
  have X11 : Aside _ := X11'.out
  have X13 : Aside _ := X13'.out
  have X15 : Aside _ := X15'.out
  clear X4' X5' X6' X7' X9' X11' X13' X15'
  refine mkHid ?_
  go_wp2_with (refine ld28 rfl (.tmp 4) rfl B4 rfl (nameL 1) X4.out (nameL_len 1) ?_)
  refine Calls.mono ((by have := HA.out.sig (by simp) 1 (by simp) o cp l HS.out (by simp); rw [HNL.out] at this; exact this)) ?_
  rintro e W19 ⟨rfl, ha, hbx⟩
  have X4' : Aside _ := hbx _ _ X4.out
  have X5' : Aside _ := hbx _ _ X5.out
  have X6' : Aside _ := hbx _ _ X6.out
  have X7' : Aside _ := hbx _ _ X7.out
  have X9' : Aside _ := hbx _ _ X9.out
  have X11' : Aside _ := hbx _ _ X11.out
  have X13' : Aside _ := hbx _ _ X13.out
  have X15' : Aside _ := hbx _ _ X15.out
  clear X4 X5 X6 X7 X9 X11 X13 X15
  clear HA
  have HA : Aside (Ag w W19 V (L9 l)) := ha
  clear ha hbx
  have X4 : Aside _ := X4'.out
  have X5 : Aside _ := X5'.out
  have X6 : Aside _ := X6'.out
  have X7 : Aside _ := X7'.out
  have X9 : Aside _ := X9'.out
  have X11 : Aside _ := X11'.out
  have X13 : Aside _ := X13'.out
  have X15 : Aside _ := X15'.out
  clear X4' X5' X6' X7' X9' X11' X13' X15'
  go_wp2_with (refine st28 rfl (.tmp 17) (.tmp 66) rfl W19.heap.size (nameL 8) rfl rfl z16 (heap_alloc_new W19 _) (nameL_len 8) rfl (Hid.out ?_))
  rw [hz28]
  have HA' : Aside (Ag w ((W19.alloc (.cells (hl z16).toArray 28)).setRow W19.heap.size (hl (nameL 8)).toArray) V (L9 l)) := HA.out.go (nbox W19 z16 (nameL 8)).2
  have g17 : w.heap.size ≤ W19.heap.size := HA.out.bel.size
  have X4' : Aside _ := heap_bel X4.out (nbox W19 z16 (nameL 8)).2
  have X5' : Aside _ := heap_bel X5.out (nbox W19 z16 (nameL 8)).2
  have X6' : Aside _ := heap_bel X6.out (nbox W19 z16 (nameL 8)).2
  have X7' : Aside _ := heap_bel X7.out (nbox W19 z16 (nameL 8)).2
  have X9' : Aside _ := heap_bel X9.out (nbox W19 z16 (nameL 8)).2
  have X11' : Aside _ := heap_bel X11.out (nbox W19 z16 (nameL 8)).2
  have X13' : Aside _ := heap_bel X13.out (nbox W19 z16 (nameL 8)).2
  have X15' : Aside _ := heap_bel X15.out (nbox W19 z16 (nameL 8)).2
  clear X4 X5 X6 X7 X9 X11 X13 X15
  have X17' : Aside _ := (nbox W19 z16 (nameL 8)).1
  generalize (W19.alloc (.cells (hl z16).toArray 28)).setRow W19.heap.size (hl (nameL 8)).toArray = W20 at *
  clear HA
  generalize W19.heap.size = B17 at *
  have HA : Aside (Ag w W20 V (L9 l)) := HA'.out
  clear HA'
  have X4 : Aside _ := X4'.out
  have X5 : Aside _ := X5'.out
  have X6 : Aside _ := X6'.out
  have X7 : Aside _ := X7'.out
  have X9 : Aside _ := X9'.out
  have X11 : Aside _ := X11'.out
  have X13 : Aside _ := X13'.out
  have X15 : Aside _ := X15'.out
  have X17 : Aside _ := X17'.out
  clear X4' X5' X6' X7' X9' X11' X13' X15' X17'
  refine mkHid ?_
  go_wp2_with fail
  have HF : Aside (Fs w V (L9 l) B5 B7 B9 B11 B13 B15 B17 (hl (nameL 2)) (hl (nameL 4)) (hl (nameL 5)) (hl (nameL 6)) (hl (nameL 7)) (hl (nameL 8)) W20.drew) := (Fs.mk HA.out X5.out X7.out X9.out X11.out X13.out X15.out X17.out).bel (bel_drew W20)
  have hLl : (L9 l).length ≤ 1000000 := by simp
  have HSL : Aside (∀ X, Fs w V (L9 l) B5 B7 B9 B11 B13 B15 B17 (hl (nameL 2)) (hl (nameL 4)) (hl (nameL 5)) (hl (nameL 6)) (hl (nameL 7)) (hl (nameL 8)) X → Sl X o l) := fun X hX => Sl.bel HS.out hX.ag.bel
  have HSZ : Aside (∀ X, Fs w V (L9 l) B5 B7 B9 B11 B13 B15 B17 (hl (nameL 2)) (hl (nameL 4)) (hl (nameL 5)) (hl (nameL 6)) (hl (nameL 7)) (hl (nameL 8)) X → w.heap.size ≤ X.heap.size) := fun X hX => hX.ag.bel.size
  have HV1 : Aside (∀ X, Fs w V (L9 l) B5 B7 B9 B11 B13 B15 B17 (hl (nameL 2)) (hl (nameL 4)) (hl (nameL 5)) (hl (nameL 6)) (hl (nameL 7)) (hl (nameL 8)) X → Calls Try.prog 21 #[.pointer (some ⟨V, 0, none⟩), .agg (hl (nameL 4)).toArray, .slice o NL cp, .agg (hl (nameL 8)).toArray] X fun e w' => e = .returned (.int .i64 0) ∧ Fs w V (L9 l) B5 B7 B9 B11 B13 B15 B17 (hl (nameL 2)) (hl (nameL 4)) (hl (nameL 5)) (hl (nameL 6)) (hl (nameL 7)) (hl (nameL 8)) w') := fun X hX => by
    have := hX.ag.ver hLl 4 8 ⟨3, 1, 0, ⟨#[]⟩, ⟨#[]⟩⟩ rfl rfl o cp l (HSL.out X hX) rfl
    rw [HNL.out] at this
    exact this.mono fun e w' h => ⟨h.1, hX.bel h.2⟩
  have HV2 : Aside (∀ X, Fs w V (L9 l) B5 B7 B9 B11 B13 B15 B17 (hl (nameL 2)) (hl (nameL 4)) (hl (nameL 5)) (hl (nameL 6)) (hl (nameL 7)) (hl (nameL 8)) X → Calls Try.prog 21 #[.pointer (some ⟨V, 0, none⟩), .agg (hl (nameL 5)).toArray, .slice o NL cp, .agg (hl (nameL 8)).toArray] X fun e w' => e = .returned (.int .i64 21) ∧ Fs w V (L9 l) B5 B7 B9 B11 B13 B15 B17 (hl (nameL 2)) (hl (nameL 4)) (hl (nameL 5)) (hl (nameL 6)) (hl (nameL 7)) (hl (nameL 8)) w') := fun X hX => by
    have := hX.ag.ver_no hLl 5 8 ⟨3, 2, 0, ⟨#[]⟩, ⟨#[]⟩⟩ rfl rfl o cp l (HSL.out X hX) (by simp)
    rw [HNL.out] at this
    exact this.mono fun e w' h => ⟨h.1, hX.bel h.2⟩
  have HV3 : Aside (∀ X g c', Fs w V (L9 l) B5 B7 B9 B11 B13 B15 B17 (hl (nameL 2)) (hl (nameL 4)) (hl (nameL 5)) (hl (nameL 6)) (hl (nameL 7)) (hl (nameL 8)) X → Sl X (some ⟨g, 0, none⟩) (l ++ [0]) → Calls Try.prog 21 #[.pointer (some ⟨V, 0, none⟩), .agg (hl (nameL 4)).toArray, .slice (some ⟨g, 0, none⟩) (NL + 1) c', .agg (hl (nameL 8)).toArray] X fun e w' => e = .returned (.int .i64 21) ∧ Fs w V (L9 l) B5 B7 B9 B11 B13 B15 B17 (hl (nameL 2)) (hl (nameL 4)) (hl (nameL 5)) (hl (nameL 6)) (hl (nameL 7)) (hl (nameL 8)) w') := fun X g c' hX hs => by
    have := hX.ag.ver_no hLl 4 8 ⟨3, 1, 0, ⟨#[]⟩, ⟨#[]⟩⟩ rfl rfl (some ⟨g, 0, none⟩) c' (l ++ [0]) hs (by simp)
    have e1 : (l ++ [0]).length = NL + 1 := by simp [HNL.out]
    rw [e1] at this
    exact this.mono fun e w' h => ⟨h.1, hX.bel h.2⟩
  have HD1 : Aside (∀ X k, Fs w V (L9 l) B5 B7 B9 B11 B13 B15 B17 (hl (nameL 2)) (hl (nameL 4)) (hl (nameL 5)) (hl (nameL 6)) (hl (nameL 7)) (hl (nameL 8)) X → X.heap[k]? = some (.cells #[.slice (some ⟨B7, 0, none⟩) 16 16, .slice (some ⟨B9, 0, none⟩) 16 16] 38 (0, 0)) → Calls Try.prog 24 #[.pointer (some ⟨V, 0, none⟩), .slice (some ⟨B11, 0, none⟩) 16 16, .slice (some ⟨k, 0, none⟩) 2 2] X fun e w' => e = .returned (.bool true) ∧ Fs w V (L9 l) B5 B7 B9 B11 B13 B15 B17 (hl (nameL 2)) (hl (nameL 4)) (hl (nameL 5)) (hl (nameL 6)) (hl (nameL 7)) (hl (nameL 8)) w') := fun X k hX hk => by
    refine (hX.ag.hid (small9 l) (by simp) (by simp) hX.b7 hX.b9 hX.b11 hk).mono ?_
    rintro e w' ⟨⟨b, rfl, hb⟩, hbe⟩
    exact ⟨by rw [hb.2 (kn_no l)], hX.bel hbe⟩
  have HD2 : Aside (∀ X k, Fs w V (L9 l) B5 B7 B9 B11 B13 B15 B17 (hl (nameL 2)) (hl (nameL 4)) (hl (nameL 5)) (hl (nameL 6)) (hl (nameL 7)) (hl (nameL 8)) X → X.heap[k]? = some (.cells #[.slice (some ⟨B7, 0, none⟩) 16 16, .slice (some ⟨B5, 0, none⟩) 16 16] 38 (0, 0)) → Calls Try.prog 24 #[.pointer (some ⟨V, 0, none⟩), .slice (some ⟨B11, 0, none⟩) 16 16, .slice (some ⟨k, 0, none⟩) 2 2] X fun e w' => e = .returned (.bool false) ∧ Fs w V (L9 l) B5 B7 B9 B11 B13 B15 B17 (hl (nameL 2)) (hl (nameL 4)) (hl (nameL 5)) (hl (nameL 6)) (hl (nameL 7)) (hl (nameL 8)) w') := fun X k hX hk => by
    refine (hX.ag.hid (small9 l) (by simp) (by simp) hX.b7 hX.b5 hX.b11 hk).mono ?_
    rintro e w' ⟨⟨b, rfl, hb⟩, hbe⟩
    have : b = false := by
      cases b
      · rfl
      · exact absurd (kn_yes l) (hb.1 rfl)
    exact ⟨by rw [this], hX.bel hbe⟩
  have HA1 : Aside (∀ X k, Fs w V (L9 l) B5 B7 B9 B11 B13 B15 B17 (hl (nameL 2)) (hl (nameL 4)) (hl (nameL 5)) (hl (nameL 6)) (hl (nameL 7)) (hl (nameL 8)) X → X.heap[k]? = some (.cells #[] 5 (0, 0)) → w.heap.size ≤ k → ∃ v X', (Builtin.append_ #[38, 38] 38 #[.slice (some ⟨k, 0, none⟩) 0 0, .slice o NL cp]).run Try.prog X = .ok v X' ∧ X'.ownsRow w.heap.size 5 1 v NL (hl l) ∧ Fs w V (L9 l) B5 B7 B9 B11 B13 B15 B17 (hl (nameL 2)) (hl (nameL 4)) (hl (nameL 5)) (hl (nameL 6)) (hl (nameL 7)) (hl (nameL 8)) X' ∧ (∀ j, j < X.heap.size → j ≠ k → X'.heap[j]? = X.heap[j]?)) := fun X k hX hk hge => by
    obtain ⟨v, X', h1, h2, h3, h4⟩ := ap1 (cp := cp) hk hge (HSZ.out X hX) (HSL.out X hX) HLEN.out
    rw [HNL.out] at h1 h2
    exact ⟨v, X', h1, h2, hX.grown h3, h4⟩
  have HA2 : Aside (∀ X k v, Fs w V (L9 l) B5 B7 B9 B11 B13 B15 B17 (hl (nameL 2)) (hl (nameL 4)) (hl (nameL 5)) (hl (nameL 6)) (hl (nameL 7)) (hl (nameL 8)) X → X.heap[k]? = some (.cells #[.int .u8 0] 5 (0, 0)) → X.ownsRow w.heap.size 5 1 v NL (hl l) → ∃ g c X', (Builtin.append_ #[38, 38] 38 #[v, .slice (some ⟨k, 0, none⟩) 1 1]).run Try.prog X = .ok (.slice (some ⟨g, 0, none⟩) (NL + 1) c) X' ∧ Sl X' (some ⟨g, 0, none⟩) (l ++ [0]) ∧ Fs w V (L9 l) B5 B7 B9 B11 B13 B15 B17 (hl (nameL 2)) (hl (nameL 4)) (hl (nameL 5)) (hl (nameL 6)) (hl (nameL 7)) (hl (nameL 8)) X') := fun X k v hX hk ho => by
    obtain ⟨g, c, X', h1, h2, h3⟩ := ap2 hk (HSZ.out X hX) (by rw [HNL.out]; exact ho) HLEN.out
    rw [HNL.out] at h1
    exact ⟨g, c, X', h1, h2, hX.grown h3⟩
  have HFB : Aside (∀ X X', Fs w V (L9 l) B5 B7 B9 B11 B13 B15 B17 (hl (nameL 2)) (hl (nameL 4)) (hl (nameL 5)) (hl (nameL 6)) (hl (nameL 7)) (hl (nameL 8)) X → Below X.heap.size X X' → Fs w V (L9 l) B5 B7 B9 B11 B13 B15 B17 (hl (nameL 2)) (hl (nameL 4)) (hl (nameL 5)) (hl (nameL 6)) (hl (nameL 7)) (hl (nameL 8)) X') := fun X X' hX hb => hX.bel hb
  have HFL : Aside (∀ X, Fs w V (L9 l) B5 B7 B9 B11 B13 B15 B17 (hl (nameL 2)) (hl (nameL 4)) (hl (nameL 5)) (hl (nameL 6)) (hl (nameL 7)) (hl (nameL 8)) X → X.rangeAt B7 0 (hl (nameL 4)) ∧ X.rangeAt B9 0 (hl (nameL 5)) ∧ X.rangeAt B11 0 (hl (nameL 6)) ∧ X.rangeAt B13 0 (hl (nameL 6)) ∧ X.rangeAt B15 0 (hl (nameL 7)) ∧ X.rangeAt B17 0 (hl (nameL 8))) := fun X hX => ⟨range_of' hX.b7, range_of' hX.b9, range_of' hX.b11, range_of' hX.b13, range_of' hX.b15, range_of' hX.b17⟩
  have HFE : Aside (∀ X, Fs w V (L9 l) B5 B7 B9 B11 B13 B15 B17 (hl (nameL 2)) (hl (nameL 4)) (hl (nameL 5)) (hl (nameL 6)) (hl (nameL 7)) (hl (nameL 8)) X → Below w.heap.size w X) := fun X hX => hX.ag.bel
  have hm4 : (Try.prog.info? 28).map (·.size) = some (hl (nameL 4)).length := hi28.trans (by simp [nameL_len])
  have hm5 : (Try.prog.info? 28).map (·.size) = some (hl (nameL 5)).length := hi28.trans (by simp [nameL_len])
  have hm6 : (Try.prog.info? 28).map (·.size) = some (hl (nameL 6)).length := hi28.trans (by simp [nameL_len])
  have hm7 : (Try.prog.info? 28).map (·.size) = some (hl (nameL 7)).length := hi28.trans (by simp [nameL_len])
  have hm8 : (Try.prog.info? 28).map (·.size) = some (hl (nameL 8)).length := hi28.trans (by simp [nameL_len])
  have n76 : (nameL 7 == nameL 6) = false := by
    have : nameL 7 ≠ nameL 6 := fun h => absurd (name_inj (by omega) (by omega) h) (by omega)
    simpa using this
  have heq : ∀ X, (binOp .eql 28 (.agg (hl (nameL 6)).toArray) (.agg (hl (nameL 6)).toArray)).run Try.prog X = .ok (.bool true) X := fun X => by
    have := eql28 (nameL 6) (nameL 6) (nameL_len 6) (nameL_len 6) X
    rw [beq_self_eq_true] at this
    exact this
  have heqn : ∀ X, (Op.equalIn 10000 28 (.agg (hl (nameL 6)).toArray) (.agg (hl (nameL 6)).toArray)).run Try.prog X = .ok true X := fun X => by
    have := equalIn_h 28 hu28 9998 (nameL 6) (nameL 6) (nameL_len 6) (nameL_len 6) X
    rw [beq_self_eq_true] at this
    exact this
  have hne : ∀ X, (binOp .neq 28 (.agg (hl (nameL 7)).toArray) (.agg (hl (nameL 6)).toArray)).run Try.prog X = .ok (.bool true) X := fun X => by
    have := neq28 (nameL 7) (nameL 6) (nameL_len 7) (nameL_len 6) X
    rw [n76] at this
    exact this
  have hnen : ∀ X, (Op.equalIn 10000 28 (.agg (hl (nameL 7)).toArray) (.agg (hl (nameL 6)).toArray)).run Try.prog X = .ok false X := fun X => by
    have := equalIn_h 28 hu28 9998 (nameL 7) (nameL 6) (nameL_len 7) (nameL_len 6) X
    rw [n76] at this
    exact this
  have hmu := hu28
  clear n76 hLl HSL X4 X5 X6 X7 X9 X11 X13 X15 X17 HA HS HNL HLEN HCAP HC64
  unfold hv
  generalize hl (nameL 2) = Z2 at *
  generalize hl (nameL 4) = Z4 at *
  generalize hl (nameL 5) = Z5 at *
  generalize hl (nameL 6) = Z6 at *
  generalize hl (nameL 7) = Z7 at *
  generalize hl (nameL 8) = Z8 at *
  generalize hHL : hl l = ZL at *
  clear hHL
  obtain ⟨F, hF⟩ : ∃ F, F = Fs w V (L9 l) B5 B7 B9 B11 B13 B15 B17 Z2 Z4 Z5 Z6 Z7 Z8 := ⟨_, rfl⟩
  rw [← hF] at HF HV1 HV2 HV3 HD1 HD2 HA1 HA2 HFB HFL HFE HSZ
  clear hF
  refine wp_region_held_drew (S := F) (by kernel_rfl) HF.out (fun hHeld => ?_)
  refine wpAnyH_take (i := 0) (v := .int .i64 0) rfl (by kernel_rfl) (by kernel_rfl) (by kernel_rfl) (fun _ _ _ h => h) (Or.inl ⟨by rfl, by intro w _; go_simp⟩) hHeld ?_
  refine norm_any' (fun K hK => ?_)
  go_simp
  refine hK _ _ ?_
  clear hK K
  refine wpAnyH_take (i := 1) (v := .bool true) rfl (by kernel_rfl) (by kernel_rfl) (by kernel_rfl) (fun _ _ _ h => h) (Or.inl ⟨by rfl, by intro w _; go_simp⟩) hHeld ?_
  refine norm_any' (fun K hK => ?_)
  go_simp
  refine hK _ _ ?_
  clear hK K
  refine wpAnyH_take (i := 2) (v := .bool true) rfl (by kernel_rfl) (by kernel_rfl) (by kernel_rfl) (fun _ _ _ h => h) (Or.inl ⟨by rfl, by intro w _; go_simp⟩) hHeld ?_
  refine norm_any' (fun K hK => ?_)
  go_simp
  refine hK _ _ ?_
  clear hK K
  refine wpAnyH_take (i := 3) (v := .int .i64 0) rfl (by kernel_rfl) (by kernel_rfl) (by kernel_rfl) (fun _ _ _ h => h) (Or.inl ⟨by rfl, by intro w _; go_simp⟩) hHeld ?_
  refine norm_any' (fun K hK => ?_)
  go_simp
  refine hK _ _ ?_
  clear hK K
  refine wpAnyH_take (i := 4) (v := .bool true) rfl (by kernel_rfl) (by kernel_rfl) (by kernel_rfl) (fun _ _ _ h => h) (Or.inl ⟨by rfl, by intro w _; go_simp⟩) hHeld ?_
  refine norm_any' (fun K hK => ?_)
  go_simp
  refine hK _ _ ?_
  clear hK K
  refine wpAnyH_take (i := 5) (v := .bool true) rfl (by kernel_rfl) (by kernel_rfl) (by kernel_rfl) (fun _ _ _ h => h) (Or.inl ⟨by rfl, by intro w _; go_simp⟩) hHeld ?_
  refine norm_any' (fun K hK => ?_)
  go_simp
  refine hK _ _ ?_
  clear hK K
  refine wpAnyH_take (i := 6) (v := .bool true) rfl (by kernel_rfl) (by kernel_rfl) (by kernel_rfl) (fun _ _ _ h => h) (Or.inl ⟨by rfl, by intro w _; go_simp⟩) hHeld ?_
  refine norm_any' (fun K hK => ?_)
  go_simp
  refine hK _ _ ?_
  clear hK K
  refine wpAnyH_take (i := 7) (v := .int .i64 0) rfl (by kernel_rfl) (by kernel_rfl) (by kernel_rfl) (fun _ _ _ h => h) (Or.inl ⟨by rfl, by intro w _; go_simp⟩) hHeld ?_
  refine norm_any' (fun K hK => ?_)
  go_simp
  refine hK _ _ ?_
  clear hK K
  refine wpAnyH_take (i := 8) (v := .bool true) rfl (by kernel_rfl) (by kernel_rfl) (by kernel_rfl) (fun _ _ _ h => h) (Or.inl ⟨by rfl, by intro w _; go_simp⟩) hHeld ?_
  refine norm_any' (fun K hK => ?_)
  go_simp
  refine hK _ _ ?_
  clear hK K
  refine wpAnyH_take (i := 9) (v := .bool true) rfl (by kernel_rfl) (by kernel_rfl) (by kernel_rfl) (fun _ _ _ h => h) (Or.inl ⟨by rfl, by intro w _; go_simp⟩) hHeld ?_
  refine norm_any' (fun K hK => ?_)
  go_simp
  refine hK _ _ ?_
  clear hK K
  refine wpAnyH_take (i := 10) (v := .bool true) rfl (by kernel_rfl) (by kernel_rfl) (by kernel_rfl) (fun _ _ _ h => h) (Or.inl ⟨by rfl, by intro w _; go_simp⟩) hHeld ?_
  refine norm_any' (fun K hK => ?_)
  go_simp
  refine hK _ _ ?_
  clear hK K
  refine wpAnyH_take (i := 11) (v := .int .i64 0) rfl (by kernel_rfl) (by kernel_rfl) (by kernel_rfl) (fun _ _ _ h => h) (Or.inl ⟨by rfl, by intro w _; go_simp⟩) hHeld ?_
  refine norm_any' (fun K hK => ?_)
  go_simp
  refine hK _ _ ?_
  clear hK K
  refine wpAnyH_take (i := 12) (v := .bool true) rfl (by kernel_rfl) (by kernel_rfl) (by kernel_rfl) (fun _ _ _ h => h) (Or.inl ⟨by rfl, by intro w _; go_simp⟩) hHeld ?_
  refine norm_any' (fun K hK => ?_)
  go_simp
  refine hK _ _ ?_
  clear hK K
  refine wpAnyH_take (i := 13) (v := .bool true) rfl (by kernel_rfl) (by kernel_rfl) (by kernel_rfl) (fun _ _ _ h => h) (Or.inl ⟨by rfl, by intro w _; go_simp⟩) hHeld ?_
  refine norm_any' (fun K hK => ?_)
  go_simp
  refine hK _ _ ?_
  clear hK K
  refine wpAnyH_take (i := 14) (v := .bool true) rfl (by kernel_rfl) (by kernel_rfl) (by kernel_rfl) (fun _ _ _ h => h) (Or.inl ⟨by rfl, by intro w _; go_simp⟩) hHeld ?_
  refine norm_any' (fun K hK => ?_)
  go_simp
  refine hK _ _ ?_
  clear hK K
  refine wpAnyH_take (i := 15) (v := .agg Z6.toArray) rfl (by kernel_rfl) (by kernel_rfl) (by kernel_rfl) (fun _ _ _ h => h) (yieldsIf_load_mid (by rfl) 28 _ rfl B11 0 rfl Z6 _ (fun X h => (HFL.out X h).2.2.1) hmu rfl hm6) hHeld ?_
  refine norm_any' (fun K hK => ?_)
  go_simp
  refine hK _ _ ?_
  clear hK K
  refine wpAnyH_take (i := 16) (v := .agg Z6.toArray) rfl (by kernel_rfl) (by kernel_rfl) (by kernel_rfl) (fun _ _ _ h => h) (yieldsIf_load_mid (by rfl) 28 _ rfl B13 0 rfl Z6 _ (fun X h => (HFL.out X h).2.2.2.1) hmu rfl hm6) hHeld ?_
  refine norm_any' (fun K hK => ?_)
  go_simp
  refine hK _ _ ?_
  clear hK K
  refine wpAnyH_take (i := 17) (v := .bool true) rfl (by kernel_rfl) (by kernel_rfl) (by kernel_rfl) (fun _ _ _ h => h) (Or.inl ⟨by rfl, by intro w _; go_simp⟩) hHeld ?_
  refine norm_any' (fun K hK => ?_)
  go_simp
  refine hK _ _ ?_
  clear hK K
  refine wpAnyH_take (i := 18) (v := .bool true) rfl (by kernel_rfl) (by kernel_rfl) (by kernel_rfl) (fun _ _ _ h => h) (Or.inl ⟨by rfl, by intro w _; go_simp⟩) hHeld ?_
  refine norm_any' (fun K hK => ?_)
  go_simp
  refine hK _ _ ?_
  clear hK K
  refine wpAnyH_take (i := 19) (v := .bool true) rfl (by kernel_rfl) (by kernel_rfl) (by kernel_rfl) (fun _ _ _ h => h) (Or.inl ⟨by rfl, by intro w _; go_simp⟩) hHeld ?_
  refine norm_any' (fun K hK => ?_)
  go_simp
  refine hK _ _ ?_
  clear hK K
  refine wpAnyH_take (i := 20) (v := .agg Z7.toArray) rfl (by kernel_rfl) (by kernel_rfl) (by kernel_rfl) (fun _ _ _ h => h) (yieldsIf_load_mid (by rfl) 28 _ rfl B15 0 rfl Z7 _ (fun X h => (HFL.out X h).2.2.2.2.1) hmu rfl hm7) hHeld ?_
  refine norm_any' (fun K hK => ?_)
  go_simp
  refine hK _ _ ?_
  clear hK K
  refine wpAnyH_take (i := 21) (v := .agg Z6.toArray) rfl (by kernel_rfl) (by kernel_rfl) (by kernel_rfl) (fun _ _ _ h => h) (yieldsIf_load_mid (by rfl) 28 _ rfl B11 0 rfl Z6 _ (fun X h => (HFL.out X h).2.2.1) hmu rfl hm6) hHeld ?_
  refine norm_any' (fun K hK => ?_)
  go_simp
  refine hK _ _ ?_
  clear hK K
  refine wpAnyH_take (i := 22) (v := .bool true) rfl (by kernel_rfl) (by kernel_rfl) (by kernel_rfl) (fun _ _ _ h => h) (Or.inl ⟨by rfl, by intro w _; go_simp⟩) hHeld ?_
  refine norm_any' (fun K hK => ?_)
  go_simp
  refine hK _ _ ?_
  clear hK K
  refine wpAnyH_take (i := 23) (v := .bool true) rfl (by kernel_rfl) (by kernel_rfl) (by kernel_rfl) (fun _ _ _ h => h) (Or.inl ⟨by rfl, by intro w _; go_simp⟩) hHeld ?_
  refine norm_any' (fun K hK => ?_)
  go_simp
  refine hK _ _ ?_
  clear hK K
  refine wpAnyH_take (i := 24) (v := .bool true) rfl (by kernel_rfl) (by kernel_rfl) (by kernel_rfl) (fun _ _ _ h => h) (Or.inl ⟨by rfl, by intro w _; go_simp⟩) hHeld ?_
  refine norm_any' (fun K hK => ?_)
  go_simp
  refine hK _ _ ?_
  clear hK K
  refine wpAnyH_take (i := 25) (v := .pointer (some ⟨V, 0, none⟩)) rfl (by kernel_rfl) (by kernel_rfl) (by kernel_rfl) (fun _ _ _ h => h) (Or.inl ⟨by rfl, by intro w _; go_simp⟩) hHeld ?_
  refine norm_any' (fun K hK => ?_)
  go_simp
  refine hK _ _ ?_
  clear hK K
  refine wpAnyH_take (i := 26) (v := .agg Z4.toArray) rfl (by kernel_rfl) (by kernel_rfl) (by kernel_rfl) (fun _ _ _ h => h) (yieldsIf_load_mid (by rfl) 28 _ rfl B7 0 rfl Z4 _ (fun X h => (HFL.out X h).1) hmu rfl hm4) hHeld ?_
  refine norm_any' (fun K hK => ?_)
  go_simp
  refine hK _ _ ?_
  clear hK K
  refine wpAnyH_take (i := 27) (v := .slice o NL cp) rfl (by kernel_rfl) (by kernel_rfl) (by kernel_rfl) (fun _ _ _ h => h) (Or.inl ⟨by rfl, by intro w _; go_simp⟩) hHeld ?_
  refine norm_any' (fun K hK => ?_)
  go_simp
  refine hK _ _ ?_
  clear hK K
  refine wpAnyH_take (i := 28) (v := .agg Z8.toArray) rfl (by kernel_rfl) (by kernel_rfl) (by kernel_rfl) (fun _ _ _ h => h) (yieldsIf_load_mid (by rfl) 28 _ rfl B17 0 rfl Z8 _ (fun X h => (HFL.out X h).2.2.2.2.2) hmu rfl hm8) hHeld ?_
  refine norm_any' (fun K hK => ?_)
  go_simp
  refine hK _ _ ?_
  clear hK K
  refine wpAnyH_ready (rs := [29]) (by kernel_rfl) (by simp) (AllReadyH.cons rfl (fun K hK => ?_) AllReadyH.nil)
  go_simp
  refine Calls.mono (HV1.out _ HF.out) ?_
  rintro e Y1 ⟨rfl, hz⟩
  have HF1 : Aside (F Y1) := hz
  clear hz
  refine hK.out _ _ HF1.out (fun hHeld => ?_)
  clear hK K
  refine norm_any' (fun K hK => ?_)
  go_simp
  refine hK _ _ ?_
  clear hK K
  refine wpAnyH_take (i := 30) (v := .bool true) rfl (by kernel_rfl) (by kernel_rfl) (by kernel_rfl) (fun _ _ _ h => h) (Or.inl ⟨by rfl, by intro w _; go_simp⟩) hHeld ?_
  refine norm_any' (fun K hK => ?_)
  go_simp
  refine hK _ _ ?_
  clear hK K
  refine wpAnyH_take (i := 31) (v := .bool true) rfl (by kernel_rfl) (by kernel_rfl) (by kernel_rfl) (fun _ _ _ h => h) (Or.inl ⟨by rfl, by intro w _; go_simp⟩) hHeld ?_
  refine norm_any' (fun K hK => ?_)
  go_simp
  refine hK _ _ ?_
  clear hK K
  refine wpAnyH_take (i := 32) (v := .bool true) rfl (by kernel_rfl) (by kernel_rfl) (by kernel_rfl) (fun _ _ _ h => h) (Or.inl ⟨by rfl, by intro w _; go_simp⟩) hHeld ?_
  refine norm_any' (fun K hK => ?_)
  go_simp
  refine hK _ _ ?_
  clear hK K
  refine wpAnyH_take (i := 33) (v := .pointer (some ⟨V, 0, none⟩)) rfl (by kernel_rfl) (by kernel_rfl) (by kernel_rfl) (fun _ _ _ h => h) (Or.inl ⟨by rfl, by intro w _; go_simp⟩) hHeld ?_
  refine norm_any' (fun K hK => ?_)
  go_simp
  refine hK _ _ ?_
  clear hK K
  refine wpAnyH_take (i := 34) (v := .agg Z5.toArray) rfl (by kernel_rfl) (by kernel_rfl) (by kernel_rfl) (fun _ _ _ h => h) (yieldsIf_load_mid (by rfl) 28 _ rfl B9 0 rfl Z5 _ (fun X h => (HFL.out X h).2.1) hmu rfl hm5) hHeld ?_
  refine norm_any' (fun K hK => ?_)
  go_simp
  refine hK _ _ ?_
  clear hK K
  refine wpAnyH_take (i := 35) (v := .slice o NL cp) rfl (by kernel_rfl) (by kernel_rfl) (by kernel_rfl) (fun _ _ _ h => h) (Or.inl ⟨by rfl, by intro w _; go_simp⟩) hHeld ?_
  refine norm_any' (fun K hK => ?_)
  go_simp
  refine hK _ _ ?_
  clear hK K
  refine wpAnyH_take (i := 36) (v := .agg Z8.toArray) rfl (by kernel_rfl) (by kernel_rfl) (by kernel_rfl) (fun _ _ _ h => h) (yieldsIf_load_mid (by rfl) 28 _ rfl B17 0 rfl Z8 _ (fun X h => (HFL.out X h).2.2.2.2.2) hmu rfl hm8) hHeld ?_
  refine norm_any' (fun K hK => ?_)
  go_simp
  refine hK _ _ ?_
  clear hK K
  refine wpAnyH_ready (rs := [37]) (by kernel_rfl) (by simp) (AllReadyH.cons rfl (fun K hK => ?_) AllReadyH.nil)
  go_simp
  refine Calls.mono (HV2.out _ HF1.out) ?_
  rintro e Y2 ⟨rfl, hz⟩
  have HF2 : Aside (F Y2) := hz
  clear hz
  refine hK.out _ _ HF2.out (fun hHeld => ?_)
  clear hK K
  refine norm_any' (fun K hK => ?_)
  go_simp
  refine hK _ _ ?_
  clear hK K
  refine wpAnyH_take (i := 38) (v := .bool true) rfl (by kernel_rfl) (by kernel_rfl) (by kernel_rfl) (fun _ _ _ h => h) (Or.inl ⟨by rfl, by intro w _; go_simp⟩) hHeld ?_
  refine norm_any' (fun K hK => ?_)
  go_simp
  refine hK _ _ ?_
  clear hK K
  refine wpAnyH_take (i := 39) (v := .bool true) rfl (by kernel_rfl) (by kernel_rfl) (by kernel_rfl) (fun _ _ _ h => h) (Or.inl ⟨by rfl, by intro w _; go_simp⟩) hHeld ?_
  refine norm_any' (fun K hK => ?_)
  go_simp
  refine hK _ _ ?_
  clear hK K
  refine wpAnyH_take (i := 40) (v := .bool true) rfl (by kernel_rfl) (by kernel_rfl) (by kernel_rfl) (fun _ _ _ h => h) (Or.inl ⟨by rfl, by intro w _; go_simp⟩) hHeld ?_
  refine norm_any' (fun K hK => ?_)
  go_simp
  refine hK _ _ ?_
  clear hK K
  refine wpAnyH_take (i := 41) (v := .pointer (some ⟨V, 0, none⟩)) rfl (by kernel_rfl) (by kernel_rfl) (by kernel_rfl) (fun _ _ _ h => h) (Or.inl ⟨by rfl, by intro w _; go_simp⟩) hHeld ?_
  refine norm_any' (fun K hK => ?_)
  go_simp
  refine hK _ _ ?_
  clear hK K
  refine wpAnyH_take (i := 42) (v := .agg Z4.toArray) rfl (by kernel_rfl) (by kernel_rfl) (by kernel_rfl) (fun _ _ _ h => h) (yieldsIf_load_mid (by rfl) 28 _ rfl B7 0 rfl Z4 _ (fun X h => (HFL.out X h).1) hmu rfl hm4) hHeld ?_
  refine norm_any' (fun K hK => ?_)
  go_simp
  refine hK _ _ ?_
  clear hK K
  refine wpAnyH_take (i := 44) (v := .slice o NL cp) rfl (by kernel_rfl) (by kernel_rfl) (by kernel_rfl) (fun _ _ _ h => h) (Or.inl ⟨by rfl, by intro w _; go_simp⟩) hHeld ?_
  refine norm_any' (fun K hK => ?_)
  go_simp
  refine hK _ _ ?_
  clear hK K
  refine wpAnyH_take (i := 48) (v := .agg Z8.toArray) rfl (by kernel_rfl) (by kernel_rfl) (by kernel_rfl) (fun _ _ _ h => h) (yieldsIf_load_mid (by rfl) 28 _ rfl B17 0 rfl Z8 _ (fun X h => (HFL.out X h).2.2.2.2.2) hmu rfl hm8) hHeld ?_
  refine norm_any' (fun K hK => ?_)
  go_simp
  refine hK _ _ ?_
  clear hK K
  have hY2s := HSZ.out _ HF2.out
  refine wpAnyH_ready (rs := [43, 46]) (by kernel_rfl) (by simp) (AllReadyH.cons rfl (fun K hK => ?_) (AllReadyH.cons rfl (fun K hK => ?_) AllReadyH.nil))
  · skip
    have HFa : Aside (F (Y2.alloc (.cells #[] 5))) := HFB.out _ _ HF2.out (bel1 _ _)
    have HKa : Aside _ := heap_alloc_new Y2 (.cells #[] 5)
    go_simp
    refine hK.out _ _ HFa.out (fun hHeld => ?_)
    clear hK K
    refine norm_any' (fun K hK => ?_)
    go_simp
    refine hK _ _ ?_
    clear hK K
    refine wpAnyH_ready (rs := [45, 46]) (by kernel_rfl) (by simp) (AllReadyH.cons rfl (fun K hK => ?_) (AllReadyH.cons rfl (fun K hK => ?_) AllReadyH.nil))
    · skip
      obtain ⟨v1, Y3, hr1, ho1, hf1, hk1⟩ := HA1.out _ _ HFa.out HKa.out hY2s
      have HR1 : Aside _ := hr1
      have HO1 : Aside _ := ho1
      have HF3 : Aside (F Y3) := hf1
      clear hr1 ho1 hf1 hk1
      refine step_append_g (by rfl) _ _ 38 38 rfl _ _ (by rfl) (by rfl) HR1.out ?_
      refine hK.out _ _ HF3.out (fun hHeld => ?_)
      clear hK K
      refine norm_any' (fun K hK => ?_)
      go_simp
      refine hK _ _ ?_
      clear hK K
      refine wpAnyH_ready (rs := [46]) (by kernel_rfl) (by simp) (AllReadyH.cons rfl (fun K hK => ?_) AllReadyH.nil)
      have HF4 : Aside (F (Y3.alloc (.cells #[.int .u8 0] 5))) := HFB.out _ _ HF3.out (bel1 _ _)
      have HK4 : Aside _ := heap_alloc_new Y3 (.cells #[.int .u8 0] 5)
      have HO4 : Aside _ := own_bel HO1.out (bel1 Y3 (.cells #[.int .u8 0] 5))
      go_simp
      refine hK.out _ _ HF4.out (fun hHeld => ?_)
      clear hK K
      refine norm_any' (fun K hK => ?_)
      go_simp
      refine hK _ _ ?_
      clear hK K
      obtain ⟨g5, c5, Y5, hr2, hs5, hf5⟩ := HA2.out _ _ _ HF4.out HK4.out HO4.out
      have HR2 : Aside _ := hr2
      have HS5 : Aside (Sl Y5 (some ⟨g5, 0, none⟩) (l ++ [0])) := hs5
      have HF5 : Aside (F Y5) := hf5
      clear hr2 hs5 hf5
      refine wpAnyH_ready (rs := [47]) (by kernel_rfl) (by simp) (AllReadyH.cons rfl (fun K hK => ?_) AllReadyH.nil)
      refine step_append_g (by rfl) _ _ 38 38 rfl _ _ (by rfl) (by rfl) HR2.out ?_
      refine hK.out _ _ HF5.out (fun hHeld => ?_)
      clear hK K
      refine norm_any' (fun K hK => ?_)
      go_simp
      refine hK _ _ ?_
      clear hK K
      refine wpAnyH_ready (rs := [49]) (by kernel_rfl) (by simp) (AllReadyH.cons rfl (fun K hK => ?_) AllReadyH.nil)
      go_simp
      refine Calls.mono (HV3.out _ _ _ HF5.out HS5.out) ?_
      rintro e Y6 ⟨rfl, hz⟩
      have HF6 : Aside (F Y6) := hz
      clear hz
      refine hK.out _ _ HF6.out (fun hHeld => ?_)
      clear hK K
      refine norm_any' (fun K hK => ?_)
      go_simp
      refine hK _ _ ?_
      clear hK K
      refine wpAnyH_take (i := 50) (v := .bool true) rfl (by kernel_rfl) (by kernel_rfl) (by kernel_rfl) (fun _ _ _ h => h) (Or.inl ⟨by rfl, by intro w _; go_simp⟩) hHeld ?_
      refine norm_any' (fun K hK => ?_)
      go_simp
      refine hK _ _ ?_
      clear hK K
      refine wpAnyH_take (i := 51) (v := .bool true) rfl (by kernel_rfl) (by kernel_rfl) (by kernel_rfl) (fun _ _ _ h => h) (Or.inl ⟨by rfl, by intro w _; go_simp⟩) hHeld ?_
      refine norm_any' (fun K hK => ?_)
      go_simp
      refine hK _ _ ?_
      clear hK K
      refine wpAnyH_take (i := 52) (v := .bool true) rfl (by kernel_rfl) (by kernel_rfl) (by kernel_rfl) (fun _ _ _ h => h) (Or.inl ⟨by rfl, by intro w _; go_simp⟩) hHeld ?_
      refine norm_any' (fun K hK => ?_)
      go_simp
      refine hK _ _ ?_
      clear hK K
      refine wpAnyH_take (i := 53) (v := .pointer (some ⟨V, 0, none⟩)) rfl (by kernel_rfl) (by kernel_rfl) (by kernel_rfl) (fun _ _ _ h => h) (Or.inl ⟨by rfl, by intro w _; go_simp⟩) hHeld ?_
      refine norm_any' (fun K hK => ?_)
      go_simp
      refine hK _ _ ?_
      clear hK K
      refine wpAnyH_take (i := 54) (v := .slice (some ⟨B11, 0, none⟩) 16 16) rfl (by kernel_rfl) (by kernel_rfl) (by kernel_rfl) (fun _ _ _ h => h) (Or.inl ⟨by rfl, by intro w _; go_simp⟩) hHeld ?_
      refine norm_any' (fun K hK => ?_)
      go_simp
      refine hK _ _ ?_
      clear hK K
      refine wpAnyH_take (i := 55) (v := .slice (some ⟨B7, 0, none⟩) 16 16) rfl (by kernel_rfl) (by kernel_rfl) (by kernel_rfl) (fun _ _ _ h => h) (Or.inl ⟨by rfl, by intro w _; go_simp⟩) hHeld ?_
      refine norm_any' (fun K hK => ?_)
      go_simp
      refine hK _ _ ?_
      clear hK K
      refine wpAnyH_take (i := 56) (v := .slice (some ⟨B9, 0, none⟩) 16 16) rfl (by kernel_rfl) (by kernel_rfl) (by kernel_rfl) (fun _ _ _ h => h) (Or.inl ⟨by rfl, by intro w _; go_simp⟩) hHeld ?_
      refine norm_any' (fun K hK => ?_)
      go_simp
      refine hK _ _ ?_
      clear hK K
      refine wpAnyH_ready (rs := [57]) (by kernel_rfl) (by simp) (AllReadyH.cons rfl (fun K hK => ?_) AllReadyH.nil)
      go_simp
      skip
      refine hK.out _ _ (HFB.out _ _ HF6.out (bel1 _ _)) (fun hHeld => ?_)
      clear hK K
      refine norm_any' (fun K hK => ?_)
      go_simp
      refine hK _ _ ?_
      clear hK K
      have HF7 : Aside (F (Y6.alloc (.cells #[.slice (some ⟨B7, 0, none⟩) 16 16, .slice (some ⟨B9, 0, none⟩) 16 16] 38))) := HFB.out _ _ HF6.out (bel1 _ _)
      have HK7 : Aside _ := heap_alloc_new Y6 (.cells #[.slice (some ⟨B7, 0, none⟩) 16 16, .slice (some ⟨B9, 0, none⟩) 16 16] 38)
      refine wpAnyH_ready (rs := [58]) (by kernel_rfl) (by simp) (AllReadyH.cons rfl (fun K hK => ?_) AllReadyH.nil)
      go_simp
      refine Calls.mono (HD1.out _ _ HF7.out HK7.out) ?_
      rintro e Y8 ⟨rfl, hz⟩
      have HF8 : Aside (F Y8) := hz
      clear hz
      refine hK.out _ _ HF8.out (fun hHeld => ?_)
      clear hK K
      refine norm_any' (fun K hK => ?_)
      go_simp
      refine hK _ _ ?_
      clear hK K
      refine wpAnyH_take (i := 59) (v := .bool true) rfl (by kernel_rfl) (by kernel_rfl) (by kernel_rfl) (fun _ _ _ h => h) (Or.inl ⟨by rfl, by intro w _; go_simp⟩) hHeld ?_
      refine norm_any' (fun K hK => ?_)
      go_simp
      refine hK _ _ ?_
      clear hK K
      refine wpAnyH_take (i := 60) (v := .bool true) rfl (by kernel_rfl) (by kernel_rfl) (by kernel_rfl) (fun _ _ _ h => h) (Or.inl ⟨by rfl, by intro w _; go_simp⟩) hHeld ?_
      refine norm_any' (fun K hK => ?_)
      go_simp
      refine hK _ _ ?_
      clear hK K
      refine wpAnyH_take (i := 61) (v := .pointer (some ⟨V, 0, none⟩)) rfl (by kernel_rfl) (by kernel_rfl) (by kernel_rfl) (fun _ _ _ h => h) (Or.inl ⟨by rfl, by intro w _; go_simp⟩) hHeld ?_
      refine norm_any' (fun K hK => ?_)
      go_simp
      refine hK _ _ ?_
      clear hK K
      refine wpAnyH_take (i := 62) (v := .slice (some ⟨B11, 0, none⟩) 16 16) rfl (by kernel_rfl) (by kernel_rfl) (by kernel_rfl) (fun _ _ _ h => h) (Or.inl ⟨by rfl, by intro w _; go_simp⟩) hHeld ?_
      refine norm_any' (fun K hK => ?_)
      go_simp
      refine hK _ _ ?_
      clear hK K
      refine wpAnyH_take (i := 63) (v := .slice (some ⟨B7, 0, none⟩) 16 16) rfl (by kernel_rfl) (by kernel_rfl) (by kernel_rfl) (fun _ _ _ h => h) (Or.inl ⟨by rfl, by intro w _; go_simp⟩) hHeld ?_
      refine norm_any' (fun K hK => ?_)
      go_simp
      refine hK _ _ ?_
      clear hK K
      refine wpAnyH_take (i := 64) (v := .slice (some ⟨B5, 0, none⟩) 16 16) rfl (by kernel_rfl) (by kernel_rfl) (by kernel_rfl) (fun _ _ _ h => h) (Or.inl ⟨by rfl, by intro w _; go_simp⟩) hHeld ?_
      refine norm_any' (fun K hK => ?_)
      go_simp
      refine hK _ _ ?_
      clear hK K
      refine wpAnyH_ready (rs := [65]) (by kernel_rfl) (by simp) (AllReadyH.cons rfl (fun K hK => ?_) AllReadyH.nil)
      go_simp
      skip
      refine hK.out _ _ (HFB.out _ _ HF8.out (bel1 _ _)) (fun hHeld => ?_)
      clear hK K
      refine norm_any' (fun K hK => ?_)
      go_simp
      refine hK _ _ ?_
      clear hK K
      have HF9 : Aside (F (Y8.alloc (.cells #[.slice (some ⟨B7, 0, none⟩) 16 16, .slice (some ⟨B5, 0, none⟩) 16 16] 38))) := HFB.out _ _ HF8.out (bel1 _ _)
      have HK9 : Aside _ := heap_alloc_new Y8 (.cells #[.slice (some ⟨B7, 0, none⟩) 16 16, .slice (some ⟨B5, 0, none⟩) 16 16] 38)
      refine wpAnyH_ready (rs := [66]) (by kernel_rfl) (by simp) (AllReadyH.cons rfl (fun K hK => ?_) AllReadyH.nil)
      go_simp
      refine Calls.mono (HD2.out _ _ HF9.out HK9.out) ?_
      rintro e Y10 ⟨rfl, hz⟩
      have HF10 : Aside (F Y10) := hz
      clear hz
      refine hK.out _ _ HF10.out (fun hHeld => ?_)
      clear hK K
      refine norm_any' (fun K hK => ?_)
      go_simp
      refine hK _ _ ?_
      clear hK K
      refine wpAnyH_take (i := 67) (v := .bool true) rfl (by kernel_rfl) (by kernel_rfl) (by kernel_rfl) (fun _ _ _ h => h) (Or.inl ⟨by rfl, by intro w _; go_simp⟩) hHeld ?_
      refine norm_any' (fun K hK => ?_)
      go_simp
      refine hK _ _ ?_
      clear hK K
      refine wpAnyH_take (i := 68) (v := .bool true) rfl (by kernel_rfl) (by kernel_rfl) (by kernel_rfl) (fun _ _ _ h => h) (Or.inl ⟨by rfl, by intro w _; go_simp⟩) hHeld ?_
      refine norm_any' (fun K hK => ?_)
      go_simp
      refine hK _ _ ?_
      clear hK K
      refine wpAnyH_take (i := 69) (v := .bool true) rfl (by kernel_rfl) (by kernel_rfl) (by kernel_rfl) (fun _ _ _ h => h) (Or.inl ⟨by rfl, by intro w _; go_simp⟩) hHeld ?_
      refine norm_any' (fun K hK => ?_)
      go_simp
      refine hK _ _ ?_
      clear hK K
      refine wpAnyH_done (by kernel_rfl) ?_ _
      clear hHeld HFL HFB HD1 HD2 HV1 HV2 HV3 HA1 HA2 heq heqn hne hnen
      go_wp2
      go_ret
      exact ⟨rfl, HFE.out _ HF10.out⟩
    · skip
      have HFb : Aside (F ((Y2.alloc (.cells #[] 5)).alloc (.cells #[.int .u8 0] 5))) := HFB.out _ _ HFa.out (bel1 _ _)
      have HKb : Aside (((Y2.alloc (.cells #[] 5)).alloc (.cells #[.int .u8 0] 5)).heap[Y2.heap.size + 1]? = some (.cells #[.int .u8 0] 5 (0, 0))) := new' (by simp)
      have HKc : Aside (((Y2.alloc (.cells #[] 5)).alloc (.cells #[.int .u8 0] 5)).heap[Y2.heap.size]? = some (.cells #[] 5 (0, 0))) := nth' HKa.out
      have hlt2 : Y2.heap.size + 1 < ((Y2.alloc (.cells #[] 5)).alloc (.cells #[.int .u8 0] 5)).heap.size := by simp
      have HLT2 : Aside _ := hlt2
      clear hlt2
      go_simp
      refine hK.out _ _ HFb.out (fun hHeld => ?_)
      clear hK K
      refine norm_any' (fun K hK => ?_)
      go_simp
      refine hK _ _ ?_
      clear hK K
      refine wpAnyH_ready (rs := [45]) (by kernel_rfl) (by simp) (AllReadyH.cons rfl (fun K hK => ?_) AllReadyH.nil)
      obtain ⟨v1, Y3, hr1, ho1, hf1, hk1⟩ := HA1.out _ _ HFb.out HKc.out hY2s
      have HR1 : Aside _ := hr1
      have HO4 : Aside _ := ho1
      have HF4 : Aside (F Y3) := hf1
      have HK4 : Aside _ := (hk1 _ HLT2.out (by omega)).trans HKb.out
      clear hr1 ho1 hf1 hk1
      refine step_append_g (by rfl) _ _ 38 38 rfl _ _ (by rfl) (by rfl) HR1.out ?_
      refine hK.out _ _ HF4.out (fun hHeld => ?_)
      clear hK K
      refine norm_any' (fun K hK => ?_)
      go_simp
      refine hK _ _ ?_
      clear hK K
      obtain ⟨g5, c5, Y5, hr2, hs5, hf5⟩ := HA2.out _ _ _ HF4.out HK4.out HO4.out
      have HR2 : Aside _ := hr2
      have HS5 : Aside (Sl Y5 (some ⟨g5, 0, none⟩) (l ++ [0])) := hs5
      have HF5 : Aside (F Y5) := hf5
      clear hr2 hs5 hf5
      refine wpAnyH_ready (rs := [47]) (by kernel_rfl) (by simp) (AllReadyH.cons rfl (fun K hK => ?_) AllReadyH.nil)
      refine step_append_g (by rfl) _ _ 38 38 rfl _ _ (by rfl) (by rfl) HR2.out ?_
      refine hK.out _ _ HF5.out (fun hHeld => ?_)
      clear hK K
      refine norm_any' (fun K hK => ?_)
      go_simp
      refine hK _ _ ?_
      clear hK K
      refine wpAnyH_ready (rs := [49]) (by kernel_rfl) (by simp) (AllReadyH.cons rfl (fun K hK => ?_) AllReadyH.nil)
      go_simp
      refine Calls.mono (HV3.out _ _ _ HF5.out HS5.out) ?_
      rintro e Y6 ⟨rfl, hz⟩
      have HF6 : Aside (F Y6) := hz
      clear hz
      refine hK.out _ _ HF6.out (fun hHeld => ?_)
      clear hK K
      refine norm_any' (fun K hK => ?_)
      go_simp
      refine hK _ _ ?_
      clear hK K
      refine wpAnyH_take (i := 50) (v := .bool true) rfl (by kernel_rfl) (by kernel_rfl) (by kernel_rfl) (fun _ _ _ h => h) (Or.inl ⟨by rfl, by intro w _; go_simp⟩) hHeld ?_
      refine norm_any' (fun K hK => ?_)
      go_simp
      refine hK _ _ ?_
      clear hK K
      refine wpAnyH_take (i := 51) (v := .bool true) rfl (by kernel_rfl) (by kernel_rfl) (by kernel_rfl) (fun _ _ _ h => h) (Or.inl ⟨by rfl, by intro w _; go_simp⟩) hHeld ?_
      refine norm_any' (fun K hK => ?_)
      go_simp
      refine hK _ _ ?_
      clear hK K
      refine wpAnyH_take (i := 52) (v := .bool true) rfl (by kernel_rfl) (by kernel_rfl) (by kernel_rfl) (fun _ _ _ h => h) (Or.inl ⟨by rfl, by intro w _; go_simp⟩) hHeld ?_
      refine norm_any' (fun K hK => ?_)
      go_simp
      refine hK _ _ ?_
      clear hK K
      refine wpAnyH_take (i := 53) (v := .pointer (some ⟨V, 0, none⟩)) rfl (by kernel_rfl) (by kernel_rfl) (by kernel_rfl) (fun _ _ _ h => h) (Or.inl ⟨by rfl, by intro w _; go_simp⟩) hHeld ?_
      refine norm_any' (fun K hK => ?_)
      go_simp
      refine hK _ _ ?_
      clear hK K
      refine wpAnyH_take (i := 54) (v := .slice (some ⟨B11, 0, none⟩) 16 16) rfl (by kernel_rfl) (by kernel_rfl) (by kernel_rfl) (fun _ _ _ h => h) (Or.inl ⟨by rfl, by intro w _; go_simp⟩) hHeld ?_
      refine norm_any' (fun K hK => ?_)
      go_simp
      refine hK _ _ ?_
      clear hK K
      refine wpAnyH_take (i := 55) (v := .slice (some ⟨B7, 0, none⟩) 16 16) rfl (by kernel_rfl) (by kernel_rfl) (by kernel_rfl) (fun _ _ _ h => h) (Or.inl ⟨by rfl, by intro w _; go_simp⟩) hHeld ?_
      refine norm_any' (fun K hK => ?_)
      go_simp
      refine hK _ _ ?_
      clear hK K
      refine wpAnyH_take (i := 56) (v := .slice (some ⟨B9, 0, none⟩) 16 16) rfl (by kernel_rfl) (by kernel_rfl) (by kernel_rfl) (fun _ _ _ h => h) (Or.inl ⟨by rfl, by intro w _; go_simp⟩) hHeld ?_
      refine norm_any' (fun K hK => ?_)
      go_simp
      refine hK _ _ ?_
      clear hK K
      refine wpAnyH_ready (rs := [57]) (by kernel_rfl) (by simp) (AllReadyH.cons rfl (fun K hK => ?_) AllReadyH.nil)
      go_simp
      skip
      refine hK.out _ _ (HFB.out _ _ HF6.out (bel1 _ _)) (fun hHeld => ?_)
      clear hK K
      refine norm_any' (fun K hK => ?_)
      go_simp
      refine hK _ _ ?_
      clear hK K
      have HF7 : Aside (F (Y6.alloc (.cells #[.slice (some ⟨B7, 0, none⟩) 16 16, .slice (some ⟨B9, 0, none⟩) 16 16] 38))) := HFB.out _ _ HF6.out (bel1 _ _)
      have HK7 : Aside _ := heap_alloc_new Y6 (.cells #[.slice (some ⟨B7, 0, none⟩) 16 16, .slice (some ⟨B9, 0, none⟩) 16 16] 38)
      refine wpAnyH_ready (rs := [58]) (by kernel_rfl) (by simp) (AllReadyH.cons rfl (fun K hK => ?_) AllReadyH.nil)
      go_simp
      refine Calls.mono (HD1.out _ _ HF7.out HK7.out) ?_
      rintro e Y8 ⟨rfl, hz⟩
      have HF8 : Aside (F Y8) := hz
      clear hz
      refine hK.out _ _ HF8.out (fun hHeld => ?_)
      clear hK K
      refine norm_any' (fun K hK => ?_)
      go_simp
      refine hK _ _ ?_
      clear hK K
      refine wpAnyH_take (i := 59) (v := .bool true) rfl (by kernel_rfl) (by kernel_rfl) (by kernel_rfl) (fun _ _ _ h => h) (Or.inl ⟨by rfl, by intro w _; go_simp⟩) hHeld ?_
      refine norm_any' (fun K hK => ?_)
      go_simp
      refine hK _ _ ?_
      clear hK K
      refine wpAnyH_take (i := 60) (v := .bool true) rfl (by kernel_rfl) (by kernel_rfl) (by kernel_rfl) (fun _ _ _ h => h) (Or.inl ⟨by rfl, by intro w _; go_simp⟩) hHeld ?_
      refine norm_any' (fun K hK => ?_)
      go_simp
      refine hK _ _ ?_
      clear hK K
      refine wpAnyH_take (i := 61) (v := .pointer (some ⟨V, 0, none⟩)) rfl (by kernel_rfl) (by kernel_rfl) (by kernel_rfl) (fun _ _ _ h => h) (Or.inl ⟨by rfl, by intro w _; go_simp⟩) hHeld ?_
      refine norm_any' (fun K hK => ?_)
      go_simp
      refine hK _ _ ?_
      clear hK K
      refine wpAnyH_take (i := 62) (v := .slice (some ⟨B11, 0, none⟩) 16 16) rfl (by kernel_rfl) (by kernel_rfl) (by kernel_rfl) (fun _ _ _ h => h) (Or.inl ⟨by rfl, by intro w _; go_simp⟩) hHeld ?_
      refine norm_any' (fun K hK => ?_)
      go_simp
      refine hK _ _ ?_
      clear hK K
      refine wpAnyH_take (i := 63) (v := .slice (some ⟨B7, 0, none⟩) 16 16) rfl (by kernel_rfl) (by kernel_rfl) (by kernel_rfl) (fun _ _ _ h => h) (Or.inl ⟨by rfl, by intro w _; go_simp⟩) hHeld ?_
      refine norm_any' (fun K hK => ?_)
      go_simp
      refine hK _ _ ?_
      clear hK K
      refine wpAnyH_take (i := 64) (v := .slice (some ⟨B5, 0, none⟩) 16 16) rfl (by kernel_rfl) (by kernel_rfl) (by kernel_rfl) (fun _ _ _ h => h) (Or.inl ⟨by rfl, by intro w _; go_simp⟩) hHeld ?_
      refine norm_any' (fun K hK => ?_)
      go_simp
      refine hK _ _ ?_
      clear hK K
      refine wpAnyH_ready (rs := [65]) (by kernel_rfl) (by simp) (AllReadyH.cons rfl (fun K hK => ?_) AllReadyH.nil)
      go_simp
      skip
      refine hK.out _ _ (HFB.out _ _ HF8.out (bel1 _ _)) (fun hHeld => ?_)
      clear hK K
      refine norm_any' (fun K hK => ?_)
      go_simp
      refine hK _ _ ?_
      clear hK K
      have HF9 : Aside (F (Y8.alloc (.cells #[.slice (some ⟨B7, 0, none⟩) 16 16, .slice (some ⟨B5, 0, none⟩) 16 16] 38))) := HFB.out _ _ HF8.out (bel1 _ _)
      have HK9 : Aside _ := heap_alloc_new Y8 (.cells #[.slice (some ⟨B7, 0, none⟩) 16 16, .slice (some ⟨B5, 0, none⟩) 16 16] 38)
      refine wpAnyH_ready (rs := [66]) (by kernel_rfl) (by simp) (AllReadyH.cons rfl (fun K hK => ?_) AllReadyH.nil)
      go_simp
      refine Calls.mono (HD2.out _ _ HF9.out HK9.out) ?_
      rintro e Y10 ⟨rfl, hz⟩
      have HF10 : Aside (F Y10) := hz
      clear hz
      refine hK.out _ _ HF10.out (fun hHeld => ?_)
      clear hK K
      refine norm_any' (fun K hK => ?_)
      go_simp
      refine hK _ _ ?_
      clear hK K
      refine wpAnyH_take (i := 67) (v := .bool true) rfl (by kernel_rfl) (by kernel_rfl) (by kernel_rfl) (fun _ _ _ h => h) (Or.inl ⟨by rfl, by intro w _; go_simp⟩) hHeld ?_
      refine norm_any' (fun K hK => ?_)
      go_simp
      refine hK _ _ ?_
      clear hK K
      refine wpAnyH_take (i := 68) (v := .bool true) rfl (by kernel_rfl) (by kernel_rfl) (by kernel_rfl) (fun _ _ _ h => h) (Or.inl ⟨by rfl, by intro w _; go_simp⟩) hHeld ?_
      refine norm_any' (fun K hK => ?_)
      go_simp
      refine hK _ _ ?_
      clear hK K
      refine wpAnyH_take (i := 69) (v := .bool true) rfl (by kernel_rfl) (by kernel_rfl) (by kernel_rfl) (fun _ _ _ h => h) (Or.inl ⟨by rfl, by intro w _; go_simp⟩) hHeld ?_
      refine norm_any' (fun K hK => ?_)
      go_simp
      refine hK _ _ ?_
      clear hK K
      refine wpAnyH_done (by kernel_rfl) ?_ _
      clear hHeld HFL HFB HD1 HD2 HV1 HV2 HV3 HA1 HA2 heq heqn hne hnen
      go_wp2
      go_ret
      exact ⟨rfl, HFE.out _ HF10.out⟩
  · skip
    have HFa : Aside (F (Y2.alloc (.cells #[.int .u8 0] 5))) := HFB.out _ _ HF2.out (bel1 _ _)
    have HKa : Aside _ := heap_alloc_new Y2 (.cells #[.int .u8 0] 5)
    go_simp
    refine hK.out _ _ HFa.out (fun hHeld => ?_)
    clear hK K
    refine norm_any' (fun K hK => ?_)
    go_simp
    refine hK _ _ ?_
    clear hK K
    refine wpAnyH_ready (rs := [43]) (by kernel_rfl) (by simp) (AllReadyH.cons rfl (fun K hK => ?_) AllReadyH.nil)
    have HFb : Aside (F ((Y2.alloc (.cells #[.int .u8 0] 5)).alloc (.cells #[] 5))) := HFB.out _ _ HFa.out (bel1 _ _)
    have HKc : Aside (((Y2.alloc (.cells #[.int .u8 0] 5)).alloc (.cells #[] 5)).heap[Y2.heap.size + 1]? = some (.cells #[] 5 (0, 0))) := new' (by simp)
    have HKb : Aside (((Y2.alloc (.cells #[.int .u8 0] 5)).alloc (.cells #[] 5)).heap[Y2.heap.size]? = some (.cells #[.int .u8 0] 5 (0, 0))) := nth' HKa.out
    have hlt2 : Y2.heap.size < ((Y2.alloc (.cells #[.int .u8 0] 5)).alloc (.cells #[] 5)).heap.size := by simp; omega
    have HLT2 : Aside _ := hlt2
    clear hlt2
    go_simp
    refine hK.out _ _ HFb.out (fun hHeld => ?_)
    clear hK K
    refine norm_any' (fun K hK => ?_)
    go_simp
    refine hK _ _ ?_
    clear hK K
    refine wpAnyH_ready (rs := [45]) (by kernel_rfl) (by simp) (AllReadyH.cons rfl (fun K hK => ?_) AllReadyH.nil)
    obtain ⟨v1, Y3, hr1, ho1, hf1, hk1⟩ := HA1.out _ _ HFb.out HKc.out (by omega)
    have HR1 : Aside _ := hr1
    have HO4 : Aside _ := ho1
    have HF4 : Aside (F Y3) := hf1
    have HK4 : Aside _ := (hk1 _ HLT2.out (by omega)).trans HKb.out
    clear hr1 ho1 hf1 hk1
    refine step_append_g (by rfl) _ _ 38 38 rfl _ _ (by rfl) (by rfl) HR1.out ?_
    refine hK.out _ _ HF4.out (fun hHeld => ?_)
    clear hK K
    refine norm_any' (fun K hK => ?_)
    go_simp
    refine hK _ _ ?_
    clear hK K
    obtain ⟨g5, c5, Y5, hr2, hs5, hf5⟩ := HA2.out _ _ _ HF4.out HK4.out HO4.out
    have HR2 : Aside _ := hr2
    have HS5 : Aside (Sl Y5 (some ⟨g5, 0, none⟩) (l ++ [0])) := hs5
    have HF5 : Aside (F Y5) := hf5
    clear hr2 hs5 hf5
    refine wpAnyH_ready (rs := [47]) (by kernel_rfl) (by simp) (AllReadyH.cons rfl (fun K hK => ?_) AllReadyH.nil)
    refine step_append_g (by rfl) _ _ 38 38 rfl _ _ (by rfl) (by rfl) HR2.out ?_
    refine hK.out _ _ HF5.out (fun hHeld => ?_)
    clear hK K
    refine norm_any' (fun K hK => ?_)
    go_simp
    refine hK _ _ ?_
    clear hK K
    refine wpAnyH_ready (rs := [49]) (by kernel_rfl) (by simp) (AllReadyH.cons rfl (fun K hK => ?_) AllReadyH.nil)
    go_simp
    refine Calls.mono (HV3.out _ _ _ HF5.out HS5.out) ?_
    rintro e Y6 ⟨rfl, hz⟩
    have HF6 : Aside (F Y6) := hz
    clear hz
    refine hK.out _ _ HF6.out (fun hHeld => ?_)
    clear hK K
    refine norm_any' (fun K hK => ?_)
    go_simp
    refine hK _ _ ?_
    clear hK K
    refine wpAnyH_take (i := 50) (v := .bool true) rfl (by kernel_rfl) (by kernel_rfl) (by kernel_rfl) (fun _ _ _ h => h) (Or.inl ⟨by rfl, by intro w _; go_simp⟩) hHeld ?_
    refine norm_any' (fun K hK => ?_)
    go_simp
    refine hK _ _ ?_
    clear hK K
    refine wpAnyH_take (i := 51) (v := .bool true) rfl (by kernel_rfl) (by kernel_rfl) (by kernel_rfl) (fun _ _ _ h => h) (Or.inl ⟨by rfl, by intro w _; go_simp⟩) hHeld ?_
    refine norm_any' (fun K hK => ?_)
    go_simp
    refine hK _ _ ?_
    clear hK K
    refine wpAnyH_take (i := 52) (v := .bool true) rfl (by kernel_rfl) (by kernel_rfl) (by kernel_rfl) (fun _ _ _ h => h) (Or.inl ⟨by rfl, by intro w _; go_simp⟩) hHeld ?_
    refine norm_any' (fun K hK => ?_)
    go_simp
    refine hK _ _ ?_
    clear hK K
    refine wpAnyH_take (i := 53) (v := .pointer (some ⟨V, 0, none⟩)) rfl (by kernel_rfl) (by kernel_rfl) (by kernel_rfl) (fun _ _ _ h => h) (Or.inl ⟨by rfl, by intro w _; go_simp⟩) hHeld ?_
    refine norm_any' (fun K hK => ?_)
    go_simp
    refine hK _ _ ?_
    clear hK K
    refine wpAnyH_take (i := 54) (v := .slice (some ⟨B11, 0, none⟩) 16 16) rfl (by kernel_rfl) (by kernel_rfl) (by kernel_rfl) (fun _ _ _ h => h) (Or.inl ⟨by rfl, by intro w _; go_simp⟩) hHeld ?_
    refine norm_any' (fun K hK => ?_)
    go_simp
    refine hK _ _ ?_
    clear hK K
    refine wpAnyH_take (i := 55) (v := .slice (some ⟨B7, 0, none⟩) 16 16) rfl (by kernel_rfl) (by kernel_rfl) (by kernel_rfl) (fun _ _ _ h => h) (Or.inl ⟨by rfl, by intro w _; go_simp⟩) hHeld ?_
    refine norm_any' (fun K hK => ?_)
    go_simp
    refine hK _ _ ?_
    clear hK K
    refine wpAnyH_take (i := 56) (v := .slice (some ⟨B9, 0, none⟩) 16 16) rfl (by kernel_rfl) (by kernel_rfl) (by kernel_rfl) (fun _ _ _ h => h) (Or.inl ⟨by rfl, by intro w _; go_simp⟩) hHeld ?_
    refine norm_any' (fun K hK => ?_)
    go_simp
    refine hK _ _ ?_
    clear hK K
    refine wpAnyH_ready (rs := [57]) (by kernel_rfl) (by simp) (AllReadyH.cons rfl (fun K hK => ?_) AllReadyH.nil)
    go_simp
    skip
    refine hK.out _ _ (HFB.out _ _ HF6.out (bel1 _ _)) (fun hHeld => ?_)
    clear hK K
    refine norm_any' (fun K hK => ?_)
    go_simp
    refine hK _ _ ?_
    clear hK K
    have HF7 : Aside (F (Y6.alloc (.cells #[.slice (some ⟨B7, 0, none⟩) 16 16, .slice (some ⟨B9, 0, none⟩) 16 16] 38))) := HFB.out _ _ HF6.out (bel1 _ _)
    have HK7 : Aside _ := heap_alloc_new Y6 (.cells #[.slice (some ⟨B7, 0, none⟩) 16 16, .slice (some ⟨B9, 0, none⟩) 16 16] 38)
    refine wpAnyH_ready (rs := [58]) (by kernel_rfl) (by simp) (AllReadyH.cons rfl (fun K hK => ?_) AllReadyH.nil)
    go_simp
    refine Calls.mono (HD1.out _ _ HF7.out HK7.out) ?_
    rintro e Y8 ⟨rfl, hz⟩
    have HF8 : Aside (F Y8) := hz
    clear hz
    refine hK.out _ _ HF8.out (fun hHeld => ?_)
    clear hK K
    refine norm_any' (fun K hK => ?_)
    go_simp
    refine hK _ _ ?_
    clear hK K
    refine wpAnyH_take (i := 59) (v := .bool true) rfl (by kernel_rfl) (by kernel_rfl) (by kernel_rfl) (fun _ _ _ h => h) (Or.inl ⟨by rfl, by intro w _; go_simp⟩) hHeld ?_
    refine norm_any' (fun K hK => ?_)
    go_simp
    refine hK _ _ ?_
    clear hK K
    refine wpAnyH_take (i := 60) (v := .bool true) rfl (by kernel_rfl) (by kernel_rfl) (by kernel_rfl) (fun _ _ _ h => h) (Or.inl ⟨by rfl, by intro w _; go_simp⟩) hHeld ?_
    refine norm_any' (fun K hK => ?_)
    go_simp
    refine hK _ _ ?_
    clear hK K
    refine wpAnyH_take (i := 61) (v := .pointer (some ⟨V, 0, none⟩)) rfl (by kernel_rfl) (by kernel_rfl) (by kernel_rfl) (fun _ _ _ h => h) (Or.inl ⟨by rfl, by intro w _; go_simp⟩) hHeld ?_
    refine norm_any' (fun K hK => ?_)
    go_simp
    refine hK _ _ ?_
    clear hK K
    refine wpAnyH_take (i := 62) (v := .slice (some ⟨B11, 0, none⟩) 16 16) rfl (by kernel_rfl) (by kernel_rfl) (by kernel_rfl) (fun _ _ _ h => h) (Or.inl ⟨by rfl, by intro w _; go_simp⟩) hHeld ?_
    refine norm_any' (fun K hK => ?_)
    go_simp
    refine hK _ _ ?_
    clear hK K
    refine wpAnyH_take (i := 63) (v := .slice (some ⟨B7, 0, none⟩) 16 16) rfl (by kernel_rfl) (by kernel_rfl) (by kernel_rfl) (fun _ _ _ h => h) (Or.inl ⟨by rfl, by intro w _; go_simp⟩) hHeld ?_
    refine norm_any' (fun K hK => ?_)
    go_simp
    refine hK _ _ ?_
    clear hK K
    refine wpAnyH_take (i := 64) (v := .slice (some ⟨B5, 0, none⟩) 16 16) rfl (by kernel_rfl) (by kernel_rfl) (by kernel_rfl) (fun _ _ _ h => h) (Or.inl ⟨by rfl, by intro w _; go_simp⟩) hHeld ?_
    refine norm_any' (fun K hK => ?_)
    go_simp
    refine hK _ _ ?_
    clear hK K
    refine wpAnyH_ready (rs := [65]) (by kernel_rfl) (by simp) (AllReadyH.cons rfl (fun K hK => ?_) AllReadyH.nil)
    go_simp
    skip
    refine hK.out _ _ (HFB.out _ _ HF8.out (bel1 _ _)) (fun hHeld => ?_)
    clear hK K
    refine norm_any' (fun K hK => ?_)
    go_simp
    refine hK _ _ ?_
    clear hK K
    have HF9 : Aside (F (Y8.alloc (.cells #[.slice (some ⟨B7, 0, none⟩) 16 16, .slice (some ⟨B5, 0, none⟩) 16 16] 38))) := HFB.out _ _ HF8.out (bel1 _ _)
    have HK9 : Aside _ := heap_alloc_new Y8 (.cells #[.slice (some ⟨B7, 0, none⟩) 16 16, .slice (some ⟨B5, 0, none⟩) 16 16] 38)
    refine wpAnyH_ready (rs := [66]) (by kernel_rfl) (by simp) (AllReadyH.cons rfl (fun K hK => ?_) AllReadyH.nil)
    go_simp
    refine Calls.mono (HD2.out _ _ HF9.out HK9.out) ?_
    rintro e Y10 ⟨rfl, hz⟩
    have HF10 : Aside (F Y10) := hz
    clear hz
    refine hK.out _ _ HF10.out (fun hHeld => ?_)
    clear hK K
    refine norm_any' (fun K hK => ?_)
    go_simp
    refine hK _ _ ?_
    clear hK K
    refine wpAnyH_take (i := 67) (v := .bool true) rfl (by kernel_rfl) (by kernel_rfl) (by kernel_rfl) (fun _ _ _ h => h) (Or.inl ⟨by rfl, by intro w _; go_simp⟩) hHeld ?_
    refine norm_any' (fun K hK => ?_)
    go_simp
    refine hK _ _ ?_
    clear hK K
    refine wpAnyH_take (i := 68) (v := .bool true) rfl (by kernel_rfl) (by kernel_rfl) (by kernel_rfl) (fun _ _ _ h => h) (Or.inl ⟨by rfl, by intro w _; go_simp⟩) hHeld ?_
    refine norm_any' (fun K hK => ?_)
    go_simp
    refine hK _ _ ?_
    clear hK K
    refine wpAnyH_take (i := 69) (v := .bool true) rfl (by kernel_rfl) (by kernel_rfl) (by kernel_rfl) (fun _ _ _ h => h) (Or.inl ⟨by rfl, by intro w _; go_simp⟩) hHeld ?_
    refine norm_any' (fun K hK => ?_)
    go_simp
    refine hK _ _ ?_
    clear hK K
    refine wpAnyH_done (by kernel_rfl) ?_ _
    clear hHeld HFL HFB HD1 HD2 HV1 HV2 HV3 HA1 HA2 heq heqn hne hnen
    go_wp2
    go_ret
    exact ⟨rfl, HFE.out _ HF10.out⟩
end Go.Proofs.Ythhoknkdmmldbaa
