/- What header.Split answers: a contract. -/
import Derived.Test.YtlllejgpmdeeiaaDoorPacket
namespace Go.Proofs.YtlllejgpmdeeiaaDoor
open Go.ChangeShapes Go.WideShapes Go.ChangeAt Go.RowKit
set_option linter.unusedVariables false

theorem info22 : (Tryd.prog.info? 22).map (fun i => (i.zero, i.size, i.bytes)) = some (some (.slice none 0 0), 1, 24) := by kernel_rfl

/-- packets as places and lengths: from s to e, one behind the other -/
def Chain (l : List UInt8) (ids : Int) : List (Nat × Nat) → Nat → Nat → Prop
  | [], s, e => s = e
  | (o, n) :: r, s, e => o = s ∧ (n : Int) = psz (l.drop s) ids ∧ 0 < n ∧ Chain l ids r (s + n) e
theorem Chain.snoc {l : List UInt8} {ids : Int} : ∀ {ps : List (Nat × Nat)} {s e n : Nat}, Chain l ids ps s e → (n : Int) = psz (l.drop e) ids → 0 < n → Chain l ids (ps ++ [(e, n)]) s (e + n)
  | [], s, e, n, h, h1, h2 => by
    have : s = e := h
    subst this
    exact ⟨rfl, h1, h2, rfl⟩
  | (o, m) :: r, s, e, n, h, h1, h2 => ⟨h.1, h.2.1, h.2.2.1, Chain.snoc h.2.2.2 h1 h2⟩
theorem Chain.le {l : List UInt8} {ids : Int} : ∀ {ps : List (Nat × Nat)} {s e : Nat}, Chain l ids ps s e → s + ps.length ≤ e
  | [], s, e, h => by have : s = e := h; simp; omega
  | (o, m) :: r, s, e, h => by have := Chain.le h.2.2.2; have := h.2.2.1; simp; omega
def pval (g : Nat) (x : Nat × Nat) : Value := .slice (some ⟨g, x.1, none⟩) x.2 x.2
def pvals (g : Nat) (ps : List (Nat × Nat)) : List Value := ps.map (pval g)
theorem Sl_drop {w : World} {g o : Nat} {l : List UInt8} (h : Sl w (some ⟨g, 0, none⟩) l) : Sl w (some ⟨g, o, none⟩) (l.drop o) := by
  intro j hj
  have hj' : o + j < l.length := by simp at hj; omega
  obtain ⟨b', off', he, hc⟩ := h (o + j) hj'
  simp only [Option.some.injEq, Addr.mk.injEq] at he
  obtain ⟨rfl, rfl, _⟩ := he
  refine ⟨g, o, rfl, ?_⟩
  rw [Nat.zero_add] at hc
  rw [hc]
  simp
theorem new_slice {w : World} (v : Value) : ∀ j u, [v][j]? = some u → (w.alloc (.cells #[v] 22)).cell? ((⟨w.heap.size, 0, none⟩ : Addr).add j) = some u := by
  intro j u hu
  cases j with
  | zero =>
    simp at hu
    subst hu
    rw [add_none]
    unfold World.cell?
    rw [heap_alloc_new]
    rfl
  | succ j => simp at hu
theorem rows_shape {w : World} {base n : Nat} {v : Value} {xs : List Value} (h : w.ownsRow base 22 1 v n xs) (hn : 0 < n) : ∃ g cap, v = .slice (some ⟨g, 0, none⟩) n cap := by
  obtain ⟨hl, ⟨_, h1⟩ | ⟨g, cap, cur, he, _⟩⟩ := h
  · omega
  · exact ⟨g, cap, he⟩
theorem rows_below {B n : Nat} {w w' : World} {v : Value} {xs : List Value} (h : w.ownsRow B 22 1 v n xs) (hb : Below w.heap.size w w') : w'.ownsRow B 22 1 v n xs := by
  obtain ⟨hl, hc | ⟨g, cap, cur, he, k1, k2, k3⟩⟩ := h
  · exact ⟨hl, .inl hc⟩
  · exact ⟨hl, .inr ⟨g, cap, cur, he, k1, (hb.block g (lt_block k2)).trans k2, k3⟩⟩

/-- the loop's relation: o bytes are cut off -/
structure SR (w w1 wr : World) (l : List UInt8) (ids : Int) (g o : Nat) (ps : List (Nat × Nat)) (po : Option Addr) (pc : Nat) (ro : Option Addr) (rc : Nat) : Prop where
  below : Below w1.heap.size w1 wr
  chain : Chain l ids ps 0 o
  own : wr.ownsRow w1.heap.size 22 1 (.slice po ps.length pc) ps.length (pvals g ps)
  rest : o < l.length → ro = some ⟨g, o, none⟩ ∧ l.length - o ≤ rc
  most : rc ≤ 9223372036854775807

set_option maxRecDepth 10000 in
set_option maxHeartbeats 400000 in
theorem split_any (ao : Option Addr) (l : List UInt8) (cap : Nat) (ids : Int) (w : World) (hs : Sl w ao l) (ht : Tb w) (hl : l.length ≤ 4294967296) (hnil : ao = none → l.length = 0 ∧ cap = 0) :
    Calls Tryd.prog 14 #[.slice ao l.length cap, .int .i64 ids] w fun e w' => ∃ po pc ps g B, e = .returned (.slice po ps.length pc) ∧ w'.ownsRow B 22 1 (.slice po ps.length pc) ps.length (pvals g ps) ∧ Chain l ids ps 0 l.length ∧
      (0 < l.length → Sl w' (some ⟨g, 0, none⟩) l ∧ w.heap.size ≤ g ∧ g < B) ∧ w.heap.size ≤ B ∧ Below w.heap.size w w' := by
  obtain ⟨i0, hi, hz0, hz1, hz2⟩ := info_parts info22
  have HC := mkHid (clone_any ao l l.length cap w hs rfl (by omega) hnil)
  have HT := mkHid ht
  clear hs ht hnil
  go_enter Tryd.func14, Tryd.ntmps14
  go_wp2_with fail
  refine HC.out.mono ?_
  rintro e w1 ⟨oa, cp, rfl, hby, hB⟩
  obtain ⟨ao', c', he, h1, h2, h3, h4, h5⟩ := hby.parts
  simp only [Value.slice.injEq, true_and] at he
  obtain ⟨rfl, rfl⟩ := he
  obtain ⟨g, hg⟩ : ∃ g, 0 < l.length → oa = some ⟨g, 0, none⟩ ∧ w.heap.size ≤ g ∧ g < w1.heap.size := by
    cases oa with
    | none => exact ⟨0, fun h => by have := h1 rfl; omega⟩
    | some ad =>
      obtain ⟨g, rfl, k1, k2⟩ := h5 ad rfl
      exact ⟨g, fun _ => ⟨rfl, k1, k2⟩⟩
  have HG := mkHid hg
  have HB := mkHid hB
  have HSL := mkHid h2
  have HT1 := mkHid (Tb_below HT.out hB (Tb_pos HT.out))
  have H0 : Hid (SR w w1 w1 l ids g 0 [] none 0 oa cp) := ⟨Below.refl _ _, rfl, ⟨rfl, .inl ⟨rfl, rfl⟩⟩, fun h => ⟨(hg h).1, by omega⟩, h4⟩
  clear hby hB h1 h2 h3 h4 h5 hg HC
  go_wp2
  go_loopg [5, 6, 7] (l.length + 1) (fun k p r n wr => ∃ o ps po pc ro rc, o ≤ l.length ∧ k = l.length + 1 - o ∧ p = .slice po ps.length pc ∧ r = .slice ro (l.length - o) rc ∧ Hid (SR w w1 wr l ids g o ps po pc ro rc))
  case atStart => exact ⟨0, [], none, 0, oa, cp, by omega, by omega, rfl, rfl, H0⟩
  case round =>
    obtain ⟨o, ps, po, pc, ro, rc, ho, hk, rfl, rfl, HR⟩ := hrel
    clear H0
    by_cases hlt : o < l.length
    · obtain ⟨hro, hrc⟩ := HR.out.rest hlt
      subst hro
      have hmost := HR.out.most
      have hpos : 0 < l.length := by omega
      obtain ⟨N, hN⟩ : ∃ N : Nat, psz (l.drop o) ids = N := Int.eq_ofNat_of_zero_le (by have := (psz_bounds (l := l.drop o) (ids := ids) (by simp; omega)).1; omega)
      have hb := psz_bounds (l := l.drop o) (ids := ids) (by simp; omega)
      rw [hN, List.length_drop] at hb
      have hb1 : 1 ≤ N := by omega
      have hb2 : N ≤ l.length - o := by omega
      have hcl := HR.out.chain.le
      have P := packet_any (some ⟨g, o, none⟩) (l.drop o) rc ids wr
      rw [List.length_drop, hN] at P
      have HP := mkHid P
      have HN := mkHid hN
      have HSr : Hid (Sl wr (some ⟨g, o, none⟩) (l.drop o)) := by
        have := HSL.out
        rw [(HG.out hpos).1] at this
        exact Sl_drop (o := o) (Sl_below this HR.out.below)
      have HTr := mkHid (Tb_below HT1.out HR.out.below (Tb_pos HT1.out))
      clear P hN hb
      have dz : decide ((0 : Int) < ((l.length - o : Nat) : Int)) = true := decide_eq_true (by omega)
      go_wp2_with fail
      refine (HP.out HSr.out HTr.out (by omega) hrc hmost g o (fun _ => rfl)).mono ?_
      rintro e w2 ⟨rfl, hB2⟩
      have HB2 := mkHid hB2
      have HO2 := mkHid (rows_below HR.out.own hB2)
      clear hB2
      by_cases hcap : rc = N
      · have e1 : ¬ N = 0 := by omega
        go_wp2_with ((at_builtin; refine wpList_append_own _ rfl (.tmp 16) (.tmp 21) 39 rfl w1.heap.size 22 i0 (.slice none 0 0) 1 24 Tryd.underlying39 hi hz0 hz1 hz2 rfl (by decide) (.slice po ps.length pc) ps.length (pvals g ps) rfl (HO2.out.alloc _) ⟨w2.heap.size, 0, none⟩ 1 1 [pval g (o, N)] rfl rfl (new_slice _) (by simp [Value.oneCell', pval]) (by unfold maxLen; omega) (by omega) (by have := HB2.out.size; have := HR.out.below.size; simp; omega) ?_; intro v' w3 hown hgrow hnn; obtain ⟨g', cp', hv'⟩ := rows_shape hown (by omega); subst hv'; have HO3 := mkHid hown; have HG3 := mkHid hgrow; clear hown hgrow hnn))
        go_roundg (l.length + 1 - (o + N))
        case measure => omega
        case rel =>
          refine ⟨o + N, ps ++ [(o, N)], some ⟨g', 0, none⟩, cp', some ⟨g, o, none⟩, 0, by omega, rfl, by simp, by rw [Nat.sub_sub], ?_⟩
          have hB3 : Below w1.heap.size w1 w3 := ((HR.out.below.trans (HB2.out.mono HR.out.below.size)).alloc (by have := HB2.out.size; have := HR.out.below.size; omega) _).grown HG3.out (by have := HB2.out.size; have := HR.out.below.size; simp; omega) (fun k hk => (HO2.out.lt k hk).1)
          refine ⟨hB3, HR.out.chain.snoc HN.out.symm (by omega), ?_, fun h => by omega, by omega⟩
          have := HO3.out
          simp only [List.length_append, List.length_cons, List.length_nil, Nat.zero_add]
          unfold pvals at this ⊢
          rw [List.map_append]
          exact this
      · have e1 : ¬ rc = N := hcap
        have e2 : ¬ N = rc := fun h => hcap h.symm
        go_wp2_with ((at_builtin; refine wpList_append_own _ rfl (.tmp 16) (.tmp 21) 39 rfl w1.heap.size 22 i0 (.slice none 0 0) 1 24 Tryd.underlying39 hi hz0 hz1 hz2 rfl (by decide) (.slice po ps.length pc) ps.length (pvals g ps) rfl (HO2.out.alloc _) ⟨w2.heap.size, 0, none⟩ 1 1 [pval g (o, N)] rfl rfl (new_slice _) (by simp [Value.oneCell', pval]) (by unfold maxLen; omega) (by omega) (by have := HB2.out.size; have := HR.out.below.size; simp; omega) ?_; intro v' w3 hown hgrow hnn; obtain ⟨g', cp', hv'⟩ := rows_shape hown (by omega); subst hv'; have HO3 := mkHid hown; have HG3 := mkHid hgrow; clear hown hgrow hnn))
        go_roundg (l.length + 1 - (o + N))
        case measure => omega
        case rel =>
          refine ⟨o + N, ps ++ [(o, N)], some ⟨g', 0, none⟩, cp', some ⟨g, o + N, none⟩, rc - N, by omega, rfl, by simp, by rw [Nat.sub_sub], ?_⟩
          have hB3 : Below w1.heap.size w1 w3 := ((HR.out.below.trans (HB2.out.mono HR.out.below.size)).alloc (by have := HB2.out.size; have := HR.out.below.size; omega) _).grown HG3.out (by have := HB2.out.size; have := HR.out.below.size; simp; omega) (fun k hk => (HO2.out.lt k hk).1)
          refine ⟨hB3, HR.out.chain.snoc HN.out.symm (by omega), ?_, fun h => ⟨rfl, by omega⟩, by omega⟩
          have := HO3.out
          simp only [List.length_append, List.length_cons, List.length_nil, Nat.zero_add]
          unfold pvals at this ⊢
          rw [List.map_append]
          exact this
    · obtain rfl : o = l.length := by omega
      have dz : l.length - l.length = 0 := Nat.sub_self _
      go_wp2
      go_ret
      refine ⟨po, pc, ps, g, w1.heap.size, rfl, HR.out.own, HR.out.chain, fun h => ?_, HB.out.size, HB.out.trans (HR.out.below.mono HB.out.size)⟩
      have := HSL.out
      rw [(HG.out h).1] at this
      exact ⟨Sl_below this HR.out.below, (HG.out h).2⟩
end Go.Proofs.YtlllejgpmdeeiaaDoor
