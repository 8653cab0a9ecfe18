/- The reader's protos: the walk. -/
import Derived.Test.YtcchlicokglmnaaDp
import Derived.WalkMore
namespace Go.Proofs.Ytcchlicokglmnaa
open Go.ChangeShapes Go.WideShapes Go.ChangeAt Go.RowKit Go.Lib
set_option linter.unusedVariables false

theorem step_appr {P : Program} {ops : Array Oper} {o : Oper} {a : Act} {w : World} {K : Act → World → Prop} {Q : Exit → Act → World → Prop} {E : Prop}
    (hg : o.guard = none) (d x : Operand) (dT sT : TypeId) (hop : o.op = Op.call { callee := Callee.builtin Builtin.append, args := #[d, x], argTypes := #[dT, sT] })
    (v u : Value) (hd : a.eval d = v) (hx : a.eval x = u) {v' : Value} {w' : World} (hr : (Builtin.append_ #[dT, sT] o.type #[v, u]).run P w = .ok v' w') (hK : K (a.put o.dst v') w') :
    if Region.wanted o (yielded ops a.tmps) = true then Oper.wp P o a w K Q else E := by
  have hw : Region.wanted o (yielded ops a.tmps) = true := by simp [Region.wanted, hg]
  rw [if_pos hw]
  unfold Oper.wp
  simp [execOp, hop, resolve, invoke, builtin, hd, hx, hr, Result.andThen]
  exact hK
/-- What protos leaves. -/
def DpE (w : World) (p : Nat) (o : Option Addr) (L : List UInt8) (c : Nat) (q j : Nat) (cs : Array Value) (t : Nat) (x : Sd × List ByteArray) (e : Ending) (w' : World) : Prop :=
  e = .returned (.tuple #[]) ∧ ∃ v, DpS w p o L c q j cs t x.1 x.2 v w'
section
variable {w : World} {p : Nat} {o : Option Addr} {L : List UInt8} {c : Nat} {q j : Nat} {cs : Array Value} {t : Nat} {s : Sd}
set_option maxRecDepth 10000 in
set_option maxHeartbeats 1000000 in
theorem dprotos_c (h : Rr w p o L c s.1 s.2) (hL : L.length ≤ 9223372036854775000) (hq : w.heap[q]? = some (.cells cs t (0, 0))) (hj : cs[j]? = some (.slice none 0 0)) (hqp : q ≠ p) (hqb : ∀ x, o = some x → L ≠ [] → x.block ≠ q) (N : Nat) (hN : N ≤ 1000) :
    Calls Try.prog 65 #[.pointer (some ⟨p, 0, none⟩), .pointer (some ⟨q, j, none⟩), .int .i64 (N : Int)] w (DpE w p o L c q j cs t (dPs L N s [])) := by
  have hjl : j < cs.size := by
    rcases Nat.lt_or_ge j cs.size with h1 | h1
    · exact h1
    · rw [Array.getElem?_eq_none h1] at hj; cases hj
  have hcs : cs.setIfInBounds j (.slice none 0 0) = cs := by
    apply Array.ext
    · simp
    · intro i h1 h2
      rw [Array.getElem_setIfInBounds]
      split
      · rename_i e; subst e
        rw [Array.getElem?_eq_getElem h2] at hj
        exact (Option.some.inj hj).symm
      · rfl
  have HS : Hid (DpS w p o L c q j cs t s [] (.slice none 0 0) w) := ⟨h, by rw [hcs]; exact hq, ⟨rfl, .inl ⟨rfl, rfl⟩⟩, Gs.refl _ _⟩
  have hob : ∀ x, o = some x → L ≠ [] → x.block < w.heap.size := fun x hx hl => by have h1 := h.sl; rw [hx] at h1; exact Sl_lt h1 hl
  have HC : Hid (∀ W s1 ns v, DpS w p o L c q j cs t s1 ns v W → Calls Try.prog 66 #[.pointer (some ⟨p, 0, none⟩), .pointer (some ⟨W.heap.size, 0, none⟩), .int .i64 1] (W.alloc (.cells #[.string ⟨#[]⟩] 9)) (DpR p o L c (dS L 1 s1).1 W.heap.size #[.string ⟨(dS L 1 s1).2.toArray⟩] 9 (W.alloc (.cells #[.string ⟨#[]⟩] 9)))) := fun W s1 ns v hW =>
    dshort_c (hW.rr.bel (bl1 W _)) hL W.heap.size 0 #[.string ⟨#[]⟩] 9 ⟨#[]⟩ (heap_alloc_new W _) rfl (by have := lt_block hW.rr.row; omega) (fun x hx hl hh => by have := hob x hx hl; have := hW.gs.size; omega) 1
  have HD : Hid (∀ W s1 ns v, DpS w p o L c q j cs t s1 ns v W → ns.length ≤ 1000 → ∀ e W2, DpR p o L c (dS L 1 s1).1 W.heap.size #[.string ⟨(dS L 1 s1).2.toArray⟩] 9 (W.alloc (.cells #[.string ⟨#[]⟩] 9)) e W2 → _) := fun W s1 ns v hW hn e W2 hk => hW.step (lt_block h.row) (lt_block hq) hqp hqb hob hjl hn hk
  clear h hq hj hqb hcs hob
  have iN : (N : Int) ≤ 1000 := by omega
  go_enter Try.func65, Try.ntmps65
  go_wp2_with fail
  go_step3
  go_wp2_with fail
  go_step3
  go_wp2_with fail
  go_loopg [8] (N + 1) (fun kx s8 wr => ∃ i : Nat, s8 = .int .i64 (i : Int) ∧ i ≤ N ∧ N - i ≤ kx ∧ Hid (∃ s1 ns v, ns.length = i ∧ DpS w p o L c q j cs t s1 ns v wr ∧ dPs L (N - i) s1 ns = dPs L N s []))
  case atStart => exact ⟨0, rfl, by omega, by omega, s, [], _, rfl, HS.out, rfl⟩
  case round =>
    obtain ⟨i, rfl, hi1, hg, HQ⟩ := hrel
    clear HS
    by_cases hlt : i < N
    · have i1 : (i : Int) < (N : Int) := by omega
      have i1' : decide ((i : Int) < (N : Int)) = true := by simpa using i1
      have i0' : (0 : Int) ≤ (i : Int) := by omega
      have iw : IntKind.i64.wrap ((i : Int) + 1) = ((i + 1 : Nat) : Int) := by rw [IntKind.wrap_i64]; omega
      obtain ⟨s1, ns, v, hns, hst, heq⟩ := HQ.out
      have hnx : N - i = (N - (i + 1)) + 1 := by omega
      rw [hnx] at heq
      have HCC : Hid (Calls Try.prog 66 #[.pointer (some ⟨p, 0, none⟩), .pointer (some ⟨wr.heap.size, 0, none⟩), .int .i64 1] (wr.alloc (.cells #[.string ⟨#[]⟩] 9)) (DpR p o L c (dS L 1 s1).1 wr.heap.size #[.string ⟨(dS L 1 s1).2.toArray⟩] 9 (wr.alloc (.cells #[.string ⟨#[]⟩] 9)))) := HC.out wr s1 ns v hst
      have HDD : Hid _ := HD.out wr s1 ns v hst (by omega)
      have HE : Hid (((dS L 1 s1).1.1 = true → ((dS L 1 s1).1, ns) = dPs L N s []) ∧ ((dS L 1 s1).1.1 = false → dPs L (N - (i + 1)) (dS L 1 s1).1 (ns ++ [⟨(dS L 1 s1).2.toArray⟩]) = dPs L N s [])) := by
        constructor
        · intro hh; rw [← heq]; unfold dPs; rw [if_pos hh]
        · intro hh; rw [← heq, show dPs L (N - (i + 1) + 1) s1 ns = (if (dS L 1 s1).1.1 = true then ((dS L 1 s1).1, ns) else dPs L (N - (i + 1)) (dS L 1 s1).1 (ns ++ [⟨(dS L 1 s1).2.toArray⟩])) from rfl, if_neg (by rw [hh]; decide)]
      have HV : Hid (∃ o c, v = .slice o i c) := by
        obtain ⟨o1, c1, e1, _⟩ := own_shape hst.own
        exact ⟨o1, c1, by rw [e1, hns]⟩
      have HNS : Hid _ := hns
      obtain ⟨ov, cv, rfl⟩ := HV.out
      clear hst heq HQ HC HD hnx HV hns
      generalize (dS L 1 s1).2.toArray = SA at *
      generalize (dS L 1 s1).1 = s2 at *
      go_wp2_with fail
      refine Calls.mono HCC.out ?_
      intro e W2 hk
      obtain ⟨rfl, d1, d2, ⟨d3, d4⟩, ⟨d5, d6⟩, o', c', X3, hrun, d7, d8, d9⟩ := HDD.out e W2 hk
      rw [HNS.out] at hrun d9
      have H1 : Hid _ := d1
      have H9 : Hid _ := d9
      have HR : Hid ((Builtin.append_ #[24, 24] 24 #[.slice ov i cv, .slice (some ⟨W2.heap.size, 0, none⟩) 1 1]).run Try.prog (W2.alloc (.cells #[.string ⟨SA⟩] 9)).drew = .ok (.slice o' (i + 1) c') X3) := hrun
      have e5 : (W2.alloc (.cells #[.string ⟨SA⟩] 9)).cell? ⟨q, j, none⟩ = some (.slice ov i cv) := d5
      have e6 : (W2.alloc (.cells #[.string ⟨SA⟩] 9)).cell? ⟨wr.heap.size, 0, none⟩ = some (.string ⟨SA⟩) := d6
      clear hk HCC HDD d1 d9 hrun d5 d6
      obtain ⟨b2, hb2⟩ : ∃ b2, s2.1 = b2 := ⟨_, rfl⟩
      rw [hb2] at d2 HE
      clear hb2
      cases b2
      · have HE2 : Hid (dPs L (N - (i + 1)) s2 (ns ++ [⟨SA⟩]) = dPs L N s []) := HE.out.2 rfl
        clear HE
        go_wp2_with fail
        go_region_law (refine step_appr rfl (.tmp 20) (.tmp 22) 24 24 rfl _ _ rfl rfl HR.out ?_)
        all_goals
          go_wp2_with fail
          go_roundg (N - (i + 1))
          case measure => omega
          case rel => exact ⟨i + 1, rfl, by omega, Nat.le_refl _, s2, ns ++ [⟨SA⟩], _, by rw [List.length_append, HNS.out]; rfl, H9.out, HE2.out⟩
      · have HE2 : Hid ((s2, ns) = dPs L N s []) := HE.out.1 rfl
        clear HE HR e5 e6 d7 d8 H9
        go_wp2_with fail
        go_end0
        exact ⟨rfl, _, by rw [← HE2.out]; exact H1.out⟩
    · have i1 : ¬ (i : Int) < (N : Int) := by omega
      have i1' : decide ((i : Int) < (N : Int)) = false := by simpa using i1
      go_wp2_with fail
      go_end0
      obtain ⟨s1, ns, v, hns, hst, heq⟩ := HQ.out
      have hz : N - i = 0 := by omega
      rw [hz] at heq
      exact ⟨rfl, v, by rw [← heq]; exact hst⟩
end
end Go.Proofs.Ytcchlicokglmnaa
