/- LedgerOnce: what an act leaves. -/
import Derived.Test.YtkjcapmhjhnckaaOS
namespace Go.Proofs.Ytkjcapmhjhnckaa
open Go.RowKit Go.Maps Go.Shelf
set_option linter.unusedVariables false
set_option maxRecDepth 100000

/-- Behind an act: the result lies in B8. -/
def Cu (w : World) (B B8 i : Nat) (o : Option Addr) (c : Nat) (D : List Int) (b : Int) (X : World) : Prop :=
  ∃ (A : Ad) (L : Ls) (o1 : Option Addr) (c1 : Nat) (ps : List Pk) (o2 : Option Addr) (c2 : Nat) (qs : List Pk) (sa sd : Int), A.b = B ∧ OnW w A L (i + 2) o c D X ∧ OnF L (i + 2) D (ps ++ qs) ∧ b = L.z + ssum (ps ++ qs) ∧ X.heap[B8]? = some (.cells (rv o1 ps.length c1 o2 qs.length c2 sa sd) 40 (0, 0)) ∧ Pr X o1 c1 ps ∧ Pr X o2 c2 qs
/-- Ahead of an act: its box B7, the result's B8. -/
structure OnB (w : World) (A : Ad) (L : Ls) (i : Nat) (o : Option Addr) (c : Nat) (D : List Int) (B7 B8 : Nat) (r : ActR) (X : World) : Prop where
  s : OnW w A L (i + 1) o c D X
  f : OnF L (i + 1) D []
  b7 : X.heap[B7]? = some (.cells r.cs.toArray 32 (0, 0))
  b8 : X.heap[B8]? = some (.cells (rv none 0 0 none 0 0 0 0) 40 (0, 0))
  n7 : ¬ A.own B7
  n8 : ¬ A.own B8
  g8 : w.heap.size ≤ B8
  sr : Sr w r.la r.S
section
variable {w X Y : World} {A A' : Ad} {L L' : Ls} {i : Nat} {o : Option Addr} {c : Nat} {D : List Int} {B7 B8 : Nat} {r : ActR}
theorem cu_of (h : OnW w A' L' (i + 2) o c D Y) {ps qs : List Pk} (hf : OnF L' (i + 2) D (ps ++ qs)) {o1 o2 : Option Addr} {c1 c2 : Nat} {sa sd : Int} {cs : Array Value} (hb : Y.heap[B8]? = some (.cells cs 40 (0, 0))) (hn : ¬ A'.own B8) (hg : w.heap.size ≤ B8) (p1 : Pr Y o1 c1 ps) (p2 : Pr Y o2 c2 qs) {b : Int} (hz : b = L'.z + ssum (ps ++ qs)) :
    Cu w A'.b B8 i o c D b (Y.setRow B8 (rv o1 ps.length c1 o2 qs.length c2 sa sd)) := by
  have hc : Chg (fun k => k = B8) Y (Y.setRow B8 (rv o1 ps.length c1 o2 qs.length c2 sa sd)) := Chg.setRow _ _ rfl
  have ht : ∀ {e : TypeId} {k : Nat} {oo : Option Addr} {n cc : Nat} {xs : List Value}, e ≠ 40 → Rw e k Y oo n cc xs → ¬ Blk oo B8 := by
    intro e k oo n cc xs he hr hj
    obtain ⟨Z, hz⟩ := Rw.ty hr hj
    rw [hb] at hz
    simp at hz
    exact he hz.2.symm
  exact ⟨A', L', o1, c1, ps, o2, c2, qs, sa, sd, rfl, h.other hc hg hn (ht (by decide) h.td), hf, hz, setRow_heap Y B8 _ _ 40 (0, 0) hb, Rw.chg p1 hc (fun j hj e => ht (by decide) p1 (e ▸ hj)), Rw.chg p2 hc (fun j hj e => ht (by decide) p2 (e ▸ hj))⟩
theorem cu_none (h : OnB w A L i o c D B7 B8 r X) : Cu w A.b B8 i o c D L.z X :=
  ⟨A, L, none, 0, [], none, 0, [], 0, 0, rfl, h.s.mono (by omega), h.f.mono (by omega), by simp [ssum], h.b8, Pr.nil _, Pr.nil _⟩
theorem act_res (h : OnB w A L i o c D B7 B8 r X) {ps qs : List Pk} {sa sd x : Int} {e : Ending} (hr : (x ≠ 0 → No1 X A L x e Y) ∧ (x = 0 → Yes1 X A ps qs sa sd L' e Y)) (hok : x = 0 → L'.ok (i + 1)) (hT : L'.T = L.T) (hp : (ons L.O).Perm ((ps ++ qs) ++ ons L'.O)) :
    ∃ (o1 : Option Addr) (n1 c1 : Nat) (o2 : Option Addr) (n2 c2 : Nat) (s1 s2 x : Int), e = .returned (.tuple #[.agg (rv o1 n1 c1 o2 n2 c2 s1 s2), .int .i64 x]) ∧ Y.heap[B8]? = some (.cells (rv none 0 0 none 0 0 0 0) 40 (0, 0)) ∧ Cu w A.b B8 i o c D L.z (Y.setRow B8 (rv o1 n1 c1 o2 n2 c2 s1 s2)) := by
  by_cases hx : x = 0
  · obtain ⟨A', o1, c1, o2, c2, rfl, hm, hl, hs, p1, p2, _, _⟩ := hr.2 hx
    have k8 := hs.keep h.b8 h.n8
    have hw := (h.s.step hl (hok hx) hs (by rw [hm]; exact h.s.m)).mono (M' := i + 2) (by omega)
    have hf := h.f.tell (L' := L') (P := ps ++ qs) (M' := i + 2) h.s.ok hp hT (by omega)
    refine ⟨o1, ps.length, c1, o2, qs.length, c2, sa, sd, 0, rfl, k8.1, ?_⟩
    rw [← hs.b]
    exact cu_of hw hf k8.1 k8.2 h.g8 p1 p2 (tell_z h.s.ok (hok hx) hp)
  · obtain ⟨rfl, hl, hs⟩ := hr.1 hx
    have k8 := hs.keep h.b8 h.n8
    have hw := (h.s.step hl h.s.ok hs h.s.m).mono (M' := i + 2) (by omega)
    refine ⟨none, 0, 0, none, 0, 0, 0, 0, x, rfl, k8.1, ?_⟩
    exact cu_of (ps := []) (qs := []) hw (h.f.mono (by omega)) k8.1 k8.2 h.g8 (Pr.nil _) (Pr.nil _) (by simp [ssum])
theorem act_sent (h : OnB w A L i o c D B7 B8 r X) {p : Pk} {e : Ending} (hi : i ≤ 3900000000000) (hr : SnR X A L p e Y) :
    e = .returned (.int .i64 (snt L p)) ∧ Y.heap[B7]? = some (.cells r.cs.toArray 32 (0, 0)) ∧ (snt L p ≠ 0 → Cu w A.b B8 i o c D L.z Y) ∧ (snt L p = 0 → Cu w A.b B8 i o c D (L.z + p.s) Y ∧ 0 ≤ p.s ∧ p.s ≤ 65535) := by
  obtain ⟨rfl, hn, hy⟩ := hr
  by_cases hx : snt L p = 0
  · obtain ⟨A', hm, hl, hs⟩ := hy hx
    have k8 := hs.keep h.b8 h.n8
    have k7 := hs.keep h.b7 h.n7
    refine ⟨rfl, k7.1, fun q => absurd hx q, fun _ => ⟨⟨A', L.sent p, none, 0, [], none, 0, [], 0, 0, hs.b, ?_, h.f.sent h.s.ok hx, ?_, k8.1, Pr.nil _, Pr.nil _⟩, ?_⟩⟩
    · exact h.s.step hl (sent_ok h.s.ok hx (by omega)) hs (by rw [hm]; have := h.s.m; omega)
    · show L.z + p.s = L.z + p.s + 0
      omega
    · have := (snt_zero hx).1
      have h1 := this.s0
      have h2 := this.s1
      omega
  · obtain ⟨hl, hs⟩ := hn hx
    have k8 := hs.keep h.b8 h.n8
    have k7 := hs.keep h.b7 h.n7
    refine ⟨rfl, k7.1, fun _ => ?_, fun q => absurd q hx⟩
    exact ⟨A, L, none, 0, [], none, 0, [], 0, 0, rfl, (h.s.step hl h.s.ok hs h.s.m).mono (by omega), h.f.mono (by omega), by simp [ssum], k8.1, Pr.nil _, Pr.nil _⟩
theorem act_clear (h : OnB w A L i o c D B7 B8 r X) {e : Ending} (hr : ClR X A L e Y) :
    ∃ (o1 : Option Addr) (n1 c1 : Nat), e = .returned (.slice o1 n1 c1) ∧ Y.cell? ⟨B8, 1, none⟩ = some (.slice none 0 0) ∧ Y.frozen? ⟨B8, 1, none⟩ = false ∧ Cu w A.b B8 i o c D L.z (Y.setCell ⟨B8, 1, none⟩ (.slice o1 n1 c1)) := by
  obtain ⟨A', o1, c1, rfl, hm, hl, hs, p1, _⟩ := hr
  have k8 := hs.keep h.b8 h.n8
  have hp : (ons L.O).Perm (([] ++ ons L.O) ++ ons L.clr.O) := by
    have : ons L.clr.O = [] := rfl
    rw [this, List.append_nil, List.nil_append]
  have hw := (h.s.step hl (clr_ok h.s.ok) hs (by rw [hm]; exact h.s.m)).mono (M' := i + 2) (by omega)
  have hf := h.f.tell (L' := L.clr) (P := [] ++ ons L.O) (M' := i + 2) h.s.ok hp rfl (by omega)
  refine ⟨o1, (ons L.O).length, c1, rfl, by simp [World.cell?, k8.1, rv], by simp [World.frozen?, k8.1], ?_⟩
  rw [← hs.b, setCell_eq_setRow Y B8 1 _ 40 (0, 0) _ k8.1]
  have := cu_of (o1 := none) (c1 := 0) (sa := 0) (sd := 0) hw hf k8.1 k8.2 h.g8 (Pr.nil _) p1 (tell_z h.s.ok (clr_ok h.s.ok) hp)
  exact this
/-- Spans stay as they lie. -/
theorem OnB.spans (h : OnB w A L i o c D B7 B8 r X) : ∀ Y, Chg A.own X Y → Sr Y r.la r.S := fun Y hY =>
  h.sr.bel (h.s.bel.trans (hY.toBelow h.s.bel.size fun k hk hA => by have := h.s.new k hA; omega))
theorem OnB.acked (h : OnB w A L i o c D B7 B8 r X) (hi : i ≤ 3900000000000) (hS : r.S.length ≤ 9223372036854775807) (now late : Int) :
    Calls Try.prog 12 #[.pointer (some ⟨A.b, 0, none⟩), .slice r.la r.S.length r.cap, .int .i64 now, .int .i64 late] X fun e Y => ∃ (o1 : Option Addr) (n1 c1 : Nat) (o2 : Option Addr) (n2 c2 : Nat) (s1 s2 x : Int), e = .returned (.tuple #[.agg (rv o1 n1 c1 o2 n2 c2 s1 s2), .int .i64 x]) ∧ Y.heap[B8]? = some (.cells (rv none 0 0 none 0 0 0 0) 40 (0, 0)) ∧ Cu w A.b B8 i o c D L.z (Y.setRow B8 (rv o1 n1 c1 o2 n2 c2 s1 s2)) := by
  refine (acked_c h.s.lg h.s.ok (by omega) r.la r.cap r.S h.spans hS now late).mono fun e Y hr => ?_
  refine act_res h hr (fun hx => ?_) rfl (arr_pass_perm L r.S now late)
  have h1 : wrg L now late (aa r.S) = 0 := by
    unfold wra at hx
    split at hx
    · rename_i h1; exact absurd hx h1
    · rename_i h1; exact Classical.byContradiction fun h => h1 h
  obtain ⟨⟨t0, t1⟩, _⟩ := wrg_zero h1
  exact arr_pass_ok h.s.ok r.S now late t0 t1
theorem OnB.passed (h : OnB w A L i o c D B7 B8 r X) (now late : Int) :
    Calls Try.prog 15 #[.pointer (some ⟨A.b, 0, none⟩), .int .i64 now, .int .i64 late] X fun e Y => ∃ (o1 : Option Addr) (n1 c1 : Nat) (o2 : Option Addr) (n2 c2 : Nat) (s1 s2 x : Int), e = .returned (.tuple #[.agg (rv o1 n1 c1 o2 n2 c2 s1 s2), .int .i64 x]) ∧ Y.heap[B8]? = some (.cells (rv none 0 0 none 0 0 0 0) 40 (0, 0)) ∧ Cu w A.b B8 i o c D L.z (Y.setRow B8 (rv o1 n1 c1 o2 n2 c2 s1 s2)) := by
  refine (passed_c h.s.lg h.s.ok now late).mono fun e Y hr => ?_
  refine act_res h hr (fun hx => ?_) rfl (pass_perm L now late)
  obtain ⟨⟨t0, t1⟩, _⟩ := wrg_zero hx
  have ho := h.s.ok
  exact pass_ok ho.fit ho.lenO ho.lenT ho.d0 ho.d1 ho.up ho.tb ho.top now late t0 t1
/-- What the walk needs behind the act. -/
theorem Cu.two {b : Int} (h : Cu w B7 B8 i o c D b X) (hi : i ≤ 3900000000000) :
    ∃ (A : Ad) (L : Ls) (P : List Pk) (o1 : Option Addr) (n1 c1 : Nat) (o2 : Option Addr) (n2 c2 : Nat) (g off c' : Nat) (Y : World) (g2 off2 c3 : Nat) (Z : World), A.b = B7 ∧ OnW w A L (i + 2) o c D X ∧ OnF L (i + 2) D P ∧ b = L.z + ssum P ∧ P.length = n1 + n2 ∧
      X.cell? ⟨B8, 0, none⟩ = some (.slice o1 n1 c1) ∧ X.cell? ⟨B8, 1, none⟩ = some (.slice o2 n2 c2) ∧
      (Builtin.append_ #[38, 38] 38 #[.slice (some ⟨X.heap.size, 0, none⟩) 0 0, .slice o1 n1 c1]).run Try.prog (X.drew.alloc (.cells #[] 29)) = .ok (.slice (some ⟨g, off, none⟩) n1 c') Y ∧
      (Builtin.append_ #[38, 38] 38 #[.slice (some ⟨g, off, none⟩) n1 c', .slice o2 n2 c2]).run Try.prog Y = .ok (.slice (some ⟨g2, off2, none⟩) (n1 + n2) c3) Z ∧
      Below X.heap.size X Y ∧ Below X.heap.size X Z ∧ Pr Z (some ⟨g2, off2, none⟩) c3 P := by
  obtain ⟨A, L, o1, c1, ps, o2, c2, qs, sa, sd, hb, hw, hf, hz, h8, p1, p2⟩ := h
  have hd : Below X.heap.size X X.drew := (Below.refl _ X).drew
  have hlen := hf.len
  rw [List.length_append] at hlen
  obtain ⟨g, off, c', Y, g2, off2, c3, Z, a1, a2, a3, a4, a5⟩ := two_run (p1.bel hd) (p2.bel hd) (by omega)
  exact ⟨A, L, ps ++ qs, o1, ps.length, c1, o2, qs.length, c2, g, off, c', Y, g2, off2, c3, Z, hb, hw, hf, hz, by simp, by simp [World.cell?, h8, rv], by simp [World.cell?, h8, rv], a1, a2, hd.trans a3, hd.trans a4, a5⟩
end
end Go.Proofs.Ytkjcapmhjhnckaa
