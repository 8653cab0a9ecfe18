/- streams: openTo: the peer's streams up to one are opened. -/
import Derived.Test.YtijndpjdmiljkaaGreatDoorSk
namespace Go.Proofs.YtijndpjdmiljkaaGreatDoor
open Go.RowKit Go.Maps
set_option linter.unusedVariables false
set_option maxRecDepth 100000

/-- The table while streams are opened: its map, those that wait, and the stream up to which. -/
structure Ow (srv : Bool) (x y : Lm) (k : Bks) (st : Tst) (w0 : World) (S : Nat) (cs : Array Value) (zs : List Int) (F : Int → Value) (n : Nat) (o : Option Addr) (c : Nat) (X : World) : Prop where
  tb : Tb srv x y k { st with ws := .slice o zs.length c } X
  sm : Sm X k.sb n F
  iy : Iy k.T X (.slice o zs.length c) zs
  sc : Rt 128 cs X S
  ch : Chg (fun j => j = k.T ∨ j = k.sb ∨ (k.T ≤ j ∧ ∃ cs fr, w0.heap[j]? = some (.cells cs 3 fr))) w0 X
section
variable {srv : Bool} {x y : Lm} {k : Bks} {st : Tst} {w0 : World} {S : Nat} {cs : Array Value} {zs : List Int} {F : Int → Value} {n : Nat} {o : Option Addr} {c : Nat} {X Z : World}
theorem Ow.go (h : Ow srv x y k st w0 S cs zs F n o c X) (hb : Below X.heap.size X Z) : Ow srv x y k st w0 S cs zs F n o c Z :=
  ⟨h.tb.go hb, h.sm.kept (hb.block k.sb h.sm.lt), h.iy.bel hb, rt_bel h.sc hb, h.ch.andThen (bel_chg hb) (fun _ _ e => e)⟩
theorem Ow.map_ (h : Ow srv x y k st w0 S cs zs F n o c X) {F' : Int → Value} {n' : Nat} (hs : Sm Z k.sb n' F') (hc : Chg (fun j => j = k.sb) X Z) : Ow srv x y k st w0 S cs zs F' n' o c Z := by
  have hm : ∃ es ck, X.heap[k.sb]? = some (.map es ck) := by
    obtain ⟨D, ⟨es, ck, h1, _⟩, _⟩ := h.sm
    exact ⟨es, ck, h1⟩
  have hr : ∀ {b T : Nat} {cs : Array Value}, Rt T cs X b → Rt T cs Z b := fun {b T cs} hr => by
    refine (hc.2.2.2.2 b hr.lt ?_).trans hr
    rintro rfl
    obtain ⟨es, ck, hm⟩ := hm
    have h' : X.heap[k.sb]? = _ := hr
    rw [hm] at h'
    simp at h'
  refine ⟨⟨hr h.tb.tab, hr h.tb.hg, hr h.tb.ht, hr h.tb.hg0, hr h.tb.ht0, hr h.tb.hg1, hr h.tb.ht1, h.tb.nd⟩, hs, h.iy.keep (fun b hb _ hc3 => ?_), hr h.sc, h.ch.andThen hc (fun j _ e => .inr (.inl e))⟩
  obtain ⟨cs3, h3⟩ := hc3
  exact (hr (T := 3) h3).trans h3.symm
theorem Ow.app (h : Ow srv x y k st w0 S cs zs F n o c X) {zs' : List Int} {o' : Option Addr} {c' : Nat} (hi : Iy k.T Z (.slice o' zs'.length c') zs') (hg : Gi k.T X Z) : Ow srv x y k st w0 S cs zs' F n o' c' (Z.setCell ⟨k.T, 23, none⟩ (.slice o' zs'.length c')) := by
  have hr : ∀ {b T : Nat} {cs : Array Value}, Rt T cs X b → T ≠ 3 → Rt T cs Z b := fun {b T cs} hr hT => by
    refine (hg.block b hr.lt (.inr fun cs' fr e => ?_)).trans hr
    have h' : X.heap[b]? = _ := hr
    rw [e] at h'
    simp only [Option.some.injEq, Obj.cells.injEq] at h'
    exact hT h'.2.1.symm
  have hz := hr h.tb.tab (by decide)
  have nd := h.tb.nd
  simp only [Bks.l, List.nodup_cons, List.mem_cons, not_or] at nd
  obtain ⟨⟨n1, n2, n3, n4, n5, n6, n7, n8, n9, _⟩, ⟨m1, m2, m3, m4, m5, m6, m7, m8, _⟩, ⟨p1, p2, p3, p4, p5, p6, p7, _⟩, _⟩ := nd
  have hs : ∀ {b : Nat}, b ≠ k.T → (Z.setCell ⟨k.T, 23, none⟩ (.slice o' zs'.length c')).heap[b]? = Z.heap[b]? := fun hb => heap_set hz 23 _ hb
  have hm : ∃ es ck, X.heap[k.sb]? = some (.map es ck) := by
    obtain ⟨D, ⟨es, ck, h1, _⟩, _⟩ := h.sm
    exact ⟨es, ck, h1⟩
  have hsb : Z.heap[k.sb]? = X.heap[k.sb]? := hg.block _ h.sm.lt (.inr fun cs fr e => by
    obtain ⟨es, ck, hm⟩ := hm
    rw [e] at hm
    simp at hm)
  refine ⟨⟨hz.set 23 _, (hs (fun e => m1 e)).trans (hr h.tb.hg (by decide)), (hs (fun e => n2 e)).trans (hr h.tb.ht (by decide)), (hs (fun e => p4 e.symm)).trans (hr h.tb.hg0 (by decide)), (hs (fun e => p5 e.symm)).trans (hr h.tb.ht0 (by decide)), (hs (fun e => p6 e.symm)).trans (hr h.tb.hg1 (by decide)), (hs (fun e => p7 e.symm)).trans (hr h.tb.ht1 (by decide)), h.tb.nd⟩, h.sm.kept ((hs (fun e => p1 e.symm)).trans hsb), hi.keep (fun b hb _ hc3 => hs (fun e => ?_)), (hs (fun e => ?_)).trans (hr h.sc (by decide)), ?_⟩
  · subst e
    obtain ⟨cs3, h3⟩ := hc3
    have h' : Z.heap[k.T]? = _ := hz
    rw [h3] at h'
    simp at h'
  · have h1 : X.heap[S]? = _ := h.sc
    have h2 : X.heap[k.T]? = _ := h.tb.tab
    rw [e, h2] at h1
    simp at h1
  · refine (h.ch.andThen (⟨hg.os, hg.tape, hg.output, hg.size, fun b hb hx => hg.block b hb (if hbT : k.T ≤ b then .inr fun cs fr e => hx (.inr (.inr ⟨hbT, cs, fr, e⟩)) else .inl (Nat.lt_of_not_le hbT))⟩ : Chg (fun j => j = k.T ∨ j = k.sb ∨ (k.T ≤ j ∧ ∃ cs fr, X.heap[j]? = some (.cells cs 3 fr))) X Z) ?_).andThen (⟨by rw [setCell_eq_setRow Z k.T 23 _ 89 (0, 0) _ hz]; rfl, by rw [setCell_eq_setRow Z k.T 23 _ 89 (0, 0) _ hz]; rfl, by rw [setCell_eq_setRow Z k.T 23 _ 89 (0, 0) _ hz]; rfl, by rw [setCell_eq_setRow Z k.T 23 _ 89 (0, 0) _ hz]; simp, fun b _ hb => hs hb⟩ : Chg (fun j => j = k.T) Z _) (fun j _ e => .inl e)
    rintro j hj (e | e | ⟨hjT, cs3, fr, e⟩)
    · exact .inl e
    · exact .inr (.inl e)
    · by_cases h1 : j = k.T ∨ j = k.sb ∨ (k.T ≤ j ∧ ∃ cs fr, w0.heap[j]? = some (.cells cs 3 fr))
      · exact h1
      · have := h.ch.2.2.2.2 j hj h1
        exact .inr (.inr ⟨hjT, cs3, fr, this.symm.trans e⟩)
theorem Ow.c13 (h : Ow srv x y k st w0 S cs zs F n o c X) : X.cell? ⟨k.T, 13, none⟩ = some (.map (some k.sb)) := h.tb.c13
theorem Ow.c23 (h : Ow srv x y k st w0 S cs zs F n o c X) : X.cell? ⟨k.T, 23, none⟩ = some (.slice o zs.length c) := h.tb.tab.cell 23
theorem Ow.f23 (h : Ow srv x y k st w0 S cs zs F n o c X) : X.frozen? ⟨k.T, 23, none⟩ = false := h.tb.tab.frozen 23
theorem Ow.c0 (h : Ow srv x y k st w0 S cs zs F n o c X) : X.cell? ⟨k.T, 0, none⟩ = some (.bool srv) := h.tb.tab.cell 0
end
end Go.Proofs.YtijndpjdmiljkaaGreatDoor
