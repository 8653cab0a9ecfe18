/- ledger: Sent. -/
import Derived.Test.YtkjcapmhjhnckaaAc
import Derived.Deep.RegionWith
import Derived.Deep.RegionLaw
namespace Go.Proofs.Ytkjcapmhjhnckaa
open Go.RowKit Go.Maps Go.Shelf
set_option linter.unusedVariables false
set_option maxRecDepth 100000

/-- What is wrong with a packet. -/
def snt (L : Ls) (p : Pk) : Int := if p.n < 0 ∨ 4611686018427387903 < p.n ∨ ¬ (0 ≤ p.a ∧ p.a ≤ 1125899906842624) ∨ p.s < 1 ∨ 65535 < p.s then 2 else if p.n ≤ top L.T then 13 else if p.a < L.t then 42 else 0
/-- A ledger with a packet more. -/
def Ls.sent (L : Ls) (p : Pk) : Ls := { O := L.O ++ [(p, true)], T := addT L.T p.n, g := L.g, t := p.a, z := L.z + p.s, c := L.c + (if p.e = true then 1 else 0), d := if p.e = true then p.a else L.d }
/-- A number more in the order, and the packet in the map. -/
theorem Lg.grow {X : World} {A : Ad} {L : Ls} (h : Lg X A L) (p : Pk) (hp : p.ok) (hne : ∀ x ∈ L.O, x.1.n ≠ p.n) (hl : L.O.length ≤ 4000000000000) (hm : A.m < 9000000000000000000) :
    ∃ g off c' w3, (Builtin.append_ #[62, 62] 62 #[.slice A.o L.O.length A.oc, .slice (some ⟨X.heap.size, 0, none⟩) 1 1]).run Try.prog (X.alloc (.cells #[.int .i64 p.n] 3)).drew = .ok (.slice (some ⟨g, off, none⟩) (L.O.length + 1) c') w3 ∧
      w3.cell? ⟨A.b, 1, none⟩ = some (.slice A.o L.O.length A.oc) ∧ w3.frozen? ⟨A.b, 1, none⟩ = false ∧ Chg A.own X (w3.setCell ⟨A.b, 1, none⟩ (.slice (some ⟨g, off, none⟩) (L.O.length + 1) c')) ∧
      (w3.setCell ⟨A.b, 1, none⟩ (.slice (some ⟨g, off, none⟩) (L.O.length + 1) c')).cell? ⟨A.b, 0, none⟩ = some (.map (some A.mb)) ∧
      ∃ W5, (Instr.mapUpdate 61 (.map (some A.mb)) (.int .i64 p.n) p.v).run Try.prog (w3.setCell ⟨A.b, 1, none⟩ (.slice (some ⟨g, off, none⟩) (L.O.length + 1) c')).drew = .ok () W5 ∧
        Lg W5 { A with o := some ⟨g, off, none⟩, oc := c', m := A.m + 1 } { L with O := L.O ++ [(p, true)] } ∧ Stp A { A with o := some ⟨g, off, none⟩, oc := c', m := A.m + 1 } X W5 := by
  obtain ⟨i, hq, hz, hi, hby⟩ := info_parts info3
  have hbd : Below X.heap.size X (X.alloc (.cells #[.int .i64 p.n] 3)).drew := (bel1 X _).drew
  have hT : (X.alloc (.cells #[.int .i64 p.n] 3)).drew.heap[X.heap.size]? = some (.cells #[.int .i64 p.n] 3 (0, 0)) := heap_alloc_new X _
  have hs : Src Try.prog 1 62 (.slice (some ⟨X.heap.size, 0, none⟩) 1 1) 1 [.int .i64 p.n] (X.alloc (.cells #[.int .i64 p.n] 3)).drew := Src.ofSlice _ Try.underlying62 ⟨X.heap.size, 0, none⟩ _ 1 [.int .i64 p.n] (by simp) (fun j u hu => by
    rw [Addr.add_lit]
    simp only [World.cell?, hT, Nat.zero_add]
    rw [if_neg (by simp)]
    simpa using hu) (fun u hu => by
      simp only [List.mem_singleton] at hu
      subst hu; rfl)
  obtain ⟨g, off, c', w3, h1, h2, h3, h4, h5⟩ := Rw.append Try.underlying62 hq hz hi hby rfl (Rw.bel h.ord hbd) hs (by omega) (by omega) (by omega)
  have hc : Chg (Blk A.o) X w3 := ((Chg.refl (Blk A.o) X).below hbd).trans h3
  have hb' : w3.heap[A.b]? = some (.cells (L.cs A) 65 (0, 0)) := hc.blk h.hb h.bo
  obtain ⟨w4, hw4⟩ : ∃ w4, w3.setCell ⟨A.b, 1, none⟩ (.slice (some ⟨g, off, none⟩) (L.O.length + 1) c') = w4 := ⟨_, rfl⟩
  have hc4 : Chg (fun j => j = A.b) w3 w4 := by
    rw [← hw4, setCell_eq_setRow w3 A.b 1 _ 65 (0, 0) _ hb']
    exact Chg.setRow _ _ rfl
  have h4b : w4.heap[A.b]? = some (.cells ((L.cs A).setIfInBounds 1 (.slice (some ⟨g, off, none⟩) (L.O.length + 1) c')) 65 (0, 0)) := by
    rw [← hw4, setCell_eq_setRow w3 A.b 1 _ 65 (0, 0) _ hb', setRow_heap w3 A.b _ _ 65 (0, 0) hb']
  have hC4 : Chg A.own X w4 := (hc.mono (fun k _ hk => .inr (.inr (.inl hk)))).andThen hc4 (fun j _ e => .inl e)
  have hmp4 : Mp w4.drew A.mb A.m L.O := h.mp.kept (by
    show w4.heap[A.mb]? = _
    rw [hc4.2.2.2.2 _ (Nat.lt_of_lt_of_le h.mp.lt hc.2.2.2.1) h.bm.symm]
    exact hc.2.2.2.2 _ h.mp.lt h.mo)
  obtain ⟨W5, hput, hm5, hc5⟩ := hmp4.put hp (by omega) hne
  have hord4 : Rw 3 1 w4 (some ⟨g, off, none⟩) (L.O.length + 1) c' (ns L.O ++ [.int .i64 p.n]) := h2.chg hc4 (fun j hj e => by
    obtain ⟨Z, hz⟩ := h2.ty hj
    rw [e, hb'] at hz
    simp at hz)
  have hnew : Blk A.o g ∨ X.heap.size ≤ g := by
    rcases h4 with h4 | h4
    · exact .inl h4
    · right; rw [h4]; show X.heap.size ≤ (X.heap.push _).size; rw [Array.size_push]; omega
  have hgm : g ≠ A.mb := fun e => by
    obtain ⟨Z, hz⟩ := h2.ty (Blk.mk g off none)
    obtain ⟨es, cl, hmm⟩ := h.mp.isMap
    have := hc.blk hmm h.mo
    rw [e, this] at hz
    cases hz
  have c5 : Chg (fun j => j = A.mb) w4 W5 := hc5
  refine ⟨g, off, c', w3, h1 62, by simp [World.cell?, hb', Ls.cs], by simp [World.frozen?, hb'], ?_⟩
  rw [hw4]
  refine ⟨hC4, by simp [World.cell?, h4b, Ls.cs], W5, hput, ⟨?_, hm5, ?_, ?_⟩, rfl, hC4.andThen c5 (fun j _ e => .inr (.inl e)), fun k hk => ?_⟩
  · rw [c5.blk h4b h.bm]
    simp [Ls.cs]
  · have : Rw 3 1 W5 (some ⟨g, off, none⟩) (L.O.length + 1) c' (ns L.O ++ [.int .i64 p.n]) := hord4.chg c5 (fun j hj e => hgm (hj.of ▸ e))
    simpa [ns] using this
  · refine (h.snt.keep (w' := W5) fun k hk => ?_)
    have hks := h.snt.lt hk
    rw [c5.2.2.2.2 k (by have := hC4.2.2.2.1; omega) (fun e => h.ms (e ▸ hk)), hc4.2.2.2.2 k (by have := hc.2.2.2.1; omega) (fun e => h.bs (e ▸ hk)), hc.2.2.2.2 k hks (fun e => h.os e hk)]
  · rcases hk with hk | hk | hk | hk
    · exact .inl (.inl hk)
    · exact .inl (.inr (.inl hk))
    · rw [hk.of]
      rcases hnew with h1 | h1
      · exact .inl (.inr (.inr (.inl h1)))
      · exact .inr h1
    · exact .inl (.inr (.inr (.inr hk)))
end Go.Proofs.Ytkjcapmhjhnckaa
