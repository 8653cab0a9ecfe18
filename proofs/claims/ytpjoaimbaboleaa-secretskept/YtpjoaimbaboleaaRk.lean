/- The reference's keys: Make, Next. -/
import Derived.Test.YtpjoaimbaboleaaRf
namespace Go.Proofs.Ytpjoaimbaboleaa
open Go.RowKit Go.Shelf Go.Lib
set_option linter.unusedVariables false

/-- Both vaults. -/
structure Rs (W0 w : World) (V : Nat) (L0 : List Tm) (R : Nat) (L : List Tm) : Prop where
  ag : Ag W0 w V L0
  rv : ∃ g c, Rv W0.heap.size w R g c L
/-- Cells that are none of the reference's vault stay. -/
def Kz (w w' : World) : Prop := ∀ (b : Nat) (cs : Array Value) (t : Nat) (fr : Nat × Nat), w.heap[b]? = some (Obj.cells cs t fr) → t ≠ 67 → t ≠ 64 → w'.heap[b]? = some (Obj.cells cs t fr)
theorem Kz.of_bel {w w' : World} (h : Below w.heap.size w w') : Kz w w' := fun b cs t fr hb _ _ => heap_bel hb h
theorem Kz.trans {a b c : World} (h : Kz a b) (k : Kz b c) : Kz a c := fun x cs t fr hb h1 h2 => k x cs t fr (h x cs t fr hb h1 h2) h1 h2
theorem Kz.of_kx {w w' : World} (h : Kx w w') : Kz w w' := fun b cs t fr hb h1 h2 => h b _ hb (fun cs' e => by injection e with _ e _; exact h1 e) (fun cs' e => by injection e with _ e _; exact h2 e)
theorem Kz.set {a b : World} {B : Nat} (h : Kz a b) (hB : a.heap.size ≤ B) (ds : Array Value) : Kz a (b.setRow B ds) := fun x cs t fr hb h1 h2 =>
  (setRow_other _ _ _ _ (by have := (Array.getElem?_eq_some_iff.1 hb).1; omega)).trans (h x cs t fr hb h1 h2)
theorem nboxr (w : World) (G H : List UInt8) : ((w.alloc (.cells (hl G).toArray 28)).setRow w.heap.size (hl H).toArray).heap[w.heap.size]? = some (.cells (hl H).toArray 28 (0, 0)) ∧ Below w.heap.size w ((w.alloc (.cells (hl G).toArray 28)).setRow w.heap.size (hl H).toArray) :=
  ⟨setRow_heap _ _ _ _ 28 (0, 0) (heap_alloc_new w _), bel_set (bel1 w _) (Nat.le_refl _) _⟩
theorem Ag.kx {W0 w w' : World} {V : Nat} {L : List Tm} (h : Ag W0 w V L) (hb : Below W0.heap.size w w') (hk : Kx w w') : Ag W0 w' V L := by
  obtain ⟨G, c, M, hv⟩ := h.va
  obtain ⟨R, r1, r2⟩ := hv.hG
  obtain ⟨es, ck, m1, _⟩ := hv.hM
  have n1 : ∀ (cs cs' : Array Value) (t : Nat) (fr : Nat × Nat), t ≠ 67 → Obj.cells cs t fr ≠ .cells cs' 67 (0, 0) := fun cs cs' t fr h e => by injection e with _ e _; exact h e
  have n2 : ∀ (cs cs' : Array Value) (t : Nat) (fr : Nat × Nat), t ≠ 64 → Obj.cells cs t fr ≠ .cells cs' 64 (0, 0) := fun cs cs' t fr h e => by injection e with _ e _; exact h e
  exact ⟨h.bel.trans hb, G, c, M, hv.keep ((hk _ _ hv.hV (fun cs => n1 _ cs _ _ (by decide)) (fun cs => n2 _ cs _ _ (by decide))).trans hv.hV.symm) ((hk _ _ r1 (fun cs => n1 _ cs _ _ (by decide)) (fun cs => n2 _ cs _ _ (by decide))).trans r1.symm) ((hk M _ m1 (fun cs e => by cases e) (fun cs e => by cases e)).trans m1.symm)⟩
section
variable {W0 w w' : World} {V R : Nat} {L0 L : List Tm}
theorem Rs.go (h : Rs W0 w V L0 R L) (hb : Below w.heap.size w w') : Rs W0 w' V L0 R L := by
  obtain ⟨g, c, hv⟩ := h.rv
  exact ⟨h.ag.go hb, g, c, hv.bel hb⟩
theorem Rs.bel (h : Rs W0 w V L0 R L) : Below W0.heap.size W0 w := h.ag.bel
theorem Rs.setAny (h : Rs W0 w V L0 R L) {B t : Nat} {cs : Array Value} (hB : w.heap[B]? = some (.cells cs t (0, 0))) (h1 : t = 28 ∨ t = 38) (hge : W0.heap.size ≤ B) (ds : Array Value) : Rs W0 (w.setRow B ds) V L0 R L := by
  obtain ⟨g, c, hv⟩ := h.rv
  refine ⟨h.ag.setAny hB (by rcases h1 with rfl | rfl <;> decide) (by rcases h1 with rfl | rfl <;> decide) hge ds, g, c, hv.keep fun b cs' t' hb ht => (setRow_other _ _ _ _ ?_).trans hb⟩
  rintro rfl
  rw [hB] at hb
  injection hb with hb
  injection hb with _ hb _
  subst hb
  rcases h1 with rfl | rfl <;> rcases ht with h | h <;> cases h
/-- Derive of a term that is new. -/
theorem Rs.der (h : Rs W0 w V L0 R L) (hC : ∀ u ∈ L, Cn u) (hle : L.length ≤ 100000) (k : Nat) (hk : k < L.length) (S : ByteArray) (o : Option Addr) (cp : Nat) (l : List UInt8) (hS : Sl w o l) (hn : (⟨2, k, 0, S, ⟨l.toArray⟩⟩ : Tm) ∉ L) :
    Calls Try.prog 51 #[.pointer (some ⟨R, 0, none⟩), hv (nameL k), .string S, .slice o l.length cp] w fun e w' => e = .returned (.tuple #[hv (nameL L.length), .int .i64 0]) ∧ Rs W0 w' V L0 R (L ++ [⟨2, k, 0, S, ⟨l.toArray⟩⟩]) ∧ Kz w w' := by
  obtain ⟨g, c, hv⟩ := h.rv
  refine (rderive_yes hv hle h.ag.bel.size k hk S o cp l hS).mono ?_
  rintro e w' ⟨i, rfl, hm, hK, hB⟩
  rcases hm with ⟨s, a1, a2, _⟩ | ⟨_, rfl, a3⟩
  · have := rc_inj (hC s (List.mem_of_getElem? a1)) ⟨rfl, by simp, .inl rfl⟩ a2
    rw [this] at a1
    exact absurd (List.mem_of_getElem? a1) hn
  · exact ⟨rfl, ⟨h.ag.kx hB hK, a3⟩, Kz.of_kx hK⟩
/-- Derive of one that is there. -/
theorem Rs.der_old (h : Rs W0 w V L0 R L) (hC : ∀ u ∈ L, Cn u) (hle : L.length ≤ 100000) (k : Nat) (hk : k < L.length) (S : ByteArray) (o : Option Addr) (cp : Nat) (l : List UInt8) (hS : Sl w o l) (i0 : Nat) (hn : ∀ i : Nat, L[i]? = some ⟨2, k, 0, S, ⟨l.toArray⟩⟩ ↔ i = i0) :
    Calls Try.prog 51 #[.pointer (some ⟨R, 0, none⟩), hv (nameL k), .string S, .slice o l.length cp] w fun e w' => e = .returned (.tuple #[hv (nameL i0), .int .i64 0]) ∧ Rs W0 w' V L0 R L ∧ Kz w w' := by
  obtain ⟨g, c, hv⟩ := h.rv
  refine (rderive_yes hv hle h.ag.bel.size k hk S o cp l hS).mono ?_
  rintro e w' ⟨i, rfl, hm, hK, hB⟩
  rcases hm with ⟨s, a1, a2, _, a4⟩ | ⟨a1, _⟩
  · have := rc_inj (hC s (List.mem_of_getElem? a1)) ⟨rfl, by simp, .inl rfl⟩ a2
    rw [this] at a1
    obtain rfl := (hn i).1 a1
    exact ⟨rfl, ⟨h.ag.kx hB hK, a4⟩, Kz.of_kx hK⟩
  · exact absurd rfl (a1 _ (List.mem_of_getElem? ((hn i0).2 rfl)))
end
section
variable {ops : Array Oper} {rest : List Oper} {o : Oper} {a : Act} {w : World} {Q : Exit → Act → World → Prop}
end
section
variable {W0 w w' : World} {V R : Nat} {L0 L L1 L2 L3 : List Tm}
end
end Go.Proofs.Ytpjoaimbaboleaa
