/- VaultAgrees: the law's vault and its boxes. -/
import Derived.Test.YthhoknkdmmldbaaHd
import Derived.Test.YthhoknkdmmldbaaVf
import Derived.Test.YthhoknkdmmldbaaNobW
namespace Go.Proofs.Ythhoknkdmmldbaa
open Go.RowKit Go.Shelf Go.Lib
set_option linter.unusedVariables false

/-- The law's vault. -/
structure Ag (W0 w : World) (V : Nat) (L : List Tm) : Prop where
  bel : Below W0.heap.size W0 w
  va : ∃ G c M, Va W0.heap.size w V G c M L
/-- Boxes of handles stay. -/
def Bx (w w' : World) : Prop := ∀ (k : Nat) cs, w.heap[k]? = some (.cells cs 28 (0, 0)) → w'.heap[k]? = some (.cells cs 28 (0, 0))
theorem Bx.of_bel {w w' : World} (h : Below w.heap.size w w') : Bx w w' := fun k cs hk => heap_bel hk h
theorem Bx.of_vc {n₀ V G c M : Nat} {w w' : World} {L : List Tm} (h : Vc V G M w w') (hv : Va n₀ w V G c M L) : Bx w w' := by
  intro k cs hk
  obtain ⟨R, r1, _⟩ := hv.hG
  obtain ⟨es, ck, m1, _⟩ := hv.hM
  refine (h.2.2.2.2 k (Array.getElem?_eq_some_iff.1 hk).1 ?_).trans hk
  rintro (rfl | rfl | rfl)
  · have := cells_ty hv.hV hk; omega
  · have := cells_ty r1 hk; omega
  · rw [m1] at hk; cases hk
section
variable {W0 w w' : World} {V : Nat} {L : List Tm}
theorem Ag.go (h : Ag W0 w V L) (hb : Below w.heap.size w w') : Ag W0 w' V L := by
  obtain ⟨G, c, M, hv⟩ := h.va
  exact ⟨h.bel.trans (hb.mono h.bel.size), G, c, M, hv.bel hb⟩
theorem Ag.set (h : Ag W0 w V L) {B : Nat} {cs : Array Value} (hB : w.heap[B]? = some (.cells cs 28 (0, 0))) (hge : W0.heap.size ≤ B) (ds : Array Value) : Ag W0 (w.setRow B ds) V L := by
  obtain ⟨G, c, M, hv⟩ := h.va
  exact ⟨bel_set h.bel hge _, G, c, M, hv.setBox hB ds⟩
theorem Ag.new (h : Ag W0 w V L) (hle : L.length ≤ 1000000) : Calls Try.prog 20 #[.pointer (some ⟨V, 0, none⟩)] w fun e w' => e = .returned (hv (nameL L.length)) ∧ Ag W0 w' V (L ++ [fr]) ∧ Bx w w' := by
  obtain ⟨G, c, M, hv⟩ := h.va
  refine (fresh_c hv hle).mono ?_
  rintro e w' ⟨rfl, G', c', h1, h2, h3⟩
  exact ⟨rfl, ⟨h.bel.trans (h2.bel hv), G', c', M, h1⟩, Bx.of_vc h2 hv⟩
/-- A term that is new, made. -/
theorem Ag.made_new (h : Ag W0 w V L) {t : Tm} (hn : t ∉ L) {i : Nat} {G c M : Nat} (hv : Va W0.heap.size w V G c M L) (hm : Made W0.heap.size w w' V G M L t i) : i = L.length ∧ Ag W0 w' V (L ++ [t]) ∧ Bx w w' := by
  obtain ⟨G', c', L', a1, a2, a3, a4, a5⟩ := hm
  rcases a5 with rfl | ⟨rfl, hi, _⟩
  · exact absurd (List.mem_of_getElem? a4) hn
  · exact ⟨hi, ⟨h.bel.trans (a2.bel hv), G', c', M, a1⟩, Bx.of_vc a2 hv⟩
theorem Ag.made_old (h : Ag W0 w V L) {t : Tm} (hn : t ∈ L) {i : Nat} {G c M : Nat} (hv : Va W0.heap.size w V G c M L) (hm : Made W0.heap.size w w' V G M L t i) : L[i]? = some t ∧ Ag W0 w' V L ∧ Bx w w' := by
  obtain ⟨G', c', L', a1, a2, a3, a4, a5⟩ := hm
  rcases a5 with rfl | ⟨rfl, hi, hx⟩
  · exact ⟨a4, ⟨h.bel.trans (a2.bel hv), G', c', M, a1⟩, Bx.of_vc a2 hv⟩
  · exact absurd hn hx
theorem Ag.pub (h : Ag W0 w V L) (hle : L.length ≤ 1000000) (k : Nat) (hk : k < L.length) (hn : (⟨3, k, 0, ⟨#[]⟩, ⟨#[]⟩⟩ : Tm) ∉ L) : Calls Try.prog 15 #[.pointer (some ⟨V, 0, none⟩), hv (nameL k)] w fun e w' => e = .returned (.tuple #[hv (nameL L.length), .int .i64 0]) ∧ Ag W0 w' V (L ++ [⟨3, k, 0, ⟨#[]⟩, ⟨#[]⟩⟩]) ∧ Bx w w' := by
  obtain ⟨G, c, M, hv⟩ := h.va
  refine (public_yes hv hle k hk).mono ?_
  rintro e w' ⟨i, rfl, _, hm⟩
  obtain ⟨rfl, h1, h2⟩ := h.made_new hn hv hm
  exact ⟨rfl, h1, h2⟩
theorem Ag.agr (h : Ag W0 w V L) (hle : L.length ≤ 1000000) (k j : Nat) (hk : k < L.length) (s : Tm) (hj : L[j]? = some s) (h3 : s.kd = 3) (a b : Nat) (hab : (a = k ∧ b = s.of' ∧ k ≤ s.of') ∨ (a = s.of' ∧ b = k ∧ s.of' < k)) (hn : (⟨4, a, (b : Int), ⟨#[]⟩, ⟨#[]⟩⟩ : Tm) ∉ L) :
    Calls Try.prog 16 #[.pointer (some ⟨V, 0, none⟩), hv (nameL k), hv (nameL j)] w fun e w' => e = .returned (.tuple #[hv (nameL L.length), .int .i64 0]) ∧ Ag W0 w' V (L ++ [⟨4, a, (b : Int), ⟨#[]⟩, ⟨#[]⟩⟩]) ∧ Bx w w' := by
  obtain ⟨G, c, M, hv⟩ := h.va
  refine (agree_yes hv hle k j hk s hj h3 a b hab).mono ?_
  rintro e w' ⟨i, rfl, _, hm⟩
  obtain ⟨rfl, h1, h2⟩ := h.made_new hn hv hm
  exact ⟨rfl, h1, h2⟩
theorem Ag.agr_old (h : Ag W0 w V L) (hle : L.length ≤ 1000000) (k j : Nat) (hk : k < L.length) (s : Tm) (hj : L[j]? = some s) (h3 : s.kd = 3) (a b : Nat) (hab : (a = k ∧ b = s.of' ∧ k ≤ s.of') ∨ (a = s.of' ∧ b = k ∧ s.of' < k)) (i0 : Nat) (hn : ∀ i, L[i]? = some ⟨4, a, (b : Int), ⟨#[]⟩, ⟨#[]⟩⟩ ↔ i = i0) :
    Calls Try.prog 16 #[.pointer (some ⟨V, 0, none⟩), hv (nameL k), hv (nameL j)] w fun e w' => e = .returned (.tuple #[hv (nameL i0), .int .i64 0]) ∧ Ag W0 w' V L ∧ Bx w w' := by
  obtain ⟨G, c, M, hv⟩ := h.va
  refine (agree_yes hv hle k j hk s hj h3 a b hab).mono ?_
  rintro e w' ⟨i, rfl, _, hm⟩
  obtain ⟨h0, h1, h2⟩ := h.made_old (List.mem_of_getElem? ((hn i0).2 rfl)) hv hm
  obtain rfl := (hn i).1 h0
  exact ⟨rfl, h1, h2⟩
theorem Ag.sig (h : Ag W0 w V L) (hle : L.length ≤ 1000000) (k : Nat) (hk : k < L.length) (o : Option Addr) (cp : Nat) (l : List UInt8) (hS : Sl W0 o l) (hn : (⟨5, k, 0, ⟨#[]⟩, ⟨l.toArray⟩⟩ : Tm) ∉ L) : Calls Try.prog 17 #[.pointer (some ⟨V, 0, none⟩), hv (nameL k), .slice o l.length cp] w fun e w' => e = .returned (.tuple #[hv (nameL L.length), .int .i64 0]) ∧ Ag W0 w' V (L ++ [⟨5, k, 0, ⟨#[]⟩, ⟨l.toArray⟩⟩]) ∧ Bx w w' := by
  obtain ⟨G, c, M, hv⟩ := h.va
  refine (sign_yes hv hle k hk o cp l (hS.bel h.bel)).mono ?_
  rintro e w' ⟨i, rfl, _, hm⟩
  obtain ⟨rfl, h1, h2⟩ := h.made_new hn hv hm
  exact ⟨rfl, h1, h2⟩
theorem Ag.ver (h : Ag W0 w V L) (hle : L.length ≤ 1000000) (j i : Nat) (s : Tm) (hj : L[j]? = some s) (h3 : s.kd = 3) (o : Option Addr) (cp : Nat) (l : List UInt8) (hS : Sl w o l) (hi : L[i]? = some ⟨5, s.of', 0, ⟨#[]⟩, ⟨l.toArray⟩⟩) :
    Calls Try.prog 21 #[.pointer (some ⟨V, 0, none⟩), hv (nameL j), .slice o l.length cp, hv (nameL i)] w fun e w' => e = .returned (.int .i64 0) ∧ Below w.heap.size w w' := by
  obtain ⟨G, c, M, hv⟩ := h.va
  refine (verify_c hv hle j s hj h3 (nameL i) (nameL_len i) o cp l hS).mono ?_
  rintro e w' ⟨⟨i', _, _, rfl⟩ | ⟨h1, rfl⟩, hb⟩
  · exact ⟨rfl, hb⟩
  · exact absurd rfl (h1 i hi)
theorem Ag.ver_no (h : Ag W0 w V L) (hle : L.length ≤ 1000000) (j i : Nat) (s : Tm) (hj : L[j]? = some s) (h3 : s.kd = 3) (o : Option Addr) (cp : Nat) (l : List UInt8) (hS : Sl w o l) (hi : (⟨5, s.of', 0, ⟨#[]⟩, ⟨l.toArray⟩⟩ : Tm) ∉ L) :
    Calls Try.prog 21 #[.pointer (some ⟨V, 0, none⟩), hv (nameL j), .slice o l.length cp, hv (nameL i)] w fun e w' => e = .returned (.int .i64 21) ∧ Below w.heap.size w w' := by
  obtain ⟨G, c, M, hv⟩ := h.va
  refine (verify_c hv hle j s hj h3 (nameL i) (nameL_len i) o cp l hS).mono ?_
  rintro e w' ⟨⟨i', h1, _, rfl⟩ | ⟨h1, rfl⟩, hb⟩
  · exact absurd (List.mem_of_getElem? h1) hi
  · exact ⟨rfl, hb⟩
end
end Go.Proofs.Ythhoknkdmmldbaa
