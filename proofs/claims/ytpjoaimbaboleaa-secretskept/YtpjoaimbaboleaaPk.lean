/- protect: keys; Make. -/
import Derived.Test.YtpjoaimbaboleaaDr
import Derived.Test.YtpjoaimbaboleaaAp
namespace Go.Proofs.Ytpjoaimbaboleaa
open Go.RowKit Go.Shelf Go.Lib
set_option linter.unusedVariables false

/-- Cells that are none of a vault's stay. -/
def Kc (w w' : World) : Prop := ∀ (b : Nat) (cs : Array Value) (t : Nat) (fr : Nat × Nat), w.heap[b]? = some (Obj.cells cs t fr) → t ≠ 43 → t ≠ 62 → w'.heap[b]? = some (Obj.cells cs t fr)
theorem Kc.of_bel {w w' : World} (h : Below w.heap.size w w') : Kc w w' := fun b cs t fr hb _ _ => heap_bel hb h
theorem Kc.trans {a b c : World} (h : Kc a b) (k : Kc b c) : Kc a c := fun x cs t fr hb h1 h2 => k x cs t fr (h x cs t fr hb h1 h2) h1 h2
theorem Kc.of_vc {n₀ V G c M : Nat} {w w' : World} {L : List Tm} (h : Vc V G M w w') (hv : Va n₀ w V G c M L) : Kc w w' := by
  intro b cs t fr hb h1 h2
  obtain ⟨R, r1, _⟩ := hv.hG
  obtain ⟨es, ck, m1, _⟩ := hv.hM
  refine (h.2.2.2.2 b (Array.getElem?_eq_some_iff.1 hb).1 ?_).trans hb
  rintro (rfl | rfl | rfl)
  · rw [hv.hV] at hb; injection hb with hb; injection hb with _ hb _; exact h1 hb.symm
  · rw [r1] at hb; injection hb with hb; injection hb with _ hb _; exact h2 hb.symm
  · rw [m1] at hb; cases hb
section
variable {W0 w w' : World} {V : Nat} {L : List Tm}
theorem Ag.setAny (h : Ag W0 w V L) {B t : Nat} {cs : Array Value} (hB : w.heap[B]? = some (.cells cs t (0, 0))) (h1 : t ≠ 43) (h2 : t ≠ 62) (hge : W0.heap.size ≤ B) (ds : Array Value) : Ag W0 (w.setRow B ds) V L := by
  obtain ⟨G, c, M, hv⟩ := h.va
  obtain ⟨R, r1, _⟩ := hv.hG
  obtain ⟨es, ck, m1, _⟩ := hv.hM
  refine ⟨bel_set h.bel hge _, G, c, M, hv.keep (setRow_other _ _ _ _ ?_) (setRow_other _ _ _ _ ?_) (setRow_other _ _ _ _ ?_)⟩
  · rintro rfl; rw [hv.hV] at hB; injection hB with hB; injection hB with _ hB _; exact h1 hB.symm
  · rintro rfl; rw [r1] at hB; injection hB with hB; injection hB with _ hB _; exact h2 hB.symm
  · rintro rfl; rw [m1] at hB; cases hB
/-- Derive of a term that is new. -/
theorem Ag.der (h : Ag W0 w V L) (hle : L.length ≤ 100000) (k : Nat) (hk : k < L.length) (S : ByteArray) (hS0 : S.size ≠ 0) (hS1 : S.size ≤ 140737488351232) (o : Option Addr) (cp : Nat) (l : List UInt8) (hS : Sl w o l) (hn : (⟨2, k, 0, S, ⟨l.toArray⟩⟩ : Tm) ∉ L) :
    Calls Try.prog 55 #[.pointer (some ⟨V, 0, none⟩), hv (nameL k), .string S, .slice o l.length cp] w fun e w' => e = .returned (.tuple #[hv (nameL L.length), .int .i64 0]) ∧ Ag W0 w' V (L ++ [⟨2, k, 0, S, ⟨l.toArray⟩⟩]) ∧ Kc w w' := by
  obtain ⟨G, c, M, hv⟩ := h.va
  refine (derive_yes hv (by omega) k hk S hS0 (by omega) o cp l hS).mono ?_
  rintro e w' ⟨i, rfl, _, hm⟩
  have hm' := hm
  obtain ⟨rfl, h1, _⟩ := h.made_new hn hv hm
  obtain ⟨G', c', L', a1, a2, _⟩ := hm'
  exact ⟨rfl, h1, Kc.of_vc a2 hv⟩
/-- Derive of one that is there. -/
theorem Ag.der_old (h : Ag W0 w V L) (hle : L.length ≤ 100000) (k : Nat) (hk : k < L.length) (S : ByteArray) (hS0 : S.size ≠ 0) (hS1 : S.size ≤ 140737488351232) (o : Option Addr) (cp : Nat) (l : List UInt8) (hS : Sl w o l) (i0 : Nat) (hn : ∀ i : Nat, L[i]? = some ⟨2, k, 0, S, ⟨l.toArray⟩⟩ ↔ i = i0) :
    Calls Try.prog 55 #[.pointer (some ⟨V, 0, none⟩), hv (nameL k), .string S, .slice o l.length cp] w fun e w' => e = .returned (.tuple #[hv (nameL i0), .int .i64 0]) ∧ Ag W0 w' V L ∧ Kc w w' := by
  obtain ⟨G, c, M, hv⟩ := h.va
  refine (derive_yes hv (by omega) k hk S hS0 (by omega) o cp l hS).mono ?_
  rintro e w' ⟨i, rfl, _, hm⟩
  have hm' := hm
  obtain ⟨h0, h1, _⟩ := h.made_old (List.mem_of_getElem? ((hn i0).2 rfl)) hv hm
  obtain rfl := (hn i).1 h0
  obtain ⟨G', c', L', a1, a2, _⟩ := hm'
  exact ⟨rfl, h1, Kc.of_vc a2 hv⟩
end
section
variable {ops : Array Oper} {rest : List Oper} {o : Oper} {a : Act} {w : World} {Q : Exit → Act → World → Prop}
end
theorem unc {n : Nat} {H : List UInt8} (h : H.length = n + 1) : ∃ x t, H = x :: t ∧ t.length = n := by
  cases H with
  | nil => cases h
  | cons x t => exact ⟨x, t, rfl, by simpa using h⟩
theorem ls16 {H : List UInt8} (h : H.length = 16) : ∃ a0 a1 a2 a3 a4 a5 a6 a7 a8 a9 a10 a11 a12 a13 a14 a15, H = [a0, a1, a2, a3, a4, a5, a6, a7, a8, a9, a10, a11, a12, a13, a14, a15] := by
  obtain ⟨a0, H0, rfl, h0⟩ := unc h
  obtain ⟨a1, H1, rfl, h1⟩ := unc h0
  obtain ⟨a2, H2, rfl, h2⟩ := unc h1
  obtain ⟨a3, H3, rfl, h3⟩ := unc h2
  obtain ⟨a4, H4, rfl, h4⟩ := unc h3
  obtain ⟨a5, H5, rfl, h5⟩ := unc h4
  obtain ⟨a6, H6, rfl, h6⟩ := unc h5
  obtain ⟨a7, H7, rfl, h7⟩ := unc h6
  obtain ⟨a8, H8, rfl, h8⟩ := unc h7
  obtain ⟨a9, H9, rfl, h9⟩ := unc h8
  obtain ⟨a10, H10, rfl, h10⟩ := unc h9
  obtain ⟨a11, H11, rfl, h11⟩ := unc h10
  obtain ⟨a12, H12, rfl, h12⟩ := unc h11
  obtain ⟨a13, H13, rfl, h13⟩ := unc h12
  obtain ⟨a14, H14, rfl, h14⟩ := unc h13
  obtain ⟨a15, H15, rfl, h15⟩ := unc h14
  obtain rfl : H15 = [] := List.length_eq_zero_iff.1 h15
  exact ⟨_, _, _, _, _, _, _, _, _, _, _, _, _, _, _, _, rfl⟩
/-- Labels. -/
abbrev bKey : ByteArray := ⟨#[107, 101, 121]⟩
abbrev bMask : ByteArray := ⟨#[109, 97, 115, 107]⟩
abbrev bNext : ByteArray := ⟨#[110, 101, 120, 116]⟩
abbrev bInit : ByteArray := ⟨#[105, 110, 105, 116, 105, 97, 108]⟩
abbrev bCli : ByteArray := ⟨#[99, 108, 105, 101, 110, 116]⟩
abbrev bSer : ByteArray := ⟨#[115, 101, 114, 118, 101, 114]⟩
/-- A term that is derived of no bytes. -/
abbrev dt (k : Nat) (S : ByteArray) : Tm := ⟨2, k, 0, S, ⟨#[]⟩⟩
section
variable {W0 w w' : World} {V : Nat} {L : List Tm}
end
end Go.Proofs.Ytpjoaimbaboleaa
