/- VaultSeals: what the law's vault opens, tells and hides; Seal of too many bytes. -/
import Derived.Test.YthhoknkdmmldbaaZn
import Derived.Test.YthhoknkdmmldbaaSdW
import Derived.Test.YthhoknkdmmldbaaOp
namespace Go.Proofs.Ythhoknkdmmldbaa
open Go.RowKit Go.Shelf Go.Lib
set_option linter.unusedVariables false

/-- The law's terms. -/
abbrev L4s (n : Int) (la lp : List UInt8) : List Tm := [rt, fr, fr, ⟨6, 1, n, ⟨la.toArray⟩, ⟨lp.toArray⟩⟩]
theorem ba_inj2 {a b : List UInt8} (h : (⟨a.toArray⟩ : ByteArray) = ⟨b.toArray⟩) : a = b := by
  injection h with h
  simpa using congrArg Array.toList h
theorem ba_size (a : List UInt8) : (⟨a.toArray⟩ : ByteArray).size = a.length := by simp [ByteArray.size]
theorem op_iff {n m : Int} {la lb lp l : List UInt8} {k : Nat} {S : ByteArray} : Opens (L4s n la lp) k m lb l S ↔ k = 1 ∧ m = n ∧ lb = la ∧ S = ⟨lp.toArray⟩ ∧ l = zn lp.length 3 := by
  constructor
  · rintro ⟨i, hi, hl⟩
    have hlt := (List.getElem?_eq_some_iff.1 hi).1
    simp at hlt
    rcases (show i = 0 ∨ i = 1 ∨ i = 2 ∨ i = 3 by omega) with rfl | rfl | rfl | rfl
    · simp at hi
    · simp at hi
    · simp at hi
    · simp only [List.getElem?_cons_succ, List.getElem?_cons_zero, Option.some.injEq, Tm.mk.injEq, true_and] at hi
      obtain ⟨h1, h2, h3, h4⟩ := hi
      refine ⟨h1.symm, h2.symm, (ba_inj2 h3).symm, h4.symm, ?_⟩
      rw [← h4, ba_size] at hl
      exact hl
  · rintro ⟨rfl, rfl, rfl, rfl, rfl⟩
    exact ⟨3, rfl, by rw [ba_size]; rfl⟩
theorem small4 {n : Int} {la lp : List UInt8} (h : lp.length ≤ 65536) : Small (L4s n la lp) := by
  intro i t hi h6
  have hm := List.mem_of_getElem? hi
  simp only [List.mem_cons, List.not_mem_nil, or_false] at hm
  rcases hm with rfl | rfl | rfl | rfl
  · cases h6
  · cases h6
  · cases h6
  · rw [ba_size]; exact h
/-- Who sees the sealed text, and whatever names but the key's, does not know the key. -/
theorem kn4_no {n : Int} {la lp : List UInt8} {S : List (List UInt8)} (hS : ∀ b ∈ S, ∀ x ∈ wins b, x = 2 ∨ x = 3) : ¬ Kn (L4s n la lp) S 1 := by
  have key : ∀ x, Kn (L4s n la lp) S x → x = 0 ∨ x = 2 ∨ x = 3 := by
    intro x h
    induction h with
    | root => exact .inl rfl
    | seen hb hx _ => exact .inr (hS _ hb _ hx)
    | made ht h2 h6 hd _ ih =>
      have hm := List.mem_of_getElem? ht
      simp only [List.mem_cons, List.not_mem_nil, or_false] at hm
      rcases hm with rfl | rfl | rfl | rfl <;> simp at h2 h6
    | text ht h6 _ _ _ _ _ ih =>
      have hm := List.mem_of_getElem? ht
      simp only [List.mem_cons, List.not_mem_nil, or_false] at hm
      rcases hm with rfl | rfl | rfl | rfl <;> simp at h6 ih
  intro h
  have := key 1 h
  omega
theorem Spd.none_of {L : List Tm} {S : List (List UInt8)} {k : Nat} {R : List ByteArray} (h : Spd L S k R) (hn : ∀ (j : Nat) (t : Tm), j < k → L[j]? = some t → ¬ (t.kd = 6 ∧ Kn L S j ∧ Kn L S t.of')) : R = [] := by
  induction h with
  | nil => rfl
  | yes _ ht h6 h1 h2 ih => exact absurd ⟨h6, h1, h2⟩ (hn _ _ (by omega) ht)
  | no _ ht hno ih => exact ih fun j t hj h => hn j t (by omega) h
theorem spd4_no {n : Int} {la lp : List UInt8} {S : List (List UInt8)} {R : List ByteArray} (hS : ∀ b ∈ S, ∀ x ∈ wins b, x = 2 ∨ x = 3) (h : Spd (L4s n la lp) S 4 R) : R = [] := by
  refine h.none_of fun j t hj ht => ?_
  have hm := List.mem_of_getElem? ht
  simp only [List.mem_cons, List.not_mem_nil, or_false] at hm
  rcases hm with rfl | rfl | rfl | rfl
  · simp
  · simp
  · simp
  · rintro ⟨_, _, h1⟩; exact kn4_no hS h1
theorem spd4_yes {n : Int} {la lp : List UInt8} {S : List (List UInt8)} {R : List ByteArray} (h1 : Kn (L4s n la lp) S 1) (h3 : Kn (L4s n la lp) S 3) (h : Spd (L4s n la lp) S 4 R) : R = [⟨lp.toArray⟩] := by
  cases h with
  | yes hR ht h6 _ _ =>
    simp at ht
    subst ht
    rw [hR.none_of (fun j t hj ht => by
      rcases (show j = 0 ∨ j = 1 ∨ j = 2 by omega) with rfl | rfl | rfl <;> simp at ht <;> subst ht <;> simp)]
    rfl
  | no _ ht hno =>
    simp at ht
    subst ht
    exact absurd ⟨rfl, h3, h1⟩ hno
theorem se_list2 {n₀ k : Nat} {w : World} {o1 o2 : Option Addr} {c1 c2 : Nat} {l1 l2 : List UInt8} (h1 : By n₀ w o1 c1 l1) (h2 : By n₀ w o2 c2 l2) (hk : w.heap[k]? = some (.cells #[.slice o1 l1.length c1, .slice o2 l2.length c2] 38 (0, 0))) :
    Se n₀ w (some ⟨k, 0, none⟩) [(o1, c1, l1), (o2, c2, l2)] := by
  constructor
  · intro x hx
    simp only [List.mem_cons, List.not_mem_nil, or_false] at hx
    rcases hx with rfl | rfl
    · exact h1
    · exact h2
  · intro jj x hx
    have hl := (List.getElem?_eq_some_iff.1 hx).1
    simp at hl
    rcases (show jj = 0 ∨ jj = 1 by omega) with rfl | rfl
    · simp at hx; subst hx; exact ⟨k, 0, _, rfl, hk, by simp⟩
    · simp at hx; subst hx; exact ⟨k, 0, _, rfl, hk, by simp⟩
theorem se_list1 {n₀ k : Nat} {w : World} {o1 : Option Addr} {c1 : Nat} {l1 : List UInt8} (h1 : By n₀ w o1 c1 l1) (hk : w.heap[k]? = some (.cells #[.slice o1 l1.length c1] 38 (0, 0))) :
    Se n₀ w (some ⟨k, 0, none⟩) [(o1, c1, l1)] := by
  constructor
  · intro x hx
    simp only [List.mem_cons, List.not_mem_nil, or_false] at hx
    subst hx
    exact h1
  · intro jj x hx
    have hl := (List.getElem?_eq_some_iff.1 hx).1
    simp at hl
    subst hl
    simp at hx; subst hx; exact ⟨k, 0, _, rfl, hk, by simp⟩
theorem Gw.bel {w w' : World} {n₀ : Nat} (h : Gw w w' n₀) (hn : n₀ ≤ w.heap.size) : Below n₀ w w' := by
  obtain ⟨row, hg, hr⟩ := h
  exact ⟨hg.os, hg.tape, hg.output, hg.size, fun k hk => hg.block k (by omega) (by intro e; have := (hr k e.symm).1; omega)⟩
set_option maxRecDepth 100000 in
theorem seal_big {n₀ V G c M : Nat} {L : List Tm} {w : World} (h : Va n₀ w V G c M L) (hle : L.length ≤ 1000000) (k : Nat) (hk : k < L.length) (n : Int) (hn : 0 ≤ n) (oa op : Option Addr) (na np ca cp : Nat) (hlp : 65536 < np) :
    Calls Try.prog 18 #[.pointer (some ⟨V, 0, none⟩), hv (nameL k), .int .i64 n, .slice oa na ca, .slice op np cp] w fun e w' => e = .returned (.tuple #[.slice none 0 0, .int .i64 3]) ∧ Below w.heap.size w w' := by
  obtain ⟨b1, b3⟩ := box1 w (nameL k)
  have h1 := h.bel b3
  have HSE : Aside _ := sealer_yes h1 hle k hk n hn
  have HB : Aside _ := b3
  have hs := nameL_len k
  have j1 : (65536 : Int) < (np : Int) := by omega
  have j2 : decide ((65536 : Int) < (np : Int)) = true := by simpa using j1
  clear h1 h b3
  go_enter Try.func18, Try.ntmps18
  go_wp2_with (refine ld28 rfl (.tmp 6) rfl w.heap.size rfl (nameL k) b1 hs ?_)
  refine Calls.mono HSE.out ?_
  rintro e W1 ⟨rfl, hb⟩
  have HB1 : Aside (Below w.heap.size w W1) := HB.out.trans (hb.mono HB.out.size)
  clear hb HSE HB b1
  go_wp2
  go_ret2
  exact ⟨rfl, HB1.out⟩
end Go.Proofs.Ythhoknkdmmldbaa
