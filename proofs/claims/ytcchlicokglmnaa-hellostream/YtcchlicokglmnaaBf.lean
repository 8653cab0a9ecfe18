/- A message that was read is one that can be put. -/
import Derived.Test.YtcchlicokglmnaaBe
namespace Go.Proofs.Ytcchlicokglmnaa
open Go.ChangeShapes Go.WideShapes Go.ChangeAt Go.RowKit Go.Lib
set_option linter.unusedVariables false

section
variable {L : List UInt8} {s : Sd} {m : Msg}
theorem dS_len (least : Int) (s : Sd) : (dS L least s).2.length ≤ 255 := by
  have h1 := dT_len L (dN L 1 least 255 s).2 (dN L 1 least 255 s).1
  have h2 : (dN L 1 least 255 s).2 ≤ 255 := by
    unfold dN
    simp only
    split
    · omega
    · rename_i h
      simp [nmOk] at h
      omega
  unfold dS
  omega
theorem dPs_len (n : Nat) : ∀ (s : Sd) (ns : List ByteArray), (∀ S ∈ ns, S.size ≤ 255) → (dPs L n s ns).2.length ≤ ns.length + n ∧ ∀ S ∈ (dPs L n s ns).2, S.size ≤ 255 := by
  induction n with
  | zero => intro s ns h; exact ⟨by simp [dPs], h⟩
  | succ n ih =>
    intro s ns h
    unfold dPs
    by_cases hb : (dS L 1 s).1.1 = true
    · rw [if_pos hb]; exact ⟨by simp only; omega, h⟩
    · rw [if_neg hb]
      obtain ⟨h1, h2⟩ := ih (dS L 1 s).1 (ns ++ [⟨(dS L 1 s).2.toArray⟩]) (by
        intro S hS
        rw [List.mem_append, List.mem_singleton] at hS
        rcases hS with hS | rfl
        · exact h S hS
        · exact dS_len 1 s)
      refine ⟨?_, h2⟩
      simp only [List.length_append, List.length_singleton] at h1
      omega
/-- How great the fields are that were read. -/
structure Fit (m : Msg) : Prop where
  name : m.name.size ≤ 255
  protos : m.protos.length ≤ 8
  each : ∀ S ∈ m.protos, S.size ≤ 255
  params : m.params.length ≤ 900000
  ticket : m.ticket.length ≤ 900000
theorem m0_fit (k : Int) : Fit (m0 k) := ⟨by show (0 : Nat) ≤ 255; omega, by show (0 : Nat) ≤ 8; omega, fun S hS => (by cases hS), by show (0 : Nat) ≤ _; omega, by show (0 : Nat) ≤ _; omega⟩
theorem rd_fit {k : Int} (hk : isK k = true) (L : List UInt8) (s : Sd) : Fit (rd k L s).2 := by
  have f := m0_fit k
  rcases of_decide_eq_true hk with rfl | rfl | rfl | rfl | rfl | rfl | rfl
  · have h4 := dPs_len (L := L) (ck3 L s).2 (ck3 L s).1 [] (fun S hS => (by cases hS))
    have h3 : (ck3 L s).2 ≤ 8 := dN_le1 L _
    have hn : (⟨(ck2 L s).2.toArray⟩ : ByteArray).size ≤ 255 := dS_len 0 _
    have hp : (ck4 L s).2.length ≤ 8 := by have : (ck4 L s).2.length ≤ 0 + (ck3 L s).2 := h4.1; omega
    unfold rd
    rw [if_pos rfl]
    split
    · exact ⟨hn, hp, h4.2, dL_len _ _ _ _, dL_len _ _ _ _⟩
    · exact ⟨hn, hp, h4.2, dL_len _ _ _ _, by show (0 : Nat) ≤ _; omega⟩
  · exact ⟨f.name, f.protos, f.each, f.params, f.ticket⟩
  · have h4 := dPs_len (L := L) 1 s [] (fun S hS => (by cases hS))
    exact ⟨f.name, by have : (dPs L 1 s []).2.length ≤ 0 + 1 := h4.1; show (dPs L 1 s []).2.length ≤ 8; omega, h4.2, dL_len _ _ _ _, f.ticket⟩
  · exact ⟨dS_len 0 _, f.protos, f.each, f.params, f.ticket⟩
  · exact ⟨f.name, f.protos, f.each, f.params, f.ticket⟩
  · exact ⟨f.name, f.protos, f.each, f.params, f.ticket⟩
  · exact ⟨f.name, f.protos, f.each, f.params, dL_len _ _ _ _⟩
theorem own_nms {B : Nat} {w : World} {o : Option Addr} {c : Nat} {Ns : List ByteArray} (h : w.ownsRow B 9 1 (.slice o Ns.length c) Ns.length (Ns.map .string)) : Nms w o Ns := by
  obtain ⟨h0, ⟨h1, h2⟩ | ⟨g, cap, cur, e, h1, h2, h3, h4, h5, h6⟩⟩ := h
  · intro j hj; omega
  · injection e with e1 e2 e3
    subst e1
    intro j hj
    refine ⟨g, 0, rfl, ?_⟩
    unfold World.cell?
    rw [h2]
    simp only [Nat.zero_add]
    have : (cur.toList.take (Ns.length * 1))[j]? = (Ns.map Value.string)[j]? := by rw [h6]
    rw [List.getElem?_take_of_lt (by omega)] at this
    rw [← Array.getElem?_toList, this]
    simp [hj]
/-- What was read can be put. -/
theorem ReadM.ok {B : Nat} {M : Msg} {w' : World} (h : ReadM m B M w') (hf : Fit M) : m.ok w' := by
  have f : Fit m.pl := by rw [h.pl]; exact hf
  have f1 : m.name.size ≤ 255 := f.name
  have f2 : m.protos.length ≤ 8 := f.protos
  have f4 : m.params.length ≤ 900000 := f.params
  have f5 : m.ticket.length ≤ 900000 := f.ticket
  exact ⟨h.len, own_nms h.nm, (By.sl h.pa).1, (By.sl h.ti).1, (By.sl h.pa).2, (By.sl h.ti).2, by omega, by omega, fun S hS => by have := f.each S hS; omega, by omega, by omega⟩
theorem m20_ok (w : World) : (m0 20).ok w := ⟨m0_len 20, fun j hj => (by cases hj), fun j hj => (by cases hj), fun j hj => (by cases hj), fun _ => ⟨rfl, rfl⟩, fun _ => ⟨rfl, rfl⟩, by decide, by decide, fun S hS => (by cases hS), by decide, by decide⟩
theorem m20_put : putE (m0 20) = 0 ∧ (putL (m0 20)).length = 20 := by
  have h : putE (m0 20) = 0 := by decide
  refine ⟨h, ?_⟩
  unfold putL
  rw [if_pos h]
  decide
end
end Go.Proofs.Ytcchlicokglmnaa
