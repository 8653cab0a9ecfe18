/- A message as it lies, and what a putter makes of it. -/
import Derived.Test.YtcchlicokglmnaaHl
import Derived.Test.YtcchlicokglmnaaHh
import Derived.Test.YtcchlicokglmnaaHf
import Derived.Test.YtcchlicokglmnaaHp
import Derived.Test.YtcchlicokglmnaaWc
import Derived.Test.YtcchlicokglmnaaKd
namespace Go.Proofs.Ytcchlicokglmnaa
open Go.ChangeShapes Go.WideShapes Go.ChangeAt Go.RowKit Go.Lib
set_option linter.unusedVariables false

structure Msg where
  kind : Int
  random : List UInt8
  share : List UInt8
  name : ByteArray
  po : Option Addr
  protos : List ByteArray
  pc : Nat
  ao : Option Addr
  params : List UInt8
  ac : Nat
  to : Option Addr
  ticket : List UInt8
  tc : Nat
  binder : List UInt8
  early : Bool
  again : Bool
  mark : List UInt8
  life : Int
def Msg.cells (m : Msg) : List Value :=
  [.int .i64 m.kind] ++ (bc m.random ++ (bc m.share ++ ([.string m.name, .slice m.po m.protos.length m.pc, .slice m.ao m.params.length m.ac, .slice m.to m.ticket.length m.tc] ++ (bc m.binder ++ ([.bool m.early, .bool m.again] ++ (bc m.mark ++ [.int .i64 m.life]))))))
structure Msg.len (m : Msg) : Prop where
  r : m.random.length = 16
  s : m.share.length = 16
  b : m.binder.length = 16
  k : m.mark.length = 16
/-- What a message's fields point to. -/
structure Msg.ok (m : Msg) (w : World) : Prop where
  ln : m.len
  nm : Nms w m.po m.protos
  pa : Sl w m.ao m.params
  ti : Sl w m.to m.ticket
  pn : m.ao = none → m.params.length = 0 ∧ m.ac = 0
  tn : m.to = none → m.ticket.length = 0 ∧ m.tc = 0
  n63 : m.name.size ≤ 9223372036854775807
  p63 : m.protos.length ≤ 9223372036854775807
  s63 : ∀ S ∈ m.protos, S.size ≤ 9223372036854775807
  a63 : m.params.length ≤ 9223372036854775807
  t63 : m.ticket.length ≤ 9223372036854775807
section
variable {m : Msg}
theorem Msg.get (h : m.len) : m.cells[0]? = some (.int .i64 m.kind) ∧ m.cells[33]? = some (.string m.name) ∧ m.cells[34]? = some (.slice m.po m.protos.length m.pc) ∧ m.cells[35]? = some (.slice m.ao m.params.length m.ac) ∧ m.cells[36]? = some (.slice m.to m.ticket.length m.tc) ∧ m.cells[53]? = some (.bool m.early) ∧ m.cells[54]? = some (.bool m.again) ∧ m.cells[71]? = some (.int .i64 m.life) := by
  obtain ⟨h1, h2, h3, h4⟩ := h
  unfold Msg.cells
  refine ⟨?_, ?_, ?_, ?_, ?_, ?_, ?_, ?_⟩ <;> simp [bc_length, h1, h2, h3, h4]
theorem Sl_mid {W : World} {M t : Nat} {pre post : List Value} {h : List UInt8} {off : Nat} (hr : W.heap[M]? = some (.cells (pre ++ (bc h ++ post)).toArray t (0, 0))) (ho : pre.length = off) : Sl W (some ⟨M, off, none⟩) h := by
  intro j hj
  refine ⟨M, off, rfl, ?_⟩
  unfold World.cell?
  rw [hr]
  simp only [List.getElem?_toArray]
  rw [List.getElem?_append_right (by omega), List.getElem?_append_left (by rw [bc_length]; omega)]
  have : off + j - pre.length = j := by omega
  rw [this, bc_get hj]
  rfl
theorem Sl.range {W : World} {M off : Nat} {h : List UInt8} (hs : Sl W (some ⟨M, off, none⟩) h) : W.rangeAt M off (bc h) := by
  intro j v hv
  have hj : j < h.length := by have := (List.getElem?_eq_some_iff.1 hv).1; simpa [bc_length] using this
  obtain ⟨b, o, e, hc⟩ := hs j hj
  cases e
  rw [hc, ← hv, bc_get hj]
/-- The message's handles. -/
theorem Msg.hs {W : World} {M t : Nat} (h : m.len) (hr : W.heap[M]? = some (.cells m.cells.toArray t (0, 0))) : Sl W (some ⟨M, 1, none⟩) m.random ∧ Sl W (some ⟨M, 17, none⟩) m.share ∧ Sl W (some ⟨M, 37, none⟩) m.binder ∧ Sl W (some ⟨M, 55, none⟩) m.mark := by
  obtain ⟨h1, h2, h3, h4⟩ := h
  unfold Msg.cells at hr
  refine ⟨Sl_mid hr rfl, ?_, ?_, ?_⟩
  · rw [← List.append_assoc] at hr
    exact Sl_mid hr (by simp [bc_length, h1])
  · rw [← List.append_assoc, ← List.append_assoc, ← List.append_assoc] at hr
    exact Sl_mid hr (by simp [bc_length, h1, h2])
  · rw [← List.append_assoc, ← List.append_assoc, ← List.append_assoc, ← List.append_assoc, ← List.append_assoc] at hr
    exact Sl_mid hr (by simp [bc_length, h1, h2, h3])
end
/-! What a putter makes of fields. -/
abbrev St := List UInt8 × Bool
def aH (hs : List (List UInt8)) (a : St) : St := (a.1 ++ hs.flatten, a.2)
def aF (n : Nat) (a : St) : St := (a.1 ++ [UInt8.ofNat n], a.2)
def aN (n : Nat) (x least most : Int) (a : St) : St := (a.1 ++ be n (uN x), a.2 || !(decide (least ≤ x ∧ x ≤ most)))
def aL (l : List UInt8) (least most : Int) (a : St) : St := (a.1 ++ be 2 (uN l.length) ++ (if (a.2 || !(decide (least ≤ (l.length : Int) ∧ (l.length : Int) ≤ most))) then [] else l), a.2 || !(decide (least ≤ (l.length : Int) ∧ (l.length : Int) ≤ most)))
def aP (Ns : List ByteArray) (count : Int) (a : St) : St := (if (a.2 || !(decide ((Ns.length : Int) = count))) then a.1 else (prs (a.1, false) Ns).1, if (a.2 || !(decide ((Ns.length : Int) = count))) then true else (prs (a.1, false) Ns).2)
def aM (ok : Bool) (a : St) : St := (a.1, a.2 || !ok)
theorem aH_len (hs : List (List UInt8)) (h : ∀ x ∈ hs, x.length = 16) (a : St) : (aH hs a).1.length = a.1.length + 16 * hs.length := by
  have : hs.flatten.length = 16 * hs.length := by
    induction hs with
    | nil => rfl
    | cons x t ih => simp only [List.flatten_cons, List.length_append, List.length_cons]; rw [h x (by simp), ih (fun y hy => h y (by simp [hy]))]; omega
  simp [aH, this]
theorem aS_len (least : Int) (S : ByteArray) (a : St) : (stp least a S).1.length ≤ a.1.length + 256 := by
  unfold stp
  simp only [List.length_append, be_length]
  split
  · simp
  · rename_i h
    have : decide (least ≤ (S.size : Int) ∧ (S.size : Int) ≤ 255) = true := by
      revert h
      cases a.2 <;> cases decide (least ≤ (S.size : Int) ∧ (S.size : Int) ≤ 255) <;> simp
    have := of_decide_eq_true this
    have e : S.data.toList.length = S.size := rfl
    omega
theorem aL_len (l : List UInt8) (least most : Int) (hm : most ≤ 5000) (a : St) : (aL l least most a).1.length ≤ a.1.length + 5002 := by
  unfold aL
  simp only [List.length_append, be_length]
  split
  · simp
  · rename_i h
    have : decide (least ≤ (l.length : Int) ∧ (l.length : Int) ≤ most) = true := by
      revert h
      cases a.2 <;> cases decide (least ≤ (l.length : Int) ∧ (l.length : Int) ≤ most) <;> simp
    have := of_decide_eq_true this
    omega
theorem aP_len (Ns : List ByteArray) (count : Int) (a : St) (h8 : a.2 = false → (Ns.length : Int) = count → Ns.length ≤ 300) : (aP Ns count a).1.length ≤ a.1.length + 76800 := by
  unfold aP
  simp only
  split
  · omega
  · rename_i h
    have h1 : a.2 = false ∧ decide ((Ns.length : Int) = count) = true := by
      revert h
      cases a.2 <;> cases decide ((Ns.length : Int) = count) <;> simp
    have := h8 h1.1 (of_decide_eq_true h1.2)
    have := prs_len Ns (a.1, false)
    simp only at this
    omega
def bitN (b : Bool) (n : Nat) : Nat := if b then n else 0
/-- The body of a message, and whether it may not be. -/
def bodyS (m : Msg) : St :=
  if m.kind = 1 then
    let s := aF (bitN (decide (0 < m.ticket.length)) 1 + bitN m.early 2) (aL m.params 0 4096 (aP m.protos m.protos.length (aN 1 m.protos.length 1 8 (stp 0 (aH [m.random, m.share] ([], false)) m.name))))
    if 0 < m.ticket.length then aH [m.binder] (aL m.ticket 1 512 s) else aM (!m.early && (m.binder == z16)) s
  else if m.kind = 2 then aF (bitN m.again 1) (aH [m.random, m.share] ([], false))
  else if m.kind = 8 then aF (bitN m.early 1) (aL m.params 0 4096 (aP m.protos 1 ([], false)))
  else if m.kind = 11 then aH [m.mark] (stp 0 ([], false) m.name)
  else if m.kind = 4 then aF (bitN m.early 1) (aL m.ticket 1 512 (aN 4 m.life 0 4294967295 ([], false)))
  else aH [m.mark] ([], false)
end Go.Proofs.Ytcchlicokglmnaa
