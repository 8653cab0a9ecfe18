/- The putter's protos. -/
import Derived.Test.YtcchlicokglmnaaHs
namespace Go.Proofs.Ytcchlicokglmnaa
open Go.ChangeShapes Go.WideShapes Go.ChangeAt Go.RowKit Go.Lib
set_option linter.unusedVariables false

/-- A short text laid. -/
def stp (least : Int) (a : List UInt8 × Bool) (S : ByteArray) : List UInt8 × Bool :=
  (a.1 ++ be 1 (uN S.size) ++ (if (a.2 || !(decide (least ≤ (S.size : Int) ∧ (S.size : Int) ≤ 255))) then [] else S.data.toList), a.2 || !(decide (least ≤ (S.size : Int) ∧ (S.size : Int) ≤ 255)))
/-- Names laid one behind the other. -/
def prs (a : List UInt8 × Bool) (Ns : List ByteArray) : List UInt8 × Bool := Ns.foldl (stp 1) a
theorem stp_len (a : List UInt8 × Bool) (S : ByteArray) : (stp 1 a S).1.length ≤ a.1.length + 256 := by
  unfold stp
  simp only [List.length_append, be_length]
  split
  · simp
  · rename_i h
    have : decide ((1 : Int) ≤ (S.size : Int) ∧ (S.size : Int) ≤ 255) = true := by
      revert h
      cases a.2 <;> cases decide ((1 : Int) ≤ (S.size : Int) ∧ (S.size : Int) ≤ 255) <;> simp
    have := of_decide_eq_true this
    have e : S.data.toList.length = S.size := rfl
    omega
theorem prs_len (Ns : List ByteArray) : ∀ a, (prs a Ns).1.length ≤ a.1.length + 256 * Ns.length := by
  induction Ns with
  | nil => intro a; simp [prs]
  | cons S t ih =>
    intro a
    have h1 := ih (stp 1 a S)
    have h2 := stp_len a S
    have e : prs a (S :: t) = prs (stp 1 a S) t := rfl
    rw [e, List.length_cons]
    omega
theorem prs_snoc (a : List UInt8 × Bool) (Ns : List ByteArray) (S : ByteArray) : prs a (Ns ++ [S]) = stp 1 (prs a Ns) S := by simp [prs]
/-- Names as they lie. -/
def Nms (w : World) (ao : Option Addr) (Ns : List ByteArray) : Prop := ∀ i (h : i < Ns.length), ∃ b off, ao = some ⟨b, off, none⟩ ∧ w.cell? ⟨b, off + i, none⟩ = some (.string Ns[i])
section
variable {w : World} {p B : Nat} {v : Value} {X : List UInt8} {r : Bool}
theorem Gr.nms {w w' : World} (h : Gr p B w w') {ao : Option Addr} {l : List ByteArray} (hs : Nms w ao l) (hb : ∀ a, ao = some a → l ≠ [] → a.block < B ∧ a.block ≠ p) : Nms w' ao l := by
  intro j hj
  obtain ⟨b, off, rfl, hc⟩ := hs j hj
  have hl : l ≠ [] := by rintro rfl; simp at hj
  exact ⟨b, off, rfl, h.cell hc (hb _ rfl hl).2 (.inl (hb _ rfl hl).1)⟩
set_option maxRecDepth 10000 in
set_option maxHeartbeats 1000000 in
theorem protos_c (h : Pu w p B v X r) (hB : B ≤ w.heap.size) (hX : X.length ≤ 800000) (q j : Nat) (ao : Option Addr) (cp : Nat) (Ns : List ByteArray) (hq : w.cell? ⟨q, j, none⟩ = some (.slice ao Ns.length cp)) (hqp : q ≠ p) (hqo : q < B ∨ ∀ cs fr, w.heap[q]? ≠ some (.cells cs 5 fr))
    (hNs : Nms w ao Ns) (hNo : ∀ a, ao = some a → Ns ≠ [] → a.block < B ∧ a.block ≠ p) (h63 : Ns.length ≤ 9223372036854775807) (hS63 : ∀ S ∈ Ns, S.size ≤ 9223372036854775807) (count : Int) (hc8 : r = false → (Ns.length : Int) = count → Ns.length ≤ 300) (bad : Bool) (hbad : (r || !(decide ((Ns.length : Int) = count))) = bad) :
    Calls Try.prog 59 #[.pointer (some ⟨p, 0, none⟩), .pointer (some ⟨q, j, none⟩), .int .i64 count] w (PuR p B (if bad then X else (prs (X, false) Ns).1) (if bad then true else (prs (X, false) Ns).2) w) := by
  have HP : Hid (Pu w p B v X r) := h
  have HM : Hid (∀ b, Calls Try.prog 23 #[.pointer (some ⟨p, 0, none⟩), .bool b] w.drew (MuR p B v X (r || !b) w.drew)) := fun b => must_c' h.drew b
  have HGD : Hid (Gr p B w w.drew) := (Gr.of_below ⟨rfl, rfl, rfl, Nat.le_refl _, fun _ _ => rfl⟩ : Gr p B w w.drew)
  have HQ : Hid _ := hq
  have HNS : Hid (Nms w ao Ns) := hNs
  have HNO : Hid _ := hNo
  have HB : Hid _ := hB
  have H8 : Hid _ := hc8
  have HBD : Hid _ := hbad
  have HS63 : Hid _ := hS63
  have HQO : Hid _ := hqo
  obtain ⟨N, hN⟩ : ∃ N, Ns.length = N := ⟨_, rfl⟩
  rw [hN] at hq h63 HQ H8 HBD
  have HN : Hid _ := hN
  obtain ⟨Y, hY⟩ : ∃ Y, Y = (if bad then X else (prs (X, false) Ns).1) := ⟨_, rfl⟩
  obtain ⟨bd, hbd⟩ : ∃ bd, bd = (if bad then true else (prs (X, false) Ns).2) := ⟨_, rfl⟩
  rw [← hY, ← hbd]
  have HY : Hid _ := hY
  have HD : Hid _ := hbd
  obtain ⟨eq, heq⟩ : ∃ eq, decide ((N : Int) = count) = eq := ⟨_, rfl⟩
  rw [heq] at HBD
  have hbq : ((N : Int) == count) = eq := heq
  have HE : Hid _ := heq
  clear h hNs hNo hB hN hY hbd hc8 hbad hS63 hqo
  as_aux_lemma =>
  go_enter Try.func59, Try.ntmps59
  go_wp2_with fail
  go_region_held3 (fun w' => w'.cell? ⟨q, j, none⟩ = some (.slice ao N cp)) (first | exact HQ1.out | exact hq) (first | (go_at_call 23; refine (HM.out _).mono ?_; rintro e w1 ⟨rfl, hp1, hg1, hc1⟩; have HP1 : Hid (Pu w1 p B v X (r || !eq)) := hp1; have HG1 : Hid (Gr p B w w1) := HGD.out.trans hg1; have HQ1 : Hid (w1.cell? ⟨q, j, none⟩ = some (.slice ao N cp)) := hc1 q j _ hqp HQ.out; clear hp1 hg1 hc1))
  have hq1 := HQ1.out
  rw [HBD.out] at HP1
  have c1 := HP1.out.c1
  clear HM HGD HP HQ HQ1 hq
  cases bad
  · have he : eq = true := by have := HBD.out; cases r <;> cases eq <;> simp_all
    have hr0 : r = false := by have := HBD.out; cases r <;> simp_all
    have hN300 : N ≤ 300 := H8.out hr0 (of_decide_eq_true (heq.trans he))
    clear H8 HE heq he HBD
    go_wp2_with fail
    go_loopg [27] (N + 1) (fun kx s27 wr => ∃ i : Nat, s27 = .int .i64 (i : Int) ∧ i ≤ N ∧ N - i ≤ kx ∧ Hid ((∃ v, Pu wr p B v (prs (X, false) (Ns.take i)).1 (prs (X, false) (Ns.take i)).2) ∧ Gr p B w wr))
    case atStart => exact ⟨0, rfl, by omega, by omega, ⟨v, by simpa [prs] using HP1.out⟩, HG1.out⟩
    case round =>
      obtain ⟨i, rfl, hi1, hg, HQ⟩ := hrel
      clear HP1
      by_cases hlt : i < N
      · have i1 : (i : Int) < (N : Int) := by omega
        have i1' : decide ((i : Int) < (N : Int)) = true := by simpa using i1
        have i0' : (0 : Int) ≤ (i : Int) := by omega
        have iw : IntKind.i64.wrap ((i : Int) + 1) = ((i + 1 : Nat) : Int) := by rw [IntKind.wrap_i64]; omega
        have hl : i < Ns.length := by rw [HN.out]; exact hlt
        obtain ⟨⟨v1, hp1⟩, hg1⟩ := HQ.out
        obtain ⟨b, off, hao, hcell⟩ := hg1.nms HNS.out HNO.out i hl
        subst hao
        obtain ⟨S, hS⟩ : ∃ S, Ns[i] = S := ⟨_, rfl⟩
        rw [hS] at hcell
        have hsS : S.size ≤ 9223372036854775807 := HS63.out S (by rw [← hS]; exact List.getElem_mem _)
        have hlen := prs_len (Ns.take i) (X, false)
        have HNX : Hid (prs (X, false) (Ns.take (i + 1)) = stp 1 (prs (X, false) (Ns.take i)) S) := by
          show _ = _
          rw [List.take_succ_eq_append_getElem hl, hS, prs_snoc]
        have hb2 : Below wr.heap.size wr (wr.alloc (.cells #[.string S] 9)) := (Below.refl _ _).alloc (Nat.le_refl _) _
        have hrow2 := heap_alloc_new wr (.cells #[.string S] 9)
        have HSH : Hid _ := short_c (hp1.below hb2) (Nat.le_trans (Nat.le_trans HB.out hg1.size) hb2.size) (by simp only [List.length_take] at hlen; omega) wr.heap.size 0 S (by unfold World.cell?; rw [hrow2]; rfl) (by have := lt_block hp1.row; omega) (.inr fun cs fr e => by rw [hrow2] at e; cases e) 1 _ rfl hsS
        have HG2 : Hid (Gr p B w (wr.alloc (.cells #[.string S] 9))) := hg1.trans (Gr.of_below hb2)
        clear hp1 hg1 HQ hl hb2 hrow2 hlen hS HS63
        generalize prs (X, false) (Ns.take i) = a at *
        as_aux_lemma =>
        go_wp2_with fail
        generalize wr.alloc (.cells #[.string S] 9) = w2 at *
        refine Calls.mono HSH.out ?_
        rintro e w3 ⟨rfl, hp3, hg3⟩
        have HP3 : Hid (∃ v, Pu w3 p B v (stp 1 a S).1 (stp 1 a S).2) := hp3
        have HG3 : Hid (Gr p B w w3) := HG2.out.trans hg3
        clear hp3 hg3 HSH HG2
        go_wp2_with fail
        go_roundg (N - (i + 1))
        case measure => omega
        case rel => exact ⟨i + 1, rfl, by omega, Nat.le_refl _, by show (∃ v, _) ∧ _; rw [HNX.out]; exact ⟨HP3.out, HG3.out⟩⟩
      · have i1 : ¬ (i : Int) < (N : Int) := by omega
        have i1' : decide ((i : Int) < (N : Int)) = false := by simpa using i1
        go_wp2_with fail
        go_end0
        have hi' : i = Ns.length := by rw [HN.out]; omega
        have := HQ.out
        rw [hi', List.take_length] at this
        rw [HY.out, HD.out]
        exact ⟨rfl, this.1, this.2⟩
  · go_wp2_with fail
    go_end0
    rw [HY.out, HD.out]
    exact ⟨rfl, ⟨v, HP1.out⟩, HG1.out⟩
end
end Go.Proofs.Ytcchlicokglmnaa
