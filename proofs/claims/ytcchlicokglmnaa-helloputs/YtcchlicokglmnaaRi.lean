/- The reference's body, all kinds. -/
import Derived.Test.YtcchlicokglmnaaRg
import Derived.Test.YtcchlicokglmnaaRh
namespace Go.Proofs.Ytcchlicokglmnaa
open Go.ChangeShapes Go.WideShapes Go.ChangeAt Go.RowKit Go.Lib
set_option linter.unusedVariables false

section
variable {w : World} {m : Msg}
theorem hs1 (hok : m.ok w) : (∀ X, Rm w m X → Sl X (some ⟨w.heap.size, 1, none⟩) m.random) ∧ (∀ X, Rm w m X → Sl X (some ⟨w.heap.size, 17, none⟩) m.share) ∧ (∀ X, Rm w m X → Sl X (some ⟨w.heap.size, 37, none⟩) m.binder) ∧ (∀ X, Rm w m X → Sl X (some ⟨w.heap.size, 55, none⟩) m.mark) :=
  ⟨fun X h => (Msg.hs hok.ln h.row).1, fun X h => (Msg.hs hok.ln h.row).2.1, fun X h => (Msg.hs hok.ln h.row).2.2.1, fun X h => (Msg.hs hok.ln h.row).2.2.2⟩
theorem fm_len : ∀ (Ns : List ByteArray), Ns.all nmB = true → (Ns.flatMap encS).length ≤ 256 * Ns.length := by
  intro Ns
  induction Ns with
  | nil => intro _; simp
  | cons S t ih =>
    intro h
    simp only [List.all_cons, Bool.and_eq_true] at h
    have := ih h.2
    have h1 := (nm_iff S).1 h.1
    have e : (encS S).length = S.size + 1 := by simp [encS]
    simp only [List.flatMap_cons, List.length_append, List.length_cons, e]
    omega
theorem rbody_c (hok : m.ok w) (hk : isK m.kind = true) (hm : mayB m = true) : Calls Try.prog 21 #[.agg m.cells.toArray] w (RbR w m (bodyS m).1) := by
  obtain ⟨h1, h17, h37, h55⟩ := hs1 hok
  have hr := hok.ln.r; have hs := hok.ln.s; have hb := hok.ln.b; have hmk := hok.ln.k
  rcases of_decide_eq_true hk with hk | hk | hk | hk | hk | hk | hk
  · -- a client
    have hm' := hm
    unfold mayB at hm'
    rw [if_pos hk] at hm'
    simp only [Bool.and_eq_true, decide_eq_true_eq, pro_iff, Bool.or_eq_true] at hm'
    obtain ⟨g1, ⟨g2, g3, g4⟩, g5, g6, g7⟩ := hm'
    obtain ⟨b0, f0, hpo, _⟩ := hok.nm 0 (by omega)
    have hfm := fm_len m.protos g2
    have hfi : ∀ i, ((m.protos.take i).flatMap encS).length ≤ 2048 := fun i => by
      have := fm_len (m.protos.take i) (by rw [List.all_eq_true] at g2 ⊢; exact fun x hx => g2 x (List.mem_of_mem_take hx))
      have h2 : (m.protos.take i).length ≤ 8 := by rw [List.length_take]; omega
      omega
    have hS : ∀ i (h : i < m.protos.length), m.protos[i].size ≤ 255 := fun i h => by
      rw [List.all_eq_true] at g2
      have := (nm_iff _).1 (g2 _ (List.getElem_mem h))
      omega
    have e4 : ∀ X : List UInt8, X ++ [UInt8.ofNat m.name.size] ++ m.name.data.toList = X ++ encS m.name := fun X => by simp [encS]
    have en : (encS m.name).length ≤ 256 := by simp [encS]; have : m.name.data.size = m.name.size := rfl; omega
    have l2 : ([] ++ m.random ++ m.share : List UInt8).length = 32 := by simp [hr, hs]
    have l4 : ([] ++ m.random ++ m.share ++ encS m.name ++ [UInt8.ofNat m.protos.length] : List UInt8).length ≤ 300 := by simp only [List.length_append] at l2 ⊢; simp; omega
    obtain ⟨L4, hL4⟩ : ∃ L4, [] ++ m.random ++ m.share ++ encS m.name ++ [UInt8.ofNat m.protos.length] = L4 := ⟨_, rfl⟩
    rw [hL4] at l4
    have hcli : cliL m = L4 ++ m.protos.flatMap encS ++ encL m.params ++ [UInt8.ofNat (bitN (decide (0 < m.ticket.length)) 1 + bitN m.early 2)] := by rw [← hL4]; simp [cliL]
    have s3 : Cx3 w m ([] ++ m.random ++ m.share) ([] ++ m.random ++ m.share ++ encS m.name) m.name := by have := cp_x (w := w) (m := m) ([] ++ m.random ++ m.share) m.name (by omega); rw [e4] at this; exact this
    have s4 : Ab w m ([] ++ m.random ++ m.share ++ encS m.name) L4 m.protos.length := by rw [← hL4]; exact ab_x _ _ _ (by rw [UInt8.toNat_ofNat']; omega) (by simp only [List.length_append] at l2 ⊢; omega)
    have sp : ∀ i (h : i < m.protos.length), Cp w m (L4 ++ (m.protos.take i).flatMap encS) (L4 ++ (m.protos.take (i + 1)).flatMap encS) 33 [.string m.protos[i]] := fun i h => by
      have e : L4 ++ (m.protos.take (i + 1)).flatMap encS = L4 ++ (m.protos.take i).flatMap encS ++ [UInt8.ofNat m.protos[i].size] ++ m.protos[i].data.toList := by
        rw [List.take_succ_eq_append_getElem h, List.flatMap_append]
        simp only [List.flatMap_cons, List.flatMap_nil, List.append_nil, List.append_assoc]
        rfl
      rw [e]
      exact cp_s _ _ (by have := hfi i; have := hS i h; simp only [List.length_append]; omega)
    have s6 : Cp w m (L4 ++ (m.protos.take m.protos.length).flatMap encS) (L4 ++ m.protos.flatMap encS ++ encL m.params) 35 [.slice m.ao m.params.length m.ac] := by
      rw [List.take_length]
      have := cp_l (w := w) (m := m) (L4 ++ m.protos.flatMap encS) m.params m.ao m.ac hok.pa hok.pn (by simp only [List.length_append]; omega)
      have e : L4 ++ m.protos.flatMap encS ++ [UInt8.ofNat (m.params.length / 256), UInt8.ofNat m.params.length] ++ m.params = L4 ++ m.protos.flatMap encS ++ encL m.params := by simp [encL]
      rw [e] at this
      exact this
    have lp : (L4 ++ m.protos.flatMap encS ++ encL m.params).length ≤ 10000 := by simp only [List.length_append, encL, List.length_cons, List.length_nil]; omega
    rw [body1 m hk hm]
    by_cases ht : 0 < m.ticket.length
    · rw [if_pos ht]
      have s7 : Cp w m (L4 ++ m.protos.flatMap encS ++ encL m.params) (cliL m) 34 [.bool true, .bool m.early] := by
        rw [hcli, decide_eq_true ht]; exact cp_f _ true m.early (by omega)
      have lc : (cliL m).length ≤ 10001 := by rw [hcli, List.length_append]; simp only [List.length_cons, List.length_nil]; omega
      have s8 : Cp w m (cliL m) (cliL m ++ encL m.ticket) 35 [.slice m.to m.ticket.length m.tc] := by
        have := cp_l (w := w) (m := m) (cliL m) m.ticket m.to m.tc hok.ti hok.tn (by omega)
        have e : cliL m ++ [UInt8.ofNat (m.ticket.length / 256), UInt8.ofNat m.ticket.length] ++ m.ticket = cliL m ++ encL m.ticket := by simp [encL]
        rw [e] at this
        exact this
      exact rb1t hok hk b0 f0 hpo (by omega) ht _ _ _ _ (fun i => L4 ++ (m.protos.take i).flatMap encS) _ _ _ _ (by simp) (ap_h hok.ln [] m.random 1 h1 hr (by simp)) (ap_h hok.ln ([] ++ m.random) m.share 17 h17 hs (by simp [hr])) s3 s4 sp s6 s7 s8 (ap_h hok.ln _ m.binder 37 h37 hb (by simp only [List.length_append, encL, List.length_cons, List.length_nil]; omega)) _ rfl
    · rw [if_neg ht]
      have s7 : Cp w m (L4 ++ m.protos.flatMap encS ++ encL m.params) (cliL m) 34 [.bool false, .bool m.early] := by
        rw [hcli, decide_eq_false ht]; exact cp_f _ false m.early (by omega)
      exact rb1n hok hk b0 f0 hpo (by omega) (by omega) _ _ _ _ (fun i => L4 ++ (m.protos.take i).flatMap encS) _ _ [] [] (by simp) (ap_h hok.ln [] m.random 1 h1 hr (by simp)) (ap_h hok.ln ([] ++ m.random) m.share 17 h17 hs (by simp [hr])) s3 s4 sp s6 s7 _ rfl
  · rw [(body2 m hk).2]
    exact rb2 hok hk _ _ _ (ap_h hok.ln [] m.random 1 h1 hr (by simp)) (ap_h hok.ln ([] ++ m.random) m.share 17 h17 hs (by simp [hr])) (cp_f _ m.again false (by simp [hr, hs])) _ (by simp [bitN])
  · obtain ⟨S, hS, e⟩ := (body8 m hk).1 hm
    have hm' := hm
    have e1 : mayB m = (proB m.protos 1 && decide (m.params.length ≤ 4096)) := by simp [mayB, hk]
    rw [e1] at hm'
    simp only [Bool.and_eq_true, decide_eq_true_eq, pro_iff] at hm'
    have hall := hm'.1.1
    rw [hS] at hall
    simp only [List.all_cons, List.all_nil, Bool.and_true] at hall
    have hsz := (nm_iff S).1 hall
    obtain ⟨b0, f0, hpo, hc0⟩ := hok.nm 0 (by rw [hS]; simp)
    have hg : m.protos[0]'(by rw [hS]; simp) = S := by simp [hS]
    rw [hg] at hc0
    rw [e]
    refine rb8 hok hk b0 f0 S hpo (by rw [hS]; rfl) (by simpa using hc0) _ _ _ (cp_s [] S (by simp; omega)) (cp_l _ m.params m.ao m.ac hok.pa hok.pn ?_) (cp_f _ m.early false ?_) _ (by simp [bitN, encS, encL])
    · simp only [List.length_append, List.length_nil, List.length_cons]
      have : S.data.toList.length = S.size := rfl
      omega
    · simp only [List.length_append, List.length_nil, List.length_cons]
      have : S.data.toList.length = S.size := rfl
      omega
  · have e1 : mayB m = decide (m.name.size ≤ 255) := by simp [mayB, hk]
    rw [e1] at hm
    have hn := of_decide_eq_true hm
    rw [(body11 m hk).1 (by rw [e1]; exact hm)]
    refine rb11 hok hk _ _ (cp_s [] m.name (by simp; omega)) (ap_h hok.ln _ m.mark 55 h55 hmk ?_) _ (by simp [encS])
    simp only [List.length_append, List.length_nil, List.length_cons]
    have : m.name.data.toList.length = m.name.size := rfl
    omega
  · rw [(body15 m (.inl hk)).2]
    exact rb15 hok hk _ (ap_h hok.ln [] m.mark 55 h55 hmk (by simp)) _ (by simp)
  · rw [(body15 m (.inr hk)).2]
    exact rb20 hok hk _ (ap_h hok.ln [] m.mark 55 h55 hmk (by simp)) _ (by simp)
  · obtain ⟨l0, l1, l2, e⟩ := (body4 m hk).1 hm
    rw [e]
    refine rb4 hok hk l0 l1 _ _ _ rfl (cp_l _ m.ticket m.to m.tc hok.ti hok.tn (by rw [be_length]; omega)) (cp_f _ m.early false ?_) _ (by simp [bitN, encL])
    simp only [List.length_append, List.length_nil, List.length_cons, be_length]
    omega
theorem rput (m : Msg) (w : World) (hok : m.ok w) (h63 : m.protos.length ≤ 9223372036854775806) : Calls Try.prog 9 #[.agg m.cells.toArray] w (PutR m w) :=
  rput_c m w hok h63 fun X hX hk hm => rbody_c hX hk hm
end
end Go.Proofs.Ytcchlicokglmnaa
