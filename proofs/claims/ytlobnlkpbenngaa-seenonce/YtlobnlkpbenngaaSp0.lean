/- seen: what split needs: slices.Insert of one part, and what it leaves of the numbers. -/
import Derived.Test.YtlobnlkpbenngaaJn
import Derived.Test.YtlobnlkpbenngaaFg
namespace Go.Proofs.YtlobnlkpbenngaaR
open Go.RowKit Go.Shelf Go.Lib
set_option linter.unusedVariables false

theorem two_alloc (W : World) (o1 o2 : Obj) : ((W.alloc o1).alloc o2).drew.heap[W.heap.size]? = some o1 ∧ ((W.alloc o1).alloc o2).drew.heap[W.heap.size + 1]? = some o2 ∧ Below W.heap.size W ((W.alloc o1).alloc o2).drew := by
  refine ⟨?_, ?_, ⟨rfl, rfl, rfl, by simp <;> omega, fun k hk => ?_⟩⟩
  · show ((W.alloc o1).alloc o2).heap[W.heap.size]? = _
    rw [Below.heap_alloc _ _ _ (by simp)]; exact World.alloc_heap_new W _
  · show ((W.alloc o1).alloc o2).heap[W.heap.size + 1]? = _
    have := World.alloc_heap_new (W.alloc o1) o2
    rwa [World.size_alloc] at this
  · show ((W.alloc o1).alloc o2).heap[k]? = _
    rw [Below.heap_alloc _ _ _ (by simp <;> omega), Below.heap_alloc _ _ _ hk]

/-- Insert of one part. -/
theorem ins_c (g c V vc n i : Nat) (L1 L2 : List (Int × Nat)) (x : Int × Nat) (R Y : List Value) (w : World) (h1 : L1.length = i) (hL : i + L2.length = n) (hA : YtlobnlkpbenngaaP.At w g (YtlobnlkpbenngaaP.fl (L1 ++ L2) ++ R)) (hR : R.length + n * 2 = c * 2) (hcm : c ≤ maxLen) (hv : YtlobnlkpbenngaaP.At w V (YtlobnlkpbenngaaP.fl [x] ++ Y)) (hV : V ≠ g) (hsm : n < 68719476736) :
    Calls Try.prog 58 #[.slice (some ⟨g, 0, none⟩) n c, .int .i64 (i : Int), .slice (some ⟨V, 0, none⟩) 1 vc] w (YtlobnlkpbenngaaP.Out w (some ⟨g, 0, none⟩) (L1 ++ x :: L2)) := by
  rw [show L1 ++ x :: L2 = L1 ++ [x] ++ L2 by simp]
  rcases Nat.eq_zero_or_pos L2.length with h2 | h2
  · obtain rfl := List.length_eq_zero_iff.1 h2
    simp only [List.append_nil] at hA ⊢
    obtain rfl : i = n := by simpa using hL
    by_cases hroom : i + 1 ≤ c
    · exact YtlobnlkpbenngaaP.insert_end_room g c V vc 1 i L1 [x] R Y w h1 rfl (by omega) hA (by omega) hcm hv hroom
    · exact YtlobnlkpbenngaaP.insert_end_grow (some ⟨g, 0, none⟩) c V vc 1 i L1 [x] Y w h1 rfl (by omega) (.inr ⟨g, R, rfl, hA, by rw [h1]; omega⟩) hv (by omega) (by omega)
  · rw [YtlobnlkpbenngaaP.fl_append] at hA
    by_cases hroom : n + 1 ≤ c
    · exact YtlobnlkpbenngaaP.insert_shift g c V vc 1 n i L1 L2 [x] R Y w h1 hL h2 rfl (by omega) hA hR hcm hv hV hroom (by omega)
    · exact YtlobnlkpbenngaaP.insert_grow g c V vc 1 n i L1 L2 [x] R Y w h1 hL h2 rfl (by omega) hA hR hv (by omega) (by omega)

/-- A part is put in. -/
theorem Nu.ins {n₀ : Nat} {W w3 : World} {M G c g' c' : Nat} {A1 : List Pt} {b : Pt} {B : List Pt} (h : Nu n₀ W M G c (A1 ++ B)) (hn₀ : n₀ ≤ W.heap.size) (hb : My n₀ W b.T b.o b.L) (hap : ∀ x ∈ A1 ++ B, Apart x b) (hRs : YtlobnlkpbenngaaP.Rs w3 (some ⟨g', 0, none⟩) c' ((A1 ++ b :: B).map Pt.p)) (hcm : c' ≤ maxLen) (hc : Chg (fun k => k = G) W w3) (hg : g' = G ∨ W.heap.size ≤ g') :
    w3.cell? ⟨M, 0, none⟩ = some (.slice (some ⟨G, 0, none⟩) (A1 ++ B).length c) ∧ w3.frozen? ⟨M, 0, none⟩ = false ∧ Nu n₀ (w3.setCell ⟨M, 0, none⟩ (.slice (some ⟨g', 0, none⟩) (A1 ++ b :: B).length c')) M g' c' (A1 ++ b :: B) ∧ Kp n₀ W (w3.setCell ⟨M, 0, none⟩ (.slice (some ⟨g', 0, none⟩) (A1 ++ b :: B).length c')) := by
  obtain ⟨R, hA0, hR0⟩ := h.row
  have hMG : M ≠ G := by
    rintro rfl
    have := h.head.symm.trans hA0
    simp at this
  have hM : w3.heap[M]? = some (.cells #[.slice (some ⟨G, 0, none⟩) (A1 ++ B).length c] 76 (0, 0)) := (hc.2.2.2.2 M h.lt.1 hMG).trans h.head
  have hMg : g' ≠ M := by
    rcases hg with rfl | hg
    · exact Ne.symm hMG
    · have := h.lt.1; omega
  have hc2 : Chg (fun k => k = G ∨ k = M) W (w3.setCell ⟨M, 0, none⟩ (.slice (some ⟨g', 0, none⟩) (A1 ++ b :: B).length c')) := by
    rw [setCell_eq_setRow w3 M 0 _ 76 (0, 0) _ hM]
    exact (hc.mono (fun k _ hk => .inl hk)).set M _ (.inl (.inr rfl))
  have keep : ∀ a : Pt, My n₀ W a.T a.o a.L → My n₀ (w3.setCell ⟨M, 0, none⟩ (.slice (some ⟨g', 0, none⟩) (A1 ++ b :: B).length c')) a.T a.o a.L := by
    intro a hmy
    obtain ⟨⟨Y, hY⟩, hr⟩ := hmy.row
    refine hmy.chg hc2 ?_ ?_
    · rintro (e | e)
      · rw [e] at hY; have := hY.symm.trans hA0; simp at this
      · rw [e] at hY; have := hY.symm.trans h.head; simp at this
    · rintro g hg (e | e)
      · obtain ⟨Z, hZ⟩ := hr g hg
        rw [e] at hZ; have := hZ.symm.trans hA0; simp at this
      · obtain ⟨Z, hZ⟩ := hr g hg
        rw [e] at hZ; have := hZ.symm.trans h.head; simp at this
  refine ⟨by simp [World.cell?, hM], by simp [World.frozen?, hM], ⟨?_, ?_, hcm, fun a ha => ?_, ?_, h.hM, ?_⟩, ?_⟩
  · rw [setCell_eq_setRow w3 M 0 _ 76 (0, 0) _ hM, setRow_heap w3 M _ _ 76 (0, 0) hM]
    simp
  · rcases hRs with ⟨e, _⟩ | ⟨g, R', e, hA, hR⟩
    · cases e
    · obtain rfl : g' = g := by simpa using e
      refine ⟨R', ?_, by simpa using hR⟩
      rw [setCell_eq_setRow w3 M 0 _ 76 (0, 0) _ hM]
      exact (setRow_other w3 M g' _ hMg).trans hA
  · rcases List.mem_append.1 ha with ha | ha
    · exact keep a (h.sets a (List.mem_append_left _ ha))
    · rcases List.mem_cons.1 ha with rfl | ha
      · exact keep _ hb
      · exact keep a (h.sets a (List.mem_append_right _ ha))
  · have hp := List.pairwise_append.1 h.apart
    refine List.pairwise_append.2 ⟨hp.1, List.pairwise_cons.2 ⟨fun y hy => ?_, hp.2.1⟩, fun x hx y hy => ?_⟩
    · have := hap y (List.mem_append_right _ hy)
      exact ⟨fun e => this.1 e.symm, fun g e e' => this.2 g e' e⟩
    · rcases List.mem_cons.1 hy with rfl | hy
      · exact hap x (List.mem_append_left _ hx)
      · exact hp.2.2 x hx y hy
  · rcases hg with rfl | hg
    · exact h.hG
    · omega
  · refine Kp.chg hc2 (fun k hk hx => ?_)
    rcases hx with rfl | rfl
    · exact ⟨h.hG, _, 73, hA0, .inr (.inl rfl)⟩
    · exact ⟨h.hM, _, 76, h.head, .inl rfl⟩

theorem Ok_take {L : List (Int × Int)} (h : Ok L) (k : Nat) : Ok (L.take k) := ⟨h.1.sublist (List.take_sublist _ _), fun p hp => h.2 p (List.mem_of_mem_take hp)⟩
theorem Ok_drop {L : List (Int × Int)} (h : Ok L) (k : Nat) : Ok (L.drop k) := ⟨h.1.sublist (List.drop_sublist _ _), fun p hp => h.2 p (List.mem_of_mem_drop hp)⟩
/-- Which numbers stand ahead of a span, and from it on. -/
theorem In_half {L : List (Int × Int)} (h : Ok L) (H : Nat) (f l0 : Int) (hf : L[H]? = some (f, l0)) (n : Int) : (In n (L.take H) ↔ In n L ∧ ¬ (f ≤ n ∧ n ≤ 4611686018427387903)) ∧ (In n (L.drop H) ↔ In n L ∧ f ≤ n) := by
  obtain ⟨lh, eh⟩ := List.getElem?_eq_some_iff.1 hf
  have e : L = L.take H ++ L.drop H := (List.take_append_drop H L).symm
  have hO := h
  rw [e] at hO
  obtain ⟨_, _, hx⟩ := Ok_append.1 hO
  have hd : (f, l0) ∈ L.drop H := by
    rw [← eh, List.mem_iff_getElem?]
    exact ⟨0, by rw [List.getElem?_drop, Nat.add_zero, List.getElem?_eq_getElem lh]⟩
  have hlow : ∀ p ∈ L.take H, p.2 < f := fun p hp => by have := hx p hp (f, l0) hd; simp only at this; omega
  have hhigh : ∀ p ∈ L.drop H, f ≤ p.1 := by
    intro p hp
    obtain ⟨j, hj⟩ := List.mem_iff_getElem?.1 hp
    rw [List.getElem?_drop] at hj
    obtain ⟨lj, ej⟩ := List.getElem?_eq_some_iff.1 hj
    rcases Nat.eq_zero_or_pos j with rfl | hj0
    · simp only [Nat.add_zero] at ej
      rw [eh] at ej
      rw [← ej]
      exact Int.le_refl _
    · have := List.pairwise_iff_getElem.1 h.1 H (H + j) lh lj (by omega)
      rw [eh, ej] at this
      have := (h.2 (f, l0) (eh ▸ List.getElem_mem lh)).2.1
      simp only at *
      omega
  have hin : In n L ↔ In n (L.take H) ∨ In n (L.drop H) := by
    conv => lhs; rw [e]
    exact In_append n _ _
  constructor
  · rw [hin]
    constructor
    · rintro ⟨p, hp, q1, q2⟩
      exact ⟨.inl ⟨p, hp, q1, q2⟩, by have := hlow p hp; omega⟩
    · rintro ⟨h1 | ⟨p, hp, q1, q2⟩, hn⟩
      · exact h1
      · have := hhigh p hp
        have := h.2 p (List.mem_of_mem_drop hp)
        omega
  · rw [hin]
    constructor
    · rintro ⟨p, hp, q1, q2⟩
      exact ⟨.inr ⟨p, hp, q1, q2⟩, by have := hhigh p hp; omega⟩
    · rintro ⟨⟨p, hp, q1, q2⟩ | h1, hn⟩
      · have := hlow p hp; omega
      · exact h1
end Go.Proofs.YtlobnlkpbenngaaR
