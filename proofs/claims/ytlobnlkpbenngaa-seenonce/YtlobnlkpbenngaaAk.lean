/- seen: Acks, where there is one part. -/
import Derived.Test.YtlobnlkpbenngaaFa
import Derived.Test.YtlobnlkpbenngaaSn
namespace Go.Proofs.YtlobnlkpbenngaaR
open Go.RowKit Go.Shelf Go.Lib
set_option linter.unusedVariables false

attribute [local go_sem] Oper.semAt_some

/-- The spans that have come. -/
def upE (E : Nat → Int × Int) (k : Nat) : List (Int × Int) := (List.range k).map E
@[simp] theorem upE_length (E : Nat → Int × Int) (k : Nat) : (upE E k).length = k := by simp [upE]
theorem upE_succ (E : Nat → Int × Int) (k : Nat) : upE E (k + 1) = upE E k ++ [((E k).1, (E k).2)] := by simp [upE, List.range_succ]

/-- What a push leaves alone. -/
theorem St_push {B l1 g n m c cc : Nat} {oc : Option Addr} {W W' : World} (hB : W.cell? ⟨B, 0, none⟩ = some (.slice oc n cc)) (hc : Chg (fun k => k = B ∨ oc = some ⟨k, 0, none⟩) W W') (hW' : W'.cell? ⟨B, 0, none⟩ = some (.slice (some ⟨g, 0, none⟩) m c)) (hg : some ⟨g, 0, none⟩ = oc ∨ W.heap.size ≤ g) :
    St (fun k => k = B ∨ k = l1) B W W' := by
  refine ⟨hc.1, hc.2.1, hc.2.2.1, hc.2.2.2.1, fun b o hb => ?_⟩
  have hlt := (Array.getElem?_eq_some_iff.1 hb.1).1
  have h1 : ¬ (b = B ∨ oc = some ⟨b, 0, none⟩) := by
    rintro (h | h)
    · exact hb.2.1 (.inl h)
    · exact hb.2.2 _ _ (h ▸ hB)
  refine ⟨(hc.2.2.2.2 b hlt h1).trans hb.1, hb.2.1, fun n' c' e => ?_⟩
  rw [hW'] at e
  obtain ⟨rfl, _⟩ : g = b ∧ _ := by simpa using e
  rcases hg with hg | hg
  · exact h1 (.inr hg.symm)
  · omega

/-- The list that is told, in its box; its row is not the block z. -/
def Lb (w : World) (B z : Nat) (k : Nat) (E : Nat → Int × Int) (W : World) : Prop :=
  ∃ oc cc, W.heap[B]? = some (.cells #[.slice oc k cc] 47 (0, 0)) ∧ Rs W oc cc (upE E k) ∧ cc ≤ maxLen ∧ (∀ g, oc = some ⟨g, 0, none⟩ → w.heap.size ≤ g ∧ g ≠ z)

theorem Rs.chg {X : Nat → Prop} {W W' : World} {o : Option Addr} {c : Nat} {L : List (Int × Int)} (h : Rs W o c L) (hc : ∀ g, o = some ⟨g, 0, none⟩ → W'.heap[g]? = W.heap[g]?) : Rs W' o c L := by
  rcases h with h | ⟨g, R, ho, hA, hR⟩
  · exact .inl h
  · exact .inr ⟨g, R, ho, (hc g ho).trans hA, hR⟩
theorem Rs.row {W : World} {o : Option Addr} {c : Nat} {L : List (Int × Int)} (h : Rs W o c L) : ∀ g, o = some ⟨g, 0, none⟩ → ∃ Y, W.heap[g]? = some (.cells Y 53 (0, 0)) := by
  intro g hg
  rcases h with ⟨h', _⟩ | ⟨q, R, h', hA, _⟩
  · rw [h'] at hg; cases hg
  · rw [h'] at hg
    obtain rfl : q = g := by simpa using hg
    exact ⟨_, hA⟩

set_option maxRecDepth 100000 in
set_option maxHeartbeats 4000000 in
theorem acks_c (n₀ s M G c N : Nat) (v : Svs) (a : Pt) (most : Int) (E : Nat → Int × Int) (w : World) (hs : Sc w s M v) (hnu : Nu n₀ w M G c [a]) (hN : a.L.length = N) (hE : ∀ k, k < N → a.L[N - 1 - k]? = some (E k)) (hsz : N ≤ 65536) (hmost : (N : Int) ≤ most) (hm1 : 1 ≤ most) (hm2 : most ≤ 4611686018427387903) :
    Calls Try.prog 18 #[.pointer (some ⟨s, 0, none⟩), .int .i64 most] w fun e w' => ∃ oc cc, e = .returned (.slice oc N cc) ∧ Rs w' oc cc (upE E N) ∧ Below w.heap.size w w' ∧ (∀ g, oc = some ⟨g, 0, none⟩ → w.heap.size ≤ g) := by
  have hO := (hnu.sets a (by simp)).2.1
  have hE1 : ∀ k, k < N → 0 ≤ (E k).1 ∧ 0 ≤ (E k).2 ∧ (E k).2 ≤ 4611686018427387903 := by
    intro k hk
    have := hO.2 (E k) (List.mem_of_getElem? (hE k hk))
    omega
  have hE2 : ∀ k, k + 1 < N → (E (k + 1)).2 + 1 ≠ (E k).1 := by
    intro k hk
    have q1 := hE k (by omega)
    have q2 := hE (k + 1) hk
    obtain ⟨l1, e1⟩ := List.getElem?_eq_some_iff.1 q1
    obtain ⟨l2, e2⟩ := List.getElem?_eq_some_iff.1 q2
    have := List.pairwise_iff_getElem.1 hO.1 (N - 1 - (k + 1)) (N - 1 - k) l2 l1 (by omega)
    rw [e1, e2] at this
    omega
  have hs2 : Sc (w.alloc (.cells #[.int .i64 most] 3)) s M v := hs.below ((Below.refl _ w).alloc (Nat.le_refl _) _)
  have hnone := none_sc s M v _ hs2
  have ls := hs.lt
  have hml : ¬ most < 1 := by omega
  have hmd : decide (most < 1) = false := by simpa using hm1
  have c1 := hs.cells.2.1
  refine callsIn_wide.1 (callsIn_of_wp_marks (F := Fence.wide) (n := 0) Try.func18 rfl trivial ?_ rfl)
  simp only [Try.ntmps18, List.size_toArray, List.length_cons, List.length_nil, Nat.reduceAdd, Nat.reduceSub, Array.replicate_succ, Array.replicate_zero, List.push_toArray, List.append_toArray, List.nil_append, List.cons_append]
  gi_wp2_with fail
  refine ⟨trivial, rfl, callsIn_wide.2 (hnone.mono ?_)⟩
  rintro e w' ⟨rfl, hw⟩
  subst w'
  have c1' : ((w.alloc (.cells #[.int .i64 most] 3)).alloc (.cells #[.slice none 0 0] 47)).cell? ⟨s, 1, none⟩ = some (.pointer (some ⟨M, 0, none⟩)) := by
    rw [World.cell?_alloc_lt _ _ _ (by show s < _; simp; omega), World.cell?_alloc_lt _ _ _ (by show s < _; omega)]; exact c1
  gi_wp2_with fail
  refine ⟨trivial, rfl, callsIn_wide.2 ((falling32_c _ _).mono ?_)⟩
  rintro e w' ⟨rfl, hw⟩
  subst w'
  gi_wp2
  have hb0 : Below w.heap.size w (((w.alloc (.cells #[.int .i64 most] 3)).alloc (.cells #[.slice none 0 0] 47)).alloc (.cells #[.pointer (some ⟨M, 0, none⟩)] 41)) := (((Below.refl _ w).alloc (Nat.le_refl _) _).alloc (by simp) _).alloc (by simp <;> omega) _
  have z0 : (((w.alloc (.cells #[.int .i64 most] 3)).alloc (.cells #[.slice none 0 0] 47)).alloc (.cells #[.pointer (some ⟨M, 0, none⟩)] 41)).heap.size = w.heap.size + 3 := by simp
  have hBq : (((w.alloc (.cells #[.int .i64 most] 3)).alloc (.cells #[.slice none 0 0] 47)).alloc (.cells #[.pointer (some ⟨M, 0, none⟩)] 41)).heap[w.heap.size]? = some (.cells #[.int .i64 most] 3 (0, 0)) := by
    rw [Below.heap_alloc _ _ _ (by simp <;> omega), Below.heap_alloc _ _ _ (by simp)]; exact World.alloc_heap_new w _
  have hBl : (((w.alloc (.cells #[.int .i64 most] 3)).alloc (.cells #[.slice none 0 0] 47)).alloc (.cells #[.pointer (some ⟨M, 0, none⟩)] 41)).heap[w.heap.size + 1]? = some (.cells #[.slice none 0 0] 47 (0, 0)) := by
    rw [Below.heap_alloc _ _ _ (by simp)]
    have := World.alloc_heap_new (w.alloc (.cells #[.int .i64 most] 3)) (.cells #[.slice none 0 0] 47)
    rwa [World.size_alloc] at this
  have hBm : (((w.alloc (.cells #[.int .i64 most] 3)).alloc (.cells #[.slice none 0 0] 47)).alloc (.cells #[.pointer (some ⟨M, 0, none⟩)] 41)).heap[w.heap.size + 1 + 1]? = some (.cells #[.pointer (some ⟨M, 0, none⟩)] 41 (0, 0)) := by
    have := World.alloc_heap_new ((w.alloc (.cells #[.int .i64 most] 3)).alloc (.cells #[.slice none 0 0] 47)) (.cells #[.pointer (some ⟨M, 0, none⟩)] 41)
    rwa [World.size_alloc, World.size_alloc] at this
  generalize (((w.alloc (.cells #[.int .i64 most] 3)).alloc (.cells #[.slice none 0 0] 47)).alloc (.cells #[.pointer (some ⟨M, 0, none⟩)] 41)) = W0 at *
  clear hs2 hnone c1' c1
  obtain ⟨X1, hX1⟩ : ∃ X1 : Nat → Prop, X1 = fun k => k = w.heap.size + 1 ∨ k = W0.heap.size + 1 := ⟨_, rfl⟩
  obtain ⟨I1, hI1⟩ : ∃ I1 : Nat → World → Prop, ∀ k Wx, I1 k Wx ↔ (Lb w (w.heap.size + 1) (W0.heap.size + 4) k E Wx ∧ Below w.heap.size w Wx ∧ Wx.heap[w.heap.size]? = some (.cells #[.int .i64 most] 3 (0, 0)) ∧ Wx.heap[W0.heap.size]? = some (.deferred (some []))) := ⟨_, fun _ _ => Iff.rfl⟩
  obtain ⟨Ix1, hIx1⟩ : ∃ Ix1 : Code → Nat → World → Prop, ∀ cd k Wx, Ix1 cd k Wx ↔ (cd = .exit 0 ∧ (k : Int) = most ∧ I1 k Wx) := ⟨_, fun _ _ _ => Iff.rfl⟩
  have hIput : ∀ k Wx l' o o', I1 k Wx → W0.heap.size + 1 ≤ l' → Wx.heap[l']? = some o → o.isCells = false → I1 k (Wx.putObj l' o') := by
    intro k Wx l' o o' hi hl' hl ho
    obtain ⟨⟨oc, cc, i1, i2, i3, i4⟩, i5, i6, i7⟩ := (hI1 _ _).1 hi
    refine (hI1 _ _).2 ⟨⟨oc, cc, (World.putObj_heap_other (by omega)).trans i1, i2.chg (X := fun _ => False) (fun g hg => World.putObj_heap_other ?_), i3, i4⟩, i5.trans ⟨rfl, rfl, rfl, by simp [World.putObj], fun j hj => World.putObj_heap_other (by omega)⟩, (World.putObj_heap_other (by omega)).trans i6, (World.putObj_heap_other (by omega)).trans i7⟩
    rintro rfl
    obtain ⟨Y, hY⟩ := i2.row g hg
    rw [hY] at hl
    cases hl
    simp [Obj.isCells] at ho
  have hIbel : ∀ k A A', I1 k A → Below A.heap.size A A' → I1 k A' := by
    intro k A A' hi hb
    obtain ⟨⟨oc, cc, i1, i2, i3, i4⟩, i5, i6, i7⟩ := (hI1 _ _).1 hi
    refine (hI1 _ _).2 ⟨⟨oc, cc, (hb.block _ (Array.getElem?_eq_some_iff.1 i1).1).trans i1, i2.below hb (Nat.le_refl _), i3, i4⟩, i5.trans (hb.mono i5.size), (hb.block _ (Array.getElem?_eq_some_iff.1 i6).1).trans i6, (hb.block _ (Array.getElem?_eq_some_iff.1 i7).1).trans i7⟩
  have hIset : ∀ k A j v, I1 k A → I1 k (A.setCell ⟨W0.heap.size + 4, j, none⟩ v) := by
    intro k A j v hi
    obtain ⟨⟨oc, cc, i1, i2, i3, i4⟩, i5, i6, i7⟩ := (hI1 _ _).1 hi
    have he : ∀ b, b ≠ W0.heap.size + 4 → (A.setCell ⟨W0.heap.size + 4, j, none⟩ v).heap[b]? = A.heap[b]? := fun b hb => Below.heap_setCell A ⟨W0.heap.size + 4, j, none⟩ _ b hb
    exact (hI1 _ _).2 ⟨⟨oc, cc, (he _ (by omega)).trans i1, i2.chg (X := fun _ => False) (fun g hg => he g (i4 g hg).2), i3, i4⟩, i5.trans ⟨rfl, rfl, rfl, by simp, fun b hb => he b (by omega)⟩, (he _ (by omega)).trans i6, (he _ (by omega)).trans i7⟩
  refine range_out (gf := 46) (lb := #[.pointer (some ⟨w.heap.size + 1 + 1, 0, none⟩)]) rfl (enters_of Try.func46 (by kernel_rfl) rfl) (I := I1) (Ix := Ix1) (N := N) (fun k Wx r r' hi hl => hIput k Wx _ _ _ hi (Nat.le_refl _) hl rfl) (fun cd k Wx r r' hi hl => ?hIx) ?h0 ?hseq ?hdone ?hstop
  case hIx =>
    obtain ⟨h1, h2, h3⟩ := (hIx1 _ _ _).1 hi
    exact (hIx1 _ _ _).2 ⟨h1, h2, hIput k Wx _ _ _ h3 (Nat.le_refl _) hl rfl⟩
  case h0 =>
    intro o
    have hbb : Below W0.heap.size W0 ((W0.alloc (.deferred (some []))).alloc o) := ((Below.refl _ W0).alloc (Nat.le_refl _) _).alloc (by simp) _
    refine (hI1 _ _).2 ⟨⟨none, 0, (hbb.block _ (by omega)).trans hBl, .inl ⟨rfl, rfl, rfl⟩, by unfold maxLen; omega, fun g e => nomatch e⟩, hb0.trans (hbb.mono (by omega)), (hbb.block _ (by omega)).trans hBq, ?_⟩
    rw [Below.heap_alloc _ _ _ (by simp)]; exact World.alloc_heap_new W0 _
  case hdone =>
    intro Wx hi
    obtain ⟨⟨oc, cc, i1, i2, i3, i4⟩, i5, i6, i7⟩ := (hI1 _ _).1 hi
    have cB : Wx.cell? ⟨w.heap.size + 1, 0, none⟩ = some (.slice oc N cc) := by simp [World.cell?, i1]
    have HP : Aside (Rs (Wx.putObj W0.heap.size (.deferred none)) oc cc (upE E N) ∧ Below w.heap.size w (Wx.putObj W0.heap.size (.deferred none)) ∧ (∀ g, oc = some ⟨g, 0, none⟩ → w.heap.size ≤ g)) := by
      refine ⟨i2.chg (X := fun _ => False) (fun g hg => World.putObj_heap_other ?_), i5.trans ⟨rfl, rfl, rfl, by simp [World.putObj], fun j hj => World.putObj_heap_other (by omega)⟩, fun g hg => (i4 g hg).1⟩
      rintro rfl
      obtain ⟨Y, hY⟩ := i2.row _ hg
      rw [hY] at i7
      cases i7
    have Z0 : Aside _ := z0
    clear i1 i2 i3 i4 i5 i6 hi z0
    gi_wp2
    refine ⟨by simp, .inl ⟨_, _, rfl, run_takeDeferred i7, ?_⟩⟩
    exact ⟨_, results_tmp rfl _ _ _, oc, cc, rfl, HP.out⟩
  case hstop =>
    intro cd k Wx hk hi0
    obtain ⟨rfl, hkm, hi⟩ := (hIx1 _ _ _).1 hi0
    obtain rfl : k = N := by omega
    obtain ⟨⟨oc, cc, i1, i2, i3, i4⟩, i5, i6, i7⟩ := (hI1 _ _).1 hi
    have cB : Wx.cell? ⟨w.heap.size + 1, 0, none⟩ = some (.slice oc k cc) := by simp [World.cell?, i1]
    have HP : Aside (Rs (Wx.putObj W0.heap.size (.deferred none)) oc cc (upE E k) ∧ Below w.heap.size w (Wx.putObj W0.heap.size (.deferred none)) ∧ (∀ g, oc = some ⟨g, 0, none⟩ → w.heap.size ≤ g)) := by
      refine ⟨i2.chg (X := fun _ => False) (fun g hg => World.putObj_heap_other ?_), i5.trans ⟨rfl, rfl, rfl, by simp [World.putObj], fun j hj => World.putObj_heap_other (by omega)⟩, fun g hg => (i4 g hg).1⟩
      rintro rfl
      obtain ⟨Y, hY⟩ := i2.row _ hg
      rw [hY] at i7
      cases i7
    have Z0 : Aside _ := z0
    clear i1 i2 i3 i4 i5 i6 hi hi0 z0 hkm
    gi_wp2
    refine ⟨by simp, .inl ⟨_, _, rfl, run_takeDeferred i7, ?_⟩⟩
    exact ⟨_, results_tmp rfl _ _ _, oc, cc, rfl, HP.out⟩
  case hseq =>
    intro fn W1 hW1 hb1
    have hbW1 : Below W0.heap.size W0 W1 := by rw [hW1]; exact ((Below.refl _ W0).alloc (Nat.le_refl _) _).alloc (by simp) _
    have hz1 : W1.heap.size = W0.heap.size + 2 := by rw [hW1]; simp
    have hbWW : Below w.heap.size w W1 := hb0.trans (hbW1.mono (by omega))
    have hmm1 : W1.cell? ⟨w.heap.size + 1 + 1, 0, none⟩ = some (.pointer (some ⟨M, 0, none⟩)) := by
      have := (hbW1.block (w.heap.size + 1 + 1) (by omega)).trans hBm
      simp [World.cell?, this]
    have hnu1 := hnu.chg (X := fun k => w.heap.size ≤ k) ⟨hbWW.os, hbWW.tape, hbWW.output, hbWW.size, fun k hk _ => hbWW.block k hk⟩ (by have := hnu.lt.1; omega) (by have := hnu.lt.2; omega) (fun b hb => ⟨by have := (hnu.sets b hb).lt.1; omega, fun g hg => by have := (hnu.sets b hb).lt.2 g hg; omega⟩)
    have hRi : ∀ k A, I1 k A → Ri (w.heap.size + 1) A := by
      intro k A hi
      obtain ⟨⟨oc, cc, i1, i2, i3, i4⟩, i5, i6, i7⟩ := (hI1 _ _).1 hi
      refine ⟨(Array.getElem?_eq_some_iff.1 i1).1, fun g n c e => ?_⟩
      have cB : A.cell? ⟨w.heap.size + 1, 0, none⟩ = some (.slice oc k cc) := by simp [World.cell?, i1]
      rw [cB] at e
      obtain ⟨rfl, _, _⟩ : oc = some ⟨g, 0, none⟩ ∧ k = n ∧ cc = c := by simpa using e
      obtain ⟨Y, hY⟩ := i2.row g rfl
      exact (Array.getElem?_eq_some_iff.1 hY).1
    refine falling_c X1 (w.heap.size + 1) n₀ M G c (W0.heap.size + 1) (w.heap.size + 1 + 1) N a E _ _ W1 hN hE hsz hE1 hE2 hmm1 hnu1 (fun k hk => ?_) (hRi 0 W1 hb1.1) ⟨fun k A A' hj hb => ⟨hIbel k A A' hj.1 hb, (hb.block _ (Array.getElem?_eq_some_iff.1 hj.2).1).trans hj.2⟩, fun k A l' o o' hj hl' ho hc => ⟨hIput k A l' o o' hj.1 (by omega) ho hc, (World.putObj_heap_other (by omega)).trans hj.2⟩⟩
      ⟨fun k A A' hj hb => ?_, fun k A l' o o' hj hl' ho hc => ?_⟩ (fun k A hj => hRi k A hj.1) (fun k A j v hj => ?_) (fun k Wy hk hby hlt => ?_) hb1
    · rw [hX1] at hk; rcases hk with hk | hk <;> omega
    · obtain ⟨cd, hix, hl⟩ := hj
      obtain ⟨h1, h2, h3⟩ := (hIx1 _ _ _).1 hix
      exact ⟨cd, (hIx1 _ _ _).2 ⟨h1, h2, hIbel _ _ _ h3 hb⟩, (hb.block _ (Array.getElem?_eq_some_iff.1 hl).1).trans hl⟩
    · obtain ⟨cd, hix, hl⟩ := hj
      obtain ⟨h1, h2, h3⟩ := (hIx1 _ _ _).1 hix
      exact ⟨cd, (hIx1 _ _ _).2 ⟨h1, h2, hIput k A l' o o' h3 (by omega) ho hc⟩, (World.putObj_heap_other (by omega)).trans hl⟩
    · rw [show W1.heap.size + 1 + 1 = W0.heap.size + 4 by omega]
      exact ⟨hIset k A j v hj.1, (Below.heap_setCell A ⟨W0.heap.size + 4, j, none⟩ _ _ (by show W0.heap.size + 1 ≠ W0.heap.size + 4; omega)).trans hj.2⟩
    · have key := round_raw (P := Try.prog) (encs := fun k : Nat => #[.agg #[.int .i64 (E k).1, .int .i64 (E k).2]]) (fun _ => rfl) (Kp := St X1 (w.heap.size + 1)) (fun h k => h.trans k) (fun A r r' hr => St.put _ (by rw [hX1]; exact .inr rfl) (by omega)) (I := I1) (Ix := Ix1) (fun k Wx r r' hi hl => hIput k Wx _ _ _ hi (Nat.le_refl _) hl rfl) (fun cd k Wx r r' hi hl => ?_) hby ?_
      · obtain ⟨f1, f2, f3, f4, f5, f6⟩ := key
        exact ⟨f1, f2, f3, f4, f5, f6.mono (fun e W' h => h)⟩
      · obtain ⟨h1, h2, h3⟩ := (hIx1 _ _ _).1 hi
        exact (hIx1 _ _ _).2 ⟨h1, h2, hIput k Wx _ _ _ h3 (Nat.le_refl _) hl rfl⟩
      · intro K hK
        obtain ⟨hi, hl⟩ := hby
        have lx : W0.heap.size + 1 < Wy.heap.size := (Array.getElem?_eq_some_iff.1 hl).1
        have hba : Below Wy.heap.size Wy (Wy.alloc (.cells #[.int .i64 (E k).1, .int .i64 (E k).2] 53)) := (Below.refl _ Wy).alloc (Nat.le_refl _) _
        have ha1 := World.alloc_heap_new Wy (.cells #[.int .i64 (E k).1, .int .i64 (E k).2] 53)
        have hK2 := fun a' => hK a' (Wy.alloc (.cells #[.int .i64 (E k).1, .int .i64 (E k).2] 53)) (Below.heap_alloc Wy _ _ lx) (St.below hba (by omega))
        have hIa := hIbel k _ _ hi hba
        have hRy := hRi _ _ hi
        have hla := (hba.block _ lx).trans hl
        have HK2 : Aside _ := hK2
        clear hi hl hK hK2
        gi_wp2
        refine HK2.out _ (fun r4 => ?_)
        clear HK2
        have hIq := hIput k _ _ _ (.loop r4) hIa (Nat.le_refl _) hla rfl
        have hlq : ((Wy.alloc (.cells #[.int .i64 (E k).1, .int .i64 (E k).2] 53)).putObj (W0.heap.size + 1) (.loop r4)).heap[W0.heap.size + 1]? = some (.loop r4) := World.putObj_heap_same (by simp <;> omega)
        have hsq : ((Wy.alloc (.cells #[.int .i64 (E k).1, .int .i64 (E k).2] 53)).putObj (W0.heap.size + 1) (.loop r4)).heap[Wy.heap.size]? = some (.cells #[.int .i64 (E k).1, .int .i64 (E k).2] 53 (0, 0)) := (World.putObj_heap_other (by omega)).trans ha1
        have hzq : W0.heap.size + 4 < ((Wy.alloc (.cells #[.int .i64 (E k).1, .int .i64 (E k).2] 53)).putObj (W0.heap.size + 1) (.loop r4)).heap.size := by simp [World.putObj]; omega
        generalize (Wy.alloc (.cells #[.int .i64 (E k).1, .int .i64 (E k).2] 53)).putObj (W0.heap.size + 1) (.loop r4) = Wq at *
        clear hIa hla hba ha1
        obtain ⟨⟨oc, cc, i1, i2, i3, i4⟩, i5, i6, i7⟩ := (hI1 _ _).1 hIq
        have hlen : (upE E k).length = k := upE_length E k
        have i1' : Wq.heap[w.heap.size + 1]? = some (.cells #[.slice oc (upE E k).length cc] 47 (0, 0)) := by rw [hlen]; exact i1
        obtain ⟨g, c', w3, hrun, hc3, hf3, hch, hB3, hbx, hcg, hgg⟩ := Bx.push (w := w) (E k).1 (E k).2 i1' i2 i3 (fun g hg => (i4 g hg).1) i5.size (by omega)
        rw [hlen] at hrun hc3 hB3 hbx hcg
        have cB : Wq.cell? ⟨w.heap.size + 1, 0, none⟩ = some (.slice oc k cc) := by simp [World.cell?, i1]
        have hW' : (w3.setCell ⟨w.heap.size + 1, 0, none⟩ (.slice (some ⟨g, 0, none⟩) (k + 1) c')).cell? ⟨w.heap.size + 1, 0, none⟩ = some (.slice (some ⟨g, 0, none⟩) (k + 1) c') := World.cell?_setCell_same' _ _ _ (by rw [hc3]; rfl)
        have hst : St X1 (w.heap.size + 1) Wq (w3.setCell ⟨w.heap.size + 1, 0, none⟩ (.slice (some ⟨g, 0, none⟩) (k + 1) c')) := by rw [hX1]; exact St_push cB hcg hW' hgg
        have keep : ∀ b Y, Wq.heap[b]? = some Y → b ≠ w.heap.size + 1 → (∀ Z, Y ≠ .cells Z 53 (0, 0)) → (w3.setCell ⟨w.heap.size + 1, 0, none⟩ (.slice (some ⟨g, 0, none⟩) (k + 1) c')).heap[b]? = some Y := by
          intro b Y hb hne hY
          refine (hcg.2.2.2.2 b (Array.getElem?_eq_some_iff.1 hb).1 ?_).trans hb
          rintro (h | h)
          · exact hne h
          · obtain ⟨Z, hZ⟩ := i2.row b h
            rw [hZ] at hb
            cases hb
            exact hY _ rfl
        have hI' : I1 (k + 1) (w3.setCell ⟨w.heap.size + 1, 0, none⟩ (.slice (some ⟨g, 0, none⟩) (k + 1) c')) := by
          obtain ⟨oc', cc', b1, b2, b3, b4⟩ := hbx
          rw [← upE_succ, upE_length] at b1
          rw [← upE_succ] at b2
          refine (hI1 _ _).2 ⟨⟨oc', cc', b1, b2, b3, fun g' hg' => ⟨b4 g' hg', ?_⟩⟩, ?_, keep _ _ i6 (by omega) (fun Z e => by cases e), keep _ _ i7 (by omega) (fun Z e => by cases e)⟩
          · have e1 : (w3.setCell ⟨w.heap.size + 1, 0, none⟩ (.slice (some ⟨g, 0, none⟩) (k + 1) c')).cell? ⟨w.heap.size + 1, 0, none⟩ = some (.slice oc' (k + 1) cc') := by simp [World.cell?, b1]
            rw [hW'] at e1
            obtain ⟨e2, _⟩ : some (⟨g, 0, none⟩ : Addr) = oc' ∧ c' = cc' := by simpa using e1
            rw [hg'] at e2
            obtain rfl : g = g' := by simpa using e2
            rcases hgg with hgg | hgg
            · exact (i4 g hgg.symm).2
            · omega
          · exact i5.trans ⟨hcg.1, hcg.2.1, hcg.2.2.1, hcg.2.2.2.1, fun b hb => hcg.2.2.2.2 b (Nat.lt_of_lt_of_le hb i5.size) (fun h => by
              rcases h with h | h
              · omega
              · have := (i4 b h).1; omega)⟩
        have hl' := keep _ _ hlq (by omega) (fun Z e => by cases e)
        have c0 : Wq.cell? ⟨Wy.heap.size, 0, none⟩ = some (.int .i64 (E k).1) := by simp [World.cell?, hsq]
        have c1 : Wq.cell? ⟨Wy.heap.size, 1, none⟩ = some (.int .i64 (E k).2) := by simp [World.cell?, hsq]
        have cq : (w3.setCell ⟨w.heap.size + 1, 0, none⟩ (.slice (some ⟨g, 0, none⟩) (k + 1) c')).cell? ⟨w.heap.size, 0, none⟩ = some (.int .i64 most) := by
          have := keep _ _ i6 (by omega) (fun Z e => by cases e)
          simp [World.cell?, this]
        have HP : Aside _ := And.intro hl' (And.intro hst hI')
        have HLQ : Aside _ := hlq
        clear i1 i1' i2 i3 i4 i5 i6 i7 hIq hsq hch hB3 hbx hcg hgg hst hI' hl' keep
        have Z0 : Aside _ := z0
        clear z0 hz1 hlen
        generalize (E k).1 = xa at *
        generalize (E k).2 = xb at *
        refine wpIn_block ?_
        by_cases hkm : ((k : Int) + 1) = most
        · have hb1 : (((k : Int) + 1) == most) = true := by simpa using hkm
          have hb2 : decide (((k : Int) + 1) = most) = true := by simpa using hkm
          have HKM : Aside _ := hkm
          clear hkm
          gi_wp2_with (gi_at_builtin; refine wpListIn_append_run _ rfl _ _ _ _ rfl _ _ rfl rfl _ _ (hrun _) ?_)
          exact ⟨HP.out.1.trans HLQ.out.symm, HP.out.2.1, (hIx1 _ _ _).2 ⟨rfl, by have := HKM.out; omega, HP.out.2.2⟩⟩
        · have hb1 : (((k : Int) + 1) == most) = false := by simpa using hkm
          have hb2 : decide (((k : Int) + 1) = most) = false := by simpa using hkm
          gi_wp2_with (gi_at_builtin; refine wpListIn_append_run _ rfl _ _ _ _ rfl _ _ rfl rfl _ _ (hrun _) ?_)
          exact ⟨HP.out.1.trans HLQ.out.symm, HP.out.2.1, HP.out.2.2⟩
end Go.Proofs.YtlobnlkpbenngaaR
