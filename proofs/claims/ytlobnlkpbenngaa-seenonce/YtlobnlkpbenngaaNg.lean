/- seen: join and add, whatever the parts. -/
import Derived.Test.YtlobnlkpbenngaaNg0
import Derived.Test.YtlobnlkpbenngaaSp
namespace Go.Proofs.YtlobnlkpbenngaaR
open Go.RowKit Go.Shelf Go.Lib
set_option linter.unusedVariables false

theorem Nu.ok {n₀ : Nat} {w : World} {M G c : Nat} {Q : List Pt} (h : Nu n₀ w M G c Q) : ∀ a ∈ Q, Ok a.L := fun a ha => (h.sets a ha).2.1

set_option maxRecDepth 100000 in
/-- join at any place. -/
theorem join_nu (n₀ M G c i : Nat) (Q : List Pt) (w : World) (h : Nu n₀ w M G c Q) (hn₀ : n₀ ≤ w.heap.size) (hf : Fine Q) (hsz : Q.length ≤ 68719476736) :
    Calls Try.prog 40 #[.pointer (some ⟨M, 0, none⟩), .int .i64 (i : Int)] w fun e w' => (∃ v, e = .returned v) ∧ ∃ Q', Nu n₀ w' M G c Q' ∧ Fine Q' ∧ (∀ m, InQ' m Q' ↔ InQ' m Q) ∧ wt Q' ≤ wt Q ∧ Kp n₀ w w' := by
  by_cases hi : i < 1 ∨ Q.length ≤ i
  · refine (join_skip n₀ M G c (i : Int) Q w h (by omega)).mono ?_
    rintro e w' ⟨hv, hw⟩
    subst w'
    exact ⟨hv, Q, h, hf, fun _ => Iff.rfl, Nat.le_refl _, Kp.refl _ _⟩
  · obtain ⟨A, a, b, B, rfl, hA⟩ : ∃ A a b B, Q = A ++ a :: b :: B ∧ A.length + 1 = i := by
      have h1 : i - 1 < Q.length := by omega
      have h2 : i < Q.length := by omega
      refine ⟨Q.take (i - 1), Q[i - 1], Q[i], Q.drop (i + 1), ?_, by simp; omega⟩
      have e1 : Q.drop (i - 1) = Q[i - 1] :: Q.drop i := by
        rw [List.drop_eq_getElem_cons h1, show i - 1 + 1 = i by omega]
      rw [← List.drop_eq_getElem_cons h2, ← e1, List.take_append_drop]
    have ha := hf.few a (by simp)
    have hb := hf.few b (by simp)
    refine (join_c n₀ M G c i A a b B w h hn₀ hA hsz (by omega) (by omega)).mono ?_
    rintro e w' ⟨hv, ⟨_, hbel⟩ | ⟨hle, o', L', q1, q2, q3, q4⟩⟩
    · exact ⟨hv, _, h.below hbel, hf, fun _ => Iff.rfl, Nat.le_refl _, Kp.below hbel⟩
    · have hO : Ok L' := q1.ok ⟨a.f, a.T, o', L'⟩ (by simp)
      refine ⟨hv, _, q1, ⟨hf.rise.join (hf.ok a (by simp)) (hf.ok b (by simp)) _ _ _ hO q2, fun x hx => ?_, q1.ok⟩, fun m => ?_, ?_, q4⟩
      · rcases List.mem_append.1 hx with hx | hx
        · exact hf.few x (List.mem_append_left _ hx)
        · rcases List.mem_cons.1 hx with rfl | hx
          · show L'.length ≤ 1024; omega
          · exact hf.few x (List.mem_append_right _ (List.mem_cons_of_mem _ (List.mem_cons_of_mem _ hx)))
      · rw [InQ'_append, InQ'_append, InQ'_cons, InQ'_cons, InQ'_cons, q2 m]
        constructor
        · rintro (h | (h | h) | h)
          · exact .inl h
          · exact .inr (.inl h)
          · exact .inr (.inr (.inl h))
          · exact .inr (.inr (.inr h))
        · rintro (h | h | h | h)
          · exact .inl h
          · exact .inr (.inl (.inl h))
          · exact .inr (.inl (.inr h))
          · exact .inr (.inr h)
      · rw [wt_append, wt_append, wt_cons, wt_cons, wt_cons]
        have : L'.length - 513 = 0 := by omega
        simp only [this]
        omega

/-- What add leaves. -/
def AddQ (n₀ M : Nat) (n : Int) (Q : List Pt) (w : World) (e : Ending) (w' : World) : Prop :=
  (∃ v, e = .returned v) ∧ (∃ G' c' Q', Nu n₀ w' M G' c' Q' ∧ Fine Q' ∧ (∀ m, InQ' m Q' ↔ InQ' m Q ∨ m = n) ∧ wt Q' ≤ wt Q + 1) ∧ Kp n₀ w w'

set_option maxRecDepth 100000 in
set_option maxHeartbeats 1000000 in
theorem add_nu (n₀ M G c : Nat) (n : Int) (Q : List Pt) (w : World) (h : Nu n₀ w M G c Q) (hn₀ : n₀ ≤ w.heap.size) (hf : Fine Q) (hwt : wt Q ≤ 35184372000000) (h0 : 0 ≤ n) (h1 : n ≤ 4611686018427387903) :
    Calls Try.prog 25 #[.pointer (some ⟨M, 0, none⟩), .int .i64 n] w (AddQ n₀ M n Q w) := by
  obtain ⟨A, a, B, rfl, hafn, hBn⟩ := hf.rise.split n h0
  have hlen := wt_len (A ++ a :: B)
  have hsz : (A ++ a :: B).length < 68719476736 := by omega
  have hla := hf.few a (by simp)
  obtain ⟨i, hi⟩ : ∃ i, A.length = i := ⟨_, rfl⟩
  have hp := place_nu n₀ M G c i n A a B w h hf.rise (by omega) hafn hBn hi
  obtain ⟨K, hK⟩ : ∃ K, (A ++ a :: B).length = K := ⟨_, rfl⟩
  have hiK : i < K := by rw [← hK]; simp; omega
  have H : Aside _ := h
  have HF : Aside _ := hf
  have HK : Aside _ := hK
  have HI : Aside _ := hi
  have HBN : Aside _ := hBn
  rw [hK] at hsz
  clear h hf hlen hK hBn hi
  go_enter Try.func25, Try.ntmps25
  go_wp2_with fail
  refine hp.mono ?_
  rintro e w1 ⟨rfl, hb⟩
  have h1' := H.out.below hb
  have c1 := h1'.headC
  rw [HK.out] at c1
  have c2 := Nu.cell h1' i HI.out
  have hadd := add_set n₀ a.T a.o n n a.L w1 (h1'.sets a (by simp)) (Nat.le_trans hn₀ hb.size) ⟨h0, Int.le_refl _, h1⟩ (by omega)
  have HB : Aside _ := hb
  have H1 : Aside _ := h1'
  clear hb h1' hp
  go_wp2_with fail
  refine hadd.mono ?_
  rintro e w2 ⟨r, o', L', rfl, ht, hm, hL⟩
  have h2' : Nu n₀ w2 M G c (A ++ ⟨a.f, a.T, o', L'⟩ :: B) := Nu.turn H1.out ht
  have hlK : (A ++ (⟨a.f, a.T, o', L'⟩ : Pt) :: B).length = K := by rw [← HK.out]; simp
  have d1 := h2'.headC
  rw [hlK] at d1
  have d2 := Nu.cell h2' i HI.out
  have hOL : Ok L' := ht.1.2.1
  have hK2 : Kp n₀ w w2 := (Kp.below HB.out).trans (Turn.kp (H1.out.sets a (by simp)) ht)
  have hr2 : Rise (A ++ ⟨a.f, a.T, o', L'⟩ :: B) := by
    refine HF.out.rise.turn a.T o' L' hOL (fun m hmL => ?_)
    rcases (hm m).1 hmL with ⟨p, hp, q1, q2⟩ | hq
    · have r1 := (HF.out.rise.lo a (by simp)).2 p hp
      have r2 := (List.pairwise_cons.1 (List.pairwise_append.1 HF.out.rise.up).2.1).1
      exact ⟨by omega, fun y hy => by have := (r2 y hy).2 p hp; omega⟩
    · obtain rfl : m = n := by omega
      exact ⟨hafn, HBN.out⟩
  have hin2 : ∀ m, InQ' m (A ++ ⟨a.f, a.T, o', L'⟩ :: B) ↔ InQ' m (A ++ a :: B) ∨ m = n := by
    intro m
    rw [InQ'_append, InQ'_append, InQ'_cons, InQ'_cons, hm m]
    constructor
    · rintro (h | (h | h) | h)
      · exact .inl (.inl h)
      · exact .inl (.inr (.inl h))
      · exact .inr (by omega)
      · exact .inl (.inr (.inr h))
    · rintro ((h | h | h) | h)
      · exact .inl h
      · exact .inr (.inl (.inl h))
      · exact .inr (.inr h)
      · exact .inr (.inl (.inr (by omega)))
  have hwt2 : wt (A ++ ⟨a.f, a.T, o', L'⟩ :: B) ≤ wt (A ++ a :: B) + 1 := by
    rw [wt_append, wt_append, wt_cons, wt_cons]
    show wt A + (512 + (L'.length - 513) + wt B) ≤ _
    omega
  obtain ⟨⟨cs, hS⟩, _⟩ := h2'.sets ⟨a.f, a.T, o', L'⟩ (by simp)
  have hsp := spans_c a.T cs o' L' w2 hS
  obtain ⟨N, hN⟩ : ∃ N, L'.length = N := ⟨_, rfl⟩
  rw [hN] at hsp
  have hszw2 : n₀ ≤ w2.heap.size := Nat.le_trans hn₀ hK2.2.2.2.1
  by_cases hbig : 1024 < N
  · have hgt : (1024 : Int) < (N : Int) := by omega
    obtain rfl : N = 1025 := by omega
    have h512 : 512 < L'.length := by omega
    obtain ⟨f, l0, hfl⟩ : ∃ f l0, L'[512]? = some (f, l0) := ⟨_, _, List.getElem?_eq_getElem h512⟩
    have hspl := split_c n₀ M G c i 1025 512 f l0 A ⟨a.f, a.T, o', L'⟩ B w2 h2' hszw2 HI.out (by rw [hlK]; exact hsz) hN (by omega) (by omega) (by decide) hfl
    have HE : Aside (∀ e w3, SplitQ n₀ M A ⟨a.f, a.T, o', L'⟩ B 512 f w2 e w3 → ∃ v, e = .returned v ∧ AddQ n₀ M n (A ++ a :: B) w (.returned (.tuple #[])) w3) := by
      rintro e w3 ⟨⟨v, rfl⟩, G', c', T', o1, o2, q1, q2⟩
      refine ⟨v, rfl, ⟨_, rfl⟩, ⟨G', c', _, q1, ⟨Rise.split2 (a := ⟨a.f, a.T, o', L'⟩) hr2 a.T T' o1 o2 512 f l0 hOL hfl (by omega), fun x hx => ?_, q1.ok⟩, fun m => ?_, ?_⟩, hK2.trans q2⟩
      · rcases List.mem_append.1 hx with hx | hx
        · exact HF.out.few x (List.mem_append_left _ hx)
        · rcases List.mem_cons.1 hx with rfl | hx
          · show (L'.take 512).length ≤ 1024; rw [List.length_take]; omega
          · rcases List.mem_cons.1 hx with rfl | hx
            · show (L'.drop 512).length ≤ 1024; rw [List.length_drop]; omega
            · exact HF.out.few x (List.mem_append_right _ (List.mem_cons_of_mem _ hx))
      · rw [← hin2 m, InQ'_append, InQ'_append, InQ'_cons, InQ'_cons, InQ'_cons]
        have e1 : In m L' ↔ In m (L'.take 512) ∨ In m (L'.drop 512) := by
          rw [← In_append, List.take_append_drop]
        show (_ ∨ In m (L'.take 512) ∨ In m (L'.drop 512) ∨ _) ↔ (_ ∨ In m L' ∨ _)
        rw [e1]
        constructor
        · rintro (h | h | h | h)
          · exact .inl h
          · exact .inr (.inl (.inl h))
          · exact .inr (.inl (.inr h))
          · exact .inr (.inr h)
        · rintro (h | (h | h) | h)
          · exact .inl h
          · exact .inr (.inl h)
          · exact .inr (.inr (.inl h))
          · exact .inr (.inr (.inr h))
      · refine Nat.le_trans ?_ hwt2
        rw [wt_append, wt_append, wt_cons, wt_cons, wt_cons]
        show wt A + (512 + ((L'.take 512).length - 513) + (512 + ((L'.drop 512).length - 513) + wt B)) ≤ wt A + (512 + (L'.length - 513) + wt B)
        rw [List.length_take, List.length_drop, hN]
        omega
    clear hadd c1 c2 H1 HB H ht hm hL h2' hS hK2 hr2 hin2 hwt2 hOL hlK hN
    go_wp2_with fail
    refine hsp.mono ?_
    rintro e w3 ⟨rfl, hw⟩
    subst w3
    go_wp2_with fail
    refine hspl.mono ?_
    rintro e w3 hq
    obtain ⟨v, rfl, hq2⟩ := HE.out e w3 hq
    have HQ2 : Aside _ := hq2
    clear hq hq2 hspl hsp
    go_wp2
    exact bodyPost_ret (results_none rfl _ _ _) rfl HQ2.out
  · have hgt : ¬ (1024 : Int) < (N : Int) := by omega
    have hf2 : Fine (A ++ ⟨a.f, a.T, o', L'⟩ :: B) := by
      refine ⟨hr2, fun x hx => ?_, h2'.ok⟩
      rcases List.mem_append.1 hx with hx | hx
      · exact HF.out.few x (List.mem_append_left _ hx)
      · rcases List.mem_cons.1 hx with rfl | hx
        · show L'.length ≤ 1024; omega
        · exact HF.out.few x (List.mem_append_right _ (List.mem_cons_of_mem _ hx))
    have hj1 := join_nu n₀ M G c (i + 1) _ w2 h2' hszw2 hf2 (by rw [hlK]; omega)
    rw [show ((i + 1 : Nat) : Int) = (i : Int) + 1 by omega] at hj1
    have hwi : IntKind.i64.wrap ((i : Int) + 1) = (i : Int) + 1 := by rw [IntKind.wrap_i64]; omega
    have HIN : Aside _ := hin2
    have HWT : Aside _ := hwt2
    have HK2 : Aside _ := hK2
    have HSZ : Aside _ := hszw2
    clear hadd c1 c2 H1 HB H ht hm hL h2' hS hK2 hr2 hin2 hwt2 hOL hlK hN hf2 hszw2
    go_wp2_with fail
    refine hsp.mono ?_
    rintro e w3 ⟨rfl, hw⟩
    subst w3
    go_wp2_with fail
    refine hj1.mono ?_
    rintro e w3 ⟨⟨v, rfl⟩, Q2, j1, j2, j3, j4, j5⟩
    have hl2 := wt_len Q2
    have hj2 := join_nu n₀ M G c i Q2 w3 j1 (Nat.le_trans HSZ.out j5.2.2.2.1) j2 (by have := HWT.out; omega)
    have J3 : Aside _ := j3
    have J4 : Aside _ := j4
    have J5 : Aside _ := j5
    clear j1 j2 j3 j4 j5 hl2 hj1 hsp
    go_wp2_with fail
    refine hj2.mono ?_
    rintro e w4 ⟨⟨v, rfl⟩, Q3, k1, k2, k3, k4, k5⟩
    have HP : Aside (AddQ n₀ M n (A ++ a :: B) w (.returned (.tuple #[])) w4) := ⟨⟨_, rfl⟩, ⟨G, c, Q3, k1, k2, fun m => by rw [k3 m, J3.out m, HIN.out m], by have := HWT.out; have := J4.out; omega⟩, Kp.trans HK2.out (Kp.trans J5.out k5)⟩
    clear k1 k2 k3 k4 k5 hj2
    go_wp2
    go_end0
    exact HP.out
end Go.Proofs.YtlobnlkpbenngaaR
