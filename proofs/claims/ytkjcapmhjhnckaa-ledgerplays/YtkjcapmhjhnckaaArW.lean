/- ledger: arrive, its walk. -/
import Derived.Test.YtkjcapmhjhnckaaRg
namespace Go.Proofs.Ytkjcapmhjhnckaa
open Go.RowKit Go.Maps Go.Shelf
set_option linter.unusedVariables false
set_option maxRecDepth 100000

attribute [local go_sem] Oper.semAt_some

theorem Ls.ar_zero {L : Ls} (S : List (Int × Int)) (hz : L.z = zs L.O) (hc : L.c = ce L.O) : L.ar S 0 = L := by
  unfold Ls.ar
  rw [arO_zero, ← hz, ← hc]
  rfl
theorem ak_skips {O : List (Pk × Bool)} {S : List (Int × Int)} {i j : Nat} (hij : i ≤ j) (hj : j ≤ O.length) (hs : ∀ k (hk : k < O.length), i ≤ k → k < j → inS S O[k].1 = false) : ak S i O = ak S j O := by
  induction j with
  | zero => rw [show i = 0 by omega]
  | succ j ih =>
    by_cases e : i = j + 1
    · rw [e]
    · rw [ih (by omega) (by omega) (fun k hk h1 h2 => hs k hk h1 (by omega)), ak_succ (show j < O.length by omega), if_neg (by rw [hs j (by omega) (by omega) (by omega)]; simp)]
      simp
theorem okS_pair {m : Int} {S : List (Int × Int)} (h : okS m S = true) : S.Pairwise (fun x y => y.2 < x.1) ∧ ∀ x ∈ S, 0 ≤ x.1 ∧ x.1 ≤ x.2 ∧ x.2 ≤ m := by
  induction S generalizing m with
  | nil => exact ⟨List.Pairwise.nil, fun x hx => by cases hx⟩
  | cons s t ih =>
    simp only [okS] at h
    split at h
    · cases h
    · rename_i hn
      obtain ⟨h1, h2⟩ := ih h
      refine ⟨List.pairwise_cons.2 ⟨fun y hy => ?_, h1⟩, fun x hx => ?_⟩
      · have := h2 y hy; omega
      · rcases List.mem_cons.1 hx with rfl | hx
        · omega
        · have := h2 x hx; omega
theorem back43_c (la : Option Addr) (n cap : Nat) (w : World) : Calls Try.prog 43 #[.slice la n cap] w fun e w' => e = .returned (.func (.func 52) #[] #[.pointer (some ⟨w.heap.size, 0, none⟩)]) ∧ w' = w.alloc (.cells #[.slice la n cap] 30) := by
  go_enter Try.func43, Try.ntmps43
  go_wp2
  go_ret
  exact ⟨rfl, rfl⟩
theorem results_33 (tmps : Array Value) (w : World) (g : Nat) (v : Value) (hp : tmps.getD 4 undef = .pointer (some ⟨g, 0, none⟩)) (hc : w.cell? ⟨g, 0, none⟩ = some v) : (results Try.f33 tmps).run Try.prog w = .ok v w := by
  have hp' : tmps[4]?.getD undef = .pointer (some ⟨g, 0, none⟩) := by simpa using hp
  have hl : (loadVar 38 ⟨g, 0, none⟩).run Try.prog w = .ok v w := by
    simp [loadVar, go_sem, hc]
  simp [results, Try.f33, hp', asAddr, hl]
def AoIs (A : Ad) (o : Option Addr) : Prop := A.o = o
/-- One more taken: what append and the greatest make of it. -/
theorem ArI.step {W X Y : World} {A : Ad} {L : Ls} {la : Option Addr} {cap : Nat} {S : List (Int × Int)} {p q Bs dd i : Nat} {pk : Pk} (h : ArI W A L la cap S p q Bs dd i X) (hLg : Lg Y A { L.ar S (i + 1) with g := gq L.g (ak S i L.O) }) (hS : Stp A A X Y)
    (hlt : ∀ k, A.own k → k < W.heap.size) (hp : W.heap.size ≤ p) (hq : W.heap.size ≤ q) (hB : W.heap.size ≤ Bs) (hd : W.heap.size ≤ dd) (hpq : p ≠ q) (hBq : Bs ≠ q) (hdq : dd ≠ q) (ha : ak S (i + 1) L.O = ak S i L.O ++ [pk]) (hg : gq L.g (ak S (i + 1) L.O) = max (gq L.g (ak S i L.O)) pk.n) (hlen : L.O.length ≤ 4000000000000) :
    ∃ o n c g' off' c' w3, n = (ak S i L.O).length ∧ Y.cell? ⟨q, 0, none⟩ = some (.slice o n c) ∧
      (Builtin.append_ #[38, 38] 38 #[.slice o n c, .slice (some ⟨Y.heap.size, 0, none⟩) 1 1]).run Try.prog (Y.alloc (.cells #[.int .i64 pk.n, .int .i64 pk.a, .int .i64 pk.s, .bool pk.e] 29)) = .ok (.slice (some ⟨g', off', none⟩) (n + 1) c') w3 ∧
      w3.cell? ⟨q, 0, none⟩ = some (.slice o n c) ∧ w3.frozen? ⟨q, 0, none⟩ = false ∧
      (w3.setCell ⟨q, 0, none⟩ (.slice (some ⟨g', off', none⟩) (n + 1) c')).cell? ⟨p, 0, none⟩ = some (.pointer (some ⟨A.b, 0, none⟩)) ∧
      (w3.setCell ⟨q, 0, none⟩ (.slice (some ⟨g', off', none⟩) (n + 1) c')).cell? ⟨A.b, 3, none⟩ = some (.int .i64 (gq L.g (ak S i L.O))) ∧
      (w3.setCell ⟨q, 0, none⟩ (.slice (some ⟨g', off', none⟩) (n + 1) c')).frozen? ⟨A.b, 3, none⟩ = false ∧
      ArI W A L la cap S p q Bs dd (i + 1) ((w3.setCell ⟨q, 0, none⟩ (.slice (some ⟨g', off', none⟩) (n + 1) c')).setCell ⟨A.b, 3, none⟩ (.int .i64 (max (gq L.g (ak S i L.O)) pk.n))) ∧
      ∀ j ob, X.heap[j]? = some ob → ¬ A.own j → j ≠ q → (∀ Z, ob ≠ .cells Z 29 (0, 0)) → ((w3.setCell ⟨q, 0, none⟩ (.slice (some ⟨g', off', none⟩) (n + 1) c')).setCell ⟨A.b, 3, none⟩ (.int .i64 (max (gq L.g (ak S i L.O)) pk.n))).heap[j]? = some ob := by
  obtain ⟨o, c, k1, k2, k3⟩ := h.hq
  have no : ∀ k, W.heap.size ≤ k → ¬ A.own k := fun k hk ho => by have := hlt k ho; omega
  have k2' := k2.stp h.lg hS
  have y1 := (hS.keep k1 (no _ hq)).1
  obtain ⟨g', off', c', w3, hap, hpr, hch, hbl⟩ := k2'.push pk (by have := ak_len S i L.O; omega)
  have bq : ¬ Blk o q := fun hb => by
    obtain ⟨Z, hz⟩ := Rw.ty k2' hb
    rw [y1] at hz
    simp at hz
  have bother : ∀ j ob, Y.heap[j]? = some ob → (∀ Z, ob ≠ .cells Z 29 (0, 0)) → ¬ Blk o j := fun j ob hj hne hb => by
    obtain ⟨Z, hz⟩ := Rw.ty k2' hb
    rw [hj] at hz
    injection hz with hz
    exact hne Z hz
  have w1 : w3.heap[q]? = some (.cells #[.slice o (ak S i L.O).length c] 38 (0, 0)) := hch.blk y1 bq
  have hL3 : Lg w3 A { L.ar S (i + 1) with g := gq L.g (ak S i L.O) } := hLg.chg hch fun j hj hb => k2'.off hLg hb hj
  obtain ⟨w4, hw4⟩ : ∃ w4, w3.setCell ⟨q, 0, none⟩ (.slice (some ⟨g', off', none⟩) ((ak S i L.O).length + 1) c') = w4 := ⟨_, rfl⟩
  have c4 : Chg (fun j => j = q) w3 w4 := by
    rw [← hw4, setCell_eq_setRow w3 q 0 _ 38 (0, 0) _ w1]
    exact Chg.setRow q _ rfl
  have w4q : w4.heap[q]? = some (.cells #[.slice (some ⟨g', off', none⟩) ((ak S i L.O).length + 1) c'] 38 (0, 0)) := by
    rw [← hw4, setCell_eq_setRow w3 q 0 _ 38 (0, 0) _ w1, setRow_heap w3 q _ _ 38 (0, 0) w1]
    rfl
  have hL4 : Lg w4 A { L.ar S (i + 1) with g := gq L.g (ak S i L.O) } := hL3.chg c4 fun j hj e => no q hq (e ▸ hj)
  obtain ⟨hL5, hS5⟩ := hL4.set (L' := L.ar S (i + 1)) 3 (.int .i64 (max (gq L.g (ak S i L.O)) pk.n)) (by rw [← hg]; simp [Ls.cs, Ls.ar]) rfl rfl
  have hfar : ∀ j ob, X.heap[j]? = some ob → ¬ A.own j → j ≠ q → (∀ Z, ob ≠ .cells Z 29 (0, 0)) → (w4.setCell ⟨A.b, 3, none⟩ (.int .i64 (max (gq L.g (ak S i L.O)) pk.n))).heap[j]? = some ob ∧ w4.heap[j]? = some ob := fun j ob hj h1 h2 h3 => by
    have a1 := (hS.keep hj h1).1
    have a2 := hch.blk a1 (bother j ob a1 h3)
    have a3 := c4.blk a2 h2
    exact ⟨(hS5.keep a3 h1).1, a3⟩
  have hp4 := hfar p _ h.hp (no p hp) hpq (fun Z e => by simp at e)
  refine ⟨o, _, c, g', off', c', w3, rfl, by simp [World.cell?, y1], hap 38, by simp [World.cell?, w1], by simp [World.frozen?, w1], ?_⟩
  rw [hw4]
  refine ⟨by simp [World.cell?, hp4.2], hL4.c3, hL4.fz 3, ⟨hL5, ?_, hp4.1, ⟨some ⟨g', off', none⟩, c', ?_, ?_, ?_⟩, (hfar Bs _ h.hB (no Bs hB) hBq (fun Z e => by simp at e)).1, (hfar dd _ h.hd (no dd hd) hdq (fun Z e => by cases e)).1⟩, fun j ob h1 h2 h3 h4 => (hfar j ob h1 h2 h3 h4).1⟩
  · have s1 : Chg A.own W w4 := ((h.st.trans hS).chg.andThen hch (fun j hj hb => by have := k3 j hb; omega)).andThen c4 (fun j hj e => by omega)
    exact ⟨rfl, s1.andThen hS5.chg (fun j hj e => e), fun k hk => .inl hk⟩
  · have := (hS5.keep w4q (no q hq)).1
    rw [ha, List.length_append]
    exact this
  · rw [ha]
    have a1 : Pr w4 (some ⟨g', off', none⟩) c' (ak S i L.O ++ [pk]) := Rw.chg hpr c4 (fun j hj e => by
      obtain ⟨Z, hz⟩ := Rw.ty hpr hj
      rw [e, w1] at hz
      simp at hz)
    exact a1.stp hL4 hS5
  · intro j hj
    rw [hj.of]
    rcases hbl with hbl | hbl
    · exact k3 _ hbl
    · have := (h.st.trans hS).chg.2.2.2.1; omega
/-- What arrive tells. -/
def ArR (W : World) (A : Ad) (L : Ls) (S : List (Int × Int)) (e : Ending) (w' : World) : Prop :=
  ∃ o c, e = .returned (.slice o (ak S L.O.length L.O).length c) ∧ Lg w' A (L.ar S L.O.length) ∧ Stp A A W w' ∧ Pr w' o c (ak S L.O.length L.O) ∧ ∀ j, Blk o j → W.heap.size ≤ j
/-- Between two spans: i are looked through; spans to come lie above, spans that came below. -/
def ArJ (W : World) (A : Ad) (L : Ls) (la : Option Addr) (cap : Nat) (S : List (Int × Int)) (p q Bs dd k : Nat) (X : World) : Prop :=
  ∃ i, i ≤ L.O.length ∧ ArI W A L la cap S p q Bs dd i X ∧ (∀ j (h : j < L.O.length), j < i → ∀ s ∈ S.take (S.length - k), L.O[j].1.n < s.1) ∧ ∀ j (h : j < L.O.length), i ≤ j → ∀ s ∈ S.drop (S.length - k), s.2 < L.O[j].1.n
set_option maxHeartbeats 2000000 in
theorem arrive_c {W : World} {A : Ad} {L : Ls} (h : Lg W A L) (hf : L.fit) (hz : L.z = zs L.O) (hc : L.c = ce L.O) (la : Option Addr) (cap : Nat) (S : List (Int × Int)) (hS : ∀ X, Chg A.own W X → Sr X la S) (haa : aa S = true) :
    Calls Try.prog 33 #[.pointer (some ⟨A.b, 0, none⟩), .slice la S.length cap] W (ArR W A L S) := by
  have haa' := haa
  simp only [aa, Bool.and_eq_true, decide_eq_true_eq] at haa'
  obtain ⟨⟨hS1, hS2⟩, hok⟩ := haa'
  obtain ⟨hpw, hsp⟩ := okS_pair hok
  obtain ⟨N, hN⟩ : ∃ N, S.length = N := ⟨_, rfl⟩
  have HA0 : Aside (L.ar S 0 = L) := Ls.ar_zero S hz hc
  have H : Aside _ := h
  have HS : Aside _ := hS
  have HF : Aside _ := hf
  have HPW : Aside _ := hpw
  have HSP : Aside _ := hsp
  have HLT : Aside (∀ k, A.own k → k < W.heap.size) := fun k hk => h.lt hk
  have hbl := h.blk
  generalize hRR : ArR W A L S = RR
  have HRR : Aside (∀ e w', ArR W A L S e w' → RR e w') := by subst hRR; exact fun _ _ h => h
  rw [hN]
  rw [hN] at hS1 hS2
  clear h hS hf hpw hsp hz hc hok haa hRR
  obtain ⟨p, hp⟩ : ∃ p, W.heap.size = p := ⟨_, rfl⟩
  refine callsIn_wide.1 (callsIn_of_wp_marks (F := Fence.wide) (n := 0) Try.func33 rfl trivial ?_ rfl)
  refine wpIn_wide.2 ?_
  simp only [Try.ntmps33, List.size_toArray, List.length_cons, List.length_nil, Nat.reduceAdd, Nat.reduceSub, Array.replicate_succ, Array.replicate_zero, List.push_toArray, List.append_toArray, List.nil_append, List.cons_append]
  go_wp2_with fail
  refine (back43_c _ _ _ _).mono ?_
  rintro e W8 ⟨rfl, hW8⟩
  have hb8 : Below W.heap.size W W8 := by rw [hW8]; exact (((Below.refl _ W).alloc (Nat.le_refl _) _).alloc (by simp) _).alloc (by simp; omega) _
  have hz8 : W8.heap.size = p + 3 := by rw [hW8]; simp; omega
  have x0 : W8.heap[p]? = some (.cells #[.pointer (some ⟨A.b, 0, none⟩)] 23 (0, 0)) := by
    rw [hW8, ← hp, Below.heap_alloc _ _ _ (by simp; omega), Below.heap_alloc _ _ _ (by simp)]; exact heap_alloc_new W _
  have x1 : W8.heap[p + 1]? = some (.cells #[.slice none 0 0] 38 (0, 0)) := by
    rw [hW8, ← hp, Below.heap_alloc _ _ _ (by simp)]
    have := heap_alloc_new (W.alloc (.cells #[.pointer (some ⟨A.b, 0, none⟩)] 23)) (.cells #[.slice none 0 0] 38)
    rwa [World.size_alloc] at this
  have x2 : W8.heap[p + 2]? = some (.cells #[.slice la N cap] 30 (0, 0)) := by
    rw [hW8, ← hp]
    have := heap_alloc_new ((W.alloc (.cells #[.pointer (some ⟨A.b, 0, none⟩)] 23)).alloc (.cells #[.slice none 0 0] 38)) (.cells #[.slice la N cap] 30)
    rwa [World.size_alloc, World.size_alloc] at this
  have hsz : ((W.alloc (.cells #[.pointer (some ⟨A.b, 0, none⟩)] 23)).alloc (.cells #[.slice none 0 0] 38)).heap.size = p + 2 := by simp; omega
  rw [hsz]
  have HP : Aside _ := hp
  clear hW8 hsz
  go_wp2
  refine (wpIn_wide (n := 0)).1 ?_
  refine range_out (gf := 52) (lb := #[.pointer (some ⟨p + 2, 0, none⟩)]) rfl (enters_of Try.func52 (by kernel_rfl) rfl) (I := ArJ W A L la cap S p (p + 1) (p + 2) (p + 3)) (Ix := fun _ _ _ => False) (N := N)
    (fun k X r r' hi hl => ?hI) (fun _ _ _ _ _ h _ => h) ?h0 ?hseq ?hdone (fun _ _ _ _ h => h.elim)
  case hI =>
    obtain ⟨i, h1, h2, h3, h4⟩ := hi
    exact ⟨i, h1, h2.put hl (by omega) _, h3, h4⟩
  case h0 =>
    intro o
    have hbb : Below W8.heap.size W8 ((W8.alloc (.deferred (some []))).alloc o) := ((Below.refl _ W8).alloc (Nat.le_refl _) _).alloc (by simp) _
    have hbw : Below W.heap.size W ((W8.alloc (.deferred (some []))).alloc o) := hb8.trans (hbb.mono (by omega))
    refine ⟨0, Nat.zero_le _, ⟨?_, Stp.of_below hbw, (hbb.block _ (by omega)).trans x0, ⟨none, 0, (hbb.block _ (by omega)).trans x1, Pr.nil _, fun j hj => hj.no.elim⟩, ?_, ?_⟩, fun j hj h0 => by omega, fun j hj h0 s hs => ?_⟩
    · rw [HA0.out]; exact Lg.bel H.out hbw
    · rw [hN]; exact (hbb.block _ (by omega)).trans x2
    · rw [← hz8, Below.heap_alloc _ _ _ (by simp)]; exact heap_alloc_new W8 _
    · simp at hs
  case hdone =>
    rintro X ⟨i, h1, h2, h3, h4⟩
    obtain ⟨o, c, k1, k2, k3⟩ := h2.hq
    have hsk : L.ar S i = L.ar S L.O.length ∧ ak S i L.O = ak S L.O.length L.O := by
      have : ∀ k (hk : k < L.O.length), i ≤ k → k < L.O.length → inS S L.O[k].1 = false := by
        intro k hk hik _
        unfold inS
        rw [List.any_eq_false]
        intro s hs
        have := h4 k hk hik s (by rw [hN, Nat.sub_self]; exact hs)
        simp
        omega
      exact ⟨Ls.ar_skips h1 (Nat.le_refl _) this, ak_skips h1 (Nat.le_refl _) this⟩
    have hst := h2.lg
    rw [hsk.1] at hst
    rw [hsk.2] at k1 k2
    have hK : X.heap[W8.heap.size]? = some (.deferred (some [])) := by rw [hz8]; exact h2.hd
    have hq0 : X.cell? ⟨p + 1, 0, none⟩ = some (.slice o (ak S L.O.length L.O).length c) := by simp [World.cell?, k1]
    have hqf : X.frozen? ⟨p + 1, 0, none⟩ = false := by simp [World.frozen?, k1]
    have hself : X.setCell ⟨p + 1, 0, none⟩ (.slice o (ak S L.O.length L.O).length c) = X := by
      rw [setCell_eq_setRow X (p + 1) 0 _ 38 (0, 0) _ k1]
      exact setRow_self X (p + 1) _ 38 (0, 0) k1
    have HFIN : Aside (∀ o', ArR W A L S (.returned (.slice o (ak S L.O.length L.O).length c)) (X.putObj W8.heap.size o')) := fun o' => by
      have hc : Chg (fun j => j = W8.heap.size) X (X.putObj W8.heap.size o') := ⟨rfl, rfl, rfl, by simp [World.putObj], fun j hj hx => World.putObj_heap_other (fun e => hx e)⟩
      refine ⟨o, c, rfl, hst.chg hc (fun k hk e => by have := HLT.out k hk; omega), ⟨rfl, h2.st.chg.andThen hc (fun j hj e => by omega), fun k hk => .inl hk⟩, Rw.chg k2 hc (fun j hj e => ?_), k3⟩
      obtain ⟨X', hx⟩ := Rw.ty k2 hj
      rw [e, hK] at hx
      cases hx
    generalize (ak S L.O.length L.O).length = nn at *
    clear hst h2 h3 h4 hsk k1 k2 k3 h1
    go_wp2
    refine ⟨by simp, .inl ⟨_, _, rfl, run_takeDeferred hK, ?_⟩⟩
    refine ⟨_, results_33 _ _ (p + 1) _ rfl ((World.cell?_of_block (a := ⟨p + 1, 0, none⟩) (World.putObj_heap_other (by show p + 1 ≠ W8.heap.size; omega))).trans hq0), HRR.out _ _ (HFIN.out _)⟩
  case hseq =>
    intro fn W1 hW1 hb1
    refine back_c (p + 2) cap N (W8.heap.size + 1) la S hN (fun k => S.getD (N - 1 - k) (0, 0)) (fun k hk => ?hE) _ _ W1 (fun k X hX => ?hF) (by omega) (fun k Wy hk hby => ?hY) hb1
    case hE => rw [List.getD_eq_getElem?_getD, List.getElem?_eq_getElem (by omega)]; rfl
    case hF =>
      obtain ⟨⟨i, h1, h2, h3, h4⟩, _⟩ := hX
      have hB := h2.hB
      rw [hN] at hB
      exact ⟨by simp [World.cell?, hB], HS.out X h2.st.chg⟩
    case hY =>
      have key := round_raw (P := Try.prog) (encs := fun k : Nat => #[.int .i64 ((N : Int) - 1 - k), .agg #[.int .i64 (S.getD (N - 1 - k) (0, 0)).1, .int .i64 (S.getD (N - 1 - k) (0, 0)).2]]) (fun _ => rfl) (Kp := fun _ _ => True) (fun _ _ => trivial) (fun _ _ _ _ => trivial) (I := ArJ W A L la cap S p (p + 1) (p + 2) (p + 3)) (Ix := fun _ _ _ => False) (fun k X r r' hi hl => by
        obtain ⟨i, h1, h2, h3, h4⟩ := hi
        exact ⟨i, h1, h2.put hl (by omega) _, h3, h4⟩) (fun _ _ _ _ _ h _ => h) hby ?_
      · obtain ⟨f1, f2, f3, f4, f5, f6⟩ := key
        refine ⟨f1, f2, f3, f4, f5, f6.mono (fun e W' h => ?_)⟩
        rcases h with ⟨h1, h2, _⟩ | ⟨h1, h2, _⟩
        · exact .inl ⟨h1, h2⟩
        · exact .inr ⟨h1, h2⟩
      · intro K hK
        obtain ⟨⟨i, hi1, hi2, hi3, hi4⟩, hl⟩ := hby
        have hkS : N - 1 - k < S.length := by omega
        have eE : S.getD (N - 1 - k) (0, 0) = S[N - 1 - k] := by rw [List.getD_eq_getElem?_getD, List.getElem?_eq_getElem hkS]; rfl
        have hmem : S[N - 1 - k] ∈ S := List.getElem_mem hkS
        have hup : ∀ s' ∈ S.take (S.length - (k + 1)), S[N - 1 - k].2 < s'.1 := by
          intro s' hs'
          obtain ⟨j, hj, rfl⟩ := List.getElem_of_mem hs'
          rw [List.length_take] at hj
          rw [List.getElem_take]
          exact List.pairwise_iff_getElem.1 HPW.out j (N - 1 - k) (by omega) hkS (by omega)
        have hdr : S.drop (S.length - (k + 1)) = S[N - 1 - k] :: S.drop (S.length - k) := by
          rw [hN, show N - (k + 1) = N - 1 - k by omega, List.drop_eq_getElem_cons hkS, show N - 1 - k + 1 = N - k by omega]
        have htk : ∀ s' ∈ S.take (S.length - (k + 1)), s' ∈ S.take (S.length - k) := fun s' hs' => by
          rw [List.mem_take_iff_getElem] at hs' ⊢
          obtain ⟨j, hj, e⟩ := hs'
          exact ⟨j, by omega, e⟩
        have hin : S[N - 1 - k] ∈ S.take (S.length - k) := by
          rw [List.mem_take_iff_getElem]
          exact ⟨N - 1 - k, by omega, rfl⟩
        have hge : ∀ s' ∈ S.take (S.length - k), S[N - 1 - k].1 ≤ s'.1 := by
          intro s' hs'
          obtain ⟨j, hj, rfl⟩ := List.getElem_of_mem hs'
          rw [List.length_take] at hj
          rw [List.getElem_take]
          by_cases e : j = N - 1 - k
          · subst e; exact Int.le_refl _
          · have h1 := List.pairwise_iff_getElem.1 HPW.out j (N - 1 - k) (by omega) hkS (by omega)
            have h2 := (HSP.out _ hmem).2.1
            omega
        have hsp := HSP.out _ hmem
        rw [eE] at *
        have HUP : Aside _ := hup
        have HDR : Aside _ := hdr
        have HTK : Aside _ := htk
        have HIN : Aside _ := hin
        have HMEM : Aside _ := hmem
        have HGE : Aside _ := hge
        clear hup hdr htk hin hmem eE hge
        generalize S[N - 1 - k] = sp at *
        obtain ⟨f, l⟩ := sp
        simp only at hsp
        obtain ⟨hf0, hfl, hl1⟩ := hsp
        have hlx : W8.heap.size + 1 < Wy.heap.size := (Array.getElem?_eq_some_iff.1 hl).1
        have hba := bel1 Wy (.cells #[.int .i64 f, .int .i64 l] 50)
        have ha1 := heap_alloc_new Wy (.cells #[.int .i64 f, .int .i64 l] 50)
        have hK2 := fun a' => hK a' (Wy.alloc (.cells #[.int .i64 f, .int .i64 l] 50)) (Below.heap_alloc Wy _ _ hlx) trivial
        have hIa := hi2.bel hba
        have hla := (hba.block _ hlx).trans hl
        have HK2 : Aside _ := hK2
        clear hK hK2 hl
        gi_wp2
        refine HK2.out _ (fun r4 => ?_)
        clear HK2
        have hIq := hIa.put hla (by omega) (.loop r4)
        have hlq : ((Wy.alloc (.cells #[.int .i64 f, .int .i64 l] 50)).putObj (W8.heap.size + 1) (.loop r4)).heap[W8.heap.size + 1]? = some (.loop r4) := World.putObj_heap_same (by simp; omega)
        have hsq : ((Wy.alloc (.cells #[.int .i64 f, .int .i64 l] 50)).putObj (W8.heap.size + 1) (.loop r4)).heap[Wy.heap.size]? = some (.cells #[.int .i64 f, .int .i64 l] 50 (0, 0)) := (World.putObj_heap_other (by omega)).trans ha1
        have hsW : W.heap.size ≤ Wy.heap.size := hi2.st.chg.2.2.2.1
        generalize (Wy.alloc (.cells #[.int .i64 f, .int .i64 l] 50)).putObj (W8.heap.size + 1) (.loop r4) = Wq at *
        generalize Wy.heap.size = sb at *
        clear hIa hla hba ha1 hi2 hlx
        -- how many numbers lie below
        obtain ⟨ON, hON⟩ : ∃ ON, L.O.length = ON := ⟨_, rfl⟩
        obtain ⟨i0, hi0⟩ : ∃ i0, nb L.O f = i0 := ⟨_, rfl⟩
        have hi0N : i0 ≤ ON := by rw [← hi0, ← hON]; exact tw_le _ _
        have hii0 : i ≤ i0 := by
          rcases Nat.lt_or_ge i0 i with h | h
          · have hj : i0 < L.O.length := by omega
            have h1 := hi3 i0 hj h (f, l) HIN.out
            have h2 := nb_hi HF.out.rise hj (by rw [hi0]; exact Nat.le_refl _) (n := f)
            simp only at h1
            omega
          · exact h
        have hnot : ∀ x (hx : x < L.O.length), i ≤ x → x < i0 → inS S L.O[x].1 = false := by
          intro x hx h1 h2
          unfold inS
          rw [List.any_eq_false]
          intro s hs
          have h3 : L.O[x].1.n < f := nb_lo hx (by rw [hi0]; exact h2)
          rcases List.mem_append.1 (by rw [List.take_append_drop (S.length - k) S]; exact hs) with h4 | h4
          · have : f ≤ s.1 := HGE.out s h4
            simp
            omega
          · have := hi4 x hx h1 s h4
            simp
            omega
        have HI0 : Aside (ArI W A L la cap S p (p + 1) (p + 2) (p + 3) i0 Wq) := by
          have e1 := Ls.ar_skips hii0 (by omega) hnot
          have e2 := ak_skips hii0 (by omega) hnot
          exact ⟨by rw [← e1]; exact hIq.lg, hIq.st, hIq.hp, by rw [← e2]; exact hIq.hq, hIq.hB, hIq.hd⟩
        have HLQ : Aside _ := hlq
        have HSQ : Aside _ := hsq
        have HI3 : Aside _ := hi3
        have HI4 : Aside _ := hi4
        have HON : Aside _ := hON
        have HNB : Aside (∀ x (hx : x < L.O.length), x < i0 → L.O[x].1.n < f) := fun x hx h => nb_lo hx (by rw [hi0]; exact h)
        have HNA : Aside (∀ x (hx : x < L.O.length), i0 ≤ x → f ≤ L.O[x].1.n) := fun x hx h => nb_hi HF.out.rise hx (by rw [hi0]; exact h)
        have hOm : ON ≤ 4000000000000 := by rw [← hON]; exact HF.out.len
        have hord : Rw 3 1 Wq A.o (L.O.map fun x => x.1.n).length A.oc ((L.O.map fun x => x.1.n).map fun x => .int .i64 x) := by
          have h1 := HI0.out.lg.ord
          have h2 : (L.ar S i0).O.length = (L.O.map fun x => x.1.n).length := by rw [List.length_map]; exact arO_len _ _ _
          have h3 : ns (L.ar S i0).O = (L.O.map fun x => x.1.n).map fun x => .int .i64 x := by
            rw [show (L.ar S i0).O = arO S i0 L.O from rfl, ns_fst (arO_fst S i0 L.O)]
            simp [ns, List.map_map, Function.comp_def]
          rw [h2, h3] at h1
          exact h1
        have hsch := isearch_c (Rw.bel hord ((Below.refl _ Wq).drew)) i0 f (by rw [List.length_map, hON]; exact hi0N) (by rw [List.length_map, hON]; exact hOm)
          (fun x hx h => by simpa using HNB.out x (by simpa using hx) h) (fun x hx h => by simpa using HNA.out x (by simpa using hx) h)
        rw [List.length_map, hON] at hsch
        have HSCH : Aside _ := hsch
        have hcap := hord.cap
        rw [List.length_map, hON] at hcap
        have q0 : Wq.cell? ⟨p, 0, none⟩ = some (.pointer (some ⟨A.b, 0, none⟩)) := by have := HI0.out.hp; simp [World.cell?, this]
        have q1 : Wq.cell? ⟨A.b, 1, none⟩ = some (.slice A.o ON A.oc) := by have := HI0.out.lg.c1; rw [show (L.ar S i0).O.length = ON by rw [← hON]; exact arO_len _ _ _] at this; exact this
        have q2 : Wq.cell? ⟨sb, 0, none⟩ = some (.int .i64 f) := by simp [World.cell?, hsq]
        have q3 : Wq.cell? ⟨sb, 1, none⟩ = some (.int .i64 l) := by simp [World.cell?, hsq]
        have HORD : Aside (∀ x (hx : x < L.O.length), ∃ g off, A.o = some ⟨g, off, none⟩) := fun x hx => by
          obtain ⟨g, off, e, _⟩ := hord.cell (j := x) (v := .int .i64 L.O[x].1.n) (by simp [hx])
          exact ⟨g, off, e⟩
        have hAo : (A.o = none ∧ ON = 0 ∧ A.oc = 0) ∨ ∃ g off, A.o = some ⟨g, off, none⟩ := by
          obtain ⟨_, ⟨e1, e2, e3⟩ | ⟨g, off, X, e1, _⟩⟩ := hord
          · exact .inl ⟨e1, by rw [List.length_map, hON] at e2; exact e2, e3⟩
          · exact .inr ⟨g, off, e1⟩
        clear hIq hlq hsq hi3 hi4 hON hord hsch hnot hi0
        refine wpIn_block ?_
        gi_wp2_with fail

        refine region_round (fun X => X.cell? ⟨p, 0, none⟩ = some (.pointer (some ⟨A.b, 0, none⟩)) ∧ X.cell? ⟨A.b, 1, none⟩ = some (.slice A.o ON A.oc) ∧ X.cell? ⟨sb, 0, none⟩ = some (.int .i64 f)) (by kernel_rfl) ?hd ?hQ ?hS (fun hHeld => ?_)
        case hd => exact noDefer (by kernel_rfl)
        case hQ => rintro ⟨a, w, hF⟩; exact hF
        case hS => exact ⟨q0, q1, q2⟩
        refine wpAnyH_take (i := 0) (v := .pointer (some ⟨A.b, 0, none⟩)) rfl (by kernel_rfl) (by kernel_rfl) (by kernel_rfl) (fun _ _ _ h => h) (Or.inl ⟨by rfl, by rintro w ⟨s0, s1, s2⟩; go_simp⟩) hHeld ?_
        refine norm_any' (fun K hK => ?_)
        go_simp
        refine hK _ _ ?_
        clear hK K
        refine wpAnyH_take (i := 1) (v := .pointer (some ⟨A.b, 0, none⟩)) rfl (by kernel_rfl) (by kernel_rfl) (by kernel_rfl) (fun _ _ _ h => h) (Or.inl ⟨by rfl, by intro w hs; go_simp⟩) hHeld ?_
        refine norm_any' (fun K hK => ?_)
        go_simp
        refine hK _ _ ?_
        clear hK K
        refine wpAnyH_take (i := 2) (v := .pointer (some ⟨A.b, 1, none⟩)) rfl (by kernel_rfl) (by kernel_rfl) (by kernel_rfl) (fun _ _ _ h => h) (Or.inl ⟨by rfl, by intro w hs; go_simp⟩) hHeld ?_
        refine norm_any' (fun K hK => ?_)
        go_simp
        refine hK _ _ ?_
        clear hK K
        refine wpAnyH_take (i := 3) (v := .slice A.o ON A.oc) rfl (by kernel_rfl) (by kernel_rfl) (by kernel_rfl) (fun _ _ _ h => h) (Or.inl ⟨by rfl, by rintro w ⟨s0, s1, s2⟩; go_simp⟩) hHeld ?_
        refine norm_any' (fun K hK => ?_)
        go_simp
        refine hK _ _ ?_
        clear hK K
        refine wpAnyH_take (i := 4) (v := .pointer (some ⟨sb, 0, none⟩)) rfl (by kernel_rfl) (by kernel_rfl) (by kernel_rfl) (fun _ _ _ h => h) (Or.inl ⟨by rfl, by intro w hs; go_simp⟩) hHeld ?_
        refine norm_any' (fun K hK => ?_)
        go_simp
        refine hK _ _ ?_
        clear hK K
        refine wpAnyH_take (i := 5) (v := .int .i64 f) rfl (by kernel_rfl) (by kernel_rfl) (by kernel_rfl) (fun _ _ _ h => h) (Or.inl ⟨by rfl, by rintro w ⟨s0, s1, s2⟩; go_simp⟩) hHeld ?_
        refine norm_any' (fun K hK => ?_)
        go_simp
        refine hK _ _ ?_
        clear hK K
        refine wpAnyH_ready (rs := [6]) (by kernel_rfl) (by simp) (AllReadyH.cons rfl (fun K hK => ?_) AllReadyH.nil)
        go_simp
        refine Calls.mono HSCH.out ?_
        rintro e w' ⟨bq, rfl, hbw⟩
        subst w'
        refine hK.out _ _ hHeld (fun hHeld => ?_)
        clear hK K
        refine norm_any' (fun K hK => ?_)
        go_simp
        refine hK _ _ ?_
        clear hK K
        refine wpAnyH_take (i := 7) (v := .tuple #[.int .i64 (i0 : Int), .bool bq]) rfl (by kernel_rfl) (by kernel_rfl) (by kernel_rfl) (fun _ _ _ h => h) (Or.inl ⟨by rfl, by intro w hs; go_simp⟩) hHeld ?_
        refine norm_any' (fun K hK => ?_)
        go_simp
        refine hK _ _ ?_
        clear hK K
        refine wpAnyH_take (i := 8) (v := .int .i64 (i0 : Int)) rfl (by kernel_rfl) (by kernel_rfl) (by kernel_rfl) (fun _ _ _ h => h) (Or.inl ⟨by rfl, by intro w hs; go_simp⟩) hHeld ?_
        refine norm_any' (fun K hK => ?_)
        go_simp
        refine hK _ _ ?_
        clear hK K
        refine wpAnyH_take (i := 9) (v := .bool bq) rfl (by kernel_rfl) (by kernel_rfl) (by kernel_rfl) (fun _ _ _ h => h) (Or.inl ⟨by rfl, by intro w hs; go_simp⟩) hHeld ?_
        refine norm_any' (fun K hK => ?_)
        go_simp
        refine hK _ _ ?_
        clear hK K
        refine wpAnyH_take (i := 10) (v := .int .i64 (i0 : Int)) rfl (by kernel_rfl) (by kernel_rfl) (by kernel_rfl) (fun _ _ _ h => h) (Or.inl ⟨by rfl, by intro w hs; go_simp⟩) hHeld ?_
        refine norm_any' (fun K hK => ?_)
        go_simp
        refine hK _ _ ?_
        clear hK K
        refine wpAnyH_take (i := 11) (v := .bool bq) rfl (by kernel_rfl) (by kernel_rfl) (by kernel_rfl) (fun _ _ _ h => h) (Or.inl ⟨by rfl, by intro w hs; go_simp⟩) hHeld ?_
        refine norm_any' (fun K hK => ?_)
        go_simp
        refine hK _ _ ?_
        clear hK K
        refine wpAnyH_done (by kernel_rfl) ?_ _
        clear hHeld HSCH
        have HI1 : Aside (ArI W A L la cap S p (p + 1) (p + 2) (p + 3) i0 Wq.drew) := HI0.out.bel ((Below.refl _ Wq).drew)
        have r0 : Wq.drew.cell? ⟨p, 0, none⟩ = some (.pointer (some ⟨A.b, 0, none⟩)) := q0
        have r1 : Wq.drew.cell? ⟨A.b, 1, none⟩ = some (.slice A.o ON A.oc) := q1
        have r3 : Wq.drew.cell? ⟨sb, 1, none⟩ = some (.int .i64 l) := q3
        have rl : Aside (Wq.drew.heap[W8.heap.size + 1]? = some (.loop r4)) := HLQ.out
        have rs : Aside (Wq.drew.heap[sb]? = some (.cells #[.int .i64 f, .int .i64 l] 50 (0, 0))) := HSQ.out
        generalize Wq.drew = Wd at *
        clear q0 q1 q2 q3 HI0
        have HEND : Aside (∀ (j : Nat) (X : World), i0 + j ≤ ON → ArI W A L la cap S p (p + 1) (p + 2) (p + 3) (i0 + j) X → (∀ x (hx : x < L.O.length), x < i0 + j → L.O[x].1.n ≤ l) → (∀ hx : i0 + j < L.O.length, l < L.O[i0 + j].1.n) → ArJ W A L la cap S p (p + 1) (p + 2) (p + 3) (k + 1) X) := by
          intro j X hj hI hlo hhi
          refine ⟨i0 + j, by rw [HON.out]; exact hj, hI, fun x hx h s' hs' => ?_, fun x hx h s' hs' => ?_⟩
          · have h1 := hlo x hx h
            have h2 : l < s'.1 := HUP.out s' hs'
            omega
          · have hx0 : i0 + j < L.O.length := by omega
            have h1 := hhi hx0
            have h2 : L.O[i0 + j].1.n ≤ L.O[x].1.n := by
              rcases Nat.lt_or_eq_of_le h with h5 | h5
              · exact Int.le_of_lt (List.pairwise_iff_getElem.1 HF.out.rise _ _ hx0 hx h5)
              · simp only [← h5]; exact Int.le_refl _
            rw [HDR.out] at hs'
            rcases List.mem_cons.1 hs' with e | hs'
            · rw [e]; show l < _; omega
            · exact HI4.out x hx (by omega) s' hs'
        have HB0 : Aside (∀ x (hx : x < L.O.length), x < i0 + 0 → L.O[x].1.n ≤ l) := fun x hx h => by have := HNB.out x hx h; omega
        have hc2 : A.oc ≤ 9223372036854775807 := by have := hcap.2; unfold maxLen at this; omega
        have hc1 := hcap.1
        rcases hAo with ⟨hA1, hA2, hA3⟩ | ⟨g, off, hA⟩
        · obtain rfl : i0 = 0 := by omega
          subst hA2
          rw [hA1, hA3] at r1
          gi_wp2_with fail
          gi_loopg [34] 1 (fun kx s34 wr => s34 = .int .i64 0 ∧ Aside (wr = Wd))
          case atStart => exact ⟨rfl, rfl⟩
          case round =>
            obtain ⟨rfl, HW⟩ := hrel
            gi_wp2
            refine ⟨?_, trivial, HEND.out 0 _ (Nat.zero_le _) (by rw [HW.out]; exact HI1.out) HB0.out (fun hx => by have := HON.out; omega)⟩
            first | rw [← hz8, HW.out] | rw [HW.out]
            exact rl.out.trans HLQ.out.symm
        · have HAO : Aside (AoIs A (some ⟨g, off, none⟩)) := hA
          clear HORD hcap
          generalize A.o = oo at *
          subst hA
          generalize A.oc = oc at *
          by_cases hio : i0 = oc
          · subst hio
            have i1 : (i0 : Int) ≤ ON := by omega
            have i4 : ON - i0 = 0 := by omega
            gi_wp2_with fail
            gi_loopg [34] 1 (fun kx s34 wr => s34 = .int .i64 0 ∧ Aside (wr = Wd))
            case atStart => exact ⟨rfl, rfl⟩
            case round =>
              obtain ⟨rfl, HW⟩ := hrel
              gi_wp2
              refine ⟨?_, trivial, HEND.out 0 _ (by omega) (by rw [HW.out]; exact HI1.out) HB0.out (fun hx => by have := HON.out; omega)⟩
              first | rw [← hz8, HW.out] | rw [HW.out]
              exact rl.out.trans HLQ.out.symm
          · have i1 : (i0 : Int) ≤ ON := by omega
            have i2 : (i0 : Int) ≤ oc := by omega
            have i3 : ¬ oc = i0 := fun e => hio e.symm
            gi_wp2_with fail
            obtain ⟨M, hM⟩ : ∃ M, ON - i0 = M := ⟨_, rfl⟩
            rw [hM]
            have HM : Aside _ := hM
            clear hM
            gi_loopg [34] M (fun kx s34 wr => ∃ j : Nat, s34 = .int .i64 (j : Int) ∧ j ≤ M ∧ M - j ≤ kx ∧ Aside (ArI W A L la cap S p (p + 1) (p + 2) (p + 3) (i0 + j) wr ∧ wr.heap[W8.heap.size + 1]? = some (.loop r4) ∧ wr.heap[sb]? = some (.cells #[.int .i64 f, .int .i64 l] 50 (0, 0)) ∧ ∀ x (hx : x < L.O.length), x < i0 + j → L.O[x].1.n ≤ l))
            case atStart => exact ⟨0, rfl, Nat.zero_le _, by omega, HI1.out, rl.out, rs.out, HB0.out⟩
            case round =>
              obtain ⟨j, rfl, hj, hg, HJ⟩ := hrel
              clear r0 r1 r3 HI1 rl rs
              by_cases hlt : j < M
              · have hx : i0 + j < L.O.length := by have := HM.out; have := HON.out; omega
                obtain ⟨gb, ob, eo, cc, -⟩ := HJ.out.1.lg.ord.cell (j := i0 + j) (v := .int .i64 L.O[i0 + j].1.n) (by
                  show (ns (arO S (i0 + j) L.O))[i0 + j]? = _
                  rw [ns_fst (arO_fst S (i0 + j) L.O)]; simp [ns, hx])
                rw [show A.o = some ⟨g, off, none⟩ from HAO.out] at eo
                injection eo with eo
                injection eo with eo1 eo2
                subst eo1 eo2
                rw [← Nat.add_assoc] at cc
                have hpk := HF.out.pk _ (List.getElem_mem hx)
                have hlk := HJ.out.1.lg.mp.look (arO_mem (S := S) hx) hpk
                have hfn : f ≤ L.O[i0 + j].1.n := HNA.out _ hx (by omega)
                have HSK : Aside (L.O[i0 + j].2 = false → L.ar S (i0 + j) = L.ar S (i0 + j + 1) ∧ ak S (i0 + j) L.O = ak S (i0 + j + 1) L.O) := fun hh => ⟨Ls.ar_skip hx (.inl hh), by rw [ak_succ hx, if_neg (by rw [hh]; simp)]; simp⟩
                have HTA : Aside (L.O[i0 + j].1.n ≤ l → L.O[i0 + j].2 = true → inS S L.O[i0 + j].1 = true ∧ (L.ar S (i0 + j)).take L.O[i0 + j].1 = { L.ar S (i0 + j + 1) with g := gq L.g (ak S (i0 + j) L.O) } ∧ ak S (i0 + j + 1) L.O = ak S (i0 + j) L.O ++ [L.O[i0 + j].1] ∧ gq L.g (ak S (i0 + j + 1) L.O) = max (gq L.g (ak S (i0 + j) L.O)) L.O[i0 + j].1.n) := fun h1 h2 => by
                  have hin : inS S L.O[i0 + j].1 = true := by
                    unfold inS
                    rw [List.any_eq_true]
                    exact ⟨(f, l), HMEM.out, by simp; omega⟩
                  exact ⟨hin, Ls.ar_take hx HF.out.rise h2 hin, (Ls.ar_g hx h2 hin).1, (Ls.ar_g hx h2 hin).2⟩
                have HNX : Aside (L.O[i0 + j].1.n ≤ l → ∀ x (hx : x < L.O.length), x < i0 + j + 1 → L.O[x].1.n ≤ l) := fun h1 x hx h2 => by
                  by_cases e : x = i0 + j
                  · subst e; exact h1
                  · exact HJ.out.2.2.2 x hx (by omega)
                have HBR : Aside (l < L.O[i0 + j].1.n → ArJ W A L la cap S p (p + 1) (p + 2) (p + 3) (k + 1) wr) := fun h1 => HEND.out j wr (by have := HM.out; omega) HJ.out.1 HJ.out.2.2.2 (fun _ => h1)
                have q0 : wr.cell? ⟨p, 0, none⟩ = some (.pointer (some ⟨A.b, 0, none⟩)) := by have := HJ.out.1.hp; simp [World.cell?, this]
                have q1 : wr.cell? ⟨A.b, 0, none⟩ = some (.map (some A.mb)) := HJ.out.1.lg.c0
                have q3 : wr.cell? ⟨sb, 1, none⟩ = some (.int .i64 l) := by have := HJ.out.2.2.1; simp [World.cell?, this]
                have hjM : (j : Int) < M := by omega
                have iw : IntKind.i64.wrap ((j : Int) + 1) = (j : Int) + 1 := wrp _ (by have := HM.out; omega) (by have := HM.out; omega)
                generalize L.O[i0 + j] = xx at *
                obtain ⟨⟨pn, pa, ps, pe⟩, pb⟩ := xx
                simp only at hlk cc hfn
                have HPK : Aside _ := hpk
                clear hpk hx
                by_cases hnl : l < pn
                · have HJJ : Aside _ := HBR.out hnl
                  cases pb with
                  | true =>
                    gi_wp2
                    refine ⟨?_, trivial, HJJ.out⟩
                    rw [← hz8]
                    exact HJ.out.2.1.trans HLQ.out.symm
                  | false =>
                    gi_wp2
                    refine ⟨?_, trivial, HJJ.out⟩
                    rw [← hz8]
                    exact HJ.out.2.1.trans HLQ.out.symm
                · have hnl2 : pn ≤ l := by omega
                  have HNX2 : Aside _ := HNX.out hnl2
                  cases pb with
                  | false =>
                    have HSK2 : Aside _ := HSK.out rfl
                    simp only [Bool.false_eq_true, if_false] at hlk
                    clear HSK HTA HBR HNX
                    have hb := bel1 wr (.cells #[.int .i64 0, .int .i64 0, .int .i64 0, .bool false] 29)
                    have HB : Aside _ := hb
                    clear hb
                    gi_wp2
                    gi_roundg (M - (j + 1))
                    case measure => omega
                    case rel =>
                      have hI := HJ.out.1.bel HB.out
                      refine ⟨j + 1, rfl, by omega, Nat.le_refl _, ⟨by rw [← Nat.add_assoc, ← HSK2.out.1]; exact hI.lg, hI.st, hI.hp, by rw [← Nat.add_assoc, ← HSK2.out.2]; exact hI.hq, hI.hB, hI.hd⟩, ?_, ?_, HNX2.out⟩
                      · exact (HB.out.block _ (Array.getElem?_eq_some_iff.1 HJ.out.2.1).1).trans HJ.out.2.1
                      · exact (HB.out.block _ (Array.getElem?_eq_some_iff.1 HJ.out.2.2.1).1).trans HJ.out.2.2.1
                  | true =>
                    have HTA2 : Aside _ := HTA.out hnl2 rfl
                    simp only [if_true] at hlk
                    clear HSK HTA HBR HNX
                    have HB : Aside _ := bel1 wr (.cells #[.int .i64 pn, .int .i64 pa, .int .i64 ps, .bool pe] 29)
                    have q0a : (wr.alloc (.cells #[.int .i64 pn, .int .i64 pa, .int .i64 ps, .bool pe] 29)).cell? ⟨p, 0, none⟩ = some (.pointer (some ⟨A.b, 0, none⟩)) := cell_bel q0 HB.out
                    have HXN : Aside _ := heap_alloc_new wr (.cells #[.int .i64 pn, .int .i64 pa, .int .i64 ps, .bool pe] 29)
                    have hzb := zs_bound (O := arO S (i0 + j) L.O) (ok_fst (arO_fst S (i0 + j) L.O) HF.out.pk)
                    have hcb := ce_bound (arO S (i0 + j) L.O)
                    rw [arO_len, HON.out] at hzb hcb
                    have hIB := HJ.out.1.bel HB.out
                    have htk := take_c hIB.lg ⟨pn, pa, ps, pe⟩ HPK.out hzb.1 (by have := hzb.2; show zs (arO S (i0 + j) L.O) ≤ _; omega) hcb.1 (by have := hcb.2; show ce (arO S (i0 + j) L.O) ≤ _; omega)
                    rw [HTA2.out.2.1] at htk
                    have HIB : Aside _ := hIB
                    clear hzb hcb hIB
                    gi_wp2_with fail
                    refine ⟨trivial, rfl, CallsIn.inRound _ (callsIn_wide.2 (htk.mono ?_))⟩
                    clear htk
                    rintro e Y ⟨rfl, hY, hSY⟩
                    obtain ⟨o, n, c, g', off', c', w3, hn, y0, hap, w0, wf, p4, g4, f4, hA5, hfar⟩ := ArI.step (pk := ⟨pn, pa, ps, pe⟩) HIB.out hY hSY HLT.out (by omega) (by omega) (by omega) (by omega) (by omega) (by omega) (by omega) HTA2.out.2.2.1 HTA2.out.2.2.2 (by rw [HON.out]; exact hOm)
                    have hYb : Y.heap[wr.heap.size]? = some (.cells #[.int .i64 pn, .int .i64 pa, .int .i64 ps, .bool pe] 29 (0, 0)) := (hSY.keep HXN.out (fun ho => by have := HLT.out _ ho; have := HJ.out.1.st.chg.2.2.2.1; omega)).1
                    have b0 : Y.cell? ⟨wr.heap.size, 0, none⟩ = some (.int .i64 pn) := by simp [World.cell?, hYb]
                    have b1 : Y.cell? ⟨wr.heap.size, 1, none⟩ = some (.int .i64 pa) := by simp [World.cell?, hYb]
                    have b2 : Y.cell? ⟨wr.heap.size, 2, none⟩ = some (.int .i64 ps) := by simp [World.cell?, hYb]
                    have b3 : Y.cell? ⟨wr.heap.size, 3, none⟩ = some (.bool pe) := by simp [World.cell?, hYb]
                    have HAP : Aside ((Builtin.append_ #[38, 38] 38 #[.slice o n c, .slice (some ⟨Y.heap.size, 0, none⟩) 1 1]).run Try.prog (Y.alloc (.cells #[.int .i64 pn, .int .i64 pa, .int .i64 ps, .bool pe] 29)) = .ok (.slice (some ⟨g', off', none⟩) (n + 1) c') w3) := hap
                    have HA5 : Aside _ := hA5
                    have HFAR : Aside _ := hfar
                    have HHL : Aside ((wr.alloc (.cells #[.int .i64 pn, .int .i64 pa, .int .i64 ps, .bool pe] 29)).heap[W8.heap.size + 1]? = some (.loop r4)) := (HB.out.block _ (Array.getElem?_eq_some_iff.1 HJ.out.2.1).1).trans HJ.out.2.1
                    have HHS : Aside ((wr.alloc (.cells #[.int .i64 pn, .int .i64 pa, .int .i64 ps, .bool pe] 29)).heap[sb]? = some (.cells #[.int .i64 f, .int .i64 l] 50 (0, 0))) := (HB.out.block _ (Array.getElem?_eq_some_iff.1 HJ.out.2.2.1).1).trans HJ.out.2.2.1
                    have hsbq : Aside (sb ≠ p + 1) := fun e => by
                      obtain ⟨o5, c5, k5, _⟩ := HJ.out.1.hq
                      have k6 := HJ.out.2.2.1
                      rw [e, k5] at k6
                      simp at k6
                    have HN2 : Aside _ := hn
                    clear hap hA5 hfar hYb hY hSY q0a hn
                    generalize gq L.g (ak S (i0 + j) L.O) = gg at *
                    generalize wr.heap.size = bx at *
                    have hAbp : A.b ≠ p := by have := HLT.out A.b (.inl rfl); omega
                    gi_wp2_with (refine apprIn rfl _ _ 38 38 rfl _ _ rfl rfl HAP.out (Hid.out ?_))
                    refine mkHid ?_
                    gi_wp2_with fail
                    generalize w3.setCell ⟨p + 1, 0, none⟩ (.slice (some ⟨g', off', none⟩) (n + 1) c') = w4 at *
                    have m1 := max_if gg pn
                    have c3' : w4.drew.cell? ⟨A.b, 3, none⟩ = some (.int .i64 gg) := g4
                    have f3' : w4.drew.frozen? ⟨A.b, 3, none⟩ = false := f4

                    refine region_round (fun X => X.cell? ⟨p, 0, none⟩ = some (.pointer (some ⟨A.b, 0, none⟩))) (by kernel_rfl) ?hd ?hQ ?hS (fun hHeld => ?_)
                    case hd => exact noDefer (by kernel_rfl)
                    case hQ => rintro ⟨a, w, hF⟩; exact hF
                    case hS => exact p4
                    refine wpAnyH_take (i := 0) (v := .pointer (some ⟨A.b, 0, none⟩)) rfl (by kernel_rfl) (by kernel_rfl) (by kernel_rfl) (fun _ _ _ h => h) (Or.inl ⟨by rfl, by rintro w s0; go_simp⟩) hHeld ?_
                    refine norm_any' (fun K hK => ?_)
                    go_simp
                    refine hK _ _ ?_
                    clear hK K
                    refine wpAnyH_take (i := 1) (v := .pointer (some ⟨A.b, 0, none⟩)) rfl (by kernel_rfl) (by kernel_rfl) (by kernel_rfl) (fun _ _ _ h => h) (Or.inl ⟨by rfl, by rintro w s0; go_simp⟩) hHeld ?_
                    refine norm_any' (fun K hK => ?_)
                    go_simp
                    refine hK _ _ ?_
                    clear hK K
                    refine wpAnyH_take (i := 2) (v := .pointer (some ⟨A.b, 0, none⟩)) rfl (by kernel_rfl) (by kernel_rfl) (by kernel_rfl) (fun _ _ _ h => h) (Or.inl ⟨by rfl, by intro w hs; go_simp⟩) hHeld ?_
                    refine norm_any' (fun K hK => ?_)
                    go_simp
                    refine hK _ _ ?_
                    clear hK K
                    refine wpAnyH_take (i := 3) (v := .pointer (some ⟨A.b, 3, none⟩)) rfl (by kernel_rfl) (by kernel_rfl) (by kernel_rfl) (fun _ _ _ h => h) (Or.inl ⟨by rfl, by intro w hs; go_simp⟩) hHeld ?_
                    refine norm_any' (fun K hK => ?_)
                    go_simp
                    refine hK _ _ ?_
                    clear hK K
                    refine wpAnyH_take (i := 5) (v := .int .i64 pn) rfl (by kernel_rfl) (by kernel_rfl) (by kernel_rfl) (fun _ _ _ h => h) (Or.inl ⟨by rfl, by intro w hs; go_simp⟩) hHeld ?_
                    refine norm_any' (fun K hK => ?_)
                    go_simp
                    refine hK _ _ ?_
                    clear hK K
                    refine wpAnyH_ready (rs := [4]) (by kernel_rfl) (by simp) (AllReadyH.cons rfl (fun K hK => ?_) AllReadyH.nil)
                    go_simp
                    skip
                    refine hK.out _ _ hHeld (fun hHeld => ?_)
                    clear hK K
                    refine norm_any' (fun K hK => ?_)
                    go_simp
                    refine hK _ _ ?_
                    clear hK K
                    refine wpAnyH_take (i := 6) (v := .int .i64 (max gg pn)) rfl (by kernel_rfl) (by kernel_rfl) (by kernel_rfl) (fun _ _ _ h => h) (Or.inl ⟨by rfl, by intro w hs; go_simp⟩) hHeld ?_
                    refine norm_any' (fun K hK => ?_)
                    go_simp
                    refine hK _ _ ?_
                    clear hK K
                    refine wpAnyH_take (i := 7) (v := .pointer (some ⟨A.b, 0, none⟩)) rfl (by kernel_rfl) (by kernel_rfl) (by kernel_rfl) (fun _ _ _ h => h) (Or.inl ⟨by rfl, by intro w hs; go_simp⟩) hHeld ?_
                    refine norm_any' (fun K hK => ?_)
                    go_simp
                    refine hK _ _ ?_
                    clear hK K
                    refine wpAnyH_take (i := 8) (v := .pointer (some ⟨A.b, 3, none⟩)) rfl (by kernel_rfl) (by kernel_rfl) (by kernel_rfl) (fun _ _ _ h => h) (Or.inl ⟨by rfl, by intro w hs; go_simp⟩) hHeld ?_
                    refine norm_any' (fun K hK => ?_)
                    go_simp
                    refine hK _ _ ?_
                    clear hK K
                    refine wpAnyH_ready (rs := [9]) (by kernel_rfl) (by simp) (AllReadyH.cons rfl (fun K hK => ?_) AllReadyH.nil)
                    go_simp
                    skip
                    refine hK.out _ _ (by show (w4.setCell _ _).cell? _ = _; rw [World.cell?_setCell_far _ _ _ _ (by simpa using hAbp)]; exact p4) (fun hHeld => ?_)
                    clear hK K
                    refine norm_any' (fun K hK => ?_)
                    go_simp
                    refine hK _ _ ?_
                    clear hK K
                    refine wpAnyH_done (by kernel_rfl) ?_ _
                    clear hHeld
                    have hdr := (Below.refl (w4.setCell ⟨A.b, 3, none⟩ (.int .i64 (max gg pn))).heap.size (w4.setCell ⟨A.b, 3, none⟩ (.int .i64 (max gg pn)))).drew
                    have HFIN : Aside (ArI W A L la cap S p (p + 1) (p + 2) (p + 3) (i0 + (j + 1)) (w4.setCell ⟨A.b, 3, none⟩ (.int .i64 (max gg pn))).drew ∧ (w4.setCell ⟨A.b, 3, none⟩ (.int .i64 (max gg pn))).drew.heap[W8.heap.size + 1]? = some (.loop r4) ∧ (w4.setCell ⟨A.b, 3, none⟩ (.int .i64 (max gg pn))).drew.heap[sb]? = some (.cells #[.int .i64 f, .int .i64 l] 50 (0, 0))) := by
                      refine ⟨HA5.out.bel hdr, ?_, ?_⟩
                      · exact HFAR.out _ _ HHL.out (fun ho => by have := HLT.out _ ho; omega) (by omega) (fun Z e => by cases e)
                      · exact HFAR.out _ _ HHS.out (fun ho => by have := HLT.out _ ho; omega) hsbq.out (fun Z e => by simp at e)
                    clear hdr HA5 HFAR HHL HHS
                    gi_wp2
                    gi_roundg (M - (j + 1))
                    case measure => omega
                    case rel => exact ⟨j + 1, rfl, by omega, Nat.le_refl _, HFIN.out.1, HFIN.out.2.1, HFIN.out.2.2, HNX2.out⟩
              · obtain rfl : j = M := by omega
                have hjM : ¬ (j : Int) < j := by omega
                have HJJ : Aside (ArJ W A L la cap S p (p + 1) (p + 2) (p + 3) (k + 1) wr) := HEND.out j wr (by have := HM.out; omega) HJ.out.1 HJ.out.2.2.2 (fun hx => by have := HM.out; have := HON.out; omega)
                gi_wp2
                refine ⟨?_, trivial, HJJ.out⟩
                rw [← hz8]
                exact HJ.out.2.1.trans HLQ.out.symm
end Go.Proofs.Ytkjcapmhjhnckaa
