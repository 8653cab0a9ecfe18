/- seen: join. -/
import Derived.Test.YtlobnlkpbenngaaDel
import Derived.Test.YtlobnlkpbenngaaNuA
import Derived.Test.YtlobnlkpbenngaaColW
namespace Go.Proofs.YtlobnlkpbenngaaR
open Go.RowKit Go.Shelf Go.Lib
set_option linter.unusedVariables false

attribute [local go_sem] Oper.semAt_some

theorem My_kept {A B : World} {row : Option Nat} {n n₀ S : Nat} {o : Option Addr} {L : List (Int × Int)} (h : My n₀ A S o L) (hg : A.grownBy B row) (hr : ∀ r, row = some r → n ≤ r ∧ ∃ o : Obj, A.heap[r]? = some o ∧ o.isCells = false) : My n₀ B S o L := by
  obtain ⟨⟨c, h1⟩, h2⟩ := h
  exact ⟨⟨c, kept_cells h1.1 hg hr, Rs_kept h1.2.1 hg hr, h1.2.2⟩, h2⟩
theorem Nu_kept {A B : World} {row : Option Nat} {n n₀ M G c : Nat} {Q : List Pt} (h : Nu n₀ A M G c Q) (hg : A.grownBy B row) (hr : ∀ r, row = some r → n ≤ r ∧ ∃ o : Obj, A.heap[r]? = some o ∧ o.isCells = false) : Nu n₀ B M G c Q := by
  obtain ⟨R, hA, hR⟩ := h.row
  exact ⟨kept_cells h.head hg hr, ⟨R, kept_cells hA hg hr, hR⟩, h.cap, fun a ha => My_kept (h.sets a ha) hg hr, h.apart, h.hM, h.hG⟩
theorem Kp_kept {w A B : World} {row : Option Nat} {n n₀ : Nat} (h : Kp n₀ w A) (hn : w.heap.size ≤ n) (hg : A.grownBy B row) (hr : ∀ r, row = some r → n ≤ r ∧ ∃ o : Obj, A.heap[r]? = some o ∧ o.isCells = false) : Kp n₀ w B :=
  ⟨hg.os.trans h.1, hg.tape.trans h.2.1, hg.output.trans h.2.2.1, Nat.le_trans h.2.2.2.1 hg.size, fun k hk hx => (hg.block k (Nat.lt_of_lt_of_le hk h.2.2.2.1) (fun e => by have := (hr k e.symm).1; omega)).trans (h.2.2.2.2 k hk hx)⟩

/-- What a set's turn pays in a loop over another set. -/
theorem Turn.pays {n₀ : Nat} {W W' : World} {T : Nat} {o o' : Option Addr} {L L' : List (Int × Int)} (h : My n₀ W T o L) (ht : Turn n₀ W W' T o o' L') (B : Nat) : KeepsFrom B W W' ∧ Kq (fun k => k = T) ⟨T, 1, none⟩ W W' := by
  obtain ⟨⟨Y, hY⟩, hr⟩ := h.row
  obtain ⟨⟨⟨c', h1'⟩, _⟩, hc, ho⟩ := ht
  obtain ⟨⟨c, h1⟩, _⟩ := h
  refine ⟨⟨hc.2.2.2.1, fun k ob _ hk hob => ?_⟩, hc.2.2.2.1, fun k A t hk hx hn => ?_, fun k n cc hk e => ?_⟩
  · refine (hc.2.2.2.2 k (Array.getElem?_eq_some_iff.1 hk).1 ?_).trans hk
    rintro (rfl | e)
    · rw [hY] at hk; cases hk; simp [Obj.isCells] at hob
    · obtain ⟨Z, hZ⟩ := hr k e
      rw [hZ] at hk; cases hk; simp [Obj.isCells] at hob
  · refine hc.2.2.2.2 k (Array.getElem?_eq_some_iff.1 hk).1 ?_
    rintro (rfl | e)
    · exact hx rfl
    · exact hn _ _ (e ▸ h1.head.2)
  · rw [h1'.head.2] at e
    obtain ⟨rfl, rfl, rfl⟩ : o' = some ⟨k, 0, none⟩ ∧ L'.length = n ∧ c' = cc := by simpa using e
    rcases ho with ho | ⟨g, hg, hl⟩
    · exact ⟨_, _, ho ▸ h1.head.2⟩
    · obtain rfl : k = g := by injection hg with hg; injection hg
      omega

def calmP (Q : Exit → Act → World → Prop) : Exit → Act → World → Prop
  | .panic _, _, _ => False
  | .outgrown, _, _ => False
  | e, a, w => Q e a w
theorem calm_le {Q : Exit → Act → World → Prop} : ∀ e a w, calmP Q e a w → Q e a w := by
  intro e a w h
  cases e <;> first | exact h | exact h.elim
theorem calls_calm {f : FuncId} {fn : Func} {c : Code} {args : Array Value} {w : World} {R : Ending → World → Prop} (hf : Try.prog.funcs[f]? = some fn) (hb : fn.body = some c)
    (h : c.wp Try.prog (calmP (bodyPostM Fence.wide 5 Try.prog fn R)) { tmps := args ++ Array.replicate (fn.ntmps - args.size) undef, defers := [] } w) : Calls Try.prog f args w R :=
  callsIn_wide.1 (callsIn_of_wp_marks (F := Fence.wide) (n := 5) hf hb trivial (wpIn_mono (wpIn_wide.2 h) calm_le) rfl)

theorem cell1_new' (W : World) (v : Value) (t : TypeId) : (W.alloc (.cells #[v] t)).cell? ⟨W.heap.size, 0, none⟩ = some v := by
  have h := World.alloc_heap_new W (.cells #[v] t)
  show World.cell? _ _ = _
  unfold World.cell?
  simp only [h]
  simp
theorem del_c (g c n i : Nat) (A B : List (Int × Nat)) (x : Int × Nat) (R : List Value) (w : World) (h1 : A.length = i) (hn : i + 1 + B.length = n) (hA : YtlobnlkpbenngaaP.At w g (YtlobnlkpbenngaaP.fl (A ++ x :: B) ++ R)) (hR : R.length + n * 2 = c * 2) (hcm : c ≤ maxLen) (hsm : n ≤ 68719476736) :
    Calls Try.prog 44 #[.slice (some ⟨g, 0, none⟩) n c, .int .i64 (i : Int), .int .i64 ((i : Int) + 1)] w fun e w' => e = .returned (.slice (some ⟨g, 0, none⟩) (n - 1) c) ∧ (∃ R', YtlobnlkpbenngaaP.At w' g (YtlobnlkpbenngaaP.fl (A ++ B) ++ R') ∧ R'.length + (n - 1) * 2 = c * 2) ∧ Chg (fun k => k = g) w w' := by
  by_cases hlt : i + 1 < c
  · exact YtlobnlkpbenngaaP.delete_mid g c n i A B x R w h1 hn hA hR hcm hsm hlt
  · obtain rfl : c = i + 1 := by omega
    obtain rfl : n = i + 1 := by omega
    obtain rfl : B = [] := List.length_eq_zero_iff.1 (by omega)
    obtain rfl : R = [] := List.length_eq_zero_iff.1 (by omega)
    refine (YtlobnlkpbenngaaP.delete_last g i A x w h1 (by simpa using hA) (by omega)).mono ?_
    rintro e w' ⟨rfl, ⟨R', q1, q2⟩, q3⟩
    exact ⟨by simp, ⟨R', by simpa using q1, by simpa using q2⟩, q3⟩

/-- A part is left out. -/
theorem Nu.del {n₀ : Nat} {W w3 : World} {M G c : Nat} {A1 : List Pt} {b : Pt} {B : List Pt} (h : Nu n₀ W M G c (A1 ++ b :: B)) (hc : Chg (fun k => k = G) W w3) (R' : List Value) (hA : YtlobnlkpbenngaaP.At w3 G (YtlobnlkpbenngaaP.fl (A1.map Pt.p ++ B.map Pt.p) ++ R')) (hR : R'.length + (A1 ++ B).length * 2 = c * 2) :
    w3.cell? ⟨M, 0, none⟩ = some (.slice (some ⟨G, 0, none⟩) (A1 ++ b :: B).length c) ∧ w3.frozen? ⟨M, 0, none⟩ = false ∧ Nu n₀ (w3.setCell ⟨M, 0, none⟩ (.slice (some ⟨G, 0, none⟩) (A1 ++ B).length c)) M G c (A1 ++ B) ∧ Kp n₀ W (w3.setCell ⟨M, 0, none⟩ (.slice (some ⟨G, 0, none⟩) (A1 ++ B).length c)) := by
  obtain ⟨R, hA0, hR0⟩ := h.row
  have hMG : M ≠ G := by
    rintro rfl
    have := h.head.symm.trans hA0
    simp at this
  have hM : w3.heap[M]? = some (.cells #[.slice (some ⟨G, 0, none⟩) (A1 ++ b :: B).length c] 76 (0, 0)) := (hc.2.2.2.2 M h.lt.1 hMG).trans h.head
  have hc2 : Chg (fun k => k = G ∨ k = M) W (w3.setCell ⟨M, 0, none⟩ (.slice (some ⟨G, 0, none⟩) (A1 ++ B).length c)) := by
    rw [setCell_eq_setRow w3 M 0 _ 76 (0, 0) _ hM]
    exact (hc.mono (fun k _ hk => .inl hk)).set M _ (.inl (.inr rfl))
  refine ⟨by simp [World.cell?, hM], by simp [World.frozen?, hM], ⟨?_, ⟨R', ?_, hR⟩, h.cap, fun a ha => ?_, ?_, h.hM, h.hG⟩, ?_⟩
  · rw [setCell_eq_setRow w3 M 0 _ 76 (0, 0) _ hM, setRow_heap w3 M _ _ 76 (0, 0) hM]
    simp
  · rw [setCell_eq_setRow w3 M 0 _ 76 (0, 0) _ hM, List.map_append]
    exact (setRow_other w3 M G _ (Ne.symm hMG)).trans hA
  · have ha2 : a ∈ A1 ++ b :: B := by
      rcases List.mem_append.1 ha with ha | ha
      · exact List.mem_append_left _ ha
      · exact List.mem_append_right _ (List.mem_cons_of_mem _ ha)
    have hmy := h.sets a ha2
    obtain ⟨⟨Y, hY⟩, hr⟩ := hmy.row
    refine hmy.chg hc2 ?_ ?_
    · rintro (e | e)
      · rw [e] at hY; have := hY.symm.trans hA0; simp at this
      · rw [e] at hY; have := hY.symm.trans h.head; simp at this
    · rintro g hg (e | e)
      · obtain ⟨Z, hZ⟩ := hr g hg
        rw [e] at hZ; have := hZ.symm.trans hA0; simp at this
      · obtain ⟨Z, hZ⟩ := hr g hg
        rw [e] at hZ; have := hZ.symm.trans h.head; simp at this
  · have := List.pairwise_append.1 h.apart
    exact List.pairwise_append.2 ⟨this.1, (List.pairwise_cons.1 this.2.1).2, fun x hx y hy => this.2.2 x hx y (List.mem_cons_of_mem _ hy)⟩
  · refine Kp.chg hc2 (fun k hk hx => ?_)
    rcases hx with rfl | rfl
    · exact ⟨h.hG, _, 73, hA0, .inr (.inl rfl)⟩
    · exact ⟨h.hM, _, 76, h.head, .inl rfl⟩

/-- What join leaves. -/
def JoinQ (n₀ M G c : Nat) (A : List Pt) (a b : Pt) (B : List Pt) (w : World) (e : Ending) (w' : World) : Prop :=
  (∃ v, e = .returned v) ∧ ((512 < a.L.length + b.L.length ∧ Below w.heap.size w w') ∨
    (a.L.length + b.L.length ≤ 512 ∧ ∃ o' L', Nu n₀ w' M G c (A ++ ⟨a.f, a.T, o', L'⟩ :: B) ∧ (∀ n, In n L' ↔ In n a.L ∨ In n b.L) ∧ L'.length ≤ a.L.length + b.L.length ∧ Kp n₀ w w'))

set_option maxRecDepth 100000 in
set_option maxHeartbeats 4000000 in
theorem join_c (n₀ M G c i : Nat) (A : List Pt) (a b : Pt) (B : List Pt) (w : World) (h : Nu n₀ w M G c (A ++ a :: b :: B)) (hn₀ : n₀ ≤ w.heap.size) (hi : A.length + 1 = i) (hsz : (A ++ a :: b :: B).length ≤ 68719476736) (hla : a.L.length ≤ 2000) (hlb : b.L.length ≤ 2000) :
    Calls Try.prog 40 #[.pointer (some ⟨M, 0, none⟩), .int .i64 (i : Int)] w (JoinQ n₀ M G c A a b B w) := by
  have hc := h.headC
  have ca : w.cell? ⟨G, (i - 1) * 2 + 1, none⟩ = some (.pointer (some ⟨a.T, 0, none⟩)) := Nu.cell h (i - 1) (by omega)
  have cb : w.cell? ⟨G, i * 2 + 1, none⟩ = some (.pointer (some ⟨b.T, 0, none⟩)) := Nu.cell (A := A ++ [a]) (a := b) (B := B) (by simpa using h) i (by simp; omega)
  obtain ⟨N, hN⟩ : ∃ N, (A ++ a :: b :: B).length = N := ⟨_, rfl⟩
  have hiN : i < N := by rw [← hN]; simp; omega
  have hi1 : 1 ≤ i := by omega
  have hi0 : ¬ ((i : Int) < 1) := by omega
  have hid : decide ((i : Int) < 1) = false := by simp; omega
  rw [hN] at hc hsz
  obtain ⟨⟨sa, hSa⟩, _⟩ := h.sets a (by simp)
  obtain ⟨⟨sb, hSb⟩, hOb, _⟩ := h.sets b (by simp)
  have hI : ((i : Int) - 1) = ((i - 1 : Nat) : Int) := by omega
  have hw1 : IntKind.i64.wrap ((i : Int) - 1) = ((i - 1 : Nat) : Int) := by rw [IntKind.wrap_i64]; omega
  have lM : M < w.heap.size := h.lt.1
  have lG : G < w.heap.size := h.lt.2
  obtain ⟨k, hk⟩ : ∃ k, i - 1 = k := ⟨_, rfl⟩
  rw [hk] at ca hI hw1
  have HSS : Aside (w.drew.cell? ⟨M, 0, none⟩ = some (.slice (some ⟨G, 0, none⟩) N c) ∧ w.drew.cell? ⟨G, k * 2 + 1, none⟩ = some (.pointer (some ⟨a.T, 0, none⟩)) ∧ w.drew.cell? ⟨G, i * 2 + 1, none⟩ = some (.pointer (some ⟨b.T, 0, none⟩))) := ⟨hc, ca, cb⟩
  have hkN : k < N := by omega
  have hki : (k : Int) < N := by omega
  have HK : Aside _ := hk
  have HI : Aside _ := hI
  have H : Aside _ := h
  have HN : Aside _ := hN
  have hbd : Below w.heap.size w (w.alloc (.cells #[.pointer (some ⟨a.T, 0, none⟩)] 70)).drew := ⟨rfl, rfl, rfl, by simp, fun j hj => Below.heap_alloc w _ j hj⟩
  have hbox : (w.alloc (.cells #[.pointer (some ⟨a.T, 0, none⟩)] 70)).drew.heap[w.heap.size]? = some (.cells #[.pointer (some ⟨a.T, 0, none⟩)] 70 (0, 0)) := World.alloc_heap_new w _
  have hza : (w.alloc (.cells #[.pointer (some ⟨a.T, 0, none⟩)] 70)).drew.heap.size = w.heap.size + 1 := by simp
  clear hk hI h hN
  refine calls_calm Try.func40 rfl ?_
  simp only [Try.ntmps40, List.size_toArray, List.length_cons, List.length_nil, Nat.reduceAdd, Nat.reduceSub, Array.replicate_succ, Array.replicate_zero, List.push_toArray, List.append_toArray, List.nil_append, List.cons_append]
  have HZ : Aside _ := hza
  have HBX : Aside _ := hbox
  have HBD : Aside _ := hbd
  clear hza hbox hbd
  go_wp2
  go_region_held3 (fun w' => w'.cell? ⟨M, 0, none⟩ = some (.slice (some ⟨G, 0, none⟩) N c) ∧ w'.cell? ⟨G, k * 2 + 1, none⟩ = some (.pointer (some ⟨a.T, 0, none⟩)) ∧ w'.cell? ⟨G, i * 2 + 1, none⟩ = some (.pointer (some ⟨b.T, 0, none⟩))) (first | exact HSS.out | go_simp) (fail)
  generalize (w.alloc (.cells #[.pointer (some ⟨a.T, 0, none⟩)] 70)).drew = W0 at *
  have hbd := HBD.out
  have hbox := HBX.out
  have hza := HZ.out
  have h0 : Nu n₀ W0 M G c (A ++ a :: b :: B) := H.out.below hbd
  have cbx : W0.cell? ⟨w.heap.size, 0, none⟩ = some (.pointer (some ⟨a.T, 0, none⟩)) := by simp [World.cell?, hbox]
  have hSa0 := hSa.below hbd (Nat.le_refl _)
  have hSb0 := hSb.below hbd (Nat.le_refl _)
  have hs1 := spans_c a.T sa a.o a.L W0 hSa0
  have hs2 := spans_c b.T sb b.o b.L W0 hSb0
  clear HSS hc ca cb hSa hSb HBD HBX HZ
  obtain ⟨la, hla'⟩ : ∃ la, a.L.length = la := ⟨_, rfl⟩
  obtain ⟨lb, hlb'⟩ : ∃ lb, b.L.length = lb := ⟨_, rfl⟩
  rw [hla'] at hs1 hla
  rw [hlb'] at hs2 hlb
  have HLA : Aside _ := hla'
  have HLB : Aside _ := hlb'
  have HZA : Aside _ := hza
  have HOB : Aside _ := hOb
  have HBD : Aside _ := hbd
  have HBX : Aside _ := hbox
  have H0 : Aside _ := h0
  have HSB0 : Aside _ := hSb0
  clear hla' hlb' hza hOb hbd hbox h0 hSa0 hSb0 H
  go_wp2_with fail
  refine hs1.mono ?_
  rintro e w' ⟨rfl, hw⟩
  subst w'
  go_wp2_with fail
  refine hs2.mono ?_
  rintro e w' ⟨rfl, hw⟩
  subst w'
  by_cases hbig : 512 < la + lb
  · have hgt : (512 : Int) < (la : Int) + (lb : Int) := by omega
    go_wp2
    refine ⟨_, results_none rfl _ _ _, ⟨_, rfl⟩, .inl ⟨by rw [HLA.out, HLB.out]; exact hbig, HBD.out⟩⟩
  · have hgt : ¬ (512 : Int) < (la : Int) + (lb : Int) := by omega
    have hgd : decide ((512 : Int) < (la : Int) + (lb : Int)) = false := by simp; omega
    go_wp2_with fail
    refine (all_any _ _).mono ?_
    rintro e w' ⟨rfl, hw⟩
    subst w'
    go_wp2
    have hb1 : Below W0.heap.size W0 (W0.alloc (.cells #[.pointer (some ⟨b.T, 0, none⟩)] 70)) := (Below.refl _ W0).alloc (Nat.le_refl _) _
    have hz1 : (W0.alloc (.cells #[.pointer (some ⟨b.T, 0, none⟩)] 70)).heap.size = W0.heap.size + 1 := by simp
    have hcn := cell1_new' W0 (.pointer (some ⟨b.T, 0, none⟩)) 70
    generalize W0.alloc (.cells #[.pointer (some ⟨b.T, 0, none⟩)] 70) = W1 at *
    have hn1 : Nu n₀ W1 M G c (A ++ a :: b :: B) := H0.out.below hb1
    have hSb1 := Se.below HSB0.out hb1 (Nat.le_refl _)
    have hkp1 : Kp n₀ w W1 := (Kp.below HBD.out).trans (Kp.below hb1)
    have hbox1 : W1.heap[w.heap.size]? = some (.cells #[.pointer (some ⟨a.T, 0, none⟩)] 70 (0, 0)) := (hb1.block _ (by have := HZA.out; omega)).trans HBX.out
    have hmya := hn1.sets a (by simp)
    have hlt1 := hmya.lt
    obtain ⟨⟨sa1, hSa1⟩, hOa, _⟩ := id hmya
    have hzz : w.heap.size < W1.heap.size := by have := HZA.out; omega
    refine (wpIn_wide (n := 5)).1 ?_
    refine wpIn_rangeFunc_ownH rfl (by decide) (gf := 66) (lb := #[.pointer (some ⟨W0.heap.size, 0, none⟩)]) rfl trivial (enters_of Try.func66 (by kernel_rfl) rfl)
      (all_stops (fun k => k = a.T) ⟨a.T, 1, none⟩ W0.heap.size b.T sb b.o b.L W1 (by rw [HLB.out]; omega) (fun k e => by rw [e]; exact hlt1.1) (by exact hlt1.1) (fun k n cc e => by
        rw [hSa1.head.2] at e
        obtain ⟨e1, _⟩ : a.o = some ⟨k, 0, none⟩ ∧ _ := by simpa using e
        exact hlt1.2 k e1) hcn hSb1)
      Kq.trans (Kq.put (by exact hlt1.1)) (Below.refl _ _) (fun _ => rfl)
      (fun pre W => (∃ o' L', Nu n₀ W M G c (A ++ ⟨a.f, a.T, o', L'⟩ :: b :: B) ∧ L'.length ≤ la + pre.length ∧ (pre <+: b.L → ∀ n, In n L' ↔ In n a.L ∨ In n pre)) ∧ W.heap[w.heap.size]? = some (.cells #[.pointer (some ⟨a.T, 0, none⟩)] 70 (0, 0)) ∧ Kp n₀ w W)
      (fun _ _ _ => False)
      (by
        rintro s A' C' row ⟨⟨o', L', q1, q2, q3⟩, q4, q5⟩ hg hr
        exact ⟨⟨o', L', Nu_kept q1 hg hr, q2, q3⟩, kept_cells q4 hg hr, Kp_kept q5 (by omega) hg hr⟩)
      (fun _ _ _ _ _ hs _ _ => hs)
      ⟨⟨a.o, a.L, hn1, by rw [HLA.out]; simp, fun _ n => by simp [In_nil]⟩, hbox1, hkp1⟩
      (fun x a' W => ∃ Bp, W.heap[Bp]? = some (.cells #[.int .i64 x.1, .int .i64 x.2] 53 (0, 0)) ∧
        a' = { tmps := #[.pointer (some ⟨M, 0, none⟩), .int .i64 (i : Int), undef, undef, .pointer (some ⟨w.heap.size, 0, none⟩), .pointer (some ⟨b.T, 0, none⟩), .pointer (some ⟨Bp, 0, none⟩), .int .i64 (i : Int), .bool false, .bool false, .int .i64 (i : Int), .pointer (some ⟨M, 0, none⟩), .pointer (some ⟨M, 0, none⟩), .pointer (some ⟨M, 0, none⟩), .slice (some ⟨G, 0, none⟩) N c, .int .i64 (N : Int), .bool false, .bool false, .pointer (some ⟨M, 0, none⟩), .pointer (some ⟨M, 0, none⟩), .pointer (some ⟨M, 0, none⟩), .slice (some ⟨G, 0, none⟩) N c, .int .i64 (i : Int), .int .i64 (k : Int), .pointer (some ⟨G, k * 2, none⟩), .pointer (some ⟨G, k * 2 + 1, none⟩), .pointer (some ⟨a.T, 0, none⟩), .pointer (some ⟨M, 0, none⟩), .pointer (some ⟨M, 0, none⟩), .pointer (some ⟨M, 0, none⟩), .slice (some ⟨G, 0, none⟩) N c, .int .i64 (i : Int), .pointer (some ⟨G, i * 2, none⟩), .pointer (some ⟨G, i * 2 + 1, none⟩), .pointer (some ⟨b.T, 0, none⟩), .pointer (some ⟨a.T, 0, none⟩), .int .i64 (la : Int), .pointer (some ⟨b.T, 0, none⟩), .int .i64 (lb : Int), .int .i64 ((la : Int) + (lb : Int)), .bool false, .pointer (some ⟨b.T, 0, none⟩), .func (.func 66) #[] #[.pointer (some ⟨W0.heap.size, 0, none⟩)], .agg #[.int .i64 x.1, .int .i64 x.2], undef, undef, undef, undef, undef, undef, undef, undef, undef, undef, undef, undef, undef, undef, undef, undef, undef], defers := [] })
      (fun x a' s A' B' row hs hg hr => by
        obtain ⟨Bp, q1, q4⟩ := hs
        exact ⟨Bp, kept_cells q1 hg hr, q4⟩) ?assign ?body ?done ?stop
    case assign =>
      rintro l pre x W K hi hK
      obtain ⟨⟨o', L', q1, q2, q3⟩, q4, q5⟩ := id hi
      have hmy := q1.sets ⟨a.f, a.T, o', L'⟩ (by simp)
      have hb := (Below.refl W.heap.size W).alloc (Nat.le_refl _) (.cells #[.int .i64 x.1, .int .i64 x.2] 53)
      have hK' := hK { tmps := #[.pointer (some ⟨M, 0, none⟩), .int .i64 (i : Int), undef, undef, .pointer (some ⟨w.heap.size, 0, none⟩), .pointer (some ⟨b.T, 0, none⟩), .pointer (some ⟨W.heap.size, 0, none⟩), .int .i64 (i : Int), .bool false, .bool false, .int .i64 (i : Int), .pointer (some ⟨M, 0, none⟩), .pointer (some ⟨M, 0, none⟩), .pointer (some ⟨M, 0, none⟩), .slice (some ⟨G, 0, none⟩) N c, .int .i64 (N : Int), .bool false, .bool false, .pointer (some ⟨M, 0, none⟩), .pointer (some ⟨M, 0, none⟩), .pointer (some ⟨M, 0, none⟩), .slice (some ⟨G, 0, none⟩) N c, .int .i64 (i : Int), .int .i64 (k : Int), .pointer (some ⟨G, k * 2, none⟩), .pointer (some ⟨G, k * 2 + 1, none⟩), .pointer (some ⟨a.T, 0, none⟩), .pointer (some ⟨M, 0, none⟩), .pointer (some ⟨M, 0, none⟩), .pointer (some ⟨M, 0, none⟩), .slice (some ⟨G, 0, none⟩) N c, .int .i64 (i : Int), .pointer (some ⟨G, i * 2, none⟩), .pointer (some ⟨G, i * 2 + 1, none⟩), .pointer (some ⟨b.T, 0, none⟩), .pointer (some ⟨a.T, 0, none⟩), .int .i64 (la : Int), .pointer (some ⟨b.T, 0, none⟩), .int .i64 (lb : Int), .int .i64 ((la : Int) + (lb : Int)), .bool false, .pointer (some ⟨b.T, 0, none⟩), .func (.func 66) #[] #[.pointer (some ⟨W0.heap.size, 0, none⟩)], .agg #[.int .i64 x.1, .int .i64 x.2], undef, undef, undef, undef, undef, undef, undef, undef, undef, undef, undef, undef, undef, undef, undef, undef, undef], defers := [] }
        (W.alloc (.cells #[.int .i64 x.1, .int .i64 x.2] 53)) ((KeepsOthers.alloc _ _).from _)
        ⟨by simp, fun k A t hk _ _ => Below.heap_alloc W _ k (Array.getElem?_eq_some_iff.1 hk).1, fun k n c hk e => ⟨n, c, by rwa [World.cell?_alloc_lt _ _ _ hmy.lt.1] at e⟩⟩
        ⟨⟨o', L', q1.below hb, q2, q3⟩, (hb.block _ (Array.getElem?_eq_some_iff.1 q4).1).trans q4, q5.trans (Kp.below hb)⟩
        ⟨W.heap.size, World.alloc_heap_new W _, rfl⟩
      simp only [encS]
      gi_wp2
      exact hK'
    case body =>
      rintro l pre x a' W hl ⟨r, hr⟩ ⟨⟨o', L', q1, q2, q3⟩, q4, q5⟩ ⟨Bp, hBp, rfl⟩ hlt
      have hmy := q1.sets ⟨a.f, a.T, o', L'⟩ (by simp)
      have cP0 : W.cell? ⟨Bp, 0, none⟩ = some (.int .i64 x.1) := by simp [World.cell?, hBp]
      have cP1 : W.cell? ⟨Bp, 1, none⟩ = some (.int .i64 x.2) := by simp [World.cell?, hBp]
      have cA : W.cell? ⟨w.heap.size, 0, none⟩ = some (.pointer (some ⟨a.T, 0, none⟩)) := by simp [World.cell?, q4]
      have hszW : n₀ ≤ W.heap.size := Nat.le_trans hn₀ q5.2.2.2.1
      have hadd := add_my n₀ a.T o' x.1 x.2 L' W hmy hszW
      have hlen : L'.length ≤ 4000 := by have := HLB.out; omega
      have HQ : Aside (∀ w2 o2 L2, Turn n₀ W w2 a.T o' o2 L2 → L2.length ≤ L'.length + 1 → (pre ++ [x] <+: b.L → ∀ n, In n L2 ↔ In n L' ∨ (x.1 ≤ n ∧ n ≤ x.2)) → KeepsFrom W1.heap.size W w2 ∧ Kq (fun k => k = a.T) ⟨a.T, 1, none⟩ W w2 ∧ ((∃ o' L', Nu n₀ w2 M G c (A ++ ⟨a.f, a.T, o', L'⟩ :: b :: B) ∧ L'.length ≤ la + (pre ++ [x]).length ∧ (pre ++ [x] <+: b.L → ∀ n, In n L' ↔ In n a.L ∨ In n (pre ++ [x]))) ∧ w2.heap[w.heap.size]? = some (.cells #[.pointer (some ⟨a.T, 0, none⟩)] 70 (0, 0)) ∧ Kp n₀ w w2)) := by
        intro w2 o2 L2 ht hl2 hin
        obtain ⟨p1, p2⟩ := Turn.pays hmy ht W1.heap.size
        have hk2 := Turn.kp hmy ht
        refine ⟨p1, p2, ⟨o2, L2, Nu.turn (a := ⟨a.f, a.T, o', L'⟩) (B := b :: B) q1 ht, by simp; omega, fun hp n => ?_⟩, hk2.cells q4 (by unfold NuT; decide), q5.trans hk2⟩
        have hpre : pre <+: b.L := (List.prefix_append pre [x]).trans hp
        rw [hin hp n, q3 hpre n, In_append, In_cons]
        simp only [In_nil, or_false]
        constructor
        · rintro ((h | h) | h)
          · exact .inl h
          · exact .inr (.inl h)
          · exact .inr (.inr h)
        · rintro (h | h | h)
          · exact .inl (.inl h)
          · exact .inl (.inr h)
          · exact .inr h
      have hfit : pre ++ [x] <+: b.L → Fit x.1 x.2 := by
        intro hp
        have hx : x ∈ b.L := hp.subset (by simp)
        have := HOB.out.2 x hx
        exact ⟨this.1, this.2.1, this.2.2⟩
      have HF : Aside _ := hfit
      have HML : Aside _ := hmy
      clear q1 q2 q3 q4 q5 hBp hfit hmy
      refine wpIn_block ?_
      gi_wp2_with fail
      refine ⟨trivial, CallsIn.inRound l (callsIn_wide.2 (hadd.mono ?_))⟩
      rintro e w2 ⟨r2, o2, L2, rfl, ht, hcase⟩
      have HP : Aside _ := HQ.out w2 o2 L2 ht (by
        rcases hcase with ⟨_, hf, hm⟩ | ⟨_, _, rfl⟩ | ⟨_, _, rfl, _⟩
        · exact add_len hf.1 hf.2.1 hf.2.2 HML.out.2.1 ht.1.2.1 hm
        · omega
        · omega) (fun hp => by
        rcases hcase with ⟨_, hf, hm⟩ | ⟨_, hnf, _⟩ | ⟨_, hf, _, M2, k1, k2, k3⟩
        · exact hm
        · exact absurd (HF.out hp) hnf
        · have := add_len hf.1 hf.2.1 hf.2.2 HML.out.2.1 k1 k3
          omega)
      clear ht hcase hadd
      gi_wp2
      exact HP.out
    case done =>
      rintro D ys W hD hys ⟨⟨o', L', q1, q2, q3⟩, q4, q5⟩ hK
      rw [hys] at q2 q3
      have hin := q3 (List.prefix_refl _)
      have hab : A ++ (⟨a.f, a.T, o', L'⟩ : Pt) :: b :: B = (A ++ [⟨a.f, a.T, o', L'⟩]) ++ b :: B := by simp
      have q1' := hab ▸ q1
      have cM := q1.headC
      obtain ⟨R, hA, hR⟩ := q1'.row
      have hNN : (A ++ (⟨a.f, a.T, o', L'⟩ : Pt) :: b :: B).length = N := by rw [← HN.out]; simp
      have hNN' : ((A ++ [(⟨a.f, a.T, o', L'⟩ : Pt)]) ++ b :: B).length = N := by rw [← hab]; exact hNN
      rw [hNN] at cM
      rw [List.map_append, List.map_cons] at hA
      have hdel := del_c G c N i ((A ++ [(⟨a.f, a.T, o', L'⟩ : Pt)]).map Pt.p) (B.map Pt.p) b.p R W (by simp; omega) (by rw [← hNN']; simp; omega) hA (by rw [← hNN']; exact hR) q1.cap hsz
      have hwi : IntKind.i64.wrap ((i : Int) + 1) = (i : Int) + 1 := by rw [IntKind.wrap_i64]; omega
      have Q1 : Aside _ := q1'
      have Q5 : Aside _ := q5
      have HQ2 : Aside _ := q2
      have HIN : Aside _ := hin
      have HNN : Aside _ := hNN'
      clear q1 q1' q2 q3 q5 hA hR hNN hNN' hab hin
      go_wp2_with fail
      refine hdel.mono ?_
      rintro e w3 ⟨rfl, ⟨R', r1, r2⟩, r3⟩
      have hl1 : N - 1 = ((A ++ [(⟨a.f, a.T, o', L'⟩ : Pt)]) ++ B).length := by have := HNN.out; simp at this ⊢; omega
      obtain ⟨d1, d2, d3, d4⟩ := Nu.del Q1.out r3 R' r1 (by rw [← hl1]; exact r2)
      rw [HNN.out] at d1
      rw [← hl1] at d3 d4
      have hDk : (w3.setCell ⟨M, 0, none⟩ (.slice (some ⟨G, 0, none⟩) (N - 1) c)).heap[D]? = some (.deferred (some [])) := by
        obtain ⟨R0, hA0, _⟩ := Q1.out.row
        have hne1 : D ≠ M := by rintro rfl; have := hK.symm.trans Q1.out.head; simp at this
        have hne2 : D ≠ G := by rintro rfl; have := hK.symm.trans hA0; simp at this
        rw [Below.heap_setCell _ ⟨M, 0, none⟩ _ _ hne1]
        exact (r3.2.2.2.2 D (Array.getElem?_eq_some_iff.1 hK).1 hne2).trans hK
      have HP : Aside (Nu n₀ ((w3.setCell ⟨M, 0, none⟩ (.slice (some ⟨G, 0, none⟩) (N - 1) c)).putObj D (.deferred none)) M G c (A ++ ⟨a.f, a.T, o', L'⟩ :: B) ∧ Kp n₀ w ((w3.setCell ⟨M, 0, none⟩ (.slice (some ⟨G, 0, none⟩) (N - 1) c)).putObj D (.deferred none))) := by
        have hg := grownBy_putObj' (w3.setCell ⟨M, 0, none⟩ (.slice (some ⟨G, 0, none⟩) (N - 1) c)) D (.deferred none)
        have hr : ∀ r, some D = some r → D ≤ r ∧ ∃ o : Obj, (w3.setCell ⟨M, 0, none⟩ (.slice (some ⟨G, 0, none⟩) (N - 1) c)).heap[r]? = some o ∧ o.isCells = false := fun r e => by cases e; exact ⟨Nat.le_refl _, _, hDk, rfl⟩
        refine ⟨?_, Kp_kept (Kp.trans Q5.out d4) (by omega) hg hr⟩
        have := Nu_kept d3 hg hr
        simpa using this
      clear hdel r1 r2 r3 d3 d4 cM Q1 hl1
      go_wp2
      refine ⟨by simp, .inl ⟨_, _, rfl, run_takeDeferred hDk, ?_⟩⟩
      exact ⟨_, results_none rfl _ _ _, ⟨_, rfl⟩, .inr ⟨by rw [HLA.out, HLB.out]; omega, o', L', HP.out.1, HIN.out, by have := HQ2.out; rw [HLA.out]; exact this, HP.out.2⟩⟩
    case stop =>
      rintro D cd pre W _ _ hF _
      exact hF.elim
end Go.Proofs.YtlobnlkpbenngaaR
