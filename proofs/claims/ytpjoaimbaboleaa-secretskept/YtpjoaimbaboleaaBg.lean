/- vault: mind.begin. -/
import Derived.Test.YtpjoaimbaboleaaLn
import Derived.Test.YtpjoaimbaboleaaKd
namespace Go.Proofs.Ytpjoaimbaboleaa
open Go.RowKit Go.Shelf Go.Lib
set_option linter.unusedVariables false

/-- What somebody sees: a row of slices of bytes. -/
structure Se (n₀ : Nat) (w : World) (so : Option Addr) (S : List (Option Addr × Nat × List UInt8)) : Prop where
  by' : ∀ x ∈ S, By n₀ w x.1 x.2.1 x.2.2
  at' : ∀ j x, S[j]? = some x → ∃ b off cs, so = some ⟨b, off, none⟩ ∧ w.heap[b]? = some (.cells cs 33 (0, 0)) ∧ cs[off + j]? = some (.slice x.1 x.2.2.length x.2.1)
theorem Se.bel {n₀ : Nat} {w w' : World} {so : Option Addr} {S : List (Option Addr × Nat × List UInt8)} (h : Se n₀ w so S) (hb : Below w.heap.size w w') : Se n₀ w' so S :=
  ⟨fun x hx => (h.by' x hx).bel hb, fun j x hx => by obtain ⟨b, off, cs, e, h1, h2⟩ := h.at' j x hx; exact ⟨b, off, cs, e, heap_bel h1 hb, h2⟩⟩
theorem Se.mi {n₀ : Nat} {w w' : World} {so : Option Addr} {S : List (Option Addr × Nat × List UInt8)} {Mb V La Be Kb Xb Xb' xc N : Nat} {A B X : List Nat} {K : List Bool} (h : Se n₀ w so S) (hm : Mi n₀ w Mb V La Be Kb Xb xc N A B K X) (hc : Mc Mb Kb Xb w Xb' w') : Se n₀ w' so S :=
  ⟨fun x hx => (h.by' x hx).mi hm hc, fun j x hx => by obtain ⟨b, off, cs, e, h1, h2⟩ := h.at' j x hx; exact ⟨b, off, cs, e, hc.other hm h1 (by decide) (by decide) (by decide), h2⟩⟩
theorem Se.cell {n₀ : Nat} {w : World} {so : Option Addr} {S : List (Option Addr × Nat × List UInt8)} (h : Se n₀ w so S) {j : Nat} {x : Option Addr × Nat × List UInt8} (hx : S[j]? = some x) : ∃ b off, so = some ⟨b, off, none⟩ ∧ w.cell? ⟨b, off + j, none⟩ = some (.slice x.1 x.2.2.length x.2.1) := by
  obtain ⟨b, off, cs, e, h1, h2⟩ := h.at' j x hx
  exact ⟨b, off, e, by simp only [World.cell?, h1]; exact h2⟩
/-- What is seen, put aside. -/
def sn (N : Nat) (S : List (Option Addr × Nat × List UInt8)) : List Nat := S.flatMap fun x => fN N (wins x.2.2)
def tot (S : List (Option Addr × Nat × List UInt8)) : Nat := (S.map fun x => x.2.2.length).sum
theorem sn_le (N : Nat) (S : List (Option Addr × Nat × List UInt8)) : (sn N S).length ≤ tot S := by
  induction S with
  | nil => simp [sn, tot]
  | cons x S ih =>
    have h1 := fN_le N (wins x.2.2)
    have h2 := wins_le x.2.2
    simp only [sn, tot, List.flatMap_cons, List.length_append, List.map_cons, List.sum_cons] at ih ⊢
    omega
theorem sn_take (N : Nat) (S : List (Option Addr × Nat × List UInt8)) {k : Nat} {x : Option Addr × Nat × List UInt8} (h : S[k]? = some x) : sn N (S.take (k + 1)) = sn N (S.take k) ++ fN N (wins x.2.2) := by
  have hl := (List.getElem?_eq_some_iff.1 h).1
  have e : S[k] = x := (List.getElem?_eq_some_iff.1 h).2
  unfold sn
  rw [List.take_succ_eq_append_getElem hl, List.flatMap_append, e]
  simp
theorem sn_tk (N : Nat) (S : List (Option Addr × Nat × List UInt8)) (k : Nat) {x : Option Addr × Nat × List UInt8} (h : S[k]? = some x) : (sn N (S.take k)).length + (fN N (wins x.2.2)).length ≤ (sn N S).length := by
  induction S generalizing k with
  | nil => simp at h
  | cons y S ih =>
    cases k with
    | zero => simp at h; subst h; simp [sn]
    | succ k =>
      have := ih k (by simpa using h)
      simp only [sn, List.take_succ_cons, List.flatMap_cons, List.length_append] at this ⊢
      omega
theorem tot_take (S : List (Option Addr × Nat × List UInt8)) (k : Nat) {x : Option Addr × Nat × List UInt8} (h : S[k]? = some x) : tot (S.take k) + x.2.2.length ≤ tot S := by
  induction S generalizing k with
  | nil => simp at h
  | cons y S ih =>
    cases k with
    | zero => simp at h; subst h; simp [tot]
    | succ k =>
      have := ih k (by simpa using h)
      simp only [tot, List.take_succ_cons, List.map_cons, List.sum_cons] at this ⊢
      omega
/-- A mind that has not begun. -/
def M0 (w : World) (Mb V : Nat) : Prop := w.heap[Mb]? = some (.cells #[.pointer (some ⟨V, 0, none⟩), .slice none 0 0, .slice none 0 0, .slice none 0 0, .slice none 0 0] 106 (0, 0))
theorem st113 {w : World} {Mb i : Nat} {cs : Array Value} (h : w.heap[Mb]? = some (.cells cs 106 (0, 0))) (v : Value) : (w.setCell ⟨Mb, i, none⟩ v).heap[Mb]? = some (.cells (cs.setIfInBounds i v) 106 (0, 0)) ∧ Chg (fun k => k = Mb) w (w.setCell ⟨Mb, i, none⟩ v) := by
  rw [setCell_eq_setRow w Mb i _ 106 (0, 0) _ h]
  exact ⟨setRow_heap w Mb _ _ 106 (0, 0) h, rfl, rfl, rfl, by simp, fun k hk hx => setRow_other _ _ _ _ hx⟩
theorem ce113 {w : World} {Mb i : Nat} {cs : Array Value} {v : Value} (h : w.heap[Mb]? = some (.cells cs 106 (0, 0))) (hv : cs[i]? = some v) : w.cell? ⟨Mb, i, none⟩ = some v ∧ w.frozen? ⟨Mb, i, none⟩ = false := ⟨by simp only [World.cell?, h]; exact hv, by simp [World.frozen?, h]⟩
theorem Chg.of_bel {X : Nat → Prop} {w w' : World} (h : Below w.heap.size w w') : Chg X w w' := ⟨h.os, h.tape, h.output, h.size, fun k hk _ => h.block k hk⟩
theorem Va.chg {n₀ V G c M Mb : Nat} {L : List Tm} {w w' : World} {cs : Array Value} (h : Va n₀ w V G c M L) (hM : w.heap[Mb]? = some (.cells cs 106 (0, 0))) (hc : Chg (fun k => k = Mb) w w') : Va n₀ w' V G c M L := by
  obtain ⟨R, r1, _⟩ := h.hG
  obtain ⟨es, ck, m1, _⟩ := h.hM
  refine h.keep (hc.2.2.2.2 _ h.lV ?_) (hc.2.2.2.2 _ h.lG ?_) (hc.2.2.2.2 _ h.lM ?_)
  · rintro rfl; have := cells_ty h.hV hM; omega
  · rintro rfl; have := cells_ty r1 hM; omega
  · rintro rfl; rw [m1] at hM; cases hM
theorem By.chg {n₀ Mb c : Nat} {o : Option Addr} {l : List UInt8} {w w' : World} {cs : Array Value} (h : By n₀ w o c l) (hn : n₀ ≤ Mb) (hM : w.heap[Mb]? = some (.cells cs 106 (0, 0))) (hc : Chg (fun k => k = Mb) w w') : By n₀ w' o c l := by
  have key : ∀ b off, l ≠ [] → o = some ⟨b, off, none⟩ → b < w.heap.size → w'.heap[b]? = w.heap[b]? := by
    intro b off hl ho hb
    refine hc.2.2.2.2 _ hb ?_
    rintro rfl
    obtain ⟨b2, off2, e, h1 | ⟨cs2, t, fr, h2, h3⟩⟩ := h.at' hl
    · rw [ho] at e; have e1 := congrArg (Option.map Addr.block) e; simp only [Option.map_some, Option.some.injEq] at e1; omega
    · rw [ho] at e; have e1 := congrArg (Option.map Addr.block) e; simp only [Option.map_some, Option.some.injEq] at e1; rw [e1] at hM; have e2 := cells_ty h2 hM; rcases h3 with h3 | h3 | h3 <;> rw [h3] at e2 <;> cases e2
  refine ⟨fun j hj => ?_, h.len, h.cap, h.c64, fun hl => ?_⟩
  · obtain ⟨b, off, e, hcell⟩ := h.sl j hj
    have hb : b < w.heap.size := by
      cases hh : w.heap[b]? with
      | none => simp [World.cell?, hh] at hcell
      | some o => exact (Array.getElem?_eq_some_iff.1 hh).1
    exact ⟨b, off, e, (World.cell?_of_block (a := ⟨b, off + j, none⟩) (key b off (by rintro rfl; simp at hj) e hb)).trans hcell⟩
  · obtain ⟨b, off, e, h1 | ⟨cs2, t, fr, h2, h3⟩⟩ := h.at' hl
    · exact ⟨b, off, e, .inl h1⟩
    · exact ⟨b, off, e, .inr ⟨cs2, t, fr, (key b off hl e (Array.getElem?_eq_some_iff.1 h2).1).trans h2, h3⟩⟩
theorem Se.chg {n₀ Mb : Nat} {so : Option Addr} {S : List (Option Addr × Nat × List UInt8)} {w w' : World} {cs : Array Value} (h : Se n₀ w so S) (hn : n₀ ≤ Mb) (hM : w.heap[Mb]? = some (.cells cs 106 (0, 0))) (hc : Chg (fun k => k = Mb) w w') : Se n₀ w' so S :=
  ⟨fun x hx => (h.by' x hx).chg hn hM hc, fun j x hx => by
    obtain ⟨b, off, cs2, e, h1, h2⟩ := h.at' j x hx
    exact ⟨b, off, cs2, e, (hc.2.2.2.2 _ (Array.getElem?_eq_some_iff.1 h1).1 (by rintro rfl; have := cells_ty h1 hM; omega)).trans h1, h2⟩⟩
set_option maxRecDepth 100000 in
set_option maxHeartbeats 2000000 in
theorem begin_c (n₀ Mb V G c M sc : Nat) (L : List Tm) (so : Option Addr) (S : List (Option Addr × Nat × List UInt8)) (w : World) (hv : Va n₀ w V G c M L) (hM : M0 w Mb V) (hnM : n₀ ≤ Mb) (hS : Se n₀ w so S) (hle : L.length ≤ 1000000) (htot : (sn L.length S).length + 1 ≤ 28000000000000) (hSl : S.length ≤ 9223372036854775807) :
    Calls Try.prog 59 #[.pointer (some ⟨Mb, 0, none⟩), .slice so S.length sc] w fun e w' => e = .returned (.tuple #[]) ∧ ∃ La Be Kb Xb xc A B, Mi n₀ w' Mb V La Be Kb Xb xc L.length A B (List.replicate L.length false) ([0] ++ sn L.length S) ∧ Hr L (fun l => l / 2 < L.length) (2 * L.length) A B ∧ Chg (fun k => k = Mb) w w' ∧ w.heap.size ≤ Kb ∧ w.heap.size ≤ Xb := by
  have c0 : w.cell? ⟨Mb, 0, none⟩ = some (.pointer (some ⟨V, 0, none⟩)) := (ce113 hM rfl).1
  have HM : Aside (w.heap[Mb]? = some (.cells #[.pointer (some ⟨V, 0, none⟩), .slice none 0 0, .slice none 0 0, .slice none 0 0, .slice none 0 0] 106 (0, 0))) := hM
  have HV : Aside _ := hv
  have HS : Aside _ := hS
  have lM : Mb < w.heap.size := (Array.getElem?_eq_some_iff.1 hM).1
  have hbo := mk_bools L.length (by omega)
  have HLE : Aside _ := hle
  obtain ⟨N, hN⟩ : ∃ N, L.length = N := ⟨_, rfl⟩
  have HN : Aside _ := hN
  obtain ⟨NS, hNS⟩ : ∃ NS, S.length = NS := ⟨_, rfl⟩
  have HNS : Aside _ := hNS
  rw [hN] at hbo htot ⊢
  rw [hNS] at hSl ⊢
  clear hM hv hS hN hNS hle
  go_enter Try.func59, Try.ntmps59
  go_upto_region 0 with fail
  go_cut [] from 6 to 13 (fun wx => ∃ La Be A B, Aside (wx.heap[Mb]? = some (.cells #[.pointer (some ⟨V, 0, none⟩), .slice (some ⟨La, 0, none⟩) N N, .slice (some ⟨Be, 0, none⟩) (2 * N) (2 * N), .slice none 0 0, .slice none 0 0] 106 (0, 0)) ∧ wx.heap[La]? = some (.cells (il A).toArray 3 (0, 0)) ∧ A.length = N ∧ wx.heap[Be]? = some (.cells (il B).toArray 3 (0, 0)) ∧ B.length = 2 * N ∧ Hr L (fun l => l / 2 < L.length) (2 * L.length) A B ∧ Chg (fun k => k = Mb) w wx))
  case first =>
    go_wp2_with fail
    refine (heirs_c HV.out HLE.out).mono ?_
    rintro e w1 ⟨La, Be, A, B, rfl, hA, lA, hB, lB, hne, gA, gB, hHr, hb⟩
    have hM1 := heap_bel HM.out hb
    rw [HN.out] at *
    obtain ⟨c1, f1⟩ := ce113 (i := 1) hM1 rfl
    obtain ⟨hM2, q2⟩ := st113 (i := 1) hM1 (.slice (some ⟨La, 0, none⟩) N N)
    obtain ⟨c2, f2⟩ := ce113 (i := 2) hM2 rfl
    obtain ⟨hM3, q3⟩ := st113 (i := 2) hM2 (.slice (some ⟨Be, 0, none⟩) (2 * N) (2 * N))
    have HF : Aside _ := And.intro hM3 (And.intro hA (And.intro lA (And.intro hB (And.intro lB (And.intro hHr (And.intro (Chg.of_bel (X := fun k => k = Mb) hb) (And.intro q2 q3)))))))
    clear hM1 hM2 hM3 q2 q3 hA lA hB lB hHr hb
    have gA' : La ≠ Mb := by omega
    have gB' : Be ≠ Mb := by omega
    go_wp2_with fail
    go_meet
    obtain ⟨hM3, hA, lA, hB, lB, hHr, hb, q2, q3⟩ := HF.out
    have q := q2.trans q3
    refine ⟨La, Be, A, B, hM3, (q.2.2.2.2 La (Array.getElem?_eq_some_iff.1 hA).1 gA').trans hA, lA, (q.2.2.2.2 Be (Array.getElem?_eq_some_iff.1 hB).1 gB').trans hB, lB, ?_, hb.trans q⟩
    first
    | exact hHr
    | (rw [HN.out]; exact hHr)
  case rest =>
  obtain ⟨La, Be, A, B, HC⟩ := hcut
  clear c0
  have c0 := (ce113 (i := 0) HC.out.1 rfl).1
  have v0 := (HV.out.chg HM.out HC.out.2.2.2.2.2.2).cV0
  rw [HN.out] at v0
  go_upto_region 1 with fail
  go_cut [] from 14 to 25 (fun wx => Aside (∃ Kb, wx.heap[Mb]? = some (.cells #[.pointer (some ⟨V, 0, none⟩), .slice (some ⟨La, 0, none⟩) N N, .slice (some ⟨Be, 0, none⟩) (2 * N) (2 * N), .slice (some ⟨Kb, 0, none⟩) N N, .slice none 0 0] 106 (0, 0)) ∧ wx.heap[Kb]? = some (.cells (bl (List.replicate N false)).toArray 4 (0, 0)) ∧ wc.heap.size ≤ Kb ∧ Chg (fun k => k = Mb) wc wx))
  case first =>
    have hM1 : (wc.alloc (.cells (bl (List.replicate N false)).toArray 4)).heap[Mb]? = _ := heap_bel HC.out.1 (bel1 wc _)
    obtain ⟨c3, f3⟩ := ce113 (i := 3) hM1 rfl
    have HM1 : Aside _ := hM1
    have HKB : Aside _ := heap_alloc_new wc (.cells (bl (List.replicate N false)).toArray 4)
    have lMc : Mb < wc.heap.size := (Array.getElem?_eq_some_iff.1 HC.out.1).1
    clear hM1
    go_wp2_with fail
    go_meet
    obtain ⟨hM2, q2⟩ := st113 (i := 3) HC.out.1 (.slice (some ⟨wc.heap.size, 0, none⟩) N N)
    refine ⟨wc.heap.size, heap_bel hM2 (bel1 _ _), ?_, Nat.le_refl _, q2.trans (Chg.of_bel (bel1 _ _))⟩
    have := heap_alloc_new (wc.setCell ⟨Mb, 3, none⟩ (.slice (some ⟨wc.heap.size, 0, none⟩) N N)) (.cells (bl (List.replicate N false)).toArray 4)
    rwa [World.size_setCell] at this
  case rest =>
  rename_i wc0
  obtain ⟨Kb, HD1, HD2, HD3, HD4⟩ := hcut.out
  have HD : Aside _ := And.intro HD1 (And.intro HD2 (And.intro HD3 HD4))
  clear hcut HD1 HD2 HD3 HD4 c0 v0
  go_upto_region 2 with fail
  go_cut [] from 26 to 29 (fun wx => Aside (∃ Xb, Mi n₀ wx Mb V La Be Kb Xb 1 N A B (List.replicate N false) [0] ∧ Chg (fun k => k = Mb) w wx ∧ w.heap.size ≤ Kb ∧ w.heap.size ≤ Xb))
  case first =>
    have hM1 : (wc.alloc (.cells #[.int .i64 0] 3)).heap[Mb]? = _ := heap_bel HD.out.1 (bel1 wc _)
    obtain ⟨c4, f4⟩ := ce113 (i := 4) hM1 rfl
    have HM1 : Aside _ := hM1
    have HXB : Aside _ := heap_alloc_new wc (.cells #[.int .i64 0] 3)
    have lMc : Mb < wc.heap.size := (Array.getElem?_eq_some_iff.1 HD.out.1).1
    clear hM1
    go_wp2_with fail
    go_meet
    obtain ⟨hM2', q2'⟩ := st113 (i := 4) HD.out.1 (.slice (some ⟨wc.heap.size, 0, none⟩) 1 1)
    have hM2 := heap_bel hM2' (bel1 (wc.setCell ⟨Mb, 4, none⟩ (.slice (some ⟨wc.heap.size, 0, none⟩) 1 1)) (.cells #[.int .i64 0] 3))
    have q2 := q2'.trans (Chg.of_bel (bel1 (wc.setCell ⟨Mb, 4, none⟩ (.slice (some ⟨wc.heap.size, 0, none⟩) 1 1)) (.cells #[.int .i64 0] 3)))
    have hxn := heap_alloc_new (wc.setCell ⟨Mb, 4, none⟩ (.slice (some ⟨wc.heap.size, 0, none⟩) 1 1)) (.cells #[.int .i64 0] 3)
    rw [World.size_setCell] at hxn
    obtain ⟨d1, d2, d3, d4⟩ := HD.out
    obtain ⟨e1, e2, e3, e4, e5, e6, e7⟩ := HC.out
    have q5 := d4.trans q2
    have s1 := e7.2.2.2.1
    have s2 := d4.2.2.2.1
    have lA := (Array.getElem?_eq_some_iff.1 e2).1
    have lB := (Array.getElem?_eq_some_iff.1 e4).1
    have lK := (Array.getElem?_eq_some_iff.1 d2).1
    have nA : La ≠ Mb := by rintro rfl; have := cells_ty e1 e2; omega
    have nB : Be ≠ Mb := by rintro rfl; have := cells_ty e1 e4; omega
    refine ⟨wc.heap.size, ⟨hM2, (q5.2.2.2.2 La lA nA).trans e2, e3, (q5.2.2.2.2 Be lB nB).trans e4, e5, (q2.2.2.2.2 Kb lK (by omega)).trans d2, by simp, ⟨[], hxn, by simp, by unfold maxLen; omega⟩, by omega, by omega, hnM, by omega, by omega⟩, e7.trans q5, by omega, by omega⟩
  case rest =>
  rename_i wc1
  obtain ⟨Xb, HE1⟩ := hcut.out
  have HE : Aside _ := HE1
  have HHR : Aside _ := HC.out.2.2.2.2.2.1
  clear hcut HE1 HD HC
  go_wp2_with fail
  go_loopg [32] NS (fun kx s32 wr => ∃ i : Nat, s32 = .int .i64 (i : Int) ∧ i ≤ NS ∧ NS - i ≤ kx ∧ Aside (∃ Xb xc, Mi n₀ wr Mb V La Be Kb Xb xc N A B (List.replicate N false) ([0] ++ sn N (S.take i)) ∧ Chg (fun k => k = Mb) w wr ∧ w.heap.size ≤ Kb ∧ w.heap.size ≤ Xb))
  case atStart => exact ⟨0, rfl, by omega, by omega, Xb, 1, HE.out⟩
  case round =>
    obtain ⟨i, rfl, hi, hg, HI⟩ := hrel
    by_cases hlt : i < NS
    · obtain ⟨x, hx⟩ : ∃ x, S[i]? = some x := ⟨S[i]'(by rw [HNS.out]; exact hlt), by simp [HNS.out, hlt]⟩
      obtain ⟨Xb1, xc1, hmi, hch, gK, gX⟩ := HI.out
      have hS1 := HS.out.chg hnM HM.out hch
      obtain ⟨b, off, hso, hcell⟩ := hS1.cell hx
      have hb := hS1.by' x (List.mem_of_getElem? hx)
      have t1 := sn_tk N S i hx
      have HX : Aside _ := hx
      have HRD : Aside _ := read_mi n₀ Mb V La Be Kb Xb1 xc1 N x.2.1 x.1 x.2.2 A B (List.replicate N false) ([0] ++ sn N (S.take i)) wr hmi hb (by simp; omega) (by rw [← HN.out]; exact HLE.out)
      have HCH : Aside _ := And.intro hmi (And.intro hch (And.intro gK gX))
      have j0 : (0 : Int) ≤ (i : Int) := by omega
      have j1 : (i : Int) < (NS : Int) := by omega
      have j2 : IntKind.i64.wrap ((i : Int) + 1) = ((i + 1 : Nat) : Int) := by rw [IntKind.wrap_i64]; omega
      subst hso
      clear hmi hch hS1 hb t1 hx HI
      obtain ⟨x1, x2, x3⟩ := x
      simp only at hcell
      go_wp2_with fail
      refine Calls.mono HRD.out ?_
      rintro e W3 ⟨rfl, Xb', xc', hm3, hc3⟩
      have HM3 : Aside _ := And.intro hm3 hc3
      clear hm3 hc3
      go_wp2_with fail
      go_roundg (NS - (i + 1))
      case measure => omega
      case rel =>
        refine ⟨i + 1, rfl, by omega, Nat.le_refl _, Xb', xc', ?_, ?_, ?_, ?_⟩
        · rw [sn_take N S HX.out, ← List.append_assoc]; exact HM3.out.1
        · obtain ⟨hmi, hch, gK, gX⟩ := HCH.out
          refine ⟨HM3.out.2.1.1.trans hch.1, HM3.out.2.1.2.1.trans hch.2.1, HM3.out.2.1.2.2.1.trans hch.2.2.1, Nat.le_trans hch.2.2.2.1 HM3.out.2.1.2.2.2.1, fun k hk hx => ?_⟩
          have := hch.2.2.2.1
          exact (HM3.out.2.1.2.2.2.2 k (by omega) (by rintro (e | e | e); exact hx e; omega; omega)).trans (hch.2.2.2.2 k hk hx)
        · exact HCH.out.2.2.1
        · obtain ⟨hmi, hch, gK, gX⟩ := HCH.out
          have := hch.2.2.2.1
          rcases HM3.out.2.2 with e | e
          · rw [e]; exact gX
          · omega
    · have he : i = NS := by omega
      subst he
      go_wp2_with fail
      refine bodyPost_end (results_none rfl _ _ _) rfl ?_
      obtain ⟨Xb1, xc1, hmi, hch, gK, gX⟩ := HI.out
      rw [← HNS.out, List.take_length] at hmi
      exact ⟨rfl, La, Be, Kb, Xb1, xc1, A, B, hmi, by rw [← HN.out]; exact HHR.out, hch, gK, gX⟩
end Go.Proofs.Ytpjoaimbaboleaa
