/- ranges: All's iterator over a set that was made. -/
import Derived.Test.YtlobnlkpbenngaaRLook2
import Derived.Sort.LoopGhostIn
namespace Go.Proofs.YtlobnlkpbenngaaR
open Go.RowKit Go.Shelf Go.Lib
set_option linter.unusedVariables false

attribute [local go_sem] Oper.semAt_some

/-- What a round of a loop over the spans keeps: every block of cells but those of X and the row of the slice that lies at ad; and that slice takes no block that was there. -/
def Kq (X : Nat → Prop) (ad : Addr) (W W' : World) : Prop :=
  W.heap.size ≤ W'.heap.size ∧ (∀ k A t, W.heap[k]? = some (.cells A t (0, 0)) → ¬ X k → (∀ n c, W.cell? ad ≠ some (.slice (some ⟨k, 0, none⟩) n c)) → W'.heap[k]? = W.heap[k]?) ∧
  (∀ k n c, k < W.heap.size → W'.cell? ad = some (.slice (some ⟨k, 0, none⟩) n c) → ∃ n' c', W.cell? ad = some (.slice (some ⟨k, 0, none⟩) n' c'))
set_option maxRecDepth 100000 in
theorem Kq.trans {X : Nat → Prop} {ad : Addr} {A B C : World} (h : Kq X ad A B) (k : Kq X ad B C) : Kq X ad A C := by
  refine ⟨Nat.le_trans h.1 k.1, ?_, ?_⟩
  · intro j Y t hj hx hn
    have e1 := h.2.1 j Y t hj hx hn
    refine (k.2.1 j Y t (e1.trans hj) hx ?_).trans e1
    intro n c e
    obtain ⟨n', c', e'⟩ := h.2.2 j n c (Array.getElem?_eq_some_iff.1 hj).1 e
    exact hn n' c' e'
  · intro j n c hj e
    obtain ⟨n', c', e'⟩ := k.2.2 j n c (Nat.lt_of_lt_of_le hj h.1) e
    exact h.2.2 j n' c' hj e'
set_option maxRecDepth 100000 in
theorem cell?_putObj_other {W : World} {a : Addr} {l : Nat} (o' : Obj) (h : a.block ≠ l) : (W.putObj l o').cell? a = W.cell? a := by
  have : (W.putObj l o').heap[a.block]? = W.heap[a.block]? := World.putObj_heap_other (by omega)
  simp [World.cell?, this]
set_option maxRecDepth 100000 in
theorem Kq.put {X : Nat → Prop} {ad : Addr} {w : World} (had : ad.block < w.heap.size) (W : World) (l : Nat) (o o' : Obj) (hl : w.heap.size ≤ l) (h : W.heap[l]? = some o) (hc : o.isCells = false) (_ : o.isWalk = false) : Kq X ad W (W.putObj l o') := by
  have e : (W.putObj l o').cell? ad = W.cell? ad := cell?_putObj_other o' (by omega)
  refine ⟨by simp [World.putObj], ?_, ?_⟩
  · intro k A t hk _ _
    refine World.putObj_heap_other ?_
    rintro rfl
    rw [h] at hk
    cases hk
    simp [Obj.isCells] at hc
  · intro k n c _ hk
    exact ⟨n, c, e ▸ hk⟩

set_option maxRecDepth 100000 in
set_option maxHeartbeats 2000000 in
theorem all1_in (X : Nat → Prop) (ad : Addr) (n₀ l Bn S c : Nat) (o : Option Addr) (L : List (Int × Int)) (J Jx : List (Int × Int) → World → Prop) (W : World)
    (hJ : AbidesFrom W.heap.size J) (hsz : L.length ≤ 65536)
    (hY : ∀ pre x W1, J pre W1 → pre.length < L.length → YieldAt Fence.wide 3 Try.prog l (encS x) W1 fun e W' => (e = .returned (.bool true) ∧ J (pre ++ [x]) W' ∧ Kq X ad W1 W') ∨ (e = .returned (.bool false) ∧ Jx (pre ++ [x]) W'))
    (hX : ∀ k, X k → k < W.heap.size) (had : ad.block < W.heap.size) (hrow : ∀ k n c, W.cell? ad = some (.slice (some ⟨k, 0, none⟩) n c) → k < W.heap.size)
    (hBn : W.cell? ⟨Bn, 0, none⟩ = some (.pointer (some ⟨S, 0, none⟩))) (hS : Se W S o c L) (h0 : J [] W) :
    CallsIn Fence.wide 4 Try.prog 66 #[.func (.yield l) #[] #[], .pointer (some ⟨Bn, 0, none⟩)] W fun e W' => (∃ v, e = .returned v) ∧
      ((∃ ys, ys = L ∧ J ys W') ∨ (∃ pre, pre <+: L ∧ Jx pre W')) := by
  have hc0 := hS.head.1
  have hc1 := hS.head.2
  have hcl := clone_row o c L W hS.2.1 hsz
  have hyn := yes_none S W hc0
  clear hS
  refine callsIn_of_wp Try.func66 rfl trivial ?_ rfl
  simp only [Try.ntmps66, List.size_toArray, List.length_cons, List.length_nil, Nat.reduceAdd, Nat.reduceSub, Array.replicate_succ, Array.replicate_zero, List.push_toArray, List.append_toArray, List.nil_append, List.cons_append]
  refine wpIn_wide.2 ?_
  go_wp2_with fail
  refine hyn.mono ?_
  rintro e w' ⟨rfl, hh⟩
  subst w'
  clear hyn
  go_wp2_with fail
  refine hcl.mono ?_
  clear hcl
  rintro e w0 ⟨o', c', rfl, hr', hb', hg'⟩
  have HY : Aside _ := hY
  have HJ : Aside _ := hJ
  have HX : Aside _ := hX
  have HR : Aside _ := hrow
  clear hY hJ hX hrow
  have J0 : Aside (J [] w0) := HJ.out [] W w0 none h0 ⟨hb'.os, hb'.tape, hb'.output, hb'.size, fun k hk _ => hb'.block k hk⟩ (fun r e => nomatch e)
  have HB : Aside (Below W.heap.size W w0) := hb'
  have ca0 : w0.cell? ad = W.cell? ad := hb'.cell had
  obtain ⟨N, hN⟩ : ∃ N, L.length = N := ⟨_, rfl⟩
  rw [hN]
  rcases hr' with ⟨rfl, hnil, rfl⟩ | ⟨q, R, rfl, hq, hR⟩
  · obtain rfl : N = 0 := by rw [← hN, hnil]; rfl
    clear hb' hg' h0
    go_wp2
    refine wp_loop_rounds 1 ?_
    rw [rounds_succ]
    go_wp2
    go_end0
    exact ⟨⟨_, rfl⟩, .inl ⟨_, hnil.symm, J0.out⟩⟩
  · have hqW : W.heap.size ≤ q := hg' q rfl
    have HQ : Aside (At w0 q (fl L ++ R)) := hq
    clear hb' hg' h0 hq
    go_wp2
    refine (wpIn_wide (n := 4)).1 ?_
    gi_loopg [13] N (fun kx s13 wr => ∃ k : Nat, s13 = .int .i64 k ∧ k ≤ N ∧ N - k ≤ kx ∧ Aside (J (L.take k) wr) ∧ Aside (At wr q (fl L ++ R)) ∧ Aside (∀ n c, wr.cell? ad ≠ some (.slice (some ⟨q, 0, none⟩) n c)) ∧ Aside (W.heap.size ≤ wr.heap.size))
    case atStart =>
      refine ⟨0, rfl, Nat.zero_le _, by omega, J0.out, HQ.out, ?_, HB.out.size⟩
      intro n c e
      rw [ca0] at e
      have := HR.out q n c e
      omega
    case round =>
      obtain ⟨k, rfl, hk, hg, HJk, HAk, HOk, HSk⟩ := hrel
      by_cases hlt : k < N
      · have hkL : k < L.length := by omega
        obtain ⟨cm, cm'⟩ := cells_at HAk.out k hkL
        have hqr : q < wr.heap.size := At.lt HAk.out
        have J1 : J (L.take k) (wr.alloc (.cells #[.int .i64 L[k].1, .int .i64 L[k].2] 53)) := HJ.out _ wr _ none HJk.out (World.grownBy_alloc wr _ none) (fun r e => nomatch e)
        obtain ⟨fn, tmps, assign, body, hy, hR'⟩ := HY.out (L.take k) L[k] _ J1 (by rw [List.length_take]; omega)
        have eT : L.take k ++ [L[k]] = L.take (k + 1) := by rw [List.take_succ_eq_append_getElem hkL]
        rw [eT] at hR'
        have A1 : At (wr.alloc (.cells #[.int .i64 L[k].1, .int .i64 L[k].2] 53)) q (fl L ++ R) := At.alloc HAk.out _
        have O1 : ∀ n c, (wr.alloc (.cells #[.int .i64 L[k].1, .int .i64 L[k].2] 53)).cell? ad ≠ some (.slice (some ⟨q, 0, none⟩) n c) := by
          intro n c e
          rw [World.cell?_alloc_lt _ _ _ (by have := HSk.out; omega)] at e
          exact HOk.out n c e
        have hX1 : ¬ X q := fun hx => by have := HX.out q hx; omega
        have AA : Aside _ := A1
        have OO : Aside _ := O1
        have hs1 : (wr.alloc (.cells #[.int .i64 L[k].1, .int .i64 L[k].2] 53)).heap.size = wr.heap.size + 1 := by simp
        clear A1 O1 J1 eT
        simp only [encS] at hy
        generalize L[k].1 = xa at *
        generalize L[k].2 = xb at *
        gi_wp2
        refine hR'.mono ?_
        rintro e W3 (⟨rfl, hJ3, hk3⟩ | ⟨rfl, hJx3⟩)
        · have HJ3 : Aside _ := hJ3
          have HK3 : Aside _ := hk3
          clear hJ3 hk3 hR' hy
          gi_wp2
          gi_roundg (N - (k + 1))
          case measure => omega
          case rel =>
            refine ⟨k + 1, by simp, by omega, Nat.le_refl _, HJ3.out, (HK3.out.2.1 q _ 53 AA.out hX1 OO.out).trans AA.out, ?_, ?_⟩
            · intro n c e
              obtain ⟨n', c', e'⟩ := HK3.out.2.2 q n c (by omega) e
              exact OO.out n' c' e'
            · have := HK3.out.1; have := HSk.out; show W.heap.size ≤ W3.heap.size; omega
        · have HJx : Aside _ := hJx3
          clear hJx3 hR' hy
          gi_wp2
          refine bodyPost_ret (results_none rfl _ _ _) rfl ?_
          exact ⟨⟨_, rfl⟩, .inr ⟨_, List.take_prefix _ _, HJx.out⟩⟩
      · obtain rfl : k = N := by omega
        have eL : L.take k = L := by rw [← hN]; exact List.take_length
        gi_wp2
        go_end0
        exact ⟨⟨_, rfl⟩, .inl ⟨_, eL, HJk.out⟩⟩

set_option maxRecDepth 100000 in
theorem all_stops (X : Nat → Prop) (ad : Addr) (Bn S c : Nat) (o : Option Addr) (L : List (Int × Int)) (w : World) (hsz : L.length ≤ 65536)
    (hX : ∀ k, X k → k < w.heap.size) (had : ad.block < w.heap.size) (hrow : ∀ k n c, w.cell? ad = some (.slice (some ⟨k, 0, none⟩) n c) → k < w.heap.size)
    (hBn : w.cell? ⟨Bn, 0, none⟩ = some (.pointer (some ⟨S, 0, none⟩))) (hS : Se w S o c L) :
    SeqStopsK Fence.wide 4 Try.prog 66 #[.pointer (some ⟨Bn, 0, none⟩)] encS (Kq X ad) (fun xs => xs = L) (fun pre => pre <+: L) L.length w := fun l J Jx W hW hJ _ hY h0 =>
  all1_in X ad 0 l Bn S c o L J Jx W hJ hsz hY (fun k hk => Nat.lt_of_lt_of_le (hX k hk) hW.size) (Nat.lt_of_lt_of_le had hW.size) (fun k n c e => Nat.lt_of_lt_of_le (hrow k n c ((hW.cell had).symm.trans e)) hW.size)
    ((hW.cell (p := ⟨Bn, 0, none⟩) (World.block_lt_of_cell? _ _ hBn)).trans hBn) (hS.below hW (Nat.le_refl _)) h0

end Go.Proofs.YtlobnlkpbenngaaR
