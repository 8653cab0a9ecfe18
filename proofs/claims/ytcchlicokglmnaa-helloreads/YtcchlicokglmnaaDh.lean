/- The reader's handles. -/
import Derived.Test.YtcchlicokglmnaaDl
import Derived.Test.YtcchlicokglmnaaHh
import Derived.Shelf.Spec.SlicesInsert
namespace Go.Proofs.Ytcchlicokglmnaa
open Go.ChangeShapes Go.WideShapes Go.ChangeAt Go.RowKit Go.Lib
set_option linter.unusedVariables false

/-- Bytes laid into cells from j on. -/
def wrC (cs : Array Value) (j : Nat) (T : List UInt8) : Array Value := (cs.toList.take j ++ bc T ++ cs.toList.drop (j + (bc T).length)).toArray
theorem wrC_nil (cs : Array Value) (j : Nat) : wrC cs j [] = cs := by simp [wrC, bc]
theorem wrC_size (cs : Array Value) (j : Nat) (T : List UInt8) (h : j + T.length ≤ cs.size) : (wrC cs j T).size = cs.size := by simp [wrC, bc_length]; omega
/-- A handle read into cells. -/
def dH (L : List UInt8) (x : Sd × Array Value) (j : Nat) : Sd × Array Value := ((dT L 16 x.1).1, wrC x.2 j (dT L 16 x.1).2)
theorem dT_16 (L : List UInt8) (s : Sd) : (dT L 16 s).2.length = 0 ∨ (dT L 16 s).2.length = 16 := by
  unfold dT
  simp only
  split
  · exact .inl rfl
  · rename_i h
    simp at h
    exact .inr (sub_length _ _ _ (by omega))
theorem dH_size (L : List UInt8) (x : Sd × Array Value) (j : Nat) (h : j + 16 ≤ x.2.size) : (dH L x j).2.size = x.2.size := by
  apply wrC_size
  have := dT_len L 16 x.1
  omega
theorem dHs_size (L : List UInt8) : ∀ (js : List Nat) (x : Sd × Array Value), (∀ j ∈ js, j + 16 ≤ x.2.size) → (js.foldl (dH L) x).2.size = x.2.size := by
  intro js
  induction js with
  | nil => intro x _; rfl
  | cons j t ih =>
    intro x h
    have h1 := dH_size L x j (h j (by simp))
    rw [List.foldl_cons, ih _ (fun i hi => by rw [h1]; exact h i (by simp [hi])), h1]
/-- copy of what was taken. -/
theorem copy_h {X : World} {q j : Nat} {cs : Array Value} {t : Nat} (T : List UInt8) (hT : T.length = 0 ∨ T.length = 16) (o' : Option Addr) (c' : Nat) (hs : Sl X o' T) (hnil : o' = none → T.length = 0 ∧ c' = 0) (hq : X.heap[q]? = some (.cells cs t (0, 0))) (hj : j + 16 ≤ cs.size) :
    ∃ v X', (∀ ty, (Builtin.copy_ #[25, 25] ty #[.slice (some ⟨q, j, none⟩) 16 16, .slice o' T.length c']).run Try.prog X = .ok v X') ∧ X'.heap[q]? = some (.cells (wrC cs j T) t (0, 0)) ∧ Gs (fun k => k = q) X X' := by
  have hsz5 : (Try.prog.info? 5).map (·.size) = some 1 := by kernel_rfl
  rcases hT with h0 | h16
  · obtain rfl : T = [] := List.eq_nil_of_length_eq_zero h0
    exact ⟨_, X, fun ty => run_copy_none (P := Try.prog) X 25 25 ty 5 _ _ 16 16 0 c' Try.underlying25 hsz5 rfl, by rw [wrC_nil]; exact hq, Gs.refl _ _⟩
  · cases o' with
    | none => have := (hnil rfl).1; omega
    | some a =>
      refine ⟨_, _, fun ty => run_copy_row (P := Try.prog) X 25 25 ty 5 q j 16 16 a T.length c' cs t (bc T) Try.underlying25 hsz5 hq (by rw [bc_length, h16]; rfl) (Sl_cells hs) (by rw [bc_length]; omega) (bc_one T), ?_, ?_⟩
      · exact setRow_heap X q _ _ t _ hq
      · exact ⟨rfl, rfl, rfl, by simp [World.setRow], fun k _ hk => setRow_other X q k _ hk⟩
section
variable {w : World} {p : Nat} {o : Option Addr} {L : List UInt8} {c : Nat} {s : Sd}
/-- Handles into the cells of one block, as they lie behind so many. -/
structure DhS (w : World) (p : Nat) (o : Option Addr) (L : List UInt8) (c : Nat) (x : Sd × Array Value) (q t : Nat) (W : World) : Prop where
  rr : Rr W p o L c x.1.1 x.1.2
  row : W.heap[q]? = some (.cells x.2 t (0, 0))
  gs : Gs (fun k => k = p ∨ k = q) w W
set_option maxRecDepth 10000 in
set_option maxHeartbeats 1000000 in
theorem dhandles_c (h : Rr w p o L c s.1 s.2) (k : Nat) (js : List Nat) (q t : Nat) (cs : Array Value) (hk : w.heap[k]? = some (.cells (js.map fun j => Value.pointer (some ⟨q, j, none⟩)).toArray 82 (0, 0))) (hkp : k ≠ p) (hkq : k ≠ q) (hq : w.heap[q]? = some (.cells cs t (0, 0))) (hj : ∀ j ∈ js, j + 16 ≤ cs.size) (hqp : q ≠ p) (hqb : ∀ x, o = some x → L ≠ [] → x.block ≠ q) (hN : js.length ≤ 1000) :
    Calls Try.prog 62 #[.pointer (some ⟨p, 0, none⟩), .slice (some ⟨k, 0, none⟩) js.length js.length] w fun e w' => e = .returned (.tuple #[]) ∧ DhS w p o L c (js.foldl (dH L) (s, cs)) q t w' := by
  have HS : Hid (DhS w p o L c (s, cs) q t w) := ⟨h, hq, Gs.refl _ _⟩
  have HK : Hid (∀ W x, DhS w p o L c x q t W → W.heap[k]? = some (.cells (js.map fun j => Value.pointer (some ⟨q, j, none⟩)).toArray 82 (0, 0))) := fun W x hW => (hW.gs.block k (lt_block hk) (fun hh => by rcases hh with hh | hh; exact hkp hh; exact hkq hh)).trans hk
  have HT : Hid (∀ W x, DhS w p o L c x q t W → Calls Try.prog 67 #[.pointer (some ⟨p, 0, none⟩), .int .i64 16] W.drew (TkR p o L c x.1.1 x.1.2 16 W.drew)) := fun W x hW => rtake_c hW.rr.drew 16 (by omega)
  have HC : Hid (∀ W x j, x.2.size = cs.size → j ∈ js → DhS w p o L c x q t W → ∀ e W1, TkR p o L c x.1.1 x.1.2 16 W.drew e W1 → ∃ o' n' c' v X2, e = .returned (.slice o' n' c') ∧ (∀ ty, (Builtin.copy_ #[25, 25] ty #[.slice (some ⟨q, j, none⟩) 16 16, .slice o' n' c']).run Try.prog W1 = .ok v X2) ∧ DhS w p o L c (dH L x j) q t X2) := by
    rintro W x j hx hjm hW e W1 ⟨o', c', h1, h2, h3, h4, h5, h6⟩
    have hr1 : W1.heap[q]? = some (.cells x.2 t (0, 0)) := (h6.block q (lt_block hW.row) hqp).trans hW.row
    obtain ⟨v, X2, g1, g2, g3⟩ := copy_h (dT L 16 x.1).2 (dT_16 L x.1) o' c' h2 h3 hr1 (by rw [hx]; exact hj j hjm)
    refine ⟨o', _, c', v, X2, h1, g1, h5.gs g3 (fun hh => hqp hh.symm) (fun y hy hl hh => hqb y hy hl hh), g2, ?_⟩
    exact (hW.gs.trans (Gs.of_below (bld W))).trans ((h6.mono fun k hk => .inl hk).trans (g3.mono fun k hk => .inr hk))
  have HZ : Hid (∀ i, ((js.take i).foldl (dH L) (s, cs)).2.size = cs.size) := fun i => dHs_size L _ _ (fun j hjm => hj j (List.mem_of_mem_take hjm))
  clear h hk hq hj hqb
  obtain ⟨N, hNN⟩ : ∃ N, js.length = N := ⟨_, rfl⟩
  rw [hNN]
  rw [hNN] at hN
  have HN : Hid _ := hNN
  clear hNN
  go_enter Try.func62, Try.ntmps62
  go_wp2_with fail
  go_loopg [8] (N + 1) (fun kx s8 wr => ∃ i : Nat, s8 = .int .i64 (i : Int) ∧ i ≤ N ∧ N - i ≤ kx ∧ Hid (DhS w p o L c ((js.take i).foldl (dH L) (s, cs)) q t wr))
  case atStart => exact ⟨0, rfl, by omega, by omega, HS⟩
  case round =>
    obtain ⟨i, rfl, hi1, hg, HQ⟩ := hrel
    clear HS
    by_cases hlt : i < N
    · have i1 : (i : Int) < (N : Int) := by omega
      have i1' : decide ((i : Int) < (N : Int)) = true := by simpa using i1
      have i0' : (0 : Int) ≤ (i : Int) := by omega
      have iw : IntKind.i64.wrap ((i : Int) + 1) = ((i + 1 : Nat) : Int) := by rw [IntKind.wrap_i64]; omega
      have hl : i < js.length := by rw [HN.out]; exact hlt
      obtain ⟨j, hx⟩ : ∃ x, js[i] = x := ⟨_, rfl⟩
      have hkc : wr.cell? ⟨k, i, none⟩ = some (.pointer (some ⟨q, j, none⟩)) := by
        have := HK.out _ _ HQ.out
        unfold World.cell?
        rw [this]
        simp [List.getElem?_eq_getElem hl, hx]
      have HNX : Hid ((js.take (i + 1)).foldl (dH L) (s, cs) = dH L ((js.take i).foldl (dH L) (s, cs)) j) := by
        show _ = _
        rw [List.take_succ_eq_append_getElem hl, hx, List.foldl_append]
        rfl
      have HTT : Hid (Calls Try.prog 67 #[.pointer (some ⟨p, 0, none⟩), .int .i64 16] wr.drew (TkR p o L c ((js.take i).foldl (dH L) (s, cs)).1.1 ((js.take i).foldl (dH L) (s, cs)).1.2 16 wr.drew)) := HT.out wr _ HQ.out
      have HCC : Hid _ := HC.out wr _ j (HZ.out i) (by rw [← hx]; exact List.getElem_mem _) HQ.out
      clear hx hl HT HC HZ HK
      generalize (js.take i).foldl (dH L) (s, cs) = Y at *
      go_wp2_with fail
      go_region_held3 (fun _ => True) (exact trivial) (first | (go_at_call 67; refine Calls.mono HTT.out ?_; intro e w1 hk1; obtain ⟨o', n', c', v', X2, rfl, hrun, hq2⟩ := HCC.out e w1 hk1; have hr3 := hrun 3; have HQ2 : Hid _ := hq2; clear hk1 hrun hq2))
      all_goals
        go_wp2_with fail
        go_roundg (N - (i + 1))
        case measure => omega
        case rel => exact ⟨i + 1, rfl, by omega, Nat.le_refl _, by show DhS _ _ _ _ _ _ _ _ _; rw [HNX.out]; exact HQ2.out⟩
    · have i1 : ¬ (i : Int) < (N : Int) := by omega
      have i1' : decide ((i : Int) < (N : Int)) = false := by simpa using i1
      go_wp2_with fail
      go_end0
      have hi' : i = js.length := by rw [HN.out]; omega
      have := HQ.out
      rw [hi', List.take_length] at this
      exact ⟨rfl, this⟩
end
end Go.Proofs.Ytcchlicokglmnaa
