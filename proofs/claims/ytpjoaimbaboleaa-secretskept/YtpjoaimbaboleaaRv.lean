/- The reference's vault: its terms as they lie; New, Of. -/
import Derived.Test.YtpjoaimbaboleaaRn
namespace Go.Proofs.Ytpjoaimbaboleaa
open Go.RowKit Go.Shelf Go.Lib
set_option linter.unusedVariables false

/-- A term of the reference: what of a term stands in which cell. -/
def rc (t : Tm) : List Value := [.int .i64 (t.kd : Int), .int .i64 (t.of' : Int), .int .i64 (if t.kd = 4 then t.wi else 0), .string (if t.kd = 2 then t.un else ⟨#[]⟩), .int .i64 (if t.kd = 6 then t.wi else 0), .string (if t.kd = 6 then t.un else ⟨#[]⟩), .string t.by']
def rl (L : List Tm) : List Value := L.flatMap rc
theorem rc_len (t : Tm) : (rc t).length = 7 := rfl
theorem rl_len (L : List Tm) : (rl L).length = L.length * 7 := by
  induction L with
  | nil => rfl
  | cons t L ih => simp only [rl, List.flatMap_cons, List.length_append, rc_len, List.length_cons] at ih ⊢; omega
theorem rl_app (L M : List Tm) : rl (L ++ M) = rl L ++ rl M := by simp [rl]
theorem rl_one (t : Tm) : rl [t] = rc t := by simp [rl]
theorem rl_at {L : List Tm} {i j : Nat} {t : Tm} (h : L[i]? = some t) (hj : j < 7) : (rl L)[i * 7 + j]? = (rc t)[j]? := by
  induction L generalizing i with
  | nil => simp at h
  | cons s r ih =>
    have e : rl (s :: r) = rc s ++ rl r := by simp [rl]
    rw [e]
    cases i with
    | zero =>
      simp at h
      subst h
      rw [Nat.zero_mul, Nat.zero_add, List.getElem?_append_left (by rw [rc_len]; exact hj)]
    | succ i =>
      rw [List.getElem?_append_right (by rw [rc_len]; omega), rc_len, show (i + 1) * 7 + j - 7 = i * 7 + j by omega]
      exact ih (by simpa using h)
/-- The reference's vault as it lies. -/
structure Rv (n₀ : Nat) (w : World) (R g c : Nat) (L : List Tm) : Prop where
  hR : w.heap[R]? = some (.cells #[.slice (some ⟨g, 0, none⟩) L.length c] 67 (0, 0))
  row : w.ownsRow n₀ 64 7 (.slice (some ⟨g, 0, none⟩) L.length c) L.length (rl L)
  bR : n₀ ≤ R
section
variable {n₀ R g c : Nat} {w w' : World} {L : List Tm}
theorem Rv.keep (h : Rv n₀ w R g c L) (hk : ∀ (b : Nat) (cs : Array Value) (t : Nat), w.heap[b]? = some (Obj.cells cs t (0, 0)) → (t = 67 ∨ t = 64) → w'.heap[b]? = some (Obj.cells cs t (0, 0))) : Rv n₀ w' R g c L :=
  ⟨hk _ _ _ h.hR (.inl rfl), own_stay h.row fun g cs hg => hk g cs 64 hg (.inr rfl), h.bR⟩
theorem Rv.bel (h : Rv n₀ w R g c L) (hb : Below w.heap.size w w') : Rv n₀ w' R g c L := h.keep fun b cs t hg _ => heap_bel hg hb
theorem Rv.kc (h : Rv n₀ w R g c L) (hk : Kc w w') : Rv n₀ w' R g c L := h.keep fun b cs t hg ht => hk b cs t _ hg (by rcases ht with rfl | rfl <;> decide) (by rcases ht with rfl | rfl <;> decide)
theorem Rv.cR (h : Rv n₀ w R g c L) : w.cell? ⟨R, 0, none⟩ = some (.slice (some ⟨g, 0, none⟩) L.length c) := by simp [World.cell?, h.hR]
theorem Rv.at' (h : Rv n₀ w R g c L) {i : Nat} {t : Tm} (ht : L[i]? = some t) : w.rangeAt g (i * 7) (rc t) := by
  obtain ⟨_, h1 | ⟨g', cap, cur, e, h1, h2, h3, h4, h5, h6⟩⟩ := h.row
  · cases h1.1
  · injection e with e1 e2 e3
    injection e1 with e1
    injection e1 with e1
    subst e1
    have hi := (List.getElem?_eq_some_iff.1 ht).1
    intro j v hv
    have hj : j < 7 := by have := (List.getElem?_eq_some_iff.1 hv).1; rw [rc_len] at this; exact this
    have e : (rl L)[i * 7 + j]? = some v := (rl_at ht hj).trans hv
    rw [← h6, List.getElem?_take_of_lt (by omega)] at e
    unfold World.cell?
    simp only [h2]
    simpa using e
end
theorem hm28 : Try.prog.eqGuardType Try.prog.depth 28 = false := by kernel_rfl
theorem yl_bin {ops : Array Oper} {S : World → Prop} {op : Oper} {a : Act} (hw : Region.wanted op (yielded ops a.tmps) = true) (bop : BinOp) (t ty : TypeId) (x y : Operand) (ho : op.op = .binOp bop t x y ty) (A B : Array Value) (hx : a.eval x = .agg A) (hy : a.eval y = .agg B)
    (hm : Try.prog.eqGuardType Try.prog.depth t = false) (v : Value) (hb : ∀ w, (binOp bop t (.agg A) (.agg B)).run Try.prog w = .ok v w) : YieldsIf Try.prog ops S op v a :=
  .inl ⟨hw, fun w _ => by
    unfold execOp
    simp only [ho, hx, hy, Sem.run_bind, run_eqGuard_agg _ _ _ _ _ _ _ hm, Result.andThen_ok, hb, Sem.run_pure]⟩
theorem eql28r (X Y : List UInt8) (hX : X.length = 16) (hY : Y.length = 16) (w : World) : (binOp .eql 28 (hv X) (hv Y)).run Try.prog w = .ok (.bool (X == Y)) w := by
  have := equalIn_h 28 hu28r 9998 X Y hX hY w
  unfold hv at *
  rw [run_eql_struct, show (10000 : Nat) = 9998 + 2 from rfl, this]
  rfl
theorem boxr {w : World} {g : Nat} {K : List UInt8} (h : w.heap[g]? = some (.cells (hl K).toArray 28 (0, 0))) : w.rangeAt g 0 (hl K) := by
  intro j v hv
  unfold World.cell?
  simp only [h, Nat.zero_add]
  simpa using hv
set_option maxRecDepth 100000 in
theorem rnew_c (w : World) : Calls Try.prog 8 #[] w fun e w' => ∃ R g c, e = .returned (.pointer (some ⟨R, 0, none⟩)) ∧ Rv w.heap.size w' R g c [rt] ∧ Below w.heap.size w w' := by
  go_enter Try.func8, Try.ntmps8
  go_wp2
  go_ret
  refine ⟨w.heap.size + 1, w.heap.size, 1, rfl, ⟨new' (by simp), ⟨rfl, .inr ⟨w.heap.size, 1, _, rfl, Nat.le_refl _, nth' (new' rfl), Nat.le_refl _, by unfold maxLen; omega, rfl, rfl⟩⟩, by omega⟩, (bel1 w _).alloc (by simp) _⟩
/-- How Of ends. -/
def OfP (L : List Tm) (H : List UInt8) (w : World) (e : Ending) (w' : World) : Prop := ((∃ k : Nat, k < L.length ∧ H = nameL k ∧ e = .returned (.int .i64 (k : Int))) ∨ ((∀ k : Nat, k < L.length → H ≠ nameL k) ∧ e = .returned (.int .i64 (-1)))) ∧ Below w.heap.size w w'
set_option maxRecDepth 100000 in
set_option maxHeartbeats 1000000 in
theorem rof_c {n₀ R g c : Nat} {w : World} {L : List Tm} (h : Rv n₀ w R g c L) (hle : L.length ≤ 1000000) (H : List UInt8) (hH : H.length = 16) : Calls Try.prog 52 #[.pointer (some ⟨R, 0, none⟩), hv H] w (OfP L H w) := by
  have HV : Aside _ := h
  have HB : Aside _ := heap_alloc_new w (.cells (hl H).toArray 28)
  have HN : Aside (∀ (i : Nat) (X : World), i ≤ 1000000 → Calls Try.prog 14 #[.int .i64 (i : Int)] X fun e w' => e = .returned (hv (nameL i)) ∧ Below X.heap.size X w') := fun i X hi => rname_c i hi X
  have hmH : (Try.prog.info? 28).map (·.size) = some (hl H).length := hi28r.trans (by simp [hH])
  have hmu := hu28r
  obtain ⟨N, hN⟩ : ∃ N, L.length = N := ⟨_, rfl⟩
  have HLN : Aside _ := hN
  rw [hN] at hle
  clear h hN
  go_enter Try.func52, Try.ntmps52
  go_wp2_with fail
  have hbw : Below w.heap.size w (w.alloc (.cells (hl H).toArray 28)) := bel1 _ _
  have HBW : Aside _ := hbw
  clear hbw
  generalize w.alloc (.cells (hl H).toArray 28) = W1 at *
  go_loopg [5] (N + 1) (fun kx s5 wr => ∃ k : Nat, s5 = .int .i64 (k : Int) ∧ k ≤ N ∧ N - k ≤ kx ∧ Aside (Below w.heap.size w wr ∧ wr.heap[w.heap.size]? = some (.cells (hl H).toArray 28 (0, 0)) ∧ ∀ j : Nat, j < k → H ≠ nameL j))
  case atStart => exact ⟨0, rfl, by omega, by omega, ⟨HBW.out, HB.out, fun j hj => by omega⟩⟩
  case round =>
    obtain ⟨k, rfl, hk, hg, HK⟩ := hrel
    clear HB HBW
    have cR := (HV.out.bel HK.out.1).cR
    rw [HLN.out] at cR
    by_cases hlt : k < N
    · have i1 : (k : Int) < (N : Int) := by omega
      have iw : IntKind.i64.wrap ((k : Int) + 1) = (k : Int) + 1 := by rw [IntKind.wrap_i64]; omega
      have HNK : Aside (∀ X, Calls Try.prog 14 #[.int .i64 (k : Int)] X fun e w' => e = .returned (hv (nameL k)) ∧ Below X.heap.size X w') := fun X => HN.out k X (by omega)
      obtain ⟨b, hbq⟩ : ∃ b, (nameL k == H) = b := ⟨_, rfl⟩
      have HBQ : Aside (∀ X, (binOp .eql 28 (hv (nameL k)) (hv H)).run Try.prog X = .ok (.bool b) X) := fun X => by rw [← hbq]; exact eql28r _ _ (nameL_len k) hH X
      have HEQ : Aside (b = true → H = nameL k) := fun e => by rw [e] at hbq; exact (by simpa using hbq : nameL k = H).symm
      have HNE : Aside (b = false → H ≠ nameL k) := fun e => by rw [e] at hbq; exact fun h => absurd h.symm (by simpa using hbq)
      clear hbq
      generalize hHk : nameL k = Hk at *
      have HHK : Aside _ := hHk
      clear hHk
      have HRB : Aside (wr.drew.rangeAt w.heap.size 0 (hl H)) := boxr HK.out.2.1
      have HBD : Aside (Below w.heap.size w wr.drew) := HK.out.1.trans ((bel_drew wr).mono HK.out.1.size)
      have HXD : Aside (wr.drew.heap[w.heap.size]? = some (.cells (hl H).toArray 28 (0, 0))) := HK.out.2.1
      have HPR : Aside _ := HK.out.2.2
      unfold hv at *
      clear HK
      go_wp2_with fail
      refine wp_region_held_drew (S := fun X => X.rangeAt w.heap.size 0 (hl H)) (by kernel_rfl) HRB.out (fun hHeld => ?_)
      refine wpAnyH_take (i := 0) (v := .int .i64 (k : Int)) rfl (by kernel_rfl) (by kernel_rfl) (by kernel_rfl) (fun _ _ _ h => h) (Or.inl ⟨by rfl, by intro w hs; go_simp⟩) hHeld ?_
      refine norm_any' (fun K hK => ?_)
      go_simp
      refine hK _ _ ?_
      clear hK K
      refine wpAnyH_take (i := 2) (v := .agg (hl H).toArray) rfl (by kernel_rfl) (by kernel_rfl) (by kernel_rfl) (fun _ _ _ h => h) (yieldsIf_load_mid (by rfl) 28 _ rfl w.heap.size 0 rfl (hl H) _ (fun X h => h) hmu rfl hmH) hHeld ?_
      refine norm_any' (fun K hK => ?_)
      go_simp
      refine hK _ _ ?_
      clear hK K
      refine wpAnyH_ready (rs := [1]) (by kernel_rfl) (by simp) (AllReadyH.cons rfl (fun K hK => ?_) AllReadyH.nil)
      go_simp
      refine Calls.mono (HNK.out _) ?_
      rintro e Y1 ⟨rfl, hz⟩
      have HX1 : Aside (Y1.heap[w.heap.size]? = some (.cells (hl H).toArray 28 (0, 0))) := heap_bel HXD.out hz
      have HB1 : Aside (Below w.heap.size w Y1) := HBD.out.trans (hz.mono HBD.out.size)
      clear hz
      refine hK.out _ _ (boxr HX1.out) (fun hHeld => ?_)
      clear hK K
      refine norm_any' (fun K hK => ?_)
      go_simp
      refine hK _ _ ?_
      clear hK K
      refine wpAnyH_take (i := 3) (v := .bool b) rfl (by kernel_rfl) (by kernel_rfl) (by kernel_rfl) (fun _ _ _ h => h) (yl_bin (by rfl) .eql 28 28 _ _ rfl (hl Hk).toArray (hl H).toArray rfl rfl hm28 _ HBQ.out) hHeld ?_
      refine norm_any' (fun K hK => ?_)
      go_simp
      refine hK _ _ ?_
      clear hK K
      refine wpAnyH_done (by kernel_rfl) ?_ _
      clear hHeld HBQ HNK
      cases b with
      | true =>
        have HE : Aside _ := HEQ.out rfl
        go_wp2
        go_ret
        exact ⟨.inl ⟨k, by rw [HLN.out]; exact hlt, HE.out.trans HHK.out.symm, rfl⟩, HB1.out⟩
      | false =>
        have HE : Aside _ := HNE.out rfl
        go_wp2
        go_roundg (N - (k + 1))
        case measure => omega
        case rel => exact ⟨k + 1, by simp, by omega, Nat.le_refl _, ⟨HB1.out, HX1.out, fun j hj => (by
          rcases (show j < k ∨ j = k by omega) with h | h
          · exact HPR.out j h
          · subst h; exact fun e => HE.out (e.trans HHK.out))⟩⟩
    · obtain rfl : k = N := by omega
      have i1 : ¬ ((k : Int) < (k : Int)) := by omega
      go_wp2
      go_ret
      exact ⟨.inr ⟨fun j hj => HK.out.2.2 j (by rw [HLN.out] at hj; exact hj), rfl⟩, HK.out.1⟩
end Go.Proofs.Ytpjoaimbaboleaa
