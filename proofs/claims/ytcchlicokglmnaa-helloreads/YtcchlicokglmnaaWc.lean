/- hello.walkClient, over any parts. -/
import Derived.Test.YtcchlicokglmnaaWk
namespace Go.Proofs.Ytcchlicokglmnaa
open Go.ChangeShapes Go.WideShapes Go.ChangeAt Go.RowKit Go.Lib
set_option linter.unusedVariables false

def z16 : List UInt8 := List.replicate 16 0
abbrev hv (h : List UInt8) : Value := .agg (bc h).toArray
theorem u23 : Try.prog.underlying 23 = some (.array 16 5) := by kernel_rfl
theorem i23 : (Try.prog.info? 23).map (·.size) = some 16 := by kernel_rfl
theorem hm23 : Try.prog.eqGuardType Try.prog.depth 23 = false := by kernel_rfl
theorem bz23 (X : World) : (Instr.build 23 #[]).run Try.prog X = .ok (hv z16) X := run_build X 23 _ _ (by kernel_rfl)
theorem eq_loop {P : Program} {w : World} (f : Nat → Bool) (body : Nat → Option Bool × Unit → Sem (ForInStep (Option Bool × Unit))) (N : Nat)
    (hb : ∀ i s, i < N → (body i s).run P w = .ok (if f i then .yield (none, ()) else .done (some false, ())) w) :
    ∀ L : List Nat, (∀ i ∈ L, i < N) → (forIn L (none, ()) body).run P w = .ok (if L.all f then (none, ()) else (some false, ())) w := by
  intro L
  induction L with
  | nil => intro _; simp [go_sem]
  | cons i t ih =>
    intro h
    rw [List.forIn_cons, Sem.run_bind, hb i _ (h i (by simp))]
    by_cases e : f i = true
    · simp only [e, if_true, Result.andThen_ok, List.all_cons, Bool.true_and]
      exact ih fun j hj => h j (by simp [hj])
    · simp only [e, Bool.false_eq_true, if_false, Result.andThen_ok, List.all_cons, Bool.false_and]
      rfl
theorem bc_get {X : List UInt8} {i : Nat} (h : i < X.length) : (bc X)[i]? = some (.int .u8 (X[i].toNat : Int)) := by
  simp [bc, h]
theorem all16 {X Y : List UInt8} (hX : X.length = 16) (hY : Y.length = 16) : (List.range' 0 16).all (fun i => X[i]? == Y[i]?) = (X == Y) := by
  rw [Bool.eq_iff_iff, List.all_eq_true, beq_iff_eq]
  constructor
  · intro h
    apply List.ext_getElem?
    intro i
    by_cases hi : i < 16
    · simpa using h i (by simp [List.mem_range']; omega)
    · rw [List.getElem?_eq_none (by omega), List.getElem?_eq_none (by omega)]
  · rintro rfl i _
    simp
theorem equalIn_h (t : TypeId) (ht : Try.prog.underlying t = some (.array 16 5)) (d : Nat) (X Y : List UInt8) (hX : X.length = 16) (hY : Y.length = 16) (w : World) : (Op.equalIn (d + 2) t (hv X) (hv Y)).run Try.prog w = .ok (X == Y) w := by
  unfold Op.equalIn hv
  simp only [Sem.run_bind, run_underlying ht, Result.andThen_ok]
  go_simp
  rw [eq_loop (fun i => X[i]? == Y[i]?) _ 16 ?hb (List.range' 0 16) (by simp [List.mem_range'])]
  · rw [all16 hX hY]
    by_cases e : (X == Y) = true <;> simp [e, go_sem]
  · intro i s hi
    have a5 := Try.isAgg5
    rw [bc_get (by omega), bc_get (by omega)]
    simp only [Sem.run_bind, a5, Result.andThen_ok, Bool.false_eq_true, if_false, go_sem]
    rw [List.getElem?_eq_getElem (by omega), List.getElem?_eq_getElem (by omega)]
    by_cases e : X[i] = Y[i]
    · simp [e, go_sem]
    · have : ¬ ((X[i].toNat : Int) = (Y[i].toNat : Int)) := fun h => e (by rw [← UInt8.toNat_inj]; omega)
      simp [e, this, go_sem]
theorem eqlH (t : TypeId) (ht : Try.prog.underlying t = some (.array 16 5)) (X Y : List UInt8) (hX : X.length = 16) (hY : Y.length = 16) (w : World) : (binOp .eql t (.agg (bc X).toArray) (.agg (bc Y).toArray)).run Try.prog w = .ok (.bool (X == Y)) w := by
  have := equalIn_h t ht 9998 X Y hX hY w
  unfold hv at *
  rw [run_eql_struct, show (10000 : Nat) = 9998 + 2 from rfl, this]
  rfl
theorem yl_bin' {ops : Array Oper} {S : World → Prop} {op : Oper} {a : Act} (hw : Region.wanted op (yielded ops a.tmps) = true) (bop : BinOp) (t ty : TypeId) (x y : Operand) (ho : op.op = .binOp bop t x y ty) (A B : Array Value) (hx : a.eval x = .agg A) (hy : a.eval y = .agg B)
    (hm : Try.prog.eqGuardType Try.prog.depth t = false) (v : Value) (hb : ∀ w, (binOp bop t (.agg A) (.agg B)).run Try.prog w = .ok v w) : YieldsIf Try.prog ops S op v a :=
  .inl ⟨hw, fun w _ => by
    unfold execOp
    simp only [ho, hx, hy, Sem.run_bind, run_eqGuard_agg _ _ _ _ _ _ _ hm, Result.andThen_ok, hb, Sem.run_pure]⟩
theorem yl_bld {ops : Array Oper} {S : World → Prop} {op : Oper} {a : Act} (hw : Region.wanted op (yielded ops a.tmps) = true) (ho : op.op = .build 23 #[]) : YieldsIf Try.prog ops S op (hv z16) a :=
  .inl ⟨hw, fun w _ => by
    unfold execOp
    simp only [ho, List.map_toArray, List.map_nil, Sem.run_bind, bz23, Result.andThen_ok, Sem.run_pure]⟩
section
variable {T p M fH fF fS fL fP fN fM : Nat}
/-- What walkClient wants of the parts. -/
structure Wc (T p M fH fF fS fL fP fN fM : Nat) (I0 I1 I2 : World → Prop) (I3 : Int → World → Prop) (I4 I5 : World → Prop) (I6 : Bool → World → Prop) (I7 J : World → Prop) (ao : Option Addr) (N cp : Nat) (to : Option Addr) (tn tc : Nat) : Prop where
  st0 : Stb I0
  st1 : Stb I1
  st2 : Stb I2
  st3 : ∀ c, Stb (I3 c)
  st4 : Stb I4
  st5 : Stb I5
  st6 : ∀ t, Stb (I6 t)
  st7 : Stb I7
  h1 : ∀ X k, I0 X → X.heap[k]? = some (.cells #[.pointer (some ⟨M, 1, none⟩), .pointer (some ⟨M, 17, none⟩)] 82 (0, 0)) → Calls Try.prog fH #[.pointer (some ⟨p, 0, none⟩), .slice (some ⟨k, 0, none⟩) 2 2] X fun e w' => e = .returned un ∧ I1 w'
  h2 : ∀ X, I1 X → Calls Try.prog fS #[.pointer (some ⟨p, 0, none⟩), .pointer (some ⟨M, 33, none⟩), .int .i64 0] X fun e w' => e = .returned un ∧ I2 w'
  n2 : ∀ X, I2 X → X.cell? ⟨M, 34, none⟩ = some (.slice ao N cp)
  h3 : ∀ X k, I2 X → X.heap[k]? = some (.cells #[.int .i64 (N : Int)] 3 (0, 0)) → p < k → Calls Try.prog fN #[.pointer (some ⟨p, 0, none⟩), .pointer (some ⟨k, 0, none⟩), .int .i64 1, .int .i64 1, .int .i64 8] X fun e w' => e = .returned un ∧ ∃ c, I3 c w' ∧ w'.heap[k]? = some (.cells #[.int .i64 c] 3 (0, 0))
  h4 : ∀ X c, I3 c X → Calls Try.prog fP #[.pointer (some ⟨p, 0, none⟩), .pointer (some ⟨M, 34, none⟩), .int .i64 c] X fun e w' => e = .returned un ∧ I4 w'
  h5 : ∀ X, I4 X → Calls Try.prog fL #[.pointer (some ⟨p, 0, none⟩), .pointer (some ⟨M, 35, none⟩), .int .i64 0, .int .i64 4096] X fun e w' => e = .returned un ∧ I5 w'
  n5 : ∀ X, I5 X → X.cell? ⟨M, 36, none⟩ = some (.slice to tn tc)
  h6 : ∀ X k b, I5 X → X.heap[b]? = some (.cells #[.bool (decide (0 < tn))] 4 (0, 0)) → p < b → X.heap[k]? = some (.cells #[.pointer (some ⟨b, 0, none⟩), .pointer (some ⟨M, 53, none⟩)] 84 (0, 0)) → Calls Try.prog fF #[.pointer (some ⟨p, 0, none⟩), .slice (some ⟨k, 0, none⟩) 2 2] X fun e w' => e = .returned un ∧ ∃ t, I6 t w' ∧ w'.heap[b]? = some (.cells #[.bool t] 4 (0, 0))
  h7 : ∀ X, I6 false X → ∃ E Bd, List.length Bd = 16 ∧ X.cell? ⟨M, 53, none⟩ = some (.bool E) ∧ X.rangeAt M 37 (bc Bd) ∧ Calls Try.prog fM #[.pointer (some ⟨p, 0, none⟩), .bool (!E && (Bd == z16))] X fun e w' => e = .returned un ∧ J w'
  h8 : ∀ X, I6 true X → Calls Try.prog fL #[.pointer (some ⟨p, 0, none⟩), .pointer (some ⟨M, 36, none⟩), .int .i64 1, .int .i64 512] X fun e w' => e = .returned un ∧ I7 w'
  h9 : ∀ X k, I7 X → X.heap[k]? = some (.cells #[.pointer (some ⟨M, 37, none⟩)] 82 (0, 0)) → Calls Try.prog fH #[.pointer (some ⟨p, 0, none⟩), .slice (some ⟨k, 0, none⟩) 1 1] X fun e w' => e = .returned un ∧ J w'
  pl : ∀ X, I0 X → p < X.heap.size
set_option maxRecDepth 100000 in
set_option maxHeartbeats 2000000 in
theorem client_c (ms : Ms T p fH fF fS fL fP fN fM) {I0 I1 I2 : World → Prop} {I3 : Int → World → Prop} {I4 I5 : World → Prop} {I6 : Bool → World → Prop} {I7 J : World → Prop} {ao : Option Addr} {N cp : Nat} {to : Option Addr} {tn tc : Nat} (hc : Wc T p M fH fF fS fL fP fN fM I0 I1 I2 I3 I4 I5 I6 I7 J ao N cp to tn tc)
    (pl2 : ∀ X, I2 X → p < X.heap.size) (pl5 : ∀ X, I5 X → p < X.heap.size)
    (w : World) (h0 : I0 w) : Calls Try.prog 30 #[.iface T (.pointer (some ⟨p, 0, none⟩)), .pointer (some ⟨M, 0, none⟩)] w fun e w' => e = .returned un ∧ J w' := by
  have hmf : ∀ (fn : Fn) (first cap : Array Value) (w : World), (Instr.makeFunc fn first cap).run Try.prog w = .ok (.func fn first cap) w := fun _ _ _ _ => rfl
  obtain ⟨mH, mF, mS, mL, mP, mN, mM, nH, nF, nS, nL, nP, nN, nM, cH, cF, cS, cL, cP, cN, cM⟩ := ms
  obtain ⟨st0, st1, st2, st3, st4, st5, st6, st7, h1, h2, n2, h3, h4, h5, n5, h6, h7, h8, h9, pl⟩ := hc
  have S0 : Hid (I0 w) := h0
  have C1 : Hid _ := h1
  have C2 : Hid _ := h2
  have C3 : Hid _ := h3
  have C4 : Hid _ := h4
  have C5 : Hid _ := h5
  have C6 : Hid _ := h6
  have C7 : Hid _ := h7
  have C8 : Hid _ := h8
  have C9 : Hid _ := h9
  have Q2 : Hid _ := n2
  have Q5 : Hid _ := n5
  have L2 : Hid _ := pl2
  have L5 : Hid _ := pl5
  clear h0 h1 h2 h3 h4 h5 h6 h7 h8 h9 n2 n5 pl pl2 pl5
  go_enter Try.func30, Try.ntmps30
  go_wp2_with fail
  have S0d : Hid (I0 w.drew) := st0 _ _ S0.out (bld w)
  clear S0
  refine wp_region_held_drew (S := fun _ => True) (by kernel_rfl) trivial (fun hHeld => ?_)
  generalize w.drew = wd at *
  refine wpAnyH_take (i := 0) (v := .iface T (.pointer (some ⟨p, 0, none⟩))) rfl (by kernel_rfl) (by kernel_rfl) (by kernel_rfl) (fun _ _ _ h => h) (Or.inl ⟨by rfl, by intro w hs; go_simp⟩) hHeld ?_
  refine norm_any' (fun K hK => ?_)
  go_simp
  refine hK _ _ ?_
  clear hK K
  refine wpAnyH_take (i := 1) (v := .pointer (some ⟨M, 0, none⟩)) rfl (by kernel_rfl) (by kernel_rfl) (by kernel_rfl) (fun _ _ _ h => h) (Or.inl ⟨by rfl, by intro w hs; go_simp⟩) hHeld ?_
  refine norm_any' (fun K hK => ?_)
  go_simp
  refine hK _ _ ?_
  clear hK K
  refine wpAnyH_take (i := 2) (v := .pointer (some ⟨M, 0, none⟩)) rfl (by kernel_rfl) (by kernel_rfl) (by kernel_rfl) (fun _ _ _ h => h) (Or.inl ⟨by rfl, by intro w hs; go_simp⟩) hHeld ?_
  refine norm_any' (fun K hK => ?_)
  go_simp
  refine hK _ _ ?_
  clear hK K
  refine wpAnyH_take (i := 3) (v := .pointer (some ⟨M, 1, none⟩)) rfl (by kernel_rfl) (by kernel_rfl) (by kernel_rfl) (fun _ _ _ h => h) (Or.inl ⟨by rfl, by intro w hs; go_simp⟩) hHeld ?_
  refine norm_any' (fun K hK => ?_)
  go_simp
  refine hK _ _ ?_
  clear hK K
  refine wpAnyH_take (i := 4) (v := .pointer (some ⟨M, 0, none⟩)) rfl (by kernel_rfl) (by kernel_rfl) (by kernel_rfl) (fun _ _ _ h => h) (Or.inl ⟨by rfl, by intro w hs; go_simp⟩) hHeld ?_
  refine norm_any' (fun K hK => ?_)
  go_simp
  refine hK _ _ ?_
  clear hK K
  refine wpAnyH_take (i := 5) (v := .pointer (some ⟨M, 0, none⟩)) rfl (by kernel_rfl) (by kernel_rfl) (by kernel_rfl) (fun _ _ _ h => h) (Or.inl ⟨by rfl, by intro w hs; go_simp⟩) hHeld ?_
  refine norm_any' (fun K hK => ?_)
  go_simp
  refine hK _ _ ?_
  clear hK K
  refine wpAnyH_take (i := 6) (v := .pointer (some ⟨M, 17, none⟩)) rfl (by kernel_rfl) (by kernel_rfl) (by kernel_rfl) (fun _ _ _ h => h) (Or.inl ⟨by rfl, by intro w hs; go_simp⟩) hHeld ?_
  refine norm_any' (fun K hK => ?_)
  go_simp
  refine hK _ _ ?_
  clear hK K
  refine wpAnyH_take (i := 8) (v := .func (.method "caravel/hello.handles") #[.iface T (.pointer (some ⟨p, 0, none⟩))] #[]) rfl (by kernel_rfl) (by kernel_rfl) (by kernel_rfl) (fun _ _ _ h => h) (Or.inl ⟨by rfl, by intro w hs; go_simp⟩) hHeld ?_
  refine norm_any' (fun K hK => ?_)
  go_simp
  refine hK _ _ ?_
  clear hK K
  refine wpAnyH_take (i := 9) (v := .func (.method "caravel/hello.handles") #[.iface T (.pointer (some ⟨p, 0, none⟩))] #[]) rfl (by kernel_rfl) (by kernel_rfl) (by kernel_rfl) (fun _ _ _ h => h) (Or.inl ⟨by rfl, by intro w hs; go_simp⟩) hHeld ?_
  refine norm_any' (fun K hK => ?_)
  go_simp
  refine hK _ _ ?_
  clear hK K
  refine wpAnyH_take (i := 10) (v := .iface T (.pointer (some ⟨p, 0, none⟩))) rfl (by kernel_rfl) (by kernel_rfl) (by kernel_rfl) (fun _ _ _ h => h) (Or.inl ⟨by rfl, by intro w hs; go_simp⟩) hHeld ?_
  refine norm_any' (fun K hK => ?_)
  go_simp
  refine hK _ _ ?_
  clear hK K
  refine wpAnyH_ready (rs := [7]) (by kernel_rfl) (by simp) (AllReadyH.cons rfl (fun K hK => ?_) AllReadyH.nil)
  have S0e : Hid (I0 (wd.alloc (.cells #[.pointer (some ⟨M, 1, none⟩), .pointer (some ⟨M, 17, none⟩)] 82))) := st0 _ _ S0d.out (bl1 wd _)
  have HK13 : Hid _ := heap_alloc_new wd (.cells #[.pointer (some ⟨M, 1, none⟩), .pointer (some ⟨M, 17, none⟩)] 82)
  clear S0d
  go_simp
  refine hK.out _ _ trivial (fun hHeld => ?_)
  clear hK K
  refine norm_any' (fun K hK => ?_)
  go_simp
  refine hK _ _ ?_
  clear hK K
  generalize wd.alloc (.cells #[.pointer (some ⟨M, 1, none⟩), .pointer (some ⟨M, 17, none⟩)] 82) = we at *
  refine wpAnyH_ready (rs := [11]) (by kernel_rfl) (by simp) (AllReadyH.cons rfl (fun K hK => ?_) AllReadyH.nil)
  go_simp
  refine Calls.mono (C1.out _ _ S0e.out HK13.out) ?_
  rintro e W1 ⟨rfl, h1⟩
  have S1 : Hid (I1 W1) := h1
  clear h1
  refine hK.out _ _ trivial (fun hHeld => ?_)
  clear hK K
  refine norm_any' (fun K hK => ?_)
  go_simp
  refine hK _ _ ?_
  clear hK K
  refine wpAnyH_done (by kernel_rfl) ?_ _
  clear hHeld
  as_aux_lemma =>
  go_wp2_with fail
  have S1d : Hid (I1 W1.drew) := st1 _ _ S1.out (bld W1)
  clear S1
  refine wp_region_held_drew (S := fun _ => True) (by kernel_rfl) trivial (fun hHeld => ?_)
  generalize W1.drew = W1d at *
  refine wpAnyH_take (i := 0) (v := .iface T (.pointer (some ⟨p, 0, none⟩))) rfl (by kernel_rfl) (by kernel_rfl) (by kernel_rfl) (fun _ _ _ h => h) (Or.inl ⟨by rfl, by intro w hs; go_simp⟩) hHeld ?_
  refine norm_any' (fun K hK => ?_)
  go_simp
  refine hK _ _ ?_
  clear hK K
  refine wpAnyH_take (i := 1) (v := .pointer (some ⟨M, 0, none⟩)) rfl (by kernel_rfl) (by kernel_rfl) (by kernel_rfl) (fun _ _ _ h => h) (Or.inl ⟨by rfl, by intro w hs; go_simp⟩) hHeld ?_
  refine norm_any' (fun K hK => ?_)
  go_simp
  refine hK _ _ ?_
  clear hK K
  refine wpAnyH_take (i := 2) (v := .pointer (some ⟨M, 0, none⟩)) rfl (by kernel_rfl) (by kernel_rfl) (by kernel_rfl) (fun _ _ _ h => h) (Or.inl ⟨by rfl, by intro w hs; go_simp⟩) hHeld ?_
  refine norm_any' (fun K hK => ?_)
  go_simp
  refine hK _ _ ?_
  clear hK K
  refine wpAnyH_take (i := 3) (v := .pointer (some ⟨M, 33, none⟩)) rfl (by kernel_rfl) (by kernel_rfl) (by kernel_rfl) (fun _ _ _ h => h) (Or.inl ⟨by rfl, by intro w hs; go_simp⟩) hHeld ?_
  refine norm_any' (fun K hK => ?_)
  go_simp
  refine hK _ _ ?_
  clear hK K
  refine wpAnyH_take (i := 4) (v := .func (.method "caravel/hello.short") #[.iface T (.pointer (some ⟨p, 0, none⟩))] #[]) rfl (by kernel_rfl) (by kernel_rfl) (by kernel_rfl) (fun _ _ _ h => h) (Or.inl ⟨by rfl, by intro w hs; go_simp⟩) hHeld ?_
  refine norm_any' (fun K hK => ?_)
  go_simp
  refine hK _ _ ?_
  clear hK K
  refine wpAnyH_take (i := 5) (v := .func (.method "caravel/hello.short") #[.iface T (.pointer (some ⟨p, 0, none⟩))] #[]) rfl (by kernel_rfl) (by kernel_rfl) (by kernel_rfl) (fun _ _ _ h => h) (Or.inl ⟨by rfl, by intro w hs; go_simp⟩) hHeld ?_
  refine norm_any' (fun K hK => ?_)
  go_simp
  refine hK _ _ ?_
  clear hK K
  refine wpAnyH_take (i := 6) (v := .iface T (.pointer (some ⟨p, 0, none⟩))) rfl (by kernel_rfl) (by kernel_rfl) (by kernel_rfl) (fun _ _ _ h => h) (Or.inl ⟨by rfl, by intro w hs; go_simp⟩) hHeld ?_
  refine norm_any' (fun K hK => ?_)
  go_simp
  refine hK _ _ ?_
  clear hK K
  refine wpAnyH_ready (rs := [7]) (by kernel_rfl) (by simp) (AllReadyH.cons rfl (fun K hK => ?_) AllReadyH.nil)
  go_simp
  refine Calls.mono (C2.out _ S1d.out) ?_
  rintro e W2 ⟨rfl, h2⟩
  have S2 : Hid (I2 W2) := h2
  clear h2
  refine hK.out _ _ trivial (fun hHeld => ?_)
  clear hK K
  refine norm_any' (fun K hK => ?_)
  go_simp
  refine hK _ _ ?_
  clear hK K
  refine wpAnyH_done (by kernel_rfl) ?_ _
  clear hHeld
  as_aux_lemma =>
  have cn := Q2.out W2 S2.out
  have S2a : Hid (I2 (W2.alloc (.cells #[.int .i64 (N : Int)] 3))) := st2 _ _ S2.out (bl1 W2 _)
  have XC : Hid _ := heap_alloc_new W2 (.cells #[.int .i64 (N : Int)] 3)
  have lc : Hid (p < W2.heap.size) := L2.out W2 S2.out
  clear S2
  go_wp2_with fail
  generalize W2.alloc (.cells #[.int .i64 (N : Int)] 3) = W2a at *
  generalize W2.heap.size = Bc at *
  refine Calls.mono (C3.out W2a Bc S2a.out XC.out lc.out) ?_
  rintro e W3 ⟨rfl, c, h3, hx3⟩
  have S3 : Hid (I3 c W3) := h3
  have XC3 : W3.heap[Bc]? = some (.cells #[.int .i64 c] 3 (0, 0)) := hx3
  have cc : W3.cell? ⟨Bc, 0, none⟩ = some (.int .i64 c) := by unfold World.cell?; rw [hx3]; rfl
  clear h3 hx3 cn S2a XC lc XC3
  as_aux_lemma =>
  go_wp2_with fail
  have S3d : Hid (I3 c W3.drew) := (st3 c) _ _ S3.out (bld W3)
  have ccd : W3.drew.cell? ⟨Bc, 0, none⟩ = some (.int .i64 c) := cc
  clear cc
  clear S3
  refine wp_region_held_drew (S := fun _ => True) (by kernel_rfl) trivial (fun hHeld => ?_)
  generalize W3.drew = W3d at *
  refine wpAnyH_take (i := 0) (v := .iface T (.pointer (some ⟨p, 0, none⟩))) rfl (by kernel_rfl) (by kernel_rfl) (by kernel_rfl) (fun _ _ _ h => h) (Or.inl ⟨by rfl, by intro w hs; go_simp⟩) hHeld ?_
  refine norm_any' (fun K hK => ?_)
  go_simp
  refine hK _ _ ?_
  clear hK K
  refine wpAnyH_take (i := 1) (v := .pointer (some ⟨M, 0, none⟩)) rfl (by kernel_rfl) (by kernel_rfl) (by kernel_rfl) (fun _ _ _ h => h) (Or.inl ⟨by rfl, by intro w hs; go_simp⟩) hHeld ?_
  refine norm_any' (fun K hK => ?_)
  go_simp
  refine hK _ _ ?_
  clear hK K
  refine wpAnyH_take (i := 2) (v := .pointer (some ⟨M, 0, none⟩)) rfl (by kernel_rfl) (by kernel_rfl) (by kernel_rfl) (fun _ _ _ h => h) (Or.inl ⟨by rfl, by intro w hs; go_simp⟩) hHeld ?_
  refine norm_any' (fun K hK => ?_)
  go_simp
  refine hK _ _ ?_
  clear hK K
  refine wpAnyH_take (i := 3) (v := .pointer (some ⟨M, 34, none⟩)) rfl (by kernel_rfl) (by kernel_rfl) (by kernel_rfl) (fun _ _ _ h => h) (Or.inl ⟨by rfl, by intro w hs; go_simp⟩) hHeld ?_
  refine norm_any' (fun K hK => ?_)
  go_simp
  refine hK _ _ ?_
  clear hK K
  refine wpAnyH_take (i := 5) (v := .func (.method "caravel/hello.protos") #[.iface T (.pointer (some ⟨p, 0, none⟩))] #[]) rfl (by kernel_rfl) (by kernel_rfl) (by kernel_rfl) (fun _ _ _ h => h) (Or.inl ⟨by rfl, by intro w hs; go_simp⟩) hHeld ?_
  refine norm_any' (fun K hK => ?_)
  go_simp
  refine hK _ _ ?_
  clear hK K
  refine wpAnyH_take (i := 6) (v := .func (.method "caravel/hello.protos") #[.iface T (.pointer (some ⟨p, 0, none⟩))] #[]) rfl (by kernel_rfl) (by kernel_rfl) (by kernel_rfl) (fun _ _ _ h => h) (Or.inl ⟨by rfl, by intro w hs; go_simp⟩) hHeld ?_
  refine norm_any' (fun K hK => ?_)
  go_simp
  refine hK _ _ ?_
  clear hK K
  refine wpAnyH_take (i := 7) (v := .iface T (.pointer (some ⟨p, 0, none⟩))) rfl (by kernel_rfl) (by kernel_rfl) (by kernel_rfl) (fun _ _ _ h => h) (Or.inl ⟨by rfl, by intro w hs; go_simp⟩) hHeld ?_
  refine norm_any' (fun K hK => ?_)
  go_simp
  refine hK _ _ ?_
  clear hK K
  refine wpAnyH_ready (rs := [4]) (by kernel_rfl) (by simp) (AllReadyH.cons rfl (fun K hK => ?_) AllReadyH.nil)
  go_simp
  refine hK.out _ _ trivial (fun hHeld => ?_)
  clear hK K
  refine norm_any' (fun K hK => ?_)
  go_simp
  refine hK _ _ ?_
  clear hK K
  refine wpAnyH_ready (rs := [8]) (by kernel_rfl) (by simp) (AllReadyH.cons rfl (fun K hK => ?_) AllReadyH.nil)
  go_simp
  refine Calls.mono (C4.out _ c S3d.out) ?_
  rintro e W4 ⟨rfl, h4⟩
  have S4 : Hid (I4 W4) := h4
  clear h4
  refine hK.out _ _ trivial (fun hHeld => ?_)
  clear hK K
  refine norm_any' (fun K hK => ?_)
  go_simp
  refine hK _ _ ?_
  clear hK K
  refine wpAnyH_done (by kernel_rfl) ?_ _
  clear hHeld
  as_aux_lemma =>
  go_wp2_with fail
  have S4d : Hid (I4 W4.drew) := st4 _ _ S4.out (bld W4)
  clear S4
  refine wp_region_held_drew (S := fun _ => True) (by kernel_rfl) trivial (fun hHeld => ?_)
  generalize W4.drew = W4d at *
  refine wpAnyH_take (i := 0) (v := .iface T (.pointer (some ⟨p, 0, none⟩))) rfl (by kernel_rfl) (by kernel_rfl) (by kernel_rfl) (fun _ _ _ h => h) (Or.inl ⟨by rfl, by intro w hs; go_simp⟩) hHeld ?_
  refine norm_any' (fun K hK => ?_)
  go_simp
  refine hK _ _ ?_
  clear hK K
  refine wpAnyH_take (i := 1) (v := .pointer (some ⟨M, 0, none⟩)) rfl (by kernel_rfl) (by kernel_rfl) (by kernel_rfl) (fun _ _ _ h => h) (Or.inl ⟨by rfl, by intro w hs; go_simp⟩) hHeld ?_
  refine norm_any' (fun K hK => ?_)
  go_simp
  refine hK _ _ ?_
  clear hK K
  refine wpAnyH_take (i := 2) (v := .pointer (some ⟨M, 0, none⟩)) rfl (by kernel_rfl) (by kernel_rfl) (by kernel_rfl) (fun _ _ _ h => h) (Or.inl ⟨by rfl, by intro w hs; go_simp⟩) hHeld ?_
  refine norm_any' (fun K hK => ?_)
  go_simp
  refine hK _ _ ?_
  clear hK K
  refine wpAnyH_take (i := 3) (v := .pointer (some ⟨M, 35, none⟩)) rfl (by kernel_rfl) (by kernel_rfl) (by kernel_rfl) (fun _ _ _ h => h) (Or.inl ⟨by rfl, by intro w hs; go_simp⟩) hHeld ?_
  refine norm_any' (fun K hK => ?_)
  go_simp
  refine hK _ _ ?_
  clear hK K
  refine wpAnyH_take (i := 4) (v := .func (.method "caravel/hello.long") #[.iface T (.pointer (some ⟨p, 0, none⟩))] #[]) rfl (by kernel_rfl) (by kernel_rfl) (by kernel_rfl) (fun _ _ _ h => h) (Or.inl ⟨by rfl, by intro w hs; go_simp⟩) hHeld ?_
  refine norm_any' (fun K hK => ?_)
  go_simp
  refine hK _ _ ?_
  clear hK K
  refine wpAnyH_take (i := 5) (v := .func (.method "caravel/hello.long") #[.iface T (.pointer (some ⟨p, 0, none⟩))] #[]) rfl (by kernel_rfl) (by kernel_rfl) (by kernel_rfl) (fun _ _ _ h => h) (Or.inl ⟨by rfl, by intro w hs; go_simp⟩) hHeld ?_
  refine norm_any' (fun K hK => ?_)
  go_simp
  refine hK _ _ ?_
  clear hK K
  refine wpAnyH_take (i := 6) (v := .iface T (.pointer (some ⟨p, 0, none⟩))) rfl (by kernel_rfl) (by kernel_rfl) (by kernel_rfl) (fun _ _ _ h => h) (Or.inl ⟨by rfl, by intro w hs; go_simp⟩) hHeld ?_
  refine norm_any' (fun K hK => ?_)
  go_simp
  refine hK _ _ ?_
  clear hK K
  refine wpAnyH_ready (rs := [7]) (by kernel_rfl) (by simp) (AllReadyH.cons rfl (fun K hK => ?_) AllReadyH.nil)
  go_simp
  refine Calls.mono (C5.out _ S4d.out) ?_
  rintro e W5 ⟨rfl, h5⟩
  have S5 : Hid (I5 W5) := h5
  clear h5
  refine hK.out _ _ trivial (fun hHeld => ?_)
  clear hK K
  refine norm_any' (fun K hK => ?_)
  go_simp
  refine hK _ _ ?_
  clear hK K
  refine wpAnyH_done (by kernel_rfl) ?_ _
  clear hHeld
  as_aux_lemma =>
  have ct := Q5.out W5 S5.out
  have S5a : Hid (I5 (W5.alloc (.cells #[.bool (decide (0 < tn))] 4))) := st5 _ _ S5.out (bl1 W5 _)
  have XT : Hid _ := heap_alloc_new W5 (.cells #[.bool (decide (0 < tn))] 4)
  have lt : Hid (p < W5.heap.size) := L5.out W5 S5.out
  clear S5
  go_wp2_with fail
  generalize W5.alloc (.cells #[.bool (decide (0 < tn))] 4) = W5a at *
  generalize W5.heap.size = Bt at *
  as_aux_lemma =>
  have S5d : Hid (I5 W5a.drew) := st5 _ _ S5a.out (bld W5a)
  have XTd : Hid (W5a.drew.heap[Bt]? = some (.cells #[.bool (decide (0 < tn))] 4 (0, 0))) := XT.out
  clear S5a XT ct
  refine wp_region_held_drew (S := fun _ => True) (by kernel_rfl) trivial (fun hHeld => ?_)
  generalize W5a.drew = W5d at *
  refine wpAnyH_take (i := 0) (v := .iface T (.pointer (some ⟨p, 0, none⟩))) rfl (by kernel_rfl) (by kernel_rfl) (by kernel_rfl) (fun _ _ _ h => h) (Or.inl ⟨by rfl, by intro w hs; go_simp⟩) hHeld ?_
  refine norm_any' (fun K hK => ?_)
  go_simp
  refine hK _ _ ?_
  clear hK K
  refine wpAnyH_take (i := 1) (v := .pointer (some ⟨M, 0, none⟩)) rfl (by kernel_rfl) (by kernel_rfl) (by kernel_rfl) (fun _ _ _ h => h) (Or.inl ⟨by rfl, by intro w hs; go_simp⟩) hHeld ?_
  refine norm_any' (fun K hK => ?_)
  go_simp
  refine hK _ _ ?_
  clear hK K
  refine wpAnyH_take (i := 2) (v := .pointer (some ⟨M, 0, none⟩)) rfl (by kernel_rfl) (by kernel_rfl) (by kernel_rfl) (fun _ _ _ h => h) (Or.inl ⟨by rfl, by intro w hs; go_simp⟩) hHeld ?_
  refine norm_any' (fun K hK => ?_)
  go_simp
  refine hK _ _ ?_
  clear hK K
  refine wpAnyH_take (i := 3) (v := .pointer (some ⟨M, 53, none⟩)) rfl (by kernel_rfl) (by kernel_rfl) (by kernel_rfl) (fun _ _ _ h => h) (Or.inl ⟨by rfl, by intro w hs; go_simp⟩) hHeld ?_
  refine norm_any' (fun K hK => ?_)
  go_simp
  refine hK _ _ ?_
  clear hK K
  refine wpAnyH_take (i := 5) (v := .func (.method "caravel/hello.flags") #[.iface T (.pointer (some ⟨p, 0, none⟩))] #[]) rfl (by kernel_rfl) (by kernel_rfl) (by kernel_rfl) (fun _ _ _ h => h) (Or.inl ⟨by rfl, by intro w hs; go_simp⟩) hHeld ?_
  refine norm_any' (fun K hK => ?_)
  go_simp
  refine hK _ _ ?_
  clear hK K
  refine wpAnyH_take (i := 6) (v := .func (.method "caravel/hello.flags") #[.iface T (.pointer (some ⟨p, 0, none⟩))] #[]) rfl (by kernel_rfl) (by kernel_rfl) (by kernel_rfl) (fun _ _ _ h => h) (Or.inl ⟨by rfl, by intro w hs; go_simp⟩) hHeld ?_
  refine norm_any' (fun K hK => ?_)
  go_simp
  refine hK _ _ ?_
  clear hK K
  refine wpAnyH_take (i := 7) (v := .iface T (.pointer (some ⟨p, 0, none⟩))) rfl (by kernel_rfl) (by kernel_rfl) (by kernel_rfl) (fun _ _ _ h => h) (Or.inl ⟨by rfl, by intro w hs; go_simp⟩) hHeld ?_
  refine norm_any' (fun K hK => ?_)
  go_simp
  refine hK _ _ ?_
  clear hK K
  refine wpAnyH_ready (rs := [4]) (by kernel_rfl) (by simp) (AllReadyH.cons rfl (fun K hK => ?_) AllReadyH.nil)
  have S5e : Hid (I5 (W5d.alloc (.cells #[.pointer (some ⟨Bt, 0, none⟩), .pointer (some ⟨M, 53, none⟩)] 84))) := st5 _ _ S5d.out (bl1 W5d _)
  have XTe : Hid ((W5d.alloc (.cells #[.pointer (some ⟨Bt, 0, none⟩), .pointer (some ⟨M, 53, none⟩)] 84)).heap[Bt]? = some (.cells #[.bool (decide (0 < tn))] 4 (0, 0))) := ((bl1 W5d (.cells #[.pointer (some ⟨Bt, 0, none⟩), .pointer (some ⟨M, 53, none⟩)] 84)).block Bt (lt_block XTd.out)).trans XTd.out
  have HKt : Hid _ := heap_alloc_new W5d (.cells #[.pointer (some ⟨Bt, 0, none⟩), .pointer (some ⟨M, 53, none⟩)] 84)
  clear S5d XTd
  go_simp
  refine hK.out _ _ trivial (fun hHeld => ?_)
  clear hK K
  refine norm_any' (fun K hK => ?_)
  go_simp
  refine hK _ _ ?_
  clear hK K
  generalize W5d.alloc (.cells #[.pointer (some ⟨Bt, 0, none⟩), .pointer (some ⟨M, 53, none⟩)] 84) = W5e at *
  refine wpAnyH_ready (rs := [8]) (by kernel_rfl) (by simp) (AllReadyH.cons rfl (fun K hK => ?_) AllReadyH.nil)
  go_simp
  refine Calls.mono (C6.out _ _ Bt S5e.out XTe.out lt.out HKt.out) ?_
  rintro e W6 ⟨rfl, t, h6, hx6⟩
  have S6 : Hid (I6 t W6) := h6
  have ct6 : W6.cell? ⟨Bt, 0, none⟩ = some (.bool t) := by unfold World.cell?; rw [hx6]; rfl
  clear h6 hx6 S5e XTe lt HKt
  refine hK.out _ _ trivial (fun hHeld => ?_)
  clear hK K
  refine norm_any' (fun K hK => ?_)
  go_simp
  refine hK _ _ ?_
  clear hK K
  refine wpAnyH_done (by kernel_rfl) ?_ _
  clear hHeld
  as_aux_lemma =>
  cases t
  · skip
    obtain ⟨E, Bd, hBd, hE, hR, hM⟩ := C7.out W6.drew (st6 false _ _ S6.out (bld W6))
    have HR : Hid (W6.drew.rangeAt M 37 (bc Bd)) := hR
    have HM : Hid _ := hM
    have hEd : W6.drew.cell? ⟨M, 53, none⟩ = some (.bool E) := hE
    have m23 : (Try.prog.info? 23).map (·.size) = some (bc Bd).length := i23.trans (by simp [bc_length, hBd])
    have HEQ : Hid (∀ X, (binOp .eql 23 (.agg (bc Bd).toArray) (.agg (bc z16).toArray)).run Try.prog X = .ok (.bool (Bd == z16)) X) := fun X => eqlH 23 u23 Bd z16 hBd rfl X
    have hu := u23
    clear S6 hR hM hE
    go_wp2_with fail
    cases E
    · skip
      refine wp_region_held_drew (S := fun _ => True) (by kernel_rfl) trivial (fun hHeld => ?_)
      generalize W6.drew = W6d at *
      generalize hq : (Bd == z16) = bq at *
      refine wpAnyH_take (i := 0) (v := .iface T (.pointer (some ⟨p, 0, none⟩))) rfl (by kernel_rfl) (by kernel_rfl) (by kernel_rfl) (fun _ _ _ h => h) (Or.inl ⟨by rfl, by intro w hs; go_simp⟩) hHeld ?_
      refine norm_any' (fun K hK => ?_)
      go_simp
      refine hK _ _ ?_
      clear hK K
      refine wpAnyH_take (i := 1) (v := .pointer (some ⟨M, 0, none⟩)) rfl (by kernel_rfl) (by kernel_rfl) (by kernel_rfl) (fun _ _ _ h => h) (Or.inl ⟨by rfl, by intro w hs; go_simp⟩) hHeld ?_
      refine norm_any' (fun K hK => ?_)
      go_simp
      refine hK _ _ ?_
      clear hK K
      refine wpAnyH_take (i := 2) (v := .pointer (some ⟨M, 0, none⟩)) rfl (by kernel_rfl) (by kernel_rfl) (by kernel_rfl) (fun _ _ _ h => h) (Or.inl ⟨by rfl, by intro w hs; go_simp⟩) hHeld ?_
      refine norm_any' (fun K hK => ?_)
      go_simp
      refine hK _ _ ?_
      clear hK K
      refine wpAnyH_take (i := 3) (v := .pointer (some ⟨M, 53, none⟩)) rfl (by kernel_rfl) (by kernel_rfl) (by kernel_rfl) (fun _ _ _ h => h) (Or.inl ⟨by rfl, by intro w hs; go_simp⟩) hHeld ?_
      refine norm_any' (fun K hK => ?_)
      go_simp
      refine hK _ _ ?_
      clear hK K
      refine wpAnyH_take (i := 14) (v := .func (.method "caravel/hello.must") #[.iface T (.pointer (some ⟨p, 0, none⟩))] #[]) rfl (by kernel_rfl) (by kernel_rfl) (by kernel_rfl) (fun _ _ _ h => h) (Or.inl ⟨by rfl, by intro w hs; go_simp⟩) hHeld ?_
      refine norm_any' (fun K hK => ?_)
      go_simp
      refine hK _ _ ?_
      clear hK K
      refine wpAnyH_take (i := 15) (v := .func (.method "caravel/hello.must") #[.iface T (.pointer (some ⟨p, 0, none⟩))] #[]) rfl (by kernel_rfl) (by kernel_rfl) (by kernel_rfl) (fun _ _ _ h => h) (Or.inl ⟨by rfl, by intro w hs; go_simp⟩) hHeld ?_
      refine norm_any' (fun K hK => ?_)
      go_simp
      refine hK _ _ ?_
      clear hK K
      refine wpAnyH_take (i := 16) (v := .iface T (.pointer (some ⟨p, 0, none⟩))) rfl (by kernel_rfl) (by kernel_rfl) (by kernel_rfl) (fun _ _ _ h => h) (Or.inl ⟨by rfl, by intro w hs; go_simp⟩) hHeld ?_
      refine norm_any' (fun K hK => ?_)
      go_simp
      refine hK _ _ ?_
      clear hK K
      refine wpAnyH_ready (rs := [4]) (by kernel_rfl) (by simp) (AllReadyH.cons rfl (fun K hK => ?_) AllReadyH.nil)
      go_simp
      refine hK.out _ _ trivial (fun hHeld => ?_)
      clear hK K
      refine norm_any' (fun K hK => ?_)
      go_simp
      refine hK _ _ ?_
      clear hK K
      refine wpAnyH_take (i := 5) (v := .bool true) rfl (by kernel_rfl) (by kernel_rfl) (by kernel_rfl) (fun _ _ _ h => h) (Or.inl ⟨by rfl, by intro w hs; go_simp⟩) hHeld ?_
      refine norm_any' (fun K hK => ?_)
      go_simp
      refine hK _ _ ?_
      clear hK K
      refine wpAnyH_take (i := 6) (v := .bool true) rfl (by kernel_rfl) (by kernel_rfl) (by kernel_rfl) (fun _ _ _ h => h) (Or.inl ⟨by rfl, by intro w hs; go_simp⟩) hHeld ?_
      refine norm_any' (fun K hK => ?_)
      go_simp
      refine hK _ _ ?_
      clear hK K
      refine wpAnyH_take (i := 7) (v := .pointer (some ⟨M, 0, none⟩)) rfl (by kernel_rfl) (by kernel_rfl) (by kernel_rfl) (fun _ _ _ h => h) (Or.inl ⟨by rfl, by intro w hs; go_simp⟩) hHeld ?_
      refine norm_any' (fun K hK => ?_)
      go_simp
      refine hK _ _ ?_
      clear hK K
      refine wpAnyH_take (i := 8) (v := .pointer (some ⟨M, 0, none⟩)) rfl (by kernel_rfl) (by kernel_rfl) (by kernel_rfl) (fun _ _ _ h => h) (Or.inl ⟨by rfl, by intro w hs; go_simp⟩) hHeld ?_
      refine norm_any' (fun K hK => ?_)
      go_simp
      refine hK _ _ ?_
      clear hK K
      refine wpAnyH_take (i := 9) (v := .pointer (some ⟨M, 37, none⟩)) rfl (by kernel_rfl) (by kernel_rfl) (by kernel_rfl) (fun _ _ _ h => h) (Or.inl ⟨by rfl, by intro w hs; go_simp⟩) hHeld ?_
      refine norm_any' (fun K hK => ?_)
      go_simp
      refine hK _ _ ?_
      clear hK K
      refine wpAnyH_take (i := 11) (v := hv z16) rfl (by kernel_rfl) (by kernel_rfl) (by kernel_rfl) (fun _ _ _ h => h) (yl_bld (by rfl) rfl) hHeld ?_
      refine norm_any' (fun K hK => ?_)
      go_simp
      refine hK _ _ ?_
      clear hK K
      refine wpAnyH_ready (rs := [10]) (by kernel_rfl) (by simp) (AllReadyH.cons rfl (fun K hK => ?_) AllReadyH.nil)
      rw [if_pos (by rfl)]
      refine wp_load_mid 23 _ rfl M 37 rfl (bc Bd) _ HR.out hu rfl m23 ?_
      refine hK.out _ _ trivial (fun hHeld => ?_)
      clear hK K
      refine norm_any' (fun K hK => ?_)
      go_simp
      refine hK _ _ ?_
      clear hK K
      refine wpAnyH_take (i := 12) (v := .bool bq) rfl (by kernel_rfl) (by kernel_rfl) (by kernel_rfl) (fun _ _ _ h => h) (yl_bin' (by rfl) .eql 23 23 _ _ rfl (bc Bd).toArray (bc z16).toArray rfl rfl hm23 _ HEQ.out) hHeld ?_
      refine norm_any' (fun K hK => ?_)
      go_simp
      refine hK _ _ ?_
      clear hK K
      refine wpAnyH_take (i := 13) (v := .bool bq) rfl (by kernel_rfl) (by kernel_rfl) (by kernel_rfl) (fun _ _ _ h => h) (Or.inl ⟨by rfl, by intro w hs; go_simp⟩) hHeld ?_
      refine norm_any' (fun K hK => ?_)
      go_simp
      refine hK _ _ ?_
      clear hK K
      refine wpAnyH_ready (rs := [17]) (by kernel_rfl) (by simp) (AllReadyH.cons rfl (fun K hK => ?_) AllReadyH.nil)
      go_simp
      refine Calls.mono HM.out ?_
      rintro e W7 ⟨rfl, h7⟩
      have S7 : Hid (J W7) := h7
      clear h7
      refine hK.out _ _ trivial (fun hHeld => ?_)
      clear hK K
      refine norm_any' (fun K hK => ?_)
      go_simp
      refine hK _ _ ?_
      clear hK K
      refine wpAnyH_done (by kernel_rfl) ?_ _
      clear hHeld
      go_wp2_with fail
      first
        | refine bodyPost_ret (results_none rfl _ _) rfl ?_
        | refine bodyPost_ret (results_none rfl _ _ _) rfl ?_
      exact ⟨rfl, S7.out⟩
    · skip
      refine wp_region_held_drew (S := fun _ => True) (by kernel_rfl) trivial (fun hHeld => ?_)
      generalize W6.drew = W6d at *
      generalize hq : (Bd == z16) = bq at *
      refine wpAnyH_take (i := 0) (v := .iface T (.pointer (some ⟨p, 0, none⟩))) rfl (by kernel_rfl) (by kernel_rfl) (by kernel_rfl) (fun _ _ _ h => h) (Or.inl ⟨by rfl, by intro w hs; go_simp⟩) hHeld ?_
      refine norm_any' (fun K hK => ?_)
      go_simp
      refine hK _ _ ?_
      clear hK K
      refine wpAnyH_take (i := 1) (v := .pointer (some ⟨M, 0, none⟩)) rfl (by kernel_rfl) (by kernel_rfl) (by kernel_rfl) (fun _ _ _ h => h) (Or.inl ⟨by rfl, by intro w hs; go_simp⟩) hHeld ?_
      refine norm_any' (fun K hK => ?_)
      go_simp
      refine hK _ _ ?_
      clear hK K
      refine wpAnyH_take (i := 2) (v := .pointer (some ⟨M, 0, none⟩)) rfl (by kernel_rfl) (by kernel_rfl) (by kernel_rfl) (fun _ _ _ h => h) (Or.inl ⟨by rfl, by intro w hs; go_simp⟩) hHeld ?_
      refine norm_any' (fun K hK => ?_)
      go_simp
      refine hK _ _ ?_
      clear hK K
      refine wpAnyH_take (i := 3) (v := .pointer (some ⟨M, 53, none⟩)) rfl (by kernel_rfl) (by kernel_rfl) (by kernel_rfl) (fun _ _ _ h => h) (Or.inl ⟨by rfl, by intro w hs; go_simp⟩) hHeld ?_
      refine norm_any' (fun K hK => ?_)
      go_simp
      refine hK _ _ ?_
      clear hK K
      refine wpAnyH_take (i := 14) (v := .func (.method "caravel/hello.must") #[.iface T (.pointer (some ⟨p, 0, none⟩))] #[]) rfl (by kernel_rfl) (by kernel_rfl) (by kernel_rfl) (fun _ _ _ h => h) (Or.inl ⟨by rfl, by intro w hs; go_simp⟩) hHeld ?_
      refine norm_any' (fun K hK => ?_)
      go_simp
      refine hK _ _ ?_
      clear hK K
      refine wpAnyH_take (i := 15) (v := .func (.method "caravel/hello.must") #[.iface T (.pointer (some ⟨p, 0, none⟩))] #[]) rfl (by kernel_rfl) (by kernel_rfl) (by kernel_rfl) (fun _ _ _ h => h) (Or.inl ⟨by rfl, by intro w hs; go_simp⟩) hHeld ?_
      refine norm_any' (fun K hK => ?_)
      go_simp
      refine hK _ _ ?_
      clear hK K
      refine wpAnyH_take (i := 16) (v := .iface T (.pointer (some ⟨p, 0, none⟩))) rfl (by kernel_rfl) (by kernel_rfl) (by kernel_rfl) (fun _ _ _ h => h) (Or.inl ⟨by rfl, by intro w hs; go_simp⟩) hHeld ?_
      refine norm_any' (fun K hK => ?_)
      go_simp
      refine hK _ _ ?_
      clear hK K
      refine wpAnyH_ready (rs := [4]) (by kernel_rfl) (by simp) (AllReadyH.cons rfl (fun K hK => ?_) AllReadyH.nil)
      go_simp
      refine hK.out _ _ trivial (fun hHeld => ?_)
      clear hK K
      refine norm_any' (fun K hK => ?_)
      go_simp
      refine hK _ _ ?_
      clear hK K
      refine wpAnyH_take (i := 5) (v := .bool false) rfl (by kernel_rfl) (by kernel_rfl) (by kernel_rfl) (fun _ _ _ h => h) (Or.inl ⟨by rfl, by intro w hs; go_simp⟩) hHeld ?_
      refine norm_any' (fun K hK => ?_)
      go_simp
      refine hK _ _ ?_
      clear hK K
      refine wpAnyH_take (i := 6) (v := .bool false) rfl (by kernel_rfl) (by kernel_rfl) (by kernel_rfl) (fun _ _ _ h => h) (Or.inl ⟨by rfl, by intro w hs; go_simp⟩) hHeld ?_
      refine norm_any' (fun K hK => ?_)
      go_simp
      refine hK _ _ ?_
      clear hK K
      refine wpAnyH_take (i := 7) (v := undef) rfl (by kernel_rfl) (by kernel_rfl) (by kernel_rfl) (fun _ _ _ h => h) (Or.inr ⟨by rfl, rfl⟩) hHeld ?_
      refine norm_any' (fun K hK => ?_)
      go_simp
      refine hK _ _ ?_
      clear hK K
      refine wpAnyH_take (i := 8) (v := undef) rfl (by kernel_rfl) (by kernel_rfl) (by kernel_rfl) (fun _ _ _ h => h) (Or.inr ⟨by rfl, rfl⟩) hHeld ?_
      refine norm_any' (fun K hK => ?_)
      go_simp
      refine hK _ _ ?_
      clear hK K
      refine wpAnyH_take (i := 9) (v := undef) rfl (by kernel_rfl) (by kernel_rfl) (by kernel_rfl) (fun _ _ _ h => h) (Or.inr ⟨by rfl, rfl⟩) hHeld ?_
      refine norm_any' (fun K hK => ?_)
      go_simp
      refine hK _ _ ?_
      clear hK K
      refine wpAnyH_take (i := 10) (v := undef) rfl (by kernel_rfl) (by kernel_rfl) (by kernel_rfl) (fun _ _ _ h => h) (Or.inr ⟨by rfl, rfl⟩) hHeld ?_
      refine norm_any' (fun K hK => ?_)
      go_simp
      refine hK _ _ ?_
      clear hK K
      refine wpAnyH_take (i := 11) (v := undef) rfl (by kernel_rfl) (by kernel_rfl) (by kernel_rfl) (fun _ _ _ h => h) (Or.inr ⟨by rfl, rfl⟩) hHeld ?_
      refine norm_any' (fun K hK => ?_)
      go_simp
      refine hK _ _ ?_
      clear hK K
      refine wpAnyH_take (i := 12) (v := undef) rfl (by kernel_rfl) (by kernel_rfl) (by kernel_rfl) (fun _ _ _ h => h) (Or.inr ⟨by rfl, rfl⟩) hHeld ?_
      refine norm_any' (fun K hK => ?_)
      go_simp
      refine hK _ _ ?_
      clear hK K
      refine wpAnyH_take (i := 13) (v := .bool false) rfl (by kernel_rfl) (by kernel_rfl) (by kernel_rfl) (fun _ _ _ h => h) (Or.inl ⟨by rfl, by intro w hs; go_simp⟩) hHeld ?_
      refine norm_any' (fun K hK => ?_)
      go_simp
      refine hK _ _ ?_
      clear hK K
      refine wpAnyH_ready (rs := [17]) (by kernel_rfl) (by simp) (AllReadyH.cons rfl (fun K hK => ?_) AllReadyH.nil)
      go_simp
      refine Calls.mono HM.out ?_
      rintro e W7 ⟨rfl, h7⟩
      have S7 : Hid (J W7) := h7
      clear h7
      refine hK.out _ _ trivial (fun hHeld => ?_)
      clear hK K
      refine norm_any' (fun K hK => ?_)
      go_simp
      refine hK _ _ ?_
      clear hK K
      refine wpAnyH_done (by kernel_rfl) ?_ _
      clear hHeld
      go_wp2_with fail
      first
        | refine bodyPost_ret (results_none rfl _ _) rfl ?_
        | refine bodyPost_ret (results_none rfl _ _ _) rfl ?_
      exact ⟨rfl, S7.out⟩
  · skip
    go_wp2_with fail
    go_wp2_with fail
    have S6d : Hid (I6 true W6.drew) := (st6 true) _ _ S6.out (bld W6)
    clear S6
    refine wp_region_held_drew (S := fun _ => True) (by kernel_rfl) trivial (fun hHeld => ?_)
    generalize W6.drew = W6d at *
    refine wpAnyH_take (i := 0) (v := .iface T (.pointer (some ⟨p, 0, none⟩))) rfl (by kernel_rfl) (by kernel_rfl) (by kernel_rfl) (fun _ _ _ h => h) (Or.inl ⟨by rfl, by intro w hs; go_simp⟩) hHeld ?_
    refine norm_any' (fun K hK => ?_)
    go_simp
    refine hK _ _ ?_
    clear hK K
    refine wpAnyH_take (i := 1) (v := .pointer (some ⟨M, 0, none⟩)) rfl (by kernel_rfl) (by kernel_rfl) (by kernel_rfl) (fun _ _ _ h => h) (Or.inl ⟨by rfl, by intro w hs; go_simp⟩) hHeld ?_
    refine norm_any' (fun K hK => ?_)
    go_simp
    refine hK _ _ ?_
    clear hK K
    refine wpAnyH_take (i := 2) (v := .pointer (some ⟨M, 0, none⟩)) rfl (by kernel_rfl) (by kernel_rfl) (by kernel_rfl) (fun _ _ _ h => h) (Or.inl ⟨by rfl, by intro w hs; go_simp⟩) hHeld ?_
    refine norm_any' (fun K hK => ?_)
    go_simp
    refine hK _ _ ?_
    clear hK K
    refine wpAnyH_take (i := 3) (v := .pointer (some ⟨M, 36, none⟩)) rfl (by kernel_rfl) (by kernel_rfl) (by kernel_rfl) (fun _ _ _ h => h) (Or.inl ⟨by rfl, by intro w hs; go_simp⟩) hHeld ?_
    refine norm_any' (fun K hK => ?_)
    go_simp
    refine hK _ _ ?_
    clear hK K
    refine wpAnyH_take (i := 4) (v := .func (.method "caravel/hello.long") #[.iface T (.pointer (some ⟨p, 0, none⟩))] #[]) rfl (by kernel_rfl) (by kernel_rfl) (by kernel_rfl) (fun _ _ _ h => h) (Or.inl ⟨by rfl, by intro w hs; go_simp⟩) hHeld ?_
    refine norm_any' (fun K hK => ?_)
    go_simp
    refine hK _ _ ?_
    clear hK K
    refine wpAnyH_take (i := 5) (v := .func (.method "caravel/hello.long") #[.iface T (.pointer (some ⟨p, 0, none⟩))] #[]) rfl (by kernel_rfl) (by kernel_rfl) (by kernel_rfl) (fun _ _ _ h => h) (Or.inl ⟨by rfl, by intro w hs; go_simp⟩) hHeld ?_
    refine norm_any' (fun K hK => ?_)
    go_simp
    refine hK _ _ ?_
    clear hK K
    refine wpAnyH_take (i := 6) (v := .iface T (.pointer (some ⟨p, 0, none⟩))) rfl (by kernel_rfl) (by kernel_rfl) (by kernel_rfl) (fun _ _ _ h => h) (Or.inl ⟨by rfl, by intro w hs; go_simp⟩) hHeld ?_
    refine norm_any' (fun K hK => ?_)
    go_simp
    refine hK _ _ ?_
    clear hK K
    refine wpAnyH_ready (rs := [7]) (by kernel_rfl) (by simp) (AllReadyH.cons rfl (fun K hK => ?_) AllReadyH.nil)
    go_simp
    refine Calls.mono (C8.out _ S6d.out) ?_
    rintro e W7 ⟨rfl, h7⟩
    have S7 : Hid (I7 W7) := h7
    clear h7
    refine hK.out _ _ trivial (fun hHeld => ?_)
    clear hK K
    refine norm_any' (fun K hK => ?_)
    go_simp
    refine hK _ _ ?_
    clear hK K
    refine wpAnyH_done (by kernel_rfl) ?_ _
    clear hHeld
    go_wp2_with fail
    have S7d : Hid (I7 W7.drew) := st7 _ _ S7.out (bld W7)
    clear S7
    refine wp_region_held_drew (S := fun _ => True) (by kernel_rfl) trivial (fun hHeld => ?_)
    generalize W7.drew = W7d at *
    refine wpAnyH_take (i := 0) (v := .iface T (.pointer (some ⟨p, 0, none⟩))) rfl (by kernel_rfl) (by kernel_rfl) (by kernel_rfl) (fun _ _ _ h => h) (Or.inl ⟨by rfl, by intro w hs; go_simp⟩) hHeld ?_
    refine norm_any' (fun K hK => ?_)
    go_simp
    refine hK _ _ ?_
    clear hK K
    refine wpAnyH_take (i := 1) (v := .pointer (some ⟨M, 0, none⟩)) rfl (by kernel_rfl) (by kernel_rfl) (by kernel_rfl) (fun _ _ _ h => h) (Or.inl ⟨by rfl, by intro w hs; go_simp⟩) hHeld ?_
    refine norm_any' (fun K hK => ?_)
    go_simp
    refine hK _ _ ?_
    clear hK K
    refine wpAnyH_take (i := 2) (v := .pointer (some ⟨M, 0, none⟩)) rfl (by kernel_rfl) (by kernel_rfl) (by kernel_rfl) (fun _ _ _ h => h) (Or.inl ⟨by rfl, by intro w hs; go_simp⟩) hHeld ?_
    refine norm_any' (fun K hK => ?_)
    go_simp
    refine hK _ _ ?_
    clear hK K
    refine wpAnyH_take (i := 3) (v := .pointer (some ⟨M, 37, none⟩)) rfl (by kernel_rfl) (by kernel_rfl) (by kernel_rfl) (fun _ _ _ h => h) (Or.inl ⟨by rfl, by intro w hs; go_simp⟩) hHeld ?_
    refine norm_any' (fun K hK => ?_)
    go_simp
    refine hK _ _ ?_
    clear hK K
    refine wpAnyH_take (i := 5) (v := .func (.method "caravel/hello.handles") #[.iface T (.pointer (some ⟨p, 0, none⟩))] #[]) rfl (by kernel_rfl) (by kernel_rfl) (by kernel_rfl) (fun _ _ _ h => h) (Or.inl ⟨by rfl, by intro w hs; go_simp⟩) hHeld ?_
    refine norm_any' (fun K hK => ?_)
    go_simp
    refine hK _ _ ?_
    clear hK K
    refine wpAnyH_take (i := 6) (v := .func (.method "caravel/hello.handles") #[.iface T (.pointer (some ⟨p, 0, none⟩))] #[]) rfl (by kernel_rfl) (by kernel_rfl) (by kernel_rfl) (fun _ _ _ h => h) (Or.inl ⟨by rfl, by intro w hs; go_simp⟩) hHeld ?_
    refine norm_any' (fun K hK => ?_)
    go_simp
    refine hK _ _ ?_
    clear hK K
    refine wpAnyH_take (i := 7) (v := .iface T (.pointer (some ⟨p, 0, none⟩))) rfl (by kernel_rfl) (by kernel_rfl) (by kernel_rfl) (fun _ _ _ h => h) (Or.inl ⟨by rfl, by intro w hs; go_simp⟩) hHeld ?_
    refine norm_any' (fun K hK => ?_)
    go_simp
    refine hK _ _ ?_
    clear hK K
    refine wpAnyH_ready (rs := [4]) (by kernel_rfl) (by simp) (AllReadyH.cons rfl (fun K hK => ?_) AllReadyH.nil)
    have S7e : Hid (I7 (W7d.alloc (.cells #[.pointer (some ⟨M, 37, none⟩)] 82))) := st7 _ _ S7d.out (bl1 W7d _)
    have HK17 : Hid _ := heap_alloc_new W7d (.cells #[.pointer (some ⟨M, 37, none⟩)] 82)
    clear S7d
    go_simp
    refine hK.out _ _ trivial (fun hHeld => ?_)
    clear hK K
    refine norm_any' (fun K hK => ?_)
    go_simp
    refine hK _ _ ?_
    clear hK K
    generalize W7d.alloc (.cells #[.pointer (some ⟨M, 37, none⟩)] 82) = W7e at *
    refine wpAnyH_ready (rs := [8]) (by kernel_rfl) (by simp) (AllReadyH.cons rfl (fun K hK => ?_) AllReadyH.nil)
    go_simp
    refine Calls.mono (C9.out _ _ S7e.out HK17.out) ?_
    rintro e W8 ⟨rfl, h8⟩
    have S8 : Hid (J W8) := h8
    clear h8
    refine hK.out _ _ trivial (fun hHeld => ?_)
    clear hK K
    refine norm_any' (fun K hK => ?_)
    go_simp
    refine hK _ _ ?_
    clear hK K
    refine wpAnyH_done (by kernel_rfl) ?_ _
    clear hHeld
    go_wp2_with fail
    go_end0
    exact ⟨rfl, S8.out⟩
end
end Go.Proofs.Ytcchlicokglmnaa
