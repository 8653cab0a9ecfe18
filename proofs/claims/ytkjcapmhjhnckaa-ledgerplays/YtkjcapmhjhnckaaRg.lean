/- A range over a function whose iterator is not one for every body; a region that draws its order in a round of it. -/
import Derived.Test.YtkjcapmhjhnckaaAr
namespace Go.Proofs.Ytkjcapmhjhnckaa
open Go.RowKit Go.Shelf
set_option linter.unusedVariables false


set_option maxRecDepth 100000 in
theorem upon_round {P : Program} {n l : Nat} {o : Oper} {a : Act} {K : Act → World → Prop} {Q : Exit → Act → World → Prop} : ∀ {r : Result Next}, o.upon P a K Q r → o.uponIn (Fence.wide.inRound l) n P a K Q r
  | .ok (.value v) w', h => h
  | .ok .skip w', h => h
  | .ok (.defer d) w', h => h
  | .ok (.enter f args) w', h => ⟨(fun e => by cases e), CallsIn.inRound l (callsIn_wide.2 h)⟩
  | .ok (.row row args) w', h => ⟨(fun e => by cases e), fun c cs _ => (by
      obtain ⟨v, w2, hr, hs⟩ := h c cs
      exact ⟨v, w2, hr, stepsIn_wide.2 hs⟩)⟩
  | .halt (.panic v) w', h => h

set_option maxRecDepth 100000 in
theorem oper_round {P : Program} {n l : Nat} {o : Oper} {a : Act} {w : World} {K : Act → World → Prop} {Q : Exit → Act → World → Prop} (hd : ∀ c, o.op ≠ .defer c) (h : o.wp P a w K Q) : o.wpIn (Fence.wide.inRound l) n P a w K Q := by
  refine ⟨fun _ _ => trivial, ?_⟩
  have e : (Fence.wide.inRound l).round = some l := rfl
  rw [e, Oper.semAt_some l _ _ hd]
  exact upon_round h

set_option maxRecDepth 100000 in
theorem any_round {P : Program} {n l : Nat} {md : Region.Mode} {ops : Array Oper} {Q : Exit → Act → World → Prop} (hd : ∀ (i : Nat) o, ops[i]? = some o → ∀ c, o.op ≠ .defer c) (hQ : ¬ LetsOut Q) :
    ∀ (fuel : Nat) (listed : Array Bool) (a : Act) (w : World), wpAny P md ops Q fuel listed a w → wpAnyIn (Fence.wide.inRound l) n P md ops Q fuel listed a w
  | 0, _, _, _, h => h
  | fuel + 1, listed, a, w, h => by
    refine ⟨h.1, fun i hi => ?_⟩
    have h2 := h.2 i hi
    unfold wpOp at h2
    unfold wpOpIn
    cases ho : ops[i]? with
    | none => rw [ho] at h2; exact any_round hd hQ fuel _ a w h2
    | some o =>
      rw [ho] at h2
      simp only [] at h2 ⊢
      split at h2
      · rename_i hw
        rw [if_pos hw]
        rcases h2 with h2 | h2
        · exact Oper.wpIn_mono (fun a w h => any_round hd hQ fuel _ a w h) (oper_round (hd i o ho) h2)
        · exact absurd h2.2 hQ
      · rename_i hw
        rw [if_neg hw]
        exact ⟨fun _ _ => trivial, any_round hd hQ fuel _ _ w h2⟩

set_option maxRecDepth 100000 in
/-- A region that draws, in a round. -/
theorem region_round {P : Program} {n l id : Nat} {ops : Array Oper} {Q : Exit → Act → World → Prop} {a : Act} {w : World} (S : World → Prop) (hm : P.follows .mixedOrders = true) (hd : ∀ (i : Nat) o, ops[i]? = some o → ∀ c, o.op ≠ .defer c) (hQ : ¬ LetsOut Q) (hS : S w.drew)
    (h : S w.drew → wpAnyH P .any ops Q S ops.size (Array.replicate ops.size false) a w.drew) : (Code.region id ops true).wpIn (Fence.wide.inRound l) n P Q a w :=
  wpIn_region_any hm (any_round hd hQ _ _ _ _ (wpAny_of_held _ _ _ _ (h hS)))



/-- The loop's record. -/
def rcd (fn : FuncId) (tmps : Array Value) (ps : Array Tmp) (assign body : Code) (D : Nat) (st : LoopState) (pe : Option Code) : Loop := { state := st, pending := pe, fn, tmps, params := ps, assign, body, defers := D }

/-- Between two rounds, k being over. -/
def Btw (l : Nat) (rec : LoopState → Option Code → Loop) (I : Nat → World → Prop) (k : Nat) (W : World) : Prop := I k W ∧ W.heap[l]? = some (.loop (rec .ready none))
/-- A round has left by a jump. -/
def Lft (l : Nat) (rec : LoopState → Option Code → Loop) (Ix : Code → Nat → World → Prop) (k : Nat) (W : World) : Prop := ∃ c, Ix c k W ∧ W.heap[l]? = some (.loop (rec .done (some c)))
/-- What yield answers. -/
def YP (l : Nat) (rec : LoopState → Option Code → Loop) (I : Nat → World → Prop) (Ix : Code → Nat → World → Prop) (Kp : World → World → Prop) (k : Nat) (W : World) (e : Ending) (W' : World) : Prop :=
  (e = .returned (.bool true) ∧ Btw l rec I (k + 1) W' ∧ Kp W W') ∨ (e = .returned (.bool false) ∧ Lft l rec Ix (k + 1) W' ∧ Kp W W')

/-- How a round's body may be left: the record lies as it lay. -/
def roundQ (l : Nat) (I : Nat → World → Prop) (Ix : Code → Nat → World → Prop) (Kp : World → World → Prop) (k : Nat) (W : World) : Exit → Act → World → Prop
  | .normal, _, W' => W'.heap[l]? = W.heap[l]? ∧ Kp W W' ∧ I (k + 1) W'
  | .ret, _, W' => W'.heap[l]? = W.heap[l]? ∧ Kp W W' ∧ Ix .ret (k + 1) W'
  | .exit id, _, W' => W'.heap[l]? = W.heap[l]? ∧ Kp W W' ∧ Ix (.exit id) (k + 1) W'
  | .goto t, _, W' => W'.heap[l]? = W.heap[l]? ∧ Kp W W' ∧ Ix (.goto t) (k + 1) W'
  | .panic _, _, _ => False
  | .outgrown, _, _ => False

section
variable {P : Program}

/-- One round: from the assignment and the body. -/
theorem round_raw {fn : FuncId} {tmps : Array Value} {ps : Array Tmp} {assign body : Code} {l D : Nat} {encs : Nat → Array Value} (hps : ∀ k, (encs k).size = ps.size)
    {Kp : World → World → Prop} (hKt : ∀ {A B C : World}, Kp A B → Kp B C → Kp A C) (hKb : ∀ (W : World) (r r' : Loop), W.heap[l]? = some (.loop r) → Kp W (W.putObj l (.loop r')))
    {I : Nat → World → Prop} {Ix : Code → Nat → World → Prop} (hI : ∀ k W r r', I k W → W.heap[l]? = some (.loop r) → I k (W.putObj l (.loop r'))) (hIx : ∀ c k W r r', Ix c k W → W.heap[l]? = some (.loop r) → Ix c k (W.putObj l (.loop r')))
    {k : Nat} {W : World} (hb : Btw l (rcd fn tmps ps assign body D) I k W)
    (hround : ∀ K : Act → World → Prop, (∀ a' W', W'.heap[l]? = W.heap[l]? → Kp W W' → (∀ r', body.wpIn (Fence.wide.inRound l) 0 P (roundQ l I Ix Kp k (W'.putObj l (.loop r'))) a' (W'.putObj l (.loop r'))) → K a' W') →
      assign.wpIn (Fence.wide.inRound l) 0 P (Exit.then K (fun _ _ _ => False)) { tmps := (ps.zip (encs k)).foldl (fun t (p, v) => t.setIfInBounds p v) tmps, defers := [] } W) :
    YieldAt Fence.wide 0 P l (encs k) W (YP l (rcd fn tmps ps assign body D) I Ix Kp k W) := by
  obtain ⟨hi, hl⟩ := hb
  have hy := run_yield (P := P) (args := encs k) hl (hps k)
  refine ⟨fn, _, assign, body, hy, roundIn_of_wpIn trivial (hround _ fun a' Wa hla hkp hbody => ?_)⟩
  have hl1 := hla.trans hl
  have hlt : l < Wa.heap.size := (Array.getElem?_eq_some_iff.1 hl1).1
  refine ⟨_, run_beginRound hl1 rfl, ?_⟩
  have hl2 : (Wa.putObj l (.loop { rcd fn tmps ps assign body D .ready none with state := .busy })).heap[l]? = some (.loop { rcd fn tmps ps assign body D .ready none with state := .busy }) := World.putObj_heap_same hlt
  have hkp2 : Kp W (Wa.putObj l (.loop { rcd fn tmps ps assign body D .ready none with state := .busy })) := hKt hkp (hKb _ _ _ hl1)
  refine wpIn_mono (hbody { rcd fn tmps ps assign body D .ready none with state := .busy }) fun e a3 W3 hp => ?_
  have stop : ∀ c, W3.heap[l]? = (Wa.putObj l (.loop { rcd fn tmps ps assign body D .ready none with state := .busy })).heap[l]? → Kp (Wa.putObj l (.loop { rcd fn tmps ps assign body D .ready none with state := .busy })) W3 → Ix c (k + 1) W3 → ∃ v w', (Instr.endRound l (some c)).run P W3 = .ok v w' ∧ YP l (rcd fn tmps ps assign body D) I Ix Kp k W (Ending.returned v) w' := by
    intro c hk3 hkp3 hi3
    have hl3 := hk3.trans hl2
    exact ⟨_, _, run_endRound (some c) hl3, .inr ⟨rfl, ⟨c, hIx c _ _ _ _ hi3 hl3, World.putObj_heap_same (Array.getElem?_eq_some_iff.1 hl3).1⟩, hKt (hKt hkp2 hkp3) (hKb _ _ _ hl3)⟩⟩
  cases e with
  | normal =>
    obtain ⟨hk3, hkp3, hi3⟩ := hp
    have hl3 := hk3.trans hl2
    exact ⟨_, _, run_endRound none hl3, .inl ⟨rfl, ⟨hI _ _ _ _ hi3 hl3, World.putObj_heap_same (Array.getElem?_eq_some_iff.1 hl3).1⟩, hKt (hKt hkp2 hkp3) (hKb _ _ _ hl3)⟩⟩
  | ret => exact stop .ret hp.1 hp.2.1 hp.2.2
  | exit id => exact stop (.exit id) hp.1 hp.2.1 hp.2.2
  | goto t => exact stop (.goto t) hp.1 hp.2.1 hp.2.2
  | panic ch => exact hp.elim
  | outgrown => exact hp.elim

/-- The statement, at an activation's own level. -/
theorem range_out {g : Operand} {ps : Array Tmp} {assign body : Code} {Q : Exit → Act → World → Prop} {a : Act} {w : World}
    {gf : Nat} {lb : Array Value} (hg : a.eval g = .func (.func gf) #[] lb) (eg : ∀ args w, (callFunc gf args).run P w = .ok (.enter gf args) w)
    {I : Nat → World → Prop} {Ix : Code → Nat → World → Prop} {N : Nat} (hI : ∀ k W r r', I k W → W.heap[w.heap.size + 1]? = some (.loop r) → I k (W.putObj (w.heap.size + 1) (.loop r'))) (hIx : ∀ c k W r r', Ix c k W → W.heap[w.heap.size + 1]? = some (.loop r) → Ix c k (W.putObj (w.heap.size + 1) (.loop r')))
    (h0 : ∀ o, I 0 ((w.alloc (.deferred (some []))).alloc o))
    (hseq : ∀ (fn : FuncId) (W1 : World), W1 = (w.alloc (.deferred (some []))).alloc (.loop (rcd fn a.tmps ps assign body w.heap.size .ready none)) →
      Btw (w.heap.size + 1) (rcd fn a.tmps ps assign body w.heap.size) I 0 W1 →
      CallsIn Fence.wide 0 P gf (#[.func (.yield (w.heap.size + 1)) #[] #[]] ++ lb) W1 fun e W' => (∃ v, e = .returned v) ∧ (Btw (w.heap.size + 1) (rcd fn a.tmps ps assign body w.heap.size) I N W' ∨ ∃ k, k ≤ N ∧ Lft (w.heap.size + 1) (rcd fn a.tmps ps assign body w.heap.size) Ix k W'))
    (hdone : ∀ (W : World), I N W → Q .normal { a with defers := { target := .collected w.heap.size, args := #[] } :: a.defers } W)
    (hstop : ∀ (c : Code) (k : Nat) (W : World), k ≤ N → Ix c k W → c.wpIn Fence.wide 0 P Q { a with defers := { target := .collected w.heap.size, args := #[] } :: a.defers } W) :
    (Code.rangeFunc g ps assign body).wpIn Fence.wide 0 P Q a w := by
  refine wpIn_rangeFunc fun fn hfn => ?_
  obtain ⟨W1, hW1⟩ : ∃ W1, (w.alloc (.deferred (some []))).alloc (.loop (rcd fn a.tmps ps assign body w.heap.size .ready none)) = W1 := ⟨_, rfl⟩
  have hb1 : Btw (w.heap.size + 1) (rcd fn a.tmps ps assign body w.heap.size) I 0 W1 := by
    rw [← hW1]
    refine ⟨h0 _, ?_⟩
    have := World.alloc_heap_new (w.alloc (.deferred (some []))) (.loop (rcd fn a.tmps ps assign body w.heap.size .ready none))
    rwa [World.size_alloc] at this
  have hent : (Instr.enterLoop fn a.tmps ps assign body none).run P w = .ok (w.heap.size + 1, [{ target := .collected w.heap.size, args := #[] }]) W1 := by rw [← hW1]; exact run_enterLoop_outer (P := P) (w := w) fn a.tmps ps assign body
  refine ⟨w.heap.size + 1, [{ target := .collected w.heap.size, args := #[] }], W1, { target := .fn (.func gf) lb, args := #[.func (.yield (w.heap.size + 1)) #[] #[]] }, W1, gf, #[.func (.yield (w.heap.size + 1)) #[] #[]] ++ lb, W1, hent, ?_, ?_, ?_, (fun h => by simp [Fence.wide] at h), ?_⟩
  · simp only [resolve, hg]
    simp [go_sem]
  · intro f' hf'; trivial
  · simp [invoke, go_sem, eg]
  · refine (hseq fn W1 hW1.symm hb1).mono ?_
    rintro e W2 ⟨⟨v, rfl⟩, (⟨hi, hl⟩ | ⟨k, hk, c, hi, hl⟩)⟩
    · exact ⟨none, _, run_endLoop (P := P) hl (by simp [rcd]), hdone _ (hI _ _ _ _ hi hl)⟩
    · exact ⟨some c, _, run_endLoop (P := P) hl (by simp [rcd]), hstop c k _ hk (hIx c _ _ _ _ hi hl)⟩

/-- The statement, in a round of another loop. -/
theorem range_in {g : Operand} {ps : Array Tmp} {assign body : Code} {Q : Exit → Act → World → Prop} {a : Act} {w : World} {l₀ : Nat} {r₀ : Loop} (hl₀ : w.heap[l₀]? = some (.loop r₀))
    {gf : Nat} {lb : Array Value} (hg : a.eval g = .func (.func gf) #[] lb) (eg : ∀ args w, (callFunc gf args).run P w = .ok (.enter gf args) w)
    {I : Nat → World → Prop} {Ix : Code → Nat → World → Prop} {N : Nat} (hI : ∀ k W r r', I k W → W.heap[w.heap.size]? = some (.loop r) → I k (W.putObj w.heap.size (.loop r'))) (hIx : ∀ c k W r r', Ix c k W → W.heap[w.heap.size]? = some (.loop r) → Ix c k (W.putObj w.heap.size (.loop r')))
    (h0 : ∀ o, I 0 (w.alloc o))
    (hseq : ∀ (fn : FuncId) (D : Nat) (W1 : World), W1 = w.alloc (.loop (rcd fn a.tmps ps assign body D .ready none)) →
      Btw w.heap.size (rcd fn a.tmps ps assign body D) I 0 W1 →
      CallsIn Fence.wide 0 P gf (#[.func (.yield w.heap.size) #[] #[]] ++ lb) W1 fun e W' => (∃ v, e = .returned v) ∧ (Btw w.heap.size (rcd fn a.tmps ps assign body D) I N W' ∨ ∃ k, k ≤ N ∧ Lft w.heap.size (rcd fn a.tmps ps assign body D) Ix k W'))
    (hdone : ∀ (W : World), I N W → Q .normal a W)
    (hstop : ∀ (c : Code) (k : Nat) (W : World), k ≤ N → Ix c k W → c.wpIn (Fence.wide.inRound l₀) 0 P Q a W) :
    (Code.rangeFunc g ps assign body).wpIn (Fence.wide.inRound l₀) 0 P Q a w := by
  refine wpIn_rangeFunc fun fn hfn => ?_
  obtain ⟨W1, hW1⟩ : ∃ W1, w.alloc (.loop (rcd fn a.tmps ps assign body r₀.defers .ready none)) = W1 := ⟨_, rfl⟩
  have hb1 : Btw w.heap.size (rcd fn a.tmps ps assign body r₀.defers) I 0 W1 := by
    rw [← hW1]
    exact ⟨h0 _, World.alloc_heap_new w _⟩
  have hent : (Instr.enterLoop fn a.tmps ps assign body (some l₀)).run P w = .ok (w.heap.size, []) W1 := by rw [← hW1]; exact run_enterLoop_inner (P := P) hl₀ fn a.tmps ps assign body
  refine ⟨w.heap.size, [], W1, { target := .fn (.func gf) lb, args := #[.func (.yield w.heap.size) #[] #[]] }, W1, gf, #[.func (.yield w.heap.size) #[] #[]] ++ lb, W1, hent, ?_, ?_, ?_, (fun h => by simp [Fence.wide, Fence.inRound] at h), ?_⟩
  · simp only [resolve, hg]
    simp [go_sem]
  · intro f' hf'; trivial
  · simp [invoke, go_sem, eg]
  · refine (CallsIn.inRound l₀ (hseq fn r₀.defers W1 hW1.symm hb1)).mono ?_
    rintro e W2 ⟨⟨v, rfl⟩, (⟨hi, hl⟩ | ⟨k, hk, c, hi, hl⟩)⟩
    · exact ⟨none, _, run_endLoop (P := P) hl (by simp [rcd]), hdone _ (hI _ _ _ _ hi hl)⟩
    · exact ⟨some c, _, run_endLoop (P := P) hl (by simp [rcd]), hstop c k _ hk (hIx c _ _ _ _ hi hl)⟩
end

/-- What an iterator over N things answers. -/
def ItP (J Jx : Nat → World → Prop) (N : Nat) (e : Ending) (W' : World) : Prop := (∃ v, e = .returned v) ∧ (J N W' ∨ ∃ k, k ≤ N ∧ Jx k W')
/-- What yield answers of the k-th. -/
def YQ (J Jx : Nat → World → Prop) (k : Nat) (e : Ending) (W' : World) : Prop := (e = .returned (.bool true) ∧ J (k + 1) W') ∨ (e = .returned (.bool false) ∧ Jx (k + 1) W')
attribute [local go_sem] Oper.semAt_some
set_option maxRecDepth 100000 in
set_option maxHeartbeats 1000000 in
theorem back_c (Bs cap N l : Nat) (la : Option Addr) (S : List (Int × Int)) (hN : S.length = N) (E : Nat → Int × Int) (hE : ∀ k, k < N → S[N - 1 - k]? = some (E k)) (J Jx : Nat → World → Prop) (W : World)
    (hF : ∀ k W, J k W → W.cell? ⟨Bs, 0, none⟩ = some (.slice la N cap) ∧ Sr W la S) (hsz : N ≤ 70000)
    (hY : ∀ k W1, k < N → J k W1 → YieldAt Fence.wide 0 Try.prog l #[.int .i64 ((N : Int) - 1 - k), .agg #[.int .i64 (E k).1, .int .i64 (E k).2]] W1 (YQ J Jx k)) (h0 : J 0 W) :
    CallsIn Fence.wide 0 Try.prog 52 #[.func (.yield l) #[] #[], .pointer (some ⟨Bs, 0, none⟩)] W (ItP J Jx N) := by
  have HF : Aside _ := hF
  have HY : Aside _ := hY
  have HE : Aside _ := hE
  have c0 := (hF 0 W h0).1
  have H0 : Aside _ := h0
  clear hF hY hE h0
  refine callsIn_of_wp Try.func52 rfl trivial ?_ rfl
  simp only [Try.ntmps52, List.size_toArray, List.length_cons, List.length_nil, Nat.reduceAdd, Nat.reduceSub, Array.replicate_succ, Array.replicate_zero, List.push_toArray, List.append_toArray, List.nil_append, List.cons_append]
  gi_wp2
  gi_loopg [3] N (fun kx s3 wr => ∃ k : Nat, s3 = .int .i64 ((N : Int) - 1 - k) ∧ k ≤ N ∧ N - k ≤ kx ∧ Aside (J k wr))
  case atStart => exact ⟨0, by simp, Nat.zero_le _, by omega, H0.out⟩
  case round =>
    obtain ⟨k, rfl, hk, hg, HJ⟩ := hrel
    clear c0 H0
    obtain ⟨c1, hsr⟩ := HF.out k wr HJ.out
    by_cases hlt : k < N
    · have hi : N - 1 - k < S.length := by omega
      obtain ⟨b, off, hla, cm, cm'⟩ := hsr (N - 1 - k) hi
      have e0 := HE.out k hlt
      rw [List.getElem?_eq_getElem hi] at e0
      have e1 : S[N - 1 - k] = E k := by simpa using e0
      rw [e1] at cm cm'
      obtain ⟨fn, tmps, assign, body, hy, hR'⟩ := HY.out k wr hlt HJ.out
      obtain ⟨i, hii⟩ : ∃ i : Nat, N - 1 - k = i := ⟨_, rfl⟩
      have hiI : (N : Int) - 1 - k = (i : Int) := by omega
      rw [hii] at cm cm'
      rw [hiI] at hy ⊢
      have hiN : i < N := by omega
      have hkN : k + 1 + i = N := by omega
      generalize (E k).1 = xa at *
      generalize (E k).2 = xb at *
      clear hsr e0 e1 hi hii
      subst hla
      have HI : Aside _ := hiI
      clear hiI
      gi_wp2
      refine ⟨rfl, hR'.mono ?_⟩
      rintro e W3 (⟨rfl, hJ3⟩ | ⟨rfl, hJx3⟩)
      · have HJ3 : Aside _ := hJ3
        clear hJ3 hR' hy
        gi_wp2
        gi_roundg (N - (k + 1))
        case measure => omega
        case rel => exact ⟨k + 1, by have := HI.out; congr 1; omega, by omega, Nat.le_refl _, HJ3.out⟩
      · have HJx : Aside _ := hJx3
        clear hJx3 hR' hy
        gi_wp2
        refine bodyPost_ret (results_none rfl _ _ _) rfl ?_
        exact ⟨⟨_, rfl⟩, .inr ⟨k + 1, by omega, HJx.out⟩⟩
    · obtain rfl : k = N := by omega
      have hneg : ¬ (0 : Int) ≤ (k : Int) - 1 - k := by omega
      gi_wp2
      go_end0
      exact ⟨⟨_, rfl⟩, .inl HJ.out⟩
/-- append in a round. -/
theorem apprIn {F : Fence} {n : Nat} {P : Program} {ops : Array Oper} {rest : List Oper} {o : Oper} {a : Act} {w : World} {Q : Exit → Act → World → Prop}
    (hg : o.guard = none) (d x : Operand) (dT sT : TypeId) (hop : o.op = Op.call { callee := Callee.builtin Builtin.append, args := #[d, x], argTypes := #[dT, sT] })
    (v u : Value) (hd : a.eval d = v) (hx : a.eval x = u) {v' : Value} {w' : World} (hr : (Builtin.append_ #[dT, sT] o.type #[v, u]).run P w = .ok v' w') (hK : wpListIn F n P ops Q rest (a.put o.dst v') w') :
    wpListIn F n P ops Q (o :: rest) a w := by
  refine wpListIn_plain hg fun K hK' => ?_
  unfold Oper.wpIn
  refine ⟨by simp [Oper.about, hop, resolve, Target.leads, Sem.run_pure], ?_⟩
  rw [Oper.semAt_plain F _ _ (by rw [hop]; intro c hc'; cases hc')]
  simp [execOp, hop, resolve, invoke, builtin, hd, hx, hr, Result.andThen]
  exact hK' _ _ hK
def notDefer (o : Oper) : Bool := match o.op with
  | .defer _ => false
  | _ => true
theorem noDefer {ops : Array Oper} (h : ops.all notDefer = true) : ∀ (i : Nat) o, ops[i]? = some o → ∀ c, o.op ≠ .defer c := by
  intro i o ho c e
  obtain ⟨hi, rfl⟩ := Array.getElem?_eq_some_iff.1 ho
  have := Array.all_eq_true.1 h i hi
  simp [notDefer, e] at this
end Go.Proofs.Ytkjcapmhjhnckaa
