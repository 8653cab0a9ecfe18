/- A range over a function whose iterator is not one for every body: the caller's laws with the iterator's contract asked at the caller's own invariant alone; what comes k-th is known ahead. -/
import Derived.Test.YtlobnlkpbenngaaRRound
namespace Go.Proofs.YtlobnlkpbenngaaR
open Go.RowKit Go.Shelf Go.Lib
set_option linter.unusedVariables false

/-- The loop's record. -/
def rcd (fn : FuncId) (tmps : Array Value) (ps : Array Tmp) (assign body : Code) (D : Nat) (st : LoopState) (pe : Option Code) : Loop := { state := st, pending := pe, fn, tmps, params := ps, assign, body, defers := D }

/-- Between two rounds, k being over. -/
def Btw (l : Nat) (rec : LoopState → Option Code → Loop) (I : Nat → World → Prop) (k : Nat) (W : World) : Prop := I k W ∧ W.heap[l]? = some (.loop (rec .ready none))
/-- A round has left by a jump. -/
def Lft (l : Nat) (rec : LoopState → Option Code → Loop) (Ix : Code → Nat → World → Prop) (k : Nat) (W : World) : Prop := ∃ c, Ix c k W ∧ W.heap[l]? = some (.loop (rec .done (some c)))
/-- What yield answers. -/
def YP (l : Nat) (rec : LoopState → Option Code → Loop) (I : Nat → World → Prop) (Ix : Code → Nat → World → Prop) (Kp : World → World → Prop) (k : Nat) (W : World) (e : Ending) (W' : World) : Prop :=
  (e = .returned (.bool true) ∧ Btw l rec I (k + 1) W' ∧ Kp W W') ∨ (e = .returned (.bool false) ∧ Lft l rec Ix (k + 1) W' ∧ Kp W W')

/-- How a round's body may be left: the record lies as it lay. -/
def roundQ (l : Nat) (I : Nat → World → Prop) (Ix : Code → Nat → World → Prop) (Kp : World → World → Prop) (k : Nat) (W : World) : Exit → Act → World → Prop
  | .normal, _, W' => W'.heap[l]? = W.heap[l]? ∧ Kp W W' ∧ I (k + 1) W'
  | .ret, _, W' => W'.heap[l]? = W.heap[l]? ∧ Kp W W' ∧ Ix .ret (k + 1) W'
  | .exit id, _, W' => W'.heap[l]? = W.heap[l]? ∧ Kp W W' ∧ Ix (.exit id) (k + 1) W'
  | .goto t, _, W' => W'.heap[l]? = W.heap[l]? ∧ Kp W W' ∧ Ix (.goto t) (k + 1) W'
  | .panic _, _, _ => False
  | .outgrown, _, _ => False

section
variable {P : Program}

/-- One round: from the assignment and the body. -/
theorem round_raw {fn : FuncId} {tmps : Array Value} {ps : Array Tmp} {assign body : Code} {l D : Nat} {encs : Nat → Array Value} (hps : ∀ k, (encs k).size = ps.size)
    {Kp : World → World → Prop} (hKt : ∀ {A B C : World}, Kp A B → Kp B C → Kp A C) (hKb : ∀ (W : World) (r r' : Loop), W.heap[l]? = some (.loop r) → Kp W (W.putObj l (.loop r')))
    {I : Nat → World → Prop} {Ix : Code → Nat → World → Prop} (hI : ∀ k W r r', I k W → W.heap[l]? = some (.loop r) → I k (W.putObj l (.loop r'))) (hIx : ∀ c k W r r', Ix c k W → W.heap[l]? = some (.loop r) → Ix c k (W.putObj l (.loop r')))
    {k : Nat} {W : World} (hb : Btw l (rcd fn tmps ps assign body D) I k W)
    (hround : ∀ K : Act → World → Prop, (∀ a' W', W'.heap[l]? = W.heap[l]? → Kp W W' → (∀ r', body.wpIn (Fence.wide.inRound l) 0 P (roundQ l I Ix Kp k (W'.putObj l (.loop r'))) a' (W'.putObj l (.loop r'))) → K a' W') →
      assign.wpIn (Fence.wide.inRound l) 0 P (Exit.then K (fun _ _ _ => False)) { tmps := (ps.zip (encs k)).foldl (fun t (p, v) => t.setIfInBounds p v) tmps, defers := [] } W) :
    YieldAt Fence.wide 0 P l (encs k) W (YP l (rcd fn tmps ps assign body D) I Ix Kp k W) := by
  obtain ⟨hi, hl⟩ := hb
  have hy := run_yield (P := P) (args := encs k) hl (hps k)
  refine ⟨fn, _, assign, body, hy, roundIn_of_wpIn trivial (hround _ fun a' Wa hla hkp hbody => ?_)⟩
  have hl1 := hla.trans hl
  have hlt : l < Wa.heap.size := (Array.getElem?_eq_some_iff.1 hl1).1
  refine ⟨_, run_beginRound hl1 rfl, ?_⟩
  have hl2 : (Wa.putObj l (.loop { rcd fn tmps ps assign body D .ready none with state := .busy })).heap[l]? = some (.loop { rcd fn tmps ps assign body D .ready none with state := .busy }) := World.putObj_heap_same hlt
  have hkp2 : Kp W (Wa.putObj l (.loop { rcd fn tmps ps assign body D .ready none with state := .busy })) := hKt hkp (hKb _ _ _ hl1)
  refine wpIn_mono (hbody { rcd fn tmps ps assign body D .ready none with state := .busy }) fun e a3 W3 hp => ?_
  have stop : ∀ c, W3.heap[l]? = (Wa.putObj l (.loop { rcd fn tmps ps assign body D .ready none with state := .busy })).heap[l]? → Kp (Wa.putObj l (.loop { rcd fn tmps ps assign body D .ready none with state := .busy })) W3 → Ix c (k + 1) W3 → ∃ v w', (Instr.endRound l (some c)).run P W3 = .ok v w' ∧ YP l (rcd fn tmps ps assign body D) I Ix Kp k W (Ending.returned v) w' := by
    intro c hk3 hkp3 hi3
    have hl3 := hk3.trans hl2
    exact ⟨_, _, run_endRound (some c) hl3, .inr ⟨rfl, ⟨c, hIx c _ _ _ _ hi3 hl3, World.putObj_heap_same (Array.getElem?_eq_some_iff.1 hl3).1⟩, hKt (hKt hkp2 hkp3) (hKb _ _ _ hl3)⟩⟩
  cases e with
  | normal =>
    obtain ⟨hk3, hkp3, hi3⟩ := hp
    have hl3 := hk3.trans hl2
    exact ⟨_, _, run_endRound none hl3, .inl ⟨rfl, ⟨hI _ _ _ _ hi3 hl3, World.putObj_heap_same (Array.getElem?_eq_some_iff.1 hl3).1⟩, hKt (hKt hkp2 hkp3) (hKb _ _ _ hl3)⟩⟩
  | ret => exact stop .ret hp.1 hp.2.1 hp.2.2
  | exit id => exact stop (.exit id) hp.1 hp.2.1 hp.2.2
  | goto t => exact stop (.goto t) hp.1 hp.2.1 hp.2.2
  | panic ch => exact hp.elim
  | outgrown => exact hp.elim

/-- The statement, at an activation's own level. -/
theorem range_out {g : Operand} {ps : Array Tmp} {assign body : Code} {Q : Exit → Act → World → Prop} {a : Act} {w : World}
    {gf : Nat} {lb : Array Value} (hg : a.eval g = .func (.func gf) #[] lb) (eg : ∀ args w, (callFunc gf args).run P w = .ok (.enter gf args) w)
    {I : Nat → World → Prop} {Ix : Code → Nat → World → Prop} {N : Nat} (hI : ∀ k W r r', I k W → W.heap[w.heap.size + 1]? = some (.loop r) → I k (W.putObj (w.heap.size + 1) (.loop r'))) (hIx : ∀ c k W r r', Ix c k W → W.heap[w.heap.size + 1]? = some (.loop r) → Ix c k (W.putObj (w.heap.size + 1) (.loop r')))
    (h0 : ∀ o, I 0 ((w.alloc (.deferred (some []))).alloc o))
    (hseq : ∀ (fn : FuncId) (W1 : World), W1 = (w.alloc (.deferred (some []))).alloc (.loop (rcd fn a.tmps ps assign body w.heap.size .ready none)) →
      Btw (w.heap.size + 1) (rcd fn a.tmps ps assign body w.heap.size) I 0 W1 →
      CallsIn Fence.wide 0 P gf (#[.func (.yield (w.heap.size + 1)) #[] #[]] ++ lb) W1 fun e W' => (∃ v, e = .returned v) ∧ (Btw (w.heap.size + 1) (rcd fn a.tmps ps assign body w.heap.size) I N W' ∨ ∃ k, k ≤ N ∧ Lft (w.heap.size + 1) (rcd fn a.tmps ps assign body w.heap.size) Ix k W'))
    (hdone : ∀ (W : World), I N W → Q .normal { a with defers := { target := .collected w.heap.size, args := #[] } :: a.defers } W)
    (hstop : ∀ (c : Code) (k : Nat) (W : World), k ≤ N → Ix c k W → c.wpIn Fence.wide 0 P Q { a with defers := { target := .collected w.heap.size, args := #[] } :: a.defers } W) :
    (Code.rangeFunc g ps assign body).wpIn Fence.wide 0 P Q a w := by
  refine wpIn_rangeFunc fun fn hfn => ?_
  obtain ⟨W1, hW1⟩ : ∃ W1, (w.alloc (.deferred (some []))).alloc (.loop (rcd fn a.tmps ps assign body w.heap.size .ready none)) = W1 := ⟨_, rfl⟩
  have hb1 : Btw (w.heap.size + 1) (rcd fn a.tmps ps assign body w.heap.size) I 0 W1 := by
    rw [← hW1]
    refine ⟨h0 _, ?_⟩
    have := World.alloc_heap_new (w.alloc (.deferred (some []))) (.loop (rcd fn a.tmps ps assign body w.heap.size .ready none))
    rwa [World.size_alloc] at this
  have hent : (Instr.enterLoop fn a.tmps ps assign body none).run P w = .ok (w.heap.size + 1, [{ target := .collected w.heap.size, args := #[] }]) W1 := by rw [← hW1]; exact run_enterLoop_outer (P := P) (w := w) fn a.tmps ps assign body
  refine ⟨w.heap.size + 1, [{ target := .collected w.heap.size, args := #[] }], W1, { target := .fn (.func gf) lb, args := #[.func (.yield (w.heap.size + 1)) #[] #[]] }, W1, gf, #[.func (.yield (w.heap.size + 1)) #[] #[]] ++ lb, W1, hent, ?_, ?_, ?_, (fun h => by simp [Fence.wide] at h), ?_⟩
  · simp only [resolve, hg]
    simp [go_sem]
  · intro f' hf'; trivial
  · simp [invoke, go_sem, eg]
  · refine (hseq fn W1 hW1.symm hb1).mono ?_
    rintro e W2 ⟨⟨v, rfl⟩, (⟨hi, hl⟩ | ⟨k, hk, c, hi, hl⟩)⟩
    · exact ⟨none, _, run_endLoop (P := P) hl (by simp [rcd]), hdone _ (hI _ _ _ _ hi hl)⟩
    · exact ⟨some c, _, run_endLoop (P := P) hl (by simp [rcd]), hstop c k _ hk (hIx c _ _ _ _ hi hl)⟩

/-- The statement, in a round of another loop. -/
theorem range_in {g : Operand} {ps : Array Tmp} {assign body : Code} {Q : Exit → Act → World → Prop} {a : Act} {w : World} {l₀ : Nat} {r₀ : Loop} (hl₀ : w.heap[l₀]? = some (.loop r₀))
    {gf : Nat} {lb : Array Value} (hg : a.eval g = .func (.func gf) #[] lb) (eg : ∀ args w, (callFunc gf args).run P w = .ok (.enter gf args) w)
    {I : Nat → World → Prop} {Ix : Code → Nat → World → Prop} {N : Nat} (hI : ∀ k W r r', I k W → W.heap[w.heap.size]? = some (.loop r) → I k (W.putObj w.heap.size (.loop r'))) (hIx : ∀ c k W r r', Ix c k W → W.heap[w.heap.size]? = some (.loop r) → Ix c k (W.putObj w.heap.size (.loop r')))
    (h0 : ∀ o, I 0 (w.alloc o))
    (hseq : ∀ (fn : FuncId) (D : Nat) (W1 : World), W1 = w.alloc (.loop (rcd fn a.tmps ps assign body D .ready none)) →
      Btw w.heap.size (rcd fn a.tmps ps assign body D) I 0 W1 →
      CallsIn Fence.wide 0 P gf (#[.func (.yield w.heap.size) #[] #[]] ++ lb) W1 fun e W' => (∃ v, e = .returned v) ∧ (Btw w.heap.size (rcd fn a.tmps ps assign body D) I N W' ∨ ∃ k, k ≤ N ∧ Lft w.heap.size (rcd fn a.tmps ps assign body D) Ix k W'))
    (hdone : ∀ (W : World), I N W → Q .normal a W)
    (hstop : ∀ (c : Code) (k : Nat) (W : World), k ≤ N → Ix c k W → c.wpIn (Fence.wide.inRound l₀) 0 P Q a W) :
    (Code.rangeFunc g ps assign body).wpIn (Fence.wide.inRound l₀) 0 P Q a w := by
  refine wpIn_rangeFunc fun fn hfn => ?_
  obtain ⟨W1, hW1⟩ : ∃ W1, w.alloc (.loop (rcd fn a.tmps ps assign body r₀.defers .ready none)) = W1 := ⟨_, rfl⟩
  have hb1 : Btw w.heap.size (rcd fn a.tmps ps assign body r₀.defers) I 0 W1 := by
    rw [← hW1]
    exact ⟨h0 _, World.alloc_heap_new w _⟩
  have hent : (Instr.enterLoop fn a.tmps ps assign body (some l₀)).run P w = .ok (w.heap.size, []) W1 := by rw [← hW1]; exact run_enterLoop_inner (P := P) hl₀ fn a.tmps ps assign body
  refine ⟨w.heap.size, [], W1, { target := .fn (.func gf) lb, args := #[.func (.yield w.heap.size) #[] #[]] }, W1, gf, #[.func (.yield w.heap.size) #[] #[]] ++ lb, W1, hent, ?_, ?_, ?_, (fun h => by simp [Fence.wide, Fence.inRound] at h), ?_⟩
  · simp only [resolve, hg]
    simp [go_sem]
  · intro f' hf'; trivial
  · simp [invoke, go_sem, eg]
  · refine (CallsIn.inRound l₀ (hseq fn r₀.defers W1 hW1.symm hb1)).mono ?_
    rintro e W2 ⟨⟨v, rfl⟩, (⟨hi, hl⟩ | ⟨k, hk, c, hi, hl⟩)⟩
    · exact ⟨none, _, run_endLoop (P := P) hl (by simp [rcd]), hdone _ (hI _ _ _ _ hi hl)⟩
    · exact ⟨some c, _, run_endLoop (P := P) hl (by simp [rcd]), hstop c k _ hk (hIx c _ _ _ _ hi hl)⟩
end
end Go.Proofs.YtlobnlkpbenngaaR
