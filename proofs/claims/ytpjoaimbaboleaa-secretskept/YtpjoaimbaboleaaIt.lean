/- vault: the iterator of names. -/
import Derived.Test.YtpjoaimbaboleaaRg
namespace Go.Proofs.Ytpjoaimbaboleaa
open Go.RowKit Go.Shelf Go.Lib
set_option linter.unusedVariables false

attribute [local go_sem] Oper.semAt_some

/-- Sixteen bytes at a place. -/
def win (l : List UInt8) (a : Nat) : List UInt8 := (l.drop a).take 16
/-- The numbers whose names stand at the first places. -/
def winsTo (l : List UInt8) (m : Nat) : List Nat := (List.range m).filterMap fun a => numL (win l a)
def wins (l : List UInt8) : List Nat := winsTo l (l.length - 15)
theorem winsTo_succ (l : List UInt8) (m : Nat) : winsTo l (m + 1) = winsTo l m ++ (numL (win l m)).toList := by
  unfold winsTo
  rw [List.range_succ, List.filterMap_append]
  cases h : numL (win l m) <;> simp [h]
theorem winsTo_pre (l : List UInt8) {m M : Nat} (h : m ≤ M) : winsTo l m <+: winsTo l M := by
  induction M with
  | zero => obtain rfl : m = 0 := by omega
            exact List.prefix_refl _
  | succ M ih =>
    by_cases e : m = M + 1
    · subst e; exact List.prefix_refl _
    · rw [winsTo_succ]
      exact (ih (by omega)).trans (List.prefix_append _ _)
theorem win_len {l : List UInt8} {a : Nat} (h : a < l.length - 15) : (win l a).length = 16 := by simp [win]; omega
/-- Sixteen bytes, loaded as an array. -/
theorem load_win {w : World} {b off : Nat} {l : List UInt8} {a : Nat} (hS : Sl w (some ⟨b, off, none⟩) l) (ha : a < l.length - 15) : (Instr.loadAt 29 (.pointer (some ⟨b, off + a, none⟩))).run Try.prog w = .ok (.agg (hl (win l a)).toArray) w := by
  refine run_loadAt_mid w b (off + a) 29 (hl (win l a)) _ (fun j v hv => ?_) hu28 rfl (hi28.trans (by rw [hl_len, win_len ha]))
  have hj : j < 16 := by have := (List.getElem?_eq_some_iff.1 hv).1; rw [hl_len, win_len ha] at this; exact this
  obtain ⟨b', off', e, hc⟩ := hS (a + j) (by omega)
  simp only [Option.some.injEq, Addr.mk.injEq, and_true] at e
  obtain ⟨rfl, rfl⟩ := e
  rw [Nat.add_assoc, hc, ← hv]
  have e2 : (win l a)[j]? = some l[a + j] := by
    unfold win
    rw [List.getElem?_take_of_lt hj, List.getElem?_drop]
    exact List.getElem?_eq_getElem _
  simp [hl, e2]
theorem ldIn28 {n : Nat} {ops : Array Oper} {rest : List Oper} {o : Oper} {a : Act} {w : World} {Q : Exit → Act → World → Prop} (hgd : o.guard = none) (x : Operand) (ho : o.op = .load 29 x) (b off : Nat) (hx : a.eval x = .pointer (some ⟨b, off, none⟩)) (H : List UInt8)
    (hld : (Instr.loadAt 29 (.pointer (some ⟨b, off, none⟩))).run Try.prog w = .ok (.agg (hl H).toArray) w) (h : wpListIn Fence.wide n Try.prog ops Q rest (a.put o.dst (hv H)) w) : wpListIn Fence.wide n Try.prog ops Q (o :: rest) a w :=
  wpListIn_plain hgd fun K hK => ⟨fun _ _ => trivial, by
    have e : (o.semAt Fence.wide.round a.eval).run Try.prog w = .ok (.value (hv H)) w := by
      have e0 : o.semAt Fence.wide.round a.eval = execOp a.eval o := by
        unfold Oper.semAt
        rw [ho]
        rfl
      rw [e0]
      unfold execOp
      simp only [ho, hx, Sem.run_bind, hld, Result.andThen_ok, Sem.run_pure]
    rw [e]
    exact hK _ _ h⟩
theorem arr28 (ad : Addr) (c : Nat) (w : World) : (Instr.arrayAt 29 (.slice (some ad) 16 c)).run Try.prog w = .ok (.pointer (some ad)) w := by
  simp [Instr.arrayAt, run_underlying hu28, go_sem]
set_option maxRecDepth 100000 in
set_option maxHeartbeats 2000000 in
theorem names_it (Bs lb b off c : Nat) (l : List UInt8) (J Jx : Nat → World → Prop) (W : World) (hl47 : l.length ≤ 140737488355328) (hcap : l.length ≤ c) (hc64 : c ≤ 9223372036854775807)
    (hF : ∀ k W, J k W → W.cell? ⟨Bs, 0, none⟩ = some (.slice (some ⟨b, off, none⟩) l.length c) ∧ Sl W (some ⟨b, off, none⟩) l)
    (hJb : ∀ k W W', J k W → Below W.heap.size W W' → J k W')
    (hY : ∀ (k n : Nat) W1, (wins l)[k]? = some n → J k W1 → YieldAt Fence.wide 0 Try.prog lb #[.int .i64 (n : Int)] W1 (YQ J Jx k)) (h0 : J 0 W) :
    CallsIn Fence.wide 0 Try.prog 61 #[.func (.yield lb) #[] #[], .pointer (some ⟨Bs, 0, none⟩)] W (ItP J Jx (wins l).length) := by
  have HF : Aside _ := hF
  have HY : Aside _ := hY
  have HJb : Aside _ := hJb
  have c0 := (hF 0 W h0).1
  have H0 : Aside _ := h0
  have e1 : IntKind.i64.wrap ((l.length : Int) - 16) = (l.length : Int) - 16 := by rw [IntKind.wrap_i64]; omega
  have e2 : IntKind.i64.wrap ((l.length : Int) - 16 + 1) = (l.length : Int) - 16 + 1 := by rw [IntKind.wrap_i64]; omega
  clear hF hY h0 hJb
  obtain ⟨n, hn⟩ : ∃ n, l.length = n := ⟨_, rfl⟩
  rw [hn] at c0 e1 e2
  refine callsIn_of_wp Try.func61 rfl trivial ?_ rfl
  simp only [Try.ntmps61, List.size_toArray, List.length_cons, List.length_nil, Nat.reduceAdd, Nat.reduceSub, Array.replicate_succ, Array.replicate_zero, List.push_toArray, List.append_toArray, List.nil_append, List.cons_append]
  gi_wp2
  gi_loopg [10] (n + 1) (fun kx s10 wr => ∃ a : Nat, s10 = .int .i64 (a : Int) ∧ a ≤ n - 15 ∧ n - 15 - a ≤ kx ∧ Aside (J (winsTo l a).length wr))
  case atStart => exact ⟨0, by simp, Nat.zero_le _, by omega, H0.out⟩
  case round =>
    obtain ⟨a, rfl, ha, hg, HJ⟩ := hrel
    clear c0 H0
    by_cases hlt : a < n - 15
    · obtain ⟨c1, hS⟩ := HF.out _ wr HJ.out
      rw [hn] at c1
      have hld := load_win hS (by rw [hn]; exact hlt)
      have i1 : (a : Int) < (n : Int) - 16 + 1 := by omega
      have i2 : IntKind.i64.wrap ((a : Int) + 16) = (a : Int) + 16 := by rw [IntKind.wrap_i64]; omega
      have i3 : (a : Int) + 16 ≤ (c : Int) := by omega
      have i4 : (a : Int) ≤ (a : Int) + 16 := by omega
      have i5 : (0 : Int) ≤ (a : Int) := by omega
      have i6 : ((a : Int) + 16 - (a : Int)) = 16 := by omega
      have HNB : Aside _ := numbered_c (win l a) (win_len (by rw [hn]; exact hlt)) wr
      have HSU : Aside _ := winsTo_succ l a
      have har := fun (w : World) => arr28 ⟨b, off + a, none⟩ (c - a) w
      have hld' : Aside _ := hld
      clear hS hld
      gi_wp2_with (refine ldIn28 rfl (.tmp 19) rfl b (off + a) rfl (win l a) hld'.out ?_)
      refine ⟨trivial, rfl, callsIn_wide.2 (Calls.mono HNB.out ?_)⟩
      rintro e W2 ⟨⟨k, bb, rfl, ht, hf⟩, hb⟩
      have HJ2 : Aside _ := HJb.out _ wr W2 HJ.out hb
      have i7 : IntKind.i64.wrap ((a : Int) + 1) = (a : Int) + 1 := by rw [IntKind.wrap_i64]; omega
      clear HNB hld' har hb c1
      cases bb with
      | false =>
        have hnn := hf rfl
        have HSU2 : Aside (winsTo l (a + 1) = winsTo l a) := by show _ = _; rw [HSU.out, hnn]; simp
        clear ht hf hnn HSU
        gi_wp2
        refine ⟨fun _ _ => trivial, ?_⟩
        gi_wp2
        gi_roundg (n - 15 - (a + 1))
        case measure => omega
        case rel => exact ⟨a + 1, by simp, by omega, Nat.le_refl _, by rw [HSU2.out]; exact HJ2.out⟩
      | true =>
        have hnn := (ht rfl).1
        have HSU2 : Aside (winsTo l (a + 1) = winsTo l a ++ [k]) := by show _ = _; rw [HSU.out, hnn]; simp
        have hpre := winsTo_pre l (show a + 1 ≤ n - 15 by omega)
        rw [HSU2.out] at hpre
        have hwk : (wins l)[(winsTo l a).length]? = some k := by
          unfold wins
          rw [hn]
          obtain ⟨r, hr⟩ := hpre
          rw [← hr]
          simp
        have HLE : Aside ((winsTo l a).length + 1 ≤ (wins l).length) := by
          have h1 := hpre.length_le
          show _ ≤ _
          unfold wins
          rw [hn]
          simpa using h1
        obtain ⟨fn, tmps, assign, body, hy, hR'⟩ := HY.out _ k W2 hwk HJ2.out
        clear ht hf hnn HSU hwk hpre
        gi_wp2
        refine ⟨rfl, hR'.mono ?_⟩
        rintro e W3 (⟨rfl, hJ3⟩ | ⟨rfl, hJx3⟩)
        · have HJ3 : Aside _ := hJ3
          clear hJ3 hR' hy
          gi_wp2
          gi_roundg (n - 15 - (a + 1))
          case measure => omega
          case rel => exact ⟨a + 1, by simp, by omega, Nat.le_refl _, by rw [HSU2.out, List.length_append]; exact HJ3.out⟩
        · have HJx : Aside _ := hJx3
          clear hJx3 hR' hy
          gi_wp2
          refine bodyPost_ret (results_none rfl _ _ _) rfl ?_
          exact ⟨⟨_, rfl⟩, .inr ⟨_, HLE.out, HJx.out⟩⟩
    · obtain rfl : a = n - 15 := by omega
      have hneg : ¬ (((n - 15 : Nat) : Int) < (n : Int) - 16 + 1) := by omega
      have HE : Aside (J (wins l).length wr) := by have := HJ.out; rw [← hn] at this; exact this
      generalize ((n - 15 : Nat) : Int) = ai at *
      gi_wp2
      go_end0
      exact ⟨⟨_, rfl⟩, .inl HE.out⟩
set_option maxRecDepth 100000 in
set_option maxHeartbeats 1000000 in
/-- .. of too few bytes. -/
theorem names_short (Bs lb c : Nat) (o : Option Addr) (n : Nat) (hn : n ≤ 15) (J Jx : Nat → World → Prop) (W : World) (hF : W.cell? ⟨Bs, 0, none⟩ = some (.slice o n c)) (h0 : J 0 W) :
    CallsIn Fence.wide 0 Try.prog 61 #[.func (.yield lb) #[] #[], .pointer (some ⟨Bs, 0, none⟩)] W (ItP J Jx 0) := by
  have H0 : Aside (J 0 W) := h0
  have e1 : IntKind.i64.wrap ((n : Int) - 16) = (n : Int) - 16 := by rw [IntKind.wrap_i64]; omega
  have e2 : IntKind.i64.wrap ((n : Int) - 16 + 1) = (n : Int) - 16 + 1 := by rw [IntKind.wrap_i64]; omega
  have e3 : ¬ (0 < (n : Int) - 16 + 1) := by omega
  have e4 : decide (0 < (n : Int) - 16 + 1) = false := by simpa using e3
  clear h0
  refine callsIn_of_wp Try.func61 rfl trivial ?_ rfl
  simp only [Try.ntmps61, List.size_toArray, List.length_cons, List.length_nil, Nat.reduceAdd, Nat.reduceSub, Array.replicate_succ, Array.replicate_zero, List.push_toArray, List.append_toArray, List.nil_append, List.cons_append]
  refine wpIn_wide.2 ?_
  go_wp2
  refine wp_loop_rounds 1 ?_
  rw [rounds_succ]
  go_wp2
  go_end0
  exact ⟨⟨_, rfl⟩, .inl H0.out⟩
set_option maxRecDepth 100000 in
theorem names_c (o : Option Addr) (n c : Nat) (w : World) : Calls Try.prog 48 #[.slice o n c] w fun e w' => e = .returned (.func (.func 61) #[] #[.pointer (some ⟨w.heap.size, 0, none⟩)]) ∧ w' = w.alloc (.cells #[.slice o n c] 33) := by
  go_enter Try.func48, Try.ntmps48
  go_wp2
  go_ret
  exact ⟨rfl, rfl⟩
/-- Bytes whose slice is whole; they lie in what came in, or in a block of bytes or of a handle. -/
structure By (n₀ : Nat) (w : World) (o : Option Addr) (c : Nat) (l : List UInt8) : Prop where
  sl : Sl w o l
  len : l.length ≤ 140737488355328
  cap : l.length ≤ c
  c64 : c ≤ 9223372036854775807
  at' : l ≠ [] → ∃ b off, o = some ⟨b, off, none⟩ ∧ (b < n₀ ∨ ∃ cs t fr, w.heap[b]? = some (.cells cs t fr) ∧ (t = 5 ∨ t = 29 ∨ t = 33))
theorem By.bel {n₀ : Nat} {w w' : World} {o : Option Addr} {c : Nat} {l : List UInt8} (h : By n₀ w o c l) (hb : Below w.heap.size w w') : By n₀ w' o c l := ⟨h.sl.bel hb, h.len, h.cap, h.c64, fun hl => by
  obtain ⟨b, off, e, h1 | ⟨cs, t, fr, h2, h3⟩⟩ := h.at' hl
  · exact ⟨b, off, e, .inl h1⟩
  · exact ⟨b, off, e, .inr ⟨cs, t, fr, heap_bel h2 hb, h3⟩⟩⟩
/-- names' iterator, whatever the bytes. -/
theorem names_any (n₀ Bs lb c : Nat) (o : Option Addr) (l : List UInt8) (J Jx : Nat → World → Prop) (W : World)
    (hF : ∀ k W, J k W → W.cell? ⟨Bs, 0, none⟩ = some (.slice o l.length c) ∧ By n₀ W o c l)
    (hJb : ∀ k W W', J k W → Below W.heap.size W W' → J k W')
    (hY : ∀ (k n : Nat) W1, (wins l)[k]? = some n → J k W1 → YieldAt Fence.wide 0 Try.prog lb #[.int .i64 (n : Int)] W1 (YQ J Jx k)) (h0 : J 0 W) :
    CallsIn Fence.wide 0 Try.prog 61 #[.func (.yield lb) #[] #[], .pointer (some ⟨Bs, 0, none⟩)] W (ItP J Jx (wins l).length) := by
  obtain ⟨c0, hB⟩ := hF 0 W h0
  by_cases hs : l.length ≤ 15
  · have e : (wins l).length = 0 := by
      unfold wins
      rw [show l.length - 15 = 0 by omega]
      rfl
    rw [e]
    exact names_short Bs lb c o l.length hs J Jx W c0 h0
  · obtain ⟨b, off, rfl, _⟩ := hB.at' (by rintro rfl; simp at hs)
    exact names_it Bs lb b off c l J Jx W hB.len hB.cap hB.c64 (fun k W h => ⟨(hF k W h).1, (hF k W h).2.sl⟩) hJb hY h0
end Go.Proofs.Ytpjoaimbaboleaa
