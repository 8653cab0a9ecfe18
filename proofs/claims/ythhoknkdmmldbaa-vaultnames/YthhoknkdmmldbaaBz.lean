/- vault: behindZeros. -/
import Derived.Test.YthhoknkdmmldbaaSa
namespace Go.Proofs.Ythhoknkdmmldbaa
open Go.RowKit Go.Shelf Go.Lib
set_option linter.unusedVariables false

section
variable {ops : Array Oper} {rest : List Oper} {o : Oper} {a : Act} {w : World} {Q : Exit → Act → World → Prop}
theorem ldm28 (hgd : o.guard = none) (x : Operand) (ho : o.op = .load 28 x) (b off : Nat) (hx : a.eval x = .pointer (some ⟨b, off, none⟩)) (H : List UInt8)
    (hld : (Instr.loadAt 28 (.pointer (some ⟨b, off, none⟩))).run Try.prog w = .ok (.agg (hl H).toArray) w) (h : wpList Try.prog ops Q rest (a.put o.dst (hv H)) w) : wpList Try.prog ops Q (o :: rest) a w :=
  wpList_plain hgd fun K hK => by
    unfold Oper.wp execOp
    simp only [ho, hx, Sem.run_bind, hld, Result.andThen_ok, Sem.run_pure]
    exact hK _ _ h
theorem st64 (hgd : o.guard = none) (x y : Operand) (ho : o.op = .store 64 x y) (g : Nat) (A B : Array Value) (hx : a.eval x = .pointer (some ⟨g, 0, none⟩)) (hy : a.eval y = .agg A) (hg : w.heap[g]? = some (.cells B 64 (0, 0))) (hA : A.size = 5) (hB : B.size = 5) (h1 : A.all (·.oneCell') = true)
    (h : wpList Try.prog ops Q rest (a.put o.dst undef) (w.setRow g A)) : wpList Try.prog ops Q (o :: rest) a w :=
  wpList_store_row hgd 64 x y ho g _ hx hy 64 _ hg (i64s.trans (by simp [hA])) (by simp [hA, hB]) h1 h
end
theorem res_64 {fn : Func} {p u : Tmp} (h : fn.results = #[.cell p 64, .tmp u]) (tmps : Array Value) (w : World) (g : Nat) (A : Array Value) (hp : tmps.getD p undef = .pointer (some ⟨g, 0, none⟩))
    (hg : w.heap[g]? = some (.cells A 64 (0, 0))) (hA : A.size = 5) : (results fn tmps).run Try.prog w = .ok (.tuple #[.agg A, tmps.getD u undef]) w := by
  rw [results_cell_tmp h, hp]
  simp only [asAddr, Sem.run_pure, Result.andThen_ok, run_loadVar_row w g 64 64 _ (0, 0) _ hg u64s rfl (i64s.trans (by simp [hA]))]
theorem one5 (a b c : Int) (d e : ByteArray) : (#[.int .i64 a, .int .i64 b, .int .i64 c, .string d, .string e] : Array Value).all (·.oneCell') = true := by simp [Value.oneCell']
/-- The zero term's cells. -/
abbrev zt : Array Value := #[.int .i64 0, .int .i64 0, .int .i64 0, .string ⟨#[]⟩, .string ⟨#[]⟩]
/-- How behindZeros ends. -/
def BzP (L : List Tm) (l : List UInt8) (w : World) (e : Ending) (w' : World) : Prop :=
  ((∃ i t, L[i]? = some t ∧ l = List.replicate t.by'.size 0 ++ nameL i ∧ e = .returned (.tuple #[tv t, .bool true])) ∨ ((∀ (i : Nat) t, L[i]? = some t → l ≠ List.replicate t.by'.size 0 ++ nameL i) ∧ e = .returned (.tuple #[.agg zt, .bool false]))) ∧ Below w.heap.size w w'
section
variable {n₀ V G c M : Nat} {L : List Tm} {w : World}
set_option maxRecDepth 100000 in
/-- Too few bytes. -/
theorem bz_short (o : Option Addr) (cp : Nat) (l : List UInt8) (w : World) (hs : l.length < 16) : Calls Try.prog 49 #[.pointer (some ⟨V, 0, none⟩), .slice o l.length cp] w (BzP L l w) := by
  have HF : Aside (∀ (i : Nat) t, L[i]? = some t → l ≠ List.replicate t.by'.size 0 ++ nameL i) := by
    intro i t _ e
    have := congrArg List.length e
    simp [nameL_len] at this
    omega
  obtain ⟨NL, hNL⟩ : ∃ NL, l.length = NL := ⟨_, rfl⟩
  rw [hNL] at hs ⊢
  have i1 : IntKind.i64.wrap ((NL : Int) - 16) = (NL : Int) - 16 := by rw [IntKind.wrap_i64]; omega
  have i2 : (NL : Int) - 16 < 0 := by omega
  have i3 : decide ((NL : Int) - 16 < 0) = true := by simpa using i2
  have i4 : (NL : Int) < 16 := by omega
  clear hNL
  have hg := heap_alloc_new w (.cells zt 64)
  have HR : Aside _ := hg
  have HB : Aside _ := bel1 w (.cells zt 64)
  go_enter Try.func49, Try.ntmps49
  go_wp2
  refine bodyPost_ret (v := .tuple #[.agg zt, .bool false]) (res_64 (fn := Try.f49) (p := 4) (u := 5) rfl _ _ w.heap.size zt rfl HR.out rfl) rfl ?_
  exact ⟨.inr ⟨HF.out, rfl⟩, HB.out⟩
theorem zeros_split {l : List UInt8} {N : Nat} (hN : 16 ≤ l.length) (hat : l.length - 16 = N) (hz : ∀ j (h : j < l.length), j < N → l[j] = 0) {H : List UInt8} (hH : win l N = H) : l = List.replicate N 0 ++ H := by
  have e : win l N = l.drop N := by
    unfold win
    exact List.take_of_length_le (by simp; omega)
  rw [← hH, e]
  have : l.take N = List.replicate N 0 := by
    apply List.ext_getElem
    · simp; omega
    · intro i h1 h2
      simp at h1 h2
      simp [hz i (by omega) h2]
  rw [← this, List.take_append_drop]
theorem split_zeros {l : List UInt8} {N i : Nat} (e : l = List.replicate N 0 ++ nameL i) : l.length - 16 = N ∧ win l N = nameL i ∧ ∀ j (h : j < l.length), j < N → l[j] = 0 := by
  subst e
  refine ⟨by simp [nameL_len], ?_, fun j h hj => by simp [List.getElem_append_left, hj]⟩
  unfold win
  rw [List.drop_append_of_le_length (by simp), List.drop_of_length_le (by simp), List.nil_append]
  exact List.take_of_length_le (by rw [nameL_len]; omega)
set_option maxRecDepth 100000 in
set_option maxHeartbeats 4000000 in
theorem bz_long (h : Va n₀ w V G c M L) (hle : L.length ≤ 1000000) (b off cp : Nat) (l : List UInt8) (hS : Sl w (some ⟨b, off, none⟩) l) (h47 : l.length ≤ 140737488355328) (hcap : l.length ≤ cp) (hc64 : cp ≤ 9223372036854775807) (hs : 16 ≤ l.length) : Calls Try.prog 49 #[.pointer (some ⟨V, 0, none⟩), .slice (some ⟨b, off, none⟩) l.length cp] w (BzP L l w) := by
  have hb0 := bel1 w (.cells zt 64)
  have h0 := h.bel hb0
  have hS0 := hS.bel hb0
  obtain ⟨N, hN⟩ : ∃ N, l.length - 16 = N := ⟨_, rfl⟩
  have hld := load_win hS0 (a := N) (by omega)
  have HNU : Aside _ := number_c h0 hle (win l N) (win_len (by omega))
  have HV : Aside _ := h0
  have HS : Aside _ := hS0
  have HB0 : Aside _ := hb0
  have HR0 : Aside _ := heap_alloc_new w (.cells zt 64)
  have HNN : Aside _ := hN
  obtain ⟨NL, hNL⟩ : ∃ NL, l.length = NL := ⟨_, rfl⟩
  have HNL : Aside _ := hNL
  rw [hNL] at h47 hcap hs hN ⊢
  have e1 : NL = N + 16 := by omega
  have HLE : Aside _ := hle
  have HHS : Aside _ := hs
  subst e1
  have i1 : IntKind.i64.wrap (((N + 16 : Nat) : Int) - 16) = (N : Int) := by rw [IntKind.wrap_i64]; omega
  have i2 : ¬ (N : Int) < 0 := by omega
  have i3 : decide ((N : Int) < 0) = false := by simp
  have i5 : (0 : Int) ≤ (N : Int) := by omega
  have i6 : (N : Int) ≤ ((N + 16 : Nat) : Int) := by omega
  have i7 : (((N + 16 : Nat) : Int) - (N : Int)) = 16 := by omega
  have i8 : ((N + 16 : Nat) : Int) ≤ (cp : Int) := by omega
  have i9 : N + 16 - N = 16 := by omega
  have har := fun (w : World) => arr28 ⟨b, off + N, none⟩ (cp - N) w
  have HLD : Aside _ := hld
  clear h hS h0 hS0 hb0 hNL hN hld hle
  go_enter Try.func49, Try.ntmps49
  go_wp2_with (refine ldm28 rfl (.tmp 22) rfl b (off + N) rfl (win l N) HLD.out ?_)
  refine Calls.mono HNU.out ?_
  rintro e W1 ⟨hP, hb⟩
  have hR1 := heap_bel HR0.out hb
  have HR1 : Aside _ := hR1
  have HB1 : Aside (Below w.heap.size w W1) := HB0.out.trans (hb.mono HB0.out.size)
  have HR2 : Aside _ := setRow_heap W1 w.heap.size _ zt 64 (0, 0) hR1
  have HB2 : Aside _ := bel_set HB1.out (Nat.le_refl _) zt
  have HV1 : Aside _ := HV.out.bel hb
  have HS1 : Aside _ := Sl.bel HS.out hb
  clear HNU HLD hb HV HS HB0 HR0 har
  rcases hP with ⟨k, hk, hH, rfl⟩ | ⟨hno, rfl⟩
  · obtain ⟨t, ht⟩ : ∃ t, L[k]? = some t := ⟨L[k], by simp [hk]⟩
    have v0 := HV1.out.cV0
    have t0 : W1.cell? ⟨G, k * 5, none⟩ = some (.int .i64 (t.kd : Int)) := HV1.out.cT (j := 0) ht (by decide)
    have t1 : W1.cell? ⟨G, k * 5 + 1, none⟩ = some (.int .i64 (t.of' : Int)) := HV1.out.cT (j := 1) ht (by decide)
    have t2 : W1.cell? ⟨G, k * 5 + 2, none⟩ = some (.int .i64 t.wi) := HV1.out.cT (j := 2) ht (by decide)
    have t3 : W1.cell? ⟨G, k * 5 + 3, none⟩ = some (.string t.un) := HV1.out.cT (j := 3) ht (by decide)
    have t4 : W1.cell? ⟨G, k * 5 + 4, none⟩ = some (.string t.by') := HV1.out.cT (j := 4) ht (by decide)
    have HHH : Aside _ := hH
    have HT : Aside _ := ht
    have HUQ : Aside (∀ (i : Nat) t', L[i]? = some t' → l = List.replicate t'.by'.size 0 ++ nameL i → t' = t ∧ t'.by'.size = N) := by
      intro i t' h' e
      obtain ⟨s1, s2, _⟩ := split_zeros e
      have s3 : t'.by'.size = N := by rw [← s1]; exact HNN.out
      rw [s3, HHH.out] at s2
      have hil := (List.getElem?_eq_some_iff.1 h').1
      have := HLE.out
      have e2 : k = i := name_inj (by omega) (by omega) s2
      subst e2
      rw [h'] at ht
      injection ht with ht
      exact ⟨ht, s3⟩
    have k0 : (0 : Int) ≤ (k : Int) := by omega
    have k1 : (k : Int) < (L.length : Int) := by omega
    obtain ⟨SZ, hSZ⟩ : ∃ SZ, t.by'.size = SZ := ⟨_, rfl⟩
    have HSZ : Aside _ := hSZ
    generalize L.length = NT at *
    clear hH ht hR1
    by_cases hne : N = SZ
    · have hsz' : t.by'.size = N := by omega
      have HSN : Aside _ := hsz'
      have z1 : ((N : Int) != (N : Int)) = false := by simp
      have z2 : ¬ ((N : Int) ≠ (N : Int)) := by simp
      clear hSZ hne
      go_wp2_with fail
      go_loopg [47] (N + 1) (fun kx s47 wr => ∃ j : Nat, s47 = .int .i64 (j : Int) ∧ j ≤ N ∧ N - j ≤ kx ∧ wr = W1 ∧ Aside (∀ i (h : i < l.length), i < j → l[i] = 0))
      case atStart => exact ⟨0, rfl, by omega, by omega, rfl, fun i _ hi => by omega⟩
      case round =>
        obtain ⟨j, rfl, hj, hg, rfl, HZ⟩ := hrel
        by_cases hlt : j < N
        · have hjl : j < l.length := by have := HNL.out; omega
          obtain ⟨b', off', eb, hc⟩ := HS1.out j hjl
          have eb1 := Option.some.inj eb
          injection eb1 with eb1 eb2 eb3
          subst eb1 eb2
          have j0 : (0 : Int) ≤ (j : Int) := by omega
          have j1 : (j : Int) < (N : Int) := by omega
          have j2 : IntKind.i64.wrap ((j : Int) + 1) = ((j + 1 : Nat) : Int) := by rw [IntKind.wrap_i64]; omega
          by_cases hz : l[j] = 0
          · have HZ2 : Aside (∀ i (h : i < l.length), i < j + 1 → l[i] = 0) := by
              intro i h hi
              rcases (show i < j ∨ i = j by omega) with h1 | h1
              · exact HZ.out i h h1
              · subst h1; exact hz
            rw [hz] at hc
            clear hz eb HZ
            go_wp2
            go_roundg (N - (j + 1))
            case measure => omega
            case rel => exact ⟨j + 1, rfl, by omega, Nat.le_refl _, rfl, HZ2.out⟩
          · have HF : Aside (∀ (i : Nat) t, L[i]? = some t → l ≠ List.replicate t.by'.size 0 ++ nameL i) := by
              intro i t' h' e
              obtain ⟨_, h2⟩ := HUQ.out i t' h' e
              obtain ⟨_, _, s3⟩ := split_zeros e
              exact hz (s3 j hjl (by omega))
            have q1 : ¬ ((l[j].toNat : Int) = 0) := by
              intro h
              exact hz (by rw [← UInt8.toNat_inj]; simpa using h)
            have q2 : ((l[j].toNat : Int) != 0) = true := by simpa using q1
            clear hz eb HZ HUQ
            generalize (l[j].toNat : Int) = bj at *
            go_wp2_with (refine st64 rfl (.tmp 4) (.tmp 53) rfl w.heap.size zt zt rfl rfl HR1.out rfl rfl (one5 _ _ _ _ _) ?_)
            go_wp2
            refine bodyPost_ret (v := .tuple #[.agg zt, .bool false]) (res_64 (fn := Try.f49) (p := 4) (u := 5) rfl _ _ w.heap.size zt rfl HR2.out rfl) rfl ?_
            exact ⟨.inr ⟨HF.out, rfl⟩, HB2.out⟩
        · obtain rfl : j = N := by omega
          have hl2 : Aside (l = List.replicate t.by'.size 0 ++ nameL k) := by
            show l = _
            rw [HSN.out]
            exact zeros_split (by have := HNL.out; omega) HNN.out HZ.out HHH.out
          have HR3 : Aside _ := setRow_heap wr w.heap.size _ #[.int .i64 (t.kd : Int), .int .i64 (t.of' : Int), .int .i64 t.wi, .string t.un, .string t.by'] 64 (0, 0) HR1.out
          have HB3 : Aside _ := bel_set HB1.out (Nat.le_refl _) #[.int .i64 (t.kd : Int), .int .i64 (t.of' : Int), .int .i64 t.wi, .string t.un, .string t.by']
          go_wp2_with (refine st64 rfl (.tmp 4) (.tmp 61) rfl w.heap.size #[.int .i64 (t.kd : Int), .int .i64 (t.of' : Int), .int .i64 t.wi, .string t.un, .string t.by'] zt rfl rfl HR1.out rfl rfl (one5 _ _ _ _ _) ?_)
          go_wp2
          refine bodyPost_ret (v := .tuple #[.agg #[.int .i64 (t.kd : Int), .int .i64 (t.of' : Int), .int .i64 t.wi, .string t.un, .string t.by'], .bool true]) (res_64 (fn := Try.f49) (p := 4) (u := 5) rfl _ _ w.heap.size _ rfl HR3.out rfl) rfl ?_
          exact ⟨.inl ⟨k, t, HT.out, hl2.out, rfl⟩, HB3.out⟩
    · have HF : Aside (∀ (i : Nat) t, L[i]? = some t → l ≠ List.replicate t.by'.size 0 ++ nameL i) := by
        intro i t' h' e
        obtain ⟨rfl, h2⟩ := HUQ.out i t' h' e
        rw [HSZ.out] at h2
        exact hne h2.symm
      have z1 : ((N : Int) != (SZ : Int)) = true := by simp; omega
      have z2 : ¬ ((N : Int) = (SZ : Int)) := by omega
      clear HUQ
      go_wp2_with (refine st64 rfl (.tmp 4) (.tmp 42) rfl w.heap.size zt zt rfl rfl HR1.out rfl rfl (one5 _ _ _ _ _) ?_)
      go_wp2
      refine bodyPost_ret (v := .tuple #[.agg zt, .bool false]) (res_64 (fn := Try.f49) (p := 4) (u := 5) rfl _ _ w.heap.size zt rfl HR2.out rfl) rfl ?_
      exact ⟨.inr ⟨HF.out, rfl⟩, HB2.out⟩
  · have HF : Aside (∀ (i : Nat) t, L[i]? = some t → l ≠ List.replicate t.by'.size 0 ++ nameL i) := by
      intro i t' h' e
      obtain ⟨s1, s2, _⟩ := split_zeros e
      have s3 : t'.by'.size = N := by rw [← s1]; exact HNN.out
      rw [s3] at s2
      exact hno i (List.getElem?_eq_some_iff.1 h').1 s2
    clear hno hR1
    go_wp2_with (refine st64 rfl (.tmp 4) (.tmp 42) rfl w.heap.size zt zt rfl rfl HR1.out rfl rfl (one5 _ _ _ _ _) ?_)
    go_wp2
    refine bodyPost_ret (v := .tuple #[.agg zt, .bool false]) (res_64 (fn := Try.f49) (p := 4) (u := 5) rfl _ _ w.heap.size zt rfl HR2.out rfl) rfl ?_
    exact ⟨.inr ⟨HF.out, rfl⟩, HB2.out⟩
end
end Go.Proofs.Ythhoknkdmmldbaa
