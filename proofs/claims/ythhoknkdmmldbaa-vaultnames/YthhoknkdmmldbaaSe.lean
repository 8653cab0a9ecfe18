/- vault: sealer, sealedText. -/
import Derived.Test.YthhoknkdmmldbaaCt
namespace Go.Proofs.Ythhoknkdmmldbaa
open Go.RowKit Go.Shelf Go.Lib
set_option linter.unusedVariables false

theorem u64s : Try.prog.underlying 64 = some (.struct (Try.prog.fieldsOf 64)) := by kernel_rfl
theorem i64s : (Try.prog.info? 64).map (·.size) = some 5 := by kernel_rfl
section
variable {n₀ V G c M : Nat} {L : List Tm} {w : World}
set_option maxRecDepth 100000 in
theorem sealer_yes (h : Va n₀ w V G c M L) (hle : L.length ≤ 1000000) (k : Nat) (hk : k < L.length) (n : Int) (hn : 0 ≤ n) : Calls Try.prog 47 #[.pointer (some ⟨V, 0, none⟩), hv (nameL k), .int .i64 n] w fun e w' => e = .returned (.tuple #[.int .i64 (k : Int), .int .i64 0]) ∧ Below w.heap.size w w' := by
  obtain ⟨b1, b3⟩ := box1 w (nameL k)
  have h1 := h.bel b3
  have HNB : Aside _ := number_yes h1 hle k hk
  have HB : Aside _ := b3
  have i1 : ¬ n < 0 := by omega
  have i2 : decide (n < 0) = false := by simpa using i1
  have hs := nameL_len k
  clear h1 h b3
  go_enter Try.func47, Try.ntmps47
  go_wp2_with (refine ld28 rfl (.tmp 4) rfl w.heap.size rfl (nameL k) b1 hs ?_)
  refine Calls.mono HNB.out ?_
  rintro e W2 ⟨rfl, hb⟩
  have HB2 : Aside (Below w.heap.size w W2) := HB.out.trans (hb.mono HB.out.size)
  clear hb
  go_wp2
  go_ret2
  exact ⟨rfl, HB2.out⟩
set_option maxRecDepth 100000 in
theorem sealedText_c (k : Nat) (n : Int) (o : Option Addr) (cp : Nat) (l : List UInt8) (S : ByteArray) (w : World) (hS : Sl w o l) : Calls Try.prog 48 #[.int .i64 (k : Int), .int .i64 n, .slice o l.length cp, .string S] w fun e w' => e = .returned (tv ⟨6, k, n, ⟨l.toArray⟩, S⟩) ∧ Below w.heap.size w w' := by
  have hcv := conv_bytes (hS.bel (bel1 w (.cells #[.int .i64 0, .int .i64 0, .int .i64 0, .string ⟨#[]⟩, .string ⟨#[]⟩] 64))) cp
  rw [tv_sea]
  generalize l.length = NL at *
  go_enter Try.func48, Try.ntmps48
  go_wp2
  refine bodyPost_ret (v := .agg #[.int .i64 6, .int .i64 (k : Int), .int .i64 n, .string ⟨l.toArray⟩, .string S]) (results_cell_row (fn := Try.f48) (p := 8) rfl _ _ w.heap.size 64 _ (0, 0) _ rfl (heap_alloc_new w _) u64s rfl i64s) rfl ?_
  exact ⟨rfl, bel1 w _⟩
end
end Go.Proofs.Ythhoknkdmmldbaa
