/- Keys of what is no name, and of too long an identifier: both sides refuse. -/
import Derived.Test.YtpjoaimbaboleaaRk
namespace Go.Proofs.Ytpjoaimbaboleaa
open Go.RowKit Go.Shelf Go.Lib
set_option linter.unusedVariables false

section
variable {W0 w w' : World} {V R : Nat} {L0 L : List Tm}
set_option maxRecDepth 100000 in
theorem der_no (h : Ag W0 w V L) (hle : L.length ≤ 100000) (H : List UInt8) (hH : H.length = 16) (hn : ∀ k, k < L.length → H ≠ nameL k) (S : ByteArray) (o : Option Addr) (n cp : Nat) : Calls Try.prog 55 #[.pointer (some ⟨V, 0, none⟩), hv H, .string S, .slice o n cp] w fun e w' => e = .returned (.tuple #[hv z16, .int .i64 15]) ∧ Below w.heap.size w w' := by
  obtain ⟨b1, b2, b3, b4⟩ := box2 w H
  have h1 := h.go b3
  obtain ⟨G, c, M, hv'⟩ := h1.va
  have HNB : Aside _ := number_no hv' (by omega) H hH hn
  have HB2 : Aside _ := b2
  have HB3 : Aside _ := b3
  clear h h1 hv' hn b2 b3 b4
  go_enter Try.func55, Try.ntmps55
  go_wp2_with (refine ld28 rfl (.tmp 5) rfl w.heap.size rfl H b1 hH ?_)
  rw [hz28]
  generalize (w.alloc (.cells (hl H).toArray 29)).alloc (.cells (hl z16).toArray 29) = W1 at *
  refine Calls.mono HNB.out ?_
  rintro e W2 ⟨rfl, hb⟩
  have HX : Aside (W2.heap[w.heap.size + 1]? = some (.cells (hl z16).toArray 29 (0, 0))) := heap_bel HB2.out hb
  have HRS : Aside _ := setRow_heap W2 (w.heap.size + 1) _ (hl z16).toArray 29 (0, 0) HX.out
  have HBF : Aside (Below w.heap.size w (W2.setRow (w.heap.size + 1) (hl z16).toArray)) := bel_set (HB3.out.trans (hb.mono HB3.out.size)) (by omega) _
  clear hb HNB
  go_wp2_with (refine st28 rfl (.tmp 8) (.tmp 20) rfl (w.heap.size + 1) z16 rfl rfl z16 HX.out rfl rfl ?_)
  refine bodyPost_ret (v := .tuple #[hv z16, .int .i64 15]) (res_h (fn := Try.f55) (p := 8) (u := 9) rfl _ _ (w.heap.size + 1) z16 rfl HRS.out rfl) rfl ?_
  exact ⟨rfl, HBF.out⟩
set_option maxRecDepth 100000 in
theorem rder_no (h : Rs W0 w V L0 R L) (hle : L.length ≤ 100000) (H : List UInt8) (hH : H.length = 16) (hn : ∀ k, k < L.length → H ≠ nameL k) (S : ByteArray) (o : Option Addr) (n cp : Nat) : Calls Try.prog 51 #[.pointer (some ⟨R, 0, none⟩), hv H, .string S, .slice o n cp] w fun e w' => e = .returned (.tuple #[hv z16, .int .i64 15]) ∧ Below w.heap.size w w' := by
  have hbw : Below w.heap.size w ((w.alloc (.cells (hl H).toArray 28)).alloc (.cells (hl z16).toArray 28)) := (bel1 w _).alloc (by simp) _
  have HX5 : Aside (((w.alloc (.cells (hl H).toArray 28)).alloc (.cells (hl z16).toArray 28)).heap[w.heap.size]? = some (.cells (hl H).toArray 28 (0, 0))) := nth' (new' rfl)
  have HX8 : Aside (((w.alloc (.cells (hl H).toArray 28)).alloc (.cells (hl z16).toArray 28)).heap[w.heap.size + 1]? = some (.cells (hl z16).toArray 28 (0, 0))) := new' (by simp)
  obtain ⟨g, c, hv'⟩ := h.rv
  have HOF : Aside (Calls Try.prog 52 #[.pointer (some ⟨R, 0, none⟩), hv H] ((w.alloc (.cells (hl H).toArray 28)).alloc (.cells (hl z16).toArray 28)) fun e w' => e = .returned (.int .i64 (-1)) ∧ Below w.heap.size w w' ∧ w'.heap[w.heap.size + 1]? = some (.cells (hl z16).toArray 28 (0, 0))) := by
    refine (rof_c (hv'.bel hbw) (by omega) H hH).mono ?_
    rintro e w' ⟨⟨j, hj, e1, rfl⟩ | ⟨_, rfl⟩, hb⟩
    · exact absurd e1 (hn j hj)
    · exact ⟨rfl, hbw.trans (hb.mono hbw.size), heap_bel HX8.out hb⟩
  clear h hv' hbw hn
  go_enter Try.func51, Try.ntmps51
  go_wp2_with (refine ldr rfl (.tmp 5) rfl w.heap.size rfl H HX5.out hH ?_)
  rw [hz28r]
  generalize (w.alloc (.cells (hl H).toArray 28)).alloc (.cells (hl z16).toArray 28) = W1 at *
  refine Calls.mono HOF.out ?_
  rintro e W2 ⟨rfl, hb, hx⟩
  have HX : Aside (W2.heap[w.heap.size + 1]? = some (.cells (hl z16).toArray 28 (0, 0))) := hx
  have HRS : Aside _ := setRow_heap W2 (w.heap.size + 1) _ (hl z16).toArray 28 (0, 0) HX.out
  have HBF : Aside (Below w.heap.size w (W2.setRow (w.heap.size + 1) (hl z16).toArray)) := bel_set hb (by omega) _
  clear hb hx HOF
  go_wp2_with (refine str rfl (.tmp 8) (.tmp 16) rfl (w.heap.size + 1) z16 rfl rfl z16 HX.out rfl rfl ?_)
  refine bodyPost_ret (v := .tuple #[hv z16, .int .i64 15]) (res_r2 (fn := Try.f51) (p := 8) (u := 9) rfl _ _ (w.heap.size + 1) z16 rfl HRS.out rfl) rfl ?_
  exact ⟨rfl, HBF.out⟩
end
end Go.Proofs.Ytpjoaimbaboleaa
