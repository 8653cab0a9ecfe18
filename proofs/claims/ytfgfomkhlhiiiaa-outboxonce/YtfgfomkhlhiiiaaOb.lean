/- outbox: an outbox as it lies; what its looks answer. -/
import Derived.Test.YtfgfomkhlhiiiaaMrk
namespace Go.Proofs.YtfgfomkhlhiiiaaR
open Go.RowKit Go.Shelf Go.Lib Go.Maps
set_option linter.unusedVariables false

/-- Marks of at most cm puts. -/
def Mx (φ : Nat → Nat × Nat) (t : Nat) (w : World) (M cm : Nat) (V : Int → Prop) : Prop := ∃ mb fs c S, Mk φ t w M mb fs c S V ∧ c ≤ cm
/-- An outbox as it lies: its bytes lie at o. -/
structure Ob (φ : Nat → Nat × Nat) (w : World) (b A A2 cm : Nat) (o : Option Addr) (n cp : Nat) (rm base sent en : Int) (V V2 : Int → Prop) : Prop where
  hb : w.heap[b]? = some (.cells #[.int .i64 rm, .slice o n cp, .int .i64 base, .int .i64 sent, .pointer (some ⟨A, 0, none⟩), .pointer (some ⟨A2, 0, none⟩), .int .i64 en] 55 (0, 0))
  ha : Mx φ 1 w A cm V
  hl : Mx φ 2 w A2 cm V2
  hφ : (φ b).1 = 0
  ho : ∀ g, o = some ⟨g, 0, none⟩ → (φ g).1 = 0 ∧ g < w.heap.size

variable {φ : Nat → Nat × Nat} {t : Nat} {w : World} {b A A2 cm : Nat} {o : Option Addr} {n cp : Nat} {rm base sent en : Int} {V V2 : Int → Prop}

theorem Mx.below {M : Nat} (h : Mx φ t w M cm V) {w' : World} (hb : Below w.heap.size w w') : Mx φ t w' M cm V := by
  obtain ⟨mb, fs, c, S, h1, h2⟩ := h
  exact ⟨mb, fs, c, S, ⟨h1.1.keep (fun k hk _ _ => hb.block k hk), h1.2⟩, h2⟩
theorem Ob.lt (h : Ob φ w b A A2 cm o n cp rm base sent en V V2) : b < w.heap.size := (Array.getElem?_eq_some_iff.1 h.hb).1
theorem Ob.below (h : Ob φ w b A A2 cm o n cp rm base sent en V V2) {w' : World} (hb : Below w.heap.size w w') : Ob φ w' b A A2 cm o n cp rm base sent en V V2 :=
  ⟨(hb.block b h.lt).trans h.hb, h.ha.below hb, h.hl.below hb, h.hφ, fun g hg => ⟨(h.ho g hg).1, Nat.lt_of_lt_of_le (h.ho g hg).2 hb.size⟩⟩
theorem Ob.c0 (h : Ob φ w b A A2 cm o n cp rm base sent en V V2) : w.cell? ⟨b, 0, none⟩ = some (.int .i64 rm) := by simp [World.cell?, h.hb]
theorem Ob.c1 (h : Ob φ w b A A2 cm o n cp rm base sent en V V2) : w.cell? ⟨b, 1, none⟩ = some (.slice o n cp) := by simp [World.cell?, h.hb]
theorem Ob.c2 (h : Ob φ w b A A2 cm o n cp rm base sent en V V2) : w.cell? ⟨b, 2, none⟩ = some (.int .i64 base) := by simp [World.cell?, h.hb]
theorem Ob.c3 (h : Ob φ w b A A2 cm o n cp rm base sent en V V2) : w.cell? ⟨b, 3, none⟩ = some (.int .i64 sent) := by simp [World.cell?, h.hb]
theorem Ob.c4 (h : Ob φ w b A A2 cm o n cp rm base sent en V V2) : w.cell? ⟨b, 4, none⟩ = some (.pointer (some ⟨A, 0, none⟩)) := by simp [World.cell?, h.hb]
theorem Ob.c5 (h : Ob φ w b A A2 cm o n cp rm base sent en V V2) : w.cell? ⟨b, 5, none⟩ = some (.pointer (some ⟨A2, 0, none⟩)) := by simp [World.cell?, h.hb]
theorem Ob.c6 (h : Ob φ w b A A2 cm o n cp rm base sent en V V2) : w.cell? ⟨b, 6, none⟩ = some (.int .i64 en) := by simp [World.cell?, h.hb]

theorem none_ob (w : World) (b A : Nat) (c4 : w.cell? ⟨b, 4, none⟩ = some (.pointer (some ⟨A, 0, none⟩))) : Calls Try.prog 25 #[.pointer (some ⟨b, 0, none⟩)] w fun e w' => e = .returned (.bool false) ∧ w' = w := by
  go_enter Try.func25, Try.ntmps25
  go_wp2
  go_ret
  exact ⟨rfl, rfl⟩
theorem written_ob (w : World) (b n cp : Nat) (o : Option Addr) (base : Int) (c1 : w.cell? ⟨b, 1, none⟩ = some (.slice o n cp)) (c2 : w.cell? ⟨b, 2, none⟩ = some (.int .i64 base)) (h0 : 0 ≤ base) (hb : base + n ≤ 4611686018427387903) :
    Calls Try.prog 41 #[.pointer (some ⟨b, 0, none⟩)] w fun e w' => e = .returned (.int .i64 (base + n)) ∧ Below w.heap.size w w' := by
  go_enter Try.func41, Try.ntmps41
  go_wp2
  go_quiet (fail)
  go_wp2
  go_ret
  exact ⟨rfl, rfl, rfl, rfl, Nat.le_refl _, fun _ _ => rfl⟩
/-- The first that has not arrived: there is one. -/
theorem first_yes (h : Ob φ w b A A2 cm o n cp rm base sent en V V2) {m : Int} (hm : V m) (hmin : ∀ j, V j → m ≤ j) : Calls Try.prog 43 #[.pointer (some ⟨b, 0, none⟩)] w fun e w' => e = .returned (.int .i64 m) ∧ Below w.heap.size w w' := by
  have c4 := h.c4
  obtain ⟨mb, fs, c, S, hk, _⟩ := h.ha
  have HK : Aside _ := hk
  have HM : Aside (V m) := hm
  have HN : Aside (∀ j, V j → m ≤ j) := hmin
  clear h hk hm hmin
  go_enter Try.func43, Try.ntmps43
  go_wp2_with fail
  refine (any_c HK.out).mono ?_
  rintro e w' ⟨bb, rfl, rfl, hbb⟩
  obtain rfl : bb = true := hbb.out.2 ⟨m, HM.out⟩
  clear hbb
  go_wp2_with fail
  refine (least_c HK.out HM.out HN.out).mono ?_
  rintro e w1 ⟨rfl, hb1⟩
  have HB : Aside _ := hb1
  clear hb1
  go_wp2
  go_ret
  exact ⟨rfl, HB.out⟩
/-- There is none. -/
theorem first_no (h : Ob φ w b A A2 cm o n cp rm base sent en V V2) (hno : ∀ j, ¬ V j) : Calls Try.prog 43 #[.pointer (some ⟨b, 0, none⟩)] w fun e w' => e = .returned (.int .i64 sent) ∧ Below w.heap.size w w' := by
  have c4 := h.c4
  have c3 := h.c3
  obtain ⟨mb, fs, c, S, hk, _⟩ := h.ha
  have HK : Aside _ := hk
  have HN : Aside (∀ j, ¬ V j) := hno
  clear h hk hno
  go_enter Try.func43, Try.ntmps43
  go_wp2_with fail
  refine (any_c HK.out).mono ?_
  rintro e w' ⟨bb, rfl, rfl, hbb⟩
  obtain rfl : bb = false := by
    cases bb
    · rfl
    · obtain ⟨j, hj⟩ := hbb.out.1 rfl
      exact absurd hj (HN.out j)
  clear hbb
  go_wp2
  go_ret
  exact ⟨rfl, Below.refl _ _⟩
/-- The least that has not arrived, or what was sent. -/
def Fst (V : Int → Prop) (sent m : Int) : Prop := (V m ∧ ∀ j, V j → m ≤ j) ∨ ((∀ j, ¬ V j) ∧ m = sent)
theorem first_ob (h : Ob φ w b A A2 cm o n cp rm base sent en V V2) {m : Int} (hm : Fst V sent m) : Calls Try.prog 43 #[.pointer (some ⟨b, 0, none⟩)] w fun e w' => e = .returned (.int .i64 m) ∧ Below w.heap.size w w' := by
  rcases hm with ⟨h1, h2⟩ | ⟨h1, rfl⟩
  · exact first_yes h h1 h2
  · exact first_no h h1
theorem kept_ob (h : Ob φ w b A A2 cm o n cp rm base sent en V V2) {m : Int} (hm : Fst V sent m) (h0 : 0 ≤ base) (hb : base + n ≤ 4611686018427387903) (h1 : 0 ≤ m) (h2 : m ≤ base + n) : Calls Try.prog 26 #[.pointer (some ⟨b, 0, none⟩)] w fun e w' => e = .returned (.int .i64 (base + n - m)) ∧ Below w.heap.size w w' := by
  have H : Aside _ := h
  have HM : Aside _ := hm
  have hw := written_ob w b n cp o base h.c1 h.c2 h0 hb
  clear h hm
  go_enter Try.func26, Try.ntmps26
  go_wp2_with fail
  refine hw.mono ?_
  rintro e w1 ⟨rfl, hb1⟩
  have HB1 : Aside _ := hb1
  have hf := first_ob (H.out.below hb1) HM.out
  clear hb1 hw
  go_wp2_with fail
  refine hf.mono ?_
  rintro e w2 ⟨rfl, hb2⟩
  have HB2 : Aside (Below w.heap.size w w2) := HB1.out.trans (hb2.mono HB1.out.size)
  clear hb2 hf
  go_wp2
  go_ret
  exact ⟨rfl, HB2.out⟩

end Go.Proofs.YtfgfomkhlhiiiaaR
