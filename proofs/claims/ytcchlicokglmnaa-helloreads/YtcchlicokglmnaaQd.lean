/- The reference's reading of a body: bytes. The reference's reading: handle, short, flags. The reference's reading: short, flags, long. The reference's Read: a message and a reading side by side. -/
import Derived.Test.YtcchlicokglmnaaBh
import Derived.Laws.OwnMore
import Derived.Deep.MidRow
import Derived.Test.YtcchlicokglmnaaDq
import Derived.Test.YtcchlicokglmnaaMc
namespace Go.Proofs.Ytcchlicokglmnaa
open Go.ChangeShapes Go.WideShapes Go.ChangeAt Go.RowKit Go.Lib
set_option linter.unusedVariables false

/-- The reference's reading as it lies in block p. -/
structure Rq (w : World) (p : Nat) (o : Option Addr) (L : List UInt8) (c : Nat) (s : Sd) : Prop where
  row : w.heap[p]? = some (.cells #[.slice o L.length c, .int .i64 (s.2 : Int), .bool s.1] 69 (0, 0))
  sl : Sl w o L
  le : s.2 ≤ L.length
  cap : L.length ≤ c
  big : c ≤ 9223372036854775807
  few : L.length ≤ 16777216
  ap : ∀ a, o = some a → L ≠ [] → a.block ≠ p
  nil : o = none → L.length = 0 ∧ c = 0
theorem sl_sub {X : World} {o : Option Addr} {L : List UInt8} {c sa n : Nat} (h : Sl X o L) (hle : sa + n ≤ L.length) (hc : L.length ≤ c) (hnil : o = none → L.length = 0 ∧ c = 0) :
    Sl X (if c = sa then o else o.map (fun x => x.add sa)) (sub L sa n) ∧ ((if c = sa then o else o.map (fun x => x.add sa)) = none → (sub L sa n).length = 0 ∧ c - sa = 0) := by
  have hl : (sub L sa n).length = n := by simp [sub]; omega
  constructor
  · intro j hj
    rw [hl] at hj
    obtain ⟨b, off, e, hcell⟩ := h (sa + j) (by omega)
    rw [if_neg (by omega), e]
    refine ⟨b, off + sa, ?_, ?_⟩
    · simp [Addr.add_mid]
    · rw [Nat.add_assoc, hcell]
      simp [sub]
  · intro e
    rw [hl]
    split at e
    · have := hnil e; omega
    · rw [Option.map_eq_none_iff] at e
      have := hnil e
      omega
theorem hidE {p : Prop} (h : p) : Hid p := h
section
variable {w w' : World} {p : Nat} {o : Option Addr} {L : List UInt8} {c : Nat} {s : Sd}
theorem Rq.c0 (h : Rq w p o L c s) : w.cell? ⟨p, 0, none⟩ = some (.slice o L.length c) := by unfold World.cell?; rw [h.row]; rfl
theorem Rq.c1 (h : Rq w p o L c s) : w.cell? ⟨p, 1, none⟩ = some (.int .i64 (s.2 : Int)) := by unfold World.cell?; rw [h.row]; rfl
theorem Rq.c2 (h : Rq w p o L c s) : w.cell? ⟨p, 2, none⟩ = some (.bool s.1) := by unfold World.cell?; rw [h.row]; rfl
theorem Rq.fr (h : Rq w p o L c s) (j : Nat) : w.frozen? ⟨p, j, none⟩ = false := by unfold World.frozen?; rw [h.row]; simp
theorem Rq.set2 (h : Rq w p o L c s) (x : Bool) : Rq (w.setCell ⟨p, 2, none⟩ (.bool x)) p o L c (x, s.2) :=
  ⟨by rw [heap_setCell_same w p 2 _ 69 _ h.row]; rfl, (Gs.set (K := fun k => k = p) (.bool x) rfl).sl h.sl h.ap, h.le, h.cap, h.big, h.few, h.ap, h.nil⟩
theorem Rq.set1 (h : Rq w p o L c s) (x : Nat) (hx : x ≤ L.length) : Rq (w.setCell ⟨p, 1, none⟩ (.int .i64 (x : Int))) p o L c (s.1, x) :=
  ⟨by rw [heap_setCell_same w p 1 _ 69 _ h.row]; rfl, (Gs.set (K := fun k => k = p) (.int .i64 (x : Int)) rfl).sl h.sl h.ap, hx, h.cap, h.big, h.few, h.ap, h.nil⟩
theorem Rq.bel (h : Rq w p o L c s) (hb : Below w.heap.size w w') : Rq w' p o L c s :=
  ⟨(hb.block p (lt_block h.row)).trans h.row, Sl_bel h.sl hb, h.le, h.cap, h.big, h.few, h.ap, h.nil⟩
theorem Rq.drew (h : Rq w p o L c s) : Rq w.drew p o L c s := h.bel (bld w)
/-- Bytes read by the reference. -/
def rT (L : List UInt8) (n : Nat) (s : Sd) : Sd × List UInt8 := if s.1 = true ∨ L.length < s.2 + n then ((true, s.2), List.replicate n 0) else ((false, s.2 + n), sub L s.2 n)
theorem rT_len (n : Nat) (hs : s.2 ≤ L.length) : (rT L n s).2.length = n := by
  unfold rT
  split
  · simp
  · rename_i h
    simp [sub]
    omega
/-- What bytes leaves. -/
def RbR (p : Nat) (o : Option Addr) (L : List UInt8) (c n : Nat) (s : Sd) (w : World) (e : Ending) (w' : World) : Prop :=
  ∃ o' c', e = .returned (.slice o' n c') ∧ By w.heap.size w' (.slice o' n c') (rT L n s).2 ∧ Rq w' p o L c (rT L n s).1 ∧ Gs (fun k => k = p) w w'
theorem made_by {X w1 : World} {base n : Nat} (hn : n ≤ 1000000) (h : w1.ownsRow base 5 1 (.slice (some ⟨X.heap.size, 0, none⟩) n n) n (madeCells (Value.int .u8 0).cells (n * 1)).toList) (hb : base ≤ X.heap.size) : By base w1 (.slice (some ⟨X.heap.size, 0, none⟩) n n) (List.replicate n 0) := by
  have h1 := lay_made h
  have := own_of h1 hb (by simpa using hn)
  unfold By
  simpa using this
set_option maxRecDepth 100000 in
set_option maxHeartbeats 1000000 in
theorem rbytes_c (n : Nat) (hn : n ≤ 70000) (h : Rq w p o L c s) : Calls Try.prog 26 #[.pointer (some ⟨p, 0, none⟩), .int .i64 (n : Int)] w (RbR p o L c n s w) := by
  have hfew := h.few
  have hle := h.le
  have HW : Hid (Rq w.drew p o L c s) := h.drew
  have HG0 : Hid (Gs (fun k => k = p) w w.drew) := Gs.of_below (bld w)
  have HW0 : Hid (w.drew.heap.size = w.heap.size) := rfl
  have sw : wrap64 ((L.length : Int) - (s.2 : Int)) = (L.length : Int) - (s.2 : Int) := by unfold wrap64; omega
  have sw' : IntKind.i64.wrap ((L.length : Int) - (s.2 : Int)) = (L.length : Int) - (s.2 : Int) := by rw [IntKind.wrap_i64]; omega
  clear h
  go_enter Try.func26, Try.ntmps26
  go_wp2_with fail
  refine wp_region_held_drew (S := fun X => Rq X p o L c s) (by kernel_rfl) HW.out (fun hHeld => ?_)
  generalize w.drew = X at *
  refine wpAnyH_take (i := 0) (v := .pointer (some ⟨p, 0, none⟩)) rfl (by kernel_rfl) (by kernel_rfl) (by kernel_rfl) (fun _ _ _ h => h) (Or.inl ⟨by rfl, by intro w hs; go_simp⟩) hHeld ?_
  refine norm_any' (fun K hK => ?_)
  go_simp
  refine hK _ _ ?_
  clear hK K
  refine wpAnyH_take (i := 1) (v := .pointer (some ⟨p, 0, none⟩)) rfl (by kernel_rfl) (by kernel_rfl) (by kernel_rfl) (fun _ _ _ h => h) (Or.inl ⟨by rfl, by intro w hs; go_simp⟩) hHeld ?_
  refine norm_any' (fun K hK => ?_)
  go_simp
  refine hK _ _ ?_
  clear hK K
  refine wpAnyH_take (i := 2) (v := .pointer (some ⟨p, 0, none⟩)) rfl (by kernel_rfl) (by kernel_rfl) (by kernel_rfl) (fun _ _ _ h => h) (Or.inl ⟨by rfl, by intro w hs; go_simp⟩) hHeld ?_
  refine norm_any' (fun K hK => ?_)
  go_simp
  refine hK _ _ ?_
  clear hK K
  refine wpAnyH_take (i := 3) (v := .slice o L.length c) rfl (by kernel_rfl) (by kernel_rfl) (by kernel_rfl) (fun _ _ _ h => h) (Or.inl ⟨by rfl, by intro w hs; have q := Rq.c0 hs; go_simp⟩) hHeld ?_
  refine norm_any' (fun K hK => ?_)
  go_simp
  refine hK _ _ ?_
  clear hK K
  refine wpAnyH_take (i := 4) (v := .int .i64 (L.length : Int)) rfl (by kernel_rfl) (by kernel_rfl) (by kernel_rfl) (fun _ _ _ h => h) (Or.inl ⟨by rfl, by intro w hs; go_simp⟩) hHeld ?_
  refine norm_any' (fun K hK => ?_)
  go_simp
  refine hK _ _ ?_
  clear hK K
  refine wpAnyH_take (i := 5) (v := .pointer (some ⟨p, 0, none⟩)) rfl (by kernel_rfl) (by kernel_rfl) (by kernel_rfl) (fun _ _ _ h => h) (Or.inl ⟨by rfl, by intro w hs; go_simp⟩) hHeld ?_
  refine norm_any' (fun K hK => ?_)
  go_simp
  refine hK _ _ ?_
  clear hK K
  refine wpAnyH_take (i := 6) (v := .pointer (some ⟨p, 0, none⟩)) rfl (by kernel_rfl) (by kernel_rfl) (by kernel_rfl) (fun _ _ _ h => h) (Or.inl ⟨by rfl, by intro w hs; go_simp⟩) hHeld ?_
  refine norm_any' (fun K hK => ?_)
  go_simp
  refine hK _ _ ?_
  clear hK K
  refine wpAnyH_take (i := 7) (v := .pointer (some ⟨p, 1, none⟩)) rfl (by kernel_rfl) (by kernel_rfl) (by kernel_rfl) (fun _ _ _ h => h) (Or.inl ⟨by rfl, by intro w hs; go_simp⟩) hHeld ?_
  refine norm_any' (fun K hK => ?_)
  go_simp
  refine hK _ _ ?_
  clear hK K
  refine wpAnyH_take (i := 8) (v := .int .i64 (s.2 : Int)) rfl (by kernel_rfl) (by kernel_rfl) (by kernel_rfl) (fun _ _ _ h => h) (Or.inl ⟨by rfl, by intro w hs; have q := Rq.c1 hs; go_simp⟩) hHeld ?_
  refine norm_any' (fun K hK => ?_)
  go_simp
  refine hK _ _ ?_
  clear hK K
  refine wpAnyH_take (i := 9) (v := .int .i64 ((L.length : Int) - (s.2 : Int))) rfl (by kernel_rfl) (by kernel_rfl) (by kernel_rfl) (fun _ _ _ h => h) (Or.inl ⟨by rfl, by intro w hs; go_simp⟩) hHeld ?_
  refine norm_any' (fun K hK => ?_)
  go_simp
  refine hK _ _ ?_
  clear hK K
  refine wpAnyH_take (i := 10) (v := .int .i64 (n : Int)) rfl (by kernel_rfl) (by kernel_rfl) (by kernel_rfl) (fun _ _ _ h => h) (Or.inl ⟨by rfl, by intro w hs; go_simp⟩) hHeld ?_
  refine norm_any' (fun K hK => ?_)
  go_simp
  refine hK _ _ ?_
  clear hK K
  refine wpAnyH_take (i := 11) (v := .bool (decide ((L.length : Int) - (s.2 : Int) < (n : Int)))) rfl (by kernel_rfl) (by kernel_rfl) (by kernel_rfl) (fun _ _ _ h => h) (Or.inl ⟨by rfl, by intro w hs; go_simp⟩) hHeld ?_
  refine norm_any' (fun K hK => ?_)
  go_simp
  refine hK _ _ ?_
  clear hK K
  refine wpAnyH_done (by kernel_rfl) ?_ _
  clear hHeld
  obtain ⟨i0, hi, hz0, hz1, hz2⟩ := info_parts info5
  by_cases hsh : L.length < s.2 + n
  · have d1 : decide ((L.length : Int) - (s.2 : Int) < (n : Int)) = true := by simp; omega
    have d1' : (L.length : Int) - (s.2 : Int) < (n : Int) := by omega
    have q2 := HW.out.c2
    have f2 := HW.out.fr 2
    have HT : Hid (rT L n s = ((true, s.2), List.replicate n 0)) := by show _ = _; unfold rT; rw [if_pos (.inr hsh)]
    have HR1 : Hid _ := HW.out.set2 true
    have HG1 : Hid (Gs (fun k => k = p) w (X.setCell ⟨p, 2, none⟩ (.bool true))) := HG0.out.trans (Gs.set (.bool true) rfl)
    have hsz : (X.setCell ⟨p, 2, none⟩ (.bool true)).heap.size = X.heap.size := by simp
    clear hsh HG0
    as_aux_lemma =>
    go_wp2_with (at_make; refine wpList_make_full _ rfl _ _ 25 rfl X.heap.size 5 i0 (.int .u8 0) 1 Try.underlying25 hi hz0 hz1 .i64 .i64 _ _ n rfl rfl rfl rfl (by rw [hz2]; omega) (by unfold maxLen; omega) (by rw [hsz]; exact Nat.le_refl _) ?_; intro w1 hown hgrow; have HO := hidE hown; have HGR := hidE hgrow; clear hown hgrow)
    go_ret
    have hb : Below X.heap.size (X.setCell ⟨p, 2, none⟩ (.bool true)) w1 := by rw [← hsz]; exact (Below.refl _ _).grown HGR.out (Nat.le_refl _) (by intro k hk; cases hk)
    have hb' : Below (X.setCell ⟨p, 2, none⟩ (.bool true)).heap.size (X.setCell ⟨p, 2, none⟩ (.bool true)) w1 := by rw [hsz]; exact hb
    have hby := made_by (X := X.setCell ⟨p, 2, none⟩ (.bool true)) (base := X.heap.size) (by omega) HO.out (by rw [hsz]; exact Nat.le_refl _)
    rw [hsz] at hby
    refine ⟨_, _, rfl, ?_, ?_, HG1.out.trans (Gs.of_below hb')⟩
    · rw [HT.out, ← HW0.out]; exact hby
    · rw [HT.out]; exact HR1.out.bel hb'
  · have d1 : decide ((L.length : Int) - (s.2 : Int) < (n : Int)) = false := by simp; omega
    have d1' : ¬ (L.length : Int) - (s.2 : Int) < (n : Int) := by omega
    obtain ⟨sb, sa⟩ := s
    have q2 := HW.out.c2
    cases sb with
    | true =>
      have HT : Hid (rT L n (true, sa) = ((true, sa), List.replicate n 0)) := by show _ = _; unfold rT; rw [if_pos (.inl rfl)]
      clear hsh
      as_aux_lemma =>
      go_wp2_with (at_make; refine wpList_make_full _ rfl _ _ 25 rfl X.heap.size 5 i0 (.int .u8 0) 1 Try.underlying25 hi hz0 hz1 .i64 .i64 _ _ n rfl rfl rfl rfl (by rw [hz2]; omega) (by unfold maxLen; omega) (Nat.le_refl _) ?_; intro w1 hown hgrow; have HO := hidE hown; have HGR := hidE hgrow; clear hown hgrow)
      go_ret
      have hb : Below X.heap.size X w1 := (Below.refl _ _).grown HGR.out (Nat.le_refl _) (by intro k hk; cases hk)
      have hby := made_by (X := X) (base := X.heap.size) (by omega) HO.out (Nat.le_refl _)
      refine ⟨_, _, rfl, ?_, ?_, HG0.out.trans (Gs.of_below hb)⟩
      · rw [HT.out, ← HW0.out]; exact hby
      · rw [HT.out]; exact HW.out.bel hb
    | false =>
      have HT : Hid (rT L n (false, sa) = ((false, sa + n), sub L sa n)) := by show _ = _; unfold rT; rw [if_neg (by simp; omega)]
      have q1 := HW.out.c1
      have f1 := HW.out.fr 1
      have ec : ((sa + n : Nat) : Int) = (sa : Int) + (n : Int) := by omega
      have aw : wrap64 ((sa : Int) + (n : Int)) = ((sa + n : Nat) : Int) := by unfold wrap64; omega
      have HR1 : Hid _ := HW.out.set1 (sa + n) (by omega)
      have HG1 : Hid (Gs (fun k => k = p) w (X.setCell ⟨p, 1, none⟩ (.int .i64 ((sa + n : Nat) : Int)))) := HG0.out.trans (Gs.set _ rfl)
      have HLE : Hid (sa + n ≤ L.length) := by show _ ≤ _; omega
      clear HG0 hsh
      as_aux_lemma =>
      go_wp2_with fail
      rw [ec] at HR1 HG1
      have HD : Hid _ := HR1.out.drew
      have HG2 : Hid _ := HG1.out.trans (Gs.of_below (bld _))
      have HSZ : Hid ((X.setCell ⟨p, 1, none⟩ (.int .i64 ((sa : Int) + (n : Int)))).drew.heap.size = w.heap.size) := by show (X.setCell _ _).heap.size = _; simp; exact HW0.out
      clear HR1 HG1
      refine wp_region_held_drew (S := fun X => Rq X p o L c (false, sa + n)) (by kernel_rfl) HD.out (fun hHeld => ?_)
      generalize (X.setCell ⟨p, 1, none⟩ (.int .i64 ((sa : Int) + (n : Int)))).drew = Y at *
      have hcc := HD.out.cap
      have nw : wrap64 ((sa : Int) + (n : Int) - (n : Int)) = (sa : Int) := by unfold wrap64; omega
      have nw' : IntKind.i64.wrap ((sa : Int) + (n : Int) - (n : Int)) = (sa : Int) := by rw [IntKind.wrap_i64]; omega
      obtain ⟨sl1, sl2⟩ := sl_sub (sa := sa) (n := n) HD.out.sl HLE.out hcc HD.out.nil
      obtain ⟨o2, ho2⟩ : ∃ o2, (if c = sa then o else o.map (fun x => x.add sa)) = o2 := ⟨_, rfl⟩
      rw [ho2] at sl1 sl2
      have HO2 : Hid _ := ho2
      have hb4 := bl1 Y (.cells #[] 5)
      have hsl : (sub L sa n).length = n := by have := HLE.out; simp [sub]; omega
      obtain ⟨o5, c5, X5, r5, b5, g5⟩ := app_g (n := Y.heap.size) (X := Y.alloc (.cells #[] 5)) (o := some ⟨Y.heap.size, 0, none⟩) (c := 0) (l := []) (World.ownsRow_made Y #[] 0 (Nat.le_refl _) (by decide) rfl) hb4.size _ (c - sa) (sub L sa n) (Sl_bel sl1 hb4) sl2 (by rw [hsl]; simp; omega)
      rw [List.nil_append, hsl] at r5 b5
      have hbb : Below Y.heap.size Y X5 := hb4.trans (g5.below hb4.size (Nat.le_refl _))
      have HRZ : Hid (Rq X5 p o L c (false, sa + n)) := HD.out.bel hbb
      have HBB : Hid (Below Y.heap.size Y X5) := hbb
      have HB5 : Hid (By Y.heap.size X5 (.slice o5 n c5) (sub L sa n)) := b5
      have R5 : Hid _ := r5
      clear sl1 sl2 hb4 r5 b5 g5 hbb ho2
      refine wpAnyH_take (i := 1) (v := .pointer (some ⟨p, 0, none⟩)) rfl (by kernel_rfl) (by kernel_rfl) (by kernel_rfl) (fun _ _ _ h => h) (Or.inl ⟨by rfl, by intro w hs; go_simp⟩) hHeld ?_
      refine norm_any' (fun K hK => ?_)
      go_simp
      refine hK _ _ ?_
      clear hK K
      refine wpAnyH_take (i := 2) (v := .pointer (some ⟨p, 0, none⟩)) rfl (by kernel_rfl) (by kernel_rfl) (by kernel_rfl) (fun _ _ _ h => h) (Or.inl ⟨by rfl, by intro w hs; go_simp⟩) hHeld ?_
      refine norm_any' (fun K hK => ?_)
      go_simp
      refine hK _ _ ?_
      clear hK K
      refine wpAnyH_take (i := 3) (v := .pointer (some ⟨p, 0, none⟩)) rfl (by kernel_rfl) (by kernel_rfl) (by kernel_rfl) (fun _ _ _ h => h) (Or.inl ⟨by rfl, by intro w hs; go_simp⟩) hHeld ?_
      refine norm_any' (fun K hK => ?_)
      go_simp
      refine hK _ _ ?_
      clear hK K
      refine wpAnyH_take (i := 4) (v := .slice o L.length c) rfl (by kernel_rfl) (by kernel_rfl) (by kernel_rfl) (fun _ _ _ h => h) (Or.inl ⟨by rfl, by intro w hs; have q := Rq.c0 hs; go_simp⟩) hHeld ?_
      refine norm_any' (fun K hK => ?_)
      go_simp
      refine hK _ _ ?_
      clear hK K
      refine wpAnyH_take (i := 5) (v := .pointer (some ⟨p, 0, none⟩)) rfl (by kernel_rfl) (by kernel_rfl) (by kernel_rfl) (fun _ _ _ h => h) (Or.inl ⟨by rfl, by intro w hs; go_simp⟩) hHeld ?_
      refine norm_any' (fun K hK => ?_)
      go_simp
      refine hK _ _ ?_
      clear hK K
      refine wpAnyH_take (i := 6) (v := .pointer (some ⟨p, 0, none⟩)) rfl (by kernel_rfl) (by kernel_rfl) (by kernel_rfl) (fun _ _ _ h => h) (Or.inl ⟨by rfl, by intro w hs; go_simp⟩) hHeld ?_
      refine norm_any' (fun K hK => ?_)
      go_simp
      refine hK _ _ ?_
      clear hK K
      refine wpAnyH_take (i := 7) (v := .pointer (some ⟨p, 1, none⟩)) rfl (by kernel_rfl) (by kernel_rfl) (by kernel_rfl) (fun _ _ _ h => h) (Or.inl ⟨by rfl, by intro w hs; go_simp⟩) hHeld ?_
      refine norm_any' (fun K hK => ?_)
      go_simp
      refine hK _ _ ?_
      clear hK K
      refine wpAnyH_take (i := 8) (v := .int .i64 ((sa : Int) + (n : Int))) rfl (by kernel_rfl) (by kernel_rfl) (by kernel_rfl) (fun _ _ _ h => h) (Or.inl ⟨by rfl, by intro w hs; have q := Rq.c1 hs; go_simp⟩) hHeld ?_
      refine norm_any' (fun K hK => ?_)
      go_simp
      refine hK _ _ ?_
      clear hK K
      refine wpAnyH_take (i := 9) (v := .int .i64 (n : Int)) rfl (by kernel_rfl) (by kernel_rfl) (by kernel_rfl) (fun _ _ _ h => h) (Or.inl ⟨by rfl, by intro w hs; go_simp⟩) hHeld ?_
      refine norm_any' (fun K hK => ?_)
      go_simp
      refine hK _ _ ?_
      clear hK K
      refine wpAnyH_take (i := 10) (v := .int .i64 (sa : Int)) rfl (by kernel_rfl) (by kernel_rfl) (by kernel_rfl) (fun _ _ _ h => h) (Or.inl ⟨by rfl, by intro w hs; go_simp; rw [IntKind.wrap_i64]; omega⟩) hHeld ?_
      refine norm_any' (fun K hK => ?_)
      go_simp
      refine hK _ _ ?_
      clear hK K
      refine wpAnyH_take (i := 11) (v := .pointer (some ⟨p, 0, none⟩)) rfl (by kernel_rfl) (by kernel_rfl) (by kernel_rfl) (fun _ _ _ h => h) (Or.inl ⟨by rfl, by intro w hs; go_simp⟩) hHeld ?_
      refine norm_any' (fun K hK => ?_)
      go_simp
      refine hK _ _ ?_
      clear hK K
      refine wpAnyH_take (i := 12) (v := .pointer (some ⟨p, 0, none⟩)) rfl (by kernel_rfl) (by kernel_rfl) (by kernel_rfl) (fun _ _ _ h => h) (Or.inl ⟨by rfl, by intro w hs; go_simp⟩) hHeld ?_
      refine norm_any' (fun K hK => ?_)
      go_simp
      refine hK _ _ ?_
      clear hK K
      refine wpAnyH_take (i := 13) (v := .pointer (some ⟨p, 1, none⟩)) rfl (by kernel_rfl) (by kernel_rfl) (by kernel_rfl) (fun _ _ _ h => h) (Or.inl ⟨by rfl, by intro w hs; go_simp⟩) hHeld ?_
      refine norm_any' (fun K hK => ?_)
      go_simp
      refine hK _ _ ?_
      clear hK K
      refine wpAnyH_take (i := 14) (v := .int .i64 ((sa : Int) + (n : Int))) rfl (by kernel_rfl) (by kernel_rfl) (by kernel_rfl) (fun _ _ _ h => h) (Or.inl ⟨by rfl, by intro w hs; have q := Rq.c1 hs; go_simp⟩) hHeld ?_
      refine norm_any' (fun K hK => ?_)
      go_simp
      refine hK _ _ ?_
      clear hK K
      refine wpAnyH_take (i := 15) (v := .slice o2 n (c - sa)) rfl (by kernel_rfl) (by kernel_rfl) (by kernel_rfl) (fun _ _ _ h => h) (Or.inl ⟨by rfl, by intro w hs; go_simp; rw [if_pos (by have := HLE.out; omega), if_pos (by omega), show ((sa : Int) + (n : Int)).toNat - sa = n by omega, HO2.out]⟩) hHeld ?_
      refine norm_any' (fun K hK => ?_)
      go_simp
      refine hK _ _ ?_
      clear hK K
      refine wpAnyH_ready (rs := [0]) (by kernel_rfl) (by simp) (AllReadyH.cons rfl (fun K hK => ?_) AllReadyH.nil)
      go_simp
      have HYB : Hid _ := HD.out.bel (bl1 Y (.cells #[] 5))
      refine hK.out _ _ HYB.out (fun hHeld => ?_)
      clear hK K
      refine norm_any' (fun K hK => ?_)
      go_simp
      refine hK _ _ ?_
      clear hK K
      refine wpAnyH_ready (rs := [16]) (by kernel_rfl) (by simp) (AllReadyH.cons rfl (fun K hK => ?_) AllReadyH.nil)
      refine step_appr rfl _ _ 25 25 rfl _ _ (by rfl) (by rfl) R5.out ?_
      have HZ : Hid _ := HRZ.out
      refine hK.out _ _ HZ.out (fun hHeld => ?_)
      clear hK K
      refine norm_any' (fun K hK => ?_)
      go_simp
      refine hK _ _ ?_
      clear hK K
      refine wpAnyH_take (i := 17) (v := .slice o5 n c5) rfl (by kernel_rfl) (by kernel_rfl) (by kernel_rfl) (fun _ _ _ h => h) (Or.inl ⟨by rfl, by intro w hs; go_simp⟩) hHeld ?_
      refine norm_any' (fun K hK => ?_)
      go_simp
      refine hK _ _ ?_
      clear hK K
      refine wpAnyH_done (by kernel_rfl) ?_ _
      clear hHeld
      go_wp2_with fail
      go_ret
      refine ⟨_, _, rfl, ?_, ?_, HG2.out.trans (Gs.of_below HBB.out)⟩
      · rw [HT.out, ← HSZ.out]; exact HB5.out
      · rw [HT.out]; exact HRZ.out
end
end Go.Proofs.Ytcchlicokglmnaa
namespace Go.Proofs.Ytcchlicokglmnaa
open Go.ChangeShapes Go.WideShapes Go.ChangeAt Go.RowKit Go.Lib
set_option linter.unusedVariables false

theorem By.at {B : Nat} {X : World} {o : Option Addr} {n c : Nat} {T : List UInt8} (h : By B X (.slice o n c) T) (i : Nat) (hi : i < T.length) : ∃ g, o = some ⟨g, 0, none⟩ ∧ X.cell? ⟨g, i, none⟩ = some (.int .u8 (T[i].toNat : Int)) := by
  have h' := h
  obtain ⟨_, ⟨_, hv⟩ | ⟨g, cap, cur, he, k1, k2, k3⟩⟩ := h'
  · omega
  · injection he with he _ _
    subst he
    refine ⟨g, rfl, ?_⟩
    have := World.ownsRow.cells (g := g) h rfl i _ (bc_get hi)
    rw [Addr.add_lit] at this
    simpa using this
theorem By.blk {B : Nat} {X X' : World} {v : Value} {T : List UInt8} (h : By B X v T) (hk : ∀ (g : Nat) (cs : Array Value), X.heap[g]? = some (Obj.cells cs 5 (0, 0)) → X'.heap[g]? = X.heap[g]?) : By B X' v T := by
  obtain ⟨h1, h2 | ⟨g, cap, cur, he, k1, k2, k3⟩⟩ := h
  · exact ⟨h1, .inl h2⟩
  · exact ⟨h1, .inr ⟨g, cap, cur, he, k1, (hk g _ k2).trans k2, k3⟩⟩
theorem By.less2 {B B' : Nat} {w : World} {v : Value} {X : List UInt8} (h : By B w v X) (hb : B' ≤ B) : By B' w v X := by
  obtain ⟨h1, h2 | ⟨g, cap, cur, he, k1, k2⟩⟩ := h
  · exact ⟨h1, .inl h2⟩
  · exact ⟨h1, .inr ⟨g, cap, cur, he, Nat.le_trans hb k1, k2⟩⟩
theorem bc_all (l : List UInt8) : (bc l).toArray.all (·.oneCell') = true := by
  rw [List.all_toArray, List.all_eq_true]
  intro v hv
  simp only [bc, List.mem_map] at hv
  obtain ⟨x, _, rfl⟩ := hv
  rfl
/-- While a handle is copied. -/
structure Hq (w X : World) (p : Nat) (o : Option Addr) (L : List UInt8) (c : Nat) (s : Sd) (v : Value) (T : List UInt8) (i : Nat) : Prop where
  rq : Rq X p o L c s
  h0 : X.heap[w.heap.size]? = some (.cells (bc z16).toArray 22 (0, 0))
  h1 : X.heap[w.heap.size + 1]? = some (.cells (bc (T.take i ++ z16.drop i)).toArray 22 (0, 0))
  by5 : By w.heap.size X v T
  gs : Gs (fun k => k = p) w X
  old : ∀ a, o = some a → L ≠ [] → a.block < w.heap.size
section
variable {w X : World} {p : Nat} {o : Option Addr} {L : List UInt8} {c : Nat} {s : Sd} {v : Value} {T : List UInt8} {i : Nat}
theorem copy_1 (T : List UInt8) (hT : T.length = 16) (i : Nat) (hi : i < 16) : (bc (T.take i ++ z16.drop i)).set i (.int .u8 (T[i].toNat : Int)) = bc (T.take (i + 1) ++ z16.drop (i + 1)) := by
  have hz : z16.length = 16 := rfl
  have hd : z16.drop i = z16[i]'(by rw [hz]; exact hi) :: z16.drop (i + 1) := List.drop_eq_getElem_cons _
  have e : T.take (i + 1) ++ z16.drop (i + 1) = (T.take i ++ z16.drop i).set i T[i] := by
    have hl : (T.take i).length = i := by rw [List.length_take]; omega
    rw [List.set_append_right _ _ (by omega), hl, Nat.sub_self, hd, List.set_cons_zero, List.take_succ_eq_append_getElem (by omega), List.append_assoc]
    rfl
  rw [e]
  unfold bc
  rw [List.map_set]
theorem Hq.step (h : Hq w X p o L c s v T i) (hT : T.length = 16) (hi : i < 16) : X.cell? ⟨w.heap.size + 1, i, none⟩ ≠ none ∧ X.frozen? ⟨w.heap.size + 1, i, none⟩ = false ∧ Hq w (X.setCell ⟨w.heap.size + 1, i, none⟩ (.int .u8 (T[i].toNat : Int))) p o L c s v T (i + 1) := by
  have hz : z16.length = 16 := rfl
  have ne : ∀ k ob, X.heap[k]? = some ob → (∀ cs, ob ≠ .cells cs 22 (0, 0)) → k ≠ w.heap.size + 1 := by
    rintro k ob hk hne rfl
    exact hne _ (by have := hk.symm.trans h.h1; simpa using this)
  have kp := ne p _ h.rq.row (by simp)
  have hset : ∀ k, k ≠ w.heap.size + 1 → (X.setCell ⟨w.heap.size + 1, i, none⟩ (.int .u8 (T[i].toNat : Int))).heap[k]? = X.heap[k]? := fun k hk => Below.heap_setCell _ _ _ _ hk
  have hG : Gs (fun k => k = w.heap.size + 1) X (X.setCell ⟨w.heap.size + 1, i, none⟩ (.int .u8 (T[i].toNat : Int))) := Gs.set _ rfl
  have hsl : ∀ a, o = some a → L ≠ [] → ¬ a.block = w.heap.size + 1 := by
    intro a ha hL e
    have := h.old a ha hL
    omega
  refine ⟨?_, ?_, ?_⟩
  · unfold World.cell?
    simp only [h.h1]
    simp [bc, hT, hz]
    omega
  · simp [World.frozen?, h.h1]
  · refine ⟨⟨(hset p kp).trans h.rq.row, hG.sl h.rq.sl hsl, h.rq.le, h.rq.cap, h.rq.big, h.rq.few, h.rq.ap, h.rq.nil⟩, (hset _ (by omega)).trans h.h0, ?_, ?_, ?_, h.old⟩
    · rw [heap_setCell_same X _ i _ 22 _ h.h1, ← copy_1 T hT i hi, List.setIfInBounds_toArray]
    · exact By.blk (show By w.heap.size X v T from h.by5) (fun g cs hg => hset g (ne g _ hg (by simp)))
    · exact ⟨h.gs.os, h.gs.tape, h.gs.output, Nat.le_trans h.gs.size hG.size, fun k hk hn => (hset k (by omega)).trans (h.gs.block k hk hn)⟩
theorem ru22 : Try.prog.underlying 22 = some (.array 16 5) := by kernel_rfl
theorem ri22 : (Try.prog.info? 22).map (·.size) = some 16 := by kernel_rfl
theorem rz22 (w : World) : (zeroValue 22).run Try.prog w = .ok (.agg (bc z16).toArray) w := by kernel_rfl
/-- What handle leaves. -/
def RhR (p : Nat) (o : Option Addr) (L : List UInt8) (c : Nat) (s : Sd) (w : World) (e : Ending) (w' : World) : Prop :=
  e = .returned (.agg (bc (rT L 16 s).2).toArray) ∧ Rq w' p o L c (rT L 16 s).1 ∧ Gs (fun k => k = p) w w'
set_option maxRecDepth 100000 in
set_option maxHeartbeats 1000000 in
theorem rhandle_c (h : Rq w p o L c s) : Calls Try.prog 24 #[.pointer (some ⟨p, 0, none⟩)] w (RhR p o L c s w) := by
  have q := rz22
  have a1 := heap_alloc_new w (.cells (bc z16).toArray 22)
  have b1 := bl1 w (.cells (bc z16).toArray 22)
  have b2 := bl1 (w.alloc (.cells (bc z16).toArray 22)) (.cells (bc z16).toArray 22)
  have a2 := heap_alloc_new (w.alloc (.cells (bc z16).toArray 22)) (.cells (bc z16).toArray 22)
  have hbb : Below w.heap.size w ((w.alloc (.cells (bc z16).toArray 22)).alloc (.cells (bc z16).toArray 22)) := b1.trans (b2.mono b1.size)
  have HB : Hid _ := hbb
  have H0 : Hid (((w.alloc (.cells (bc z16).toArray 22)).alloc (.cells (bc z16).toArray 22)).heap[w.heap.size]? = some (.cells (bc z16).toArray 22 (0, 0))) := (b2.block _ (lt_block a1)).trans a1
  have H1 : Hid (((w.alloc (.cells (bc z16).toArray 22)).alloc (.cells (bc z16).toArray 22)).heap[w.heap.size + 1]? = some (.cells (bc z16).toArray 22 (0, 0))) := by show _ = _; simpa using a2
  have HC : Hid _ := rbytes_c 16 (by decide) (h.bel hbb)
  have HT : Hid _ := rT_len (L := L) (s := s) 16 h.le
  have HOLD : Hid (∀ a, o = some a → L ≠ [] → a.block < w.heap.size) := fun a ha hL => Sl_lt (by rw [← ha]; exact h.sl) hL
  have hpw : p < w.heap.size := lt_block h.row
  clear h a1 a2 b1 b2 hbb
  go_enter Try.func24, Try.ntmps24
  go_wp2_with fail
  refine Calls.mono HC.out ?_
  rintro e W2 ⟨o', c', rfl, hby, hrq, hgs⟩
  have hb2 : Below w.heap.size w ((w.alloc (.cells (bc z16).toArray 22)).alloc (.cells (bc z16).toArray 22)) := HB.out
  have HG2 : Hid (Gs (fun k => k = p) w W2) := (Gs.of_below hb2).trans hgs
  have HH : Hid (Hq w W2 p o L c (rT L 16 s).1 (.slice o' 16 c') (rT L 16 s).2 0) := ⟨hrq, (hgs.block _ (lt_block H0.out) (by intro e; omega)).trans H0.out, (hgs.block _ (lt_block H1.out) (by intro e; omega)).trans H1.out, By.less2 hby hb2.size, HG2.out, HOLD.out⟩
  clear hby hrq hgs hb2 HG2 HOLD HC HB H0 H1
  obtain ⟨T, hTT⟩ : ∃ T, (rT L 16 s).2 = T := ⟨_, rfl⟩
  obtain ⟨s1, hs1⟩ : ∃ s1, (rT L 16 s).1 = s1 := ⟨_, rfl⟩
  rw [hTT, hs1] at HH
  rw [hTT] at HT
  have HF : Hid (∀ e w', e = .returned (.agg (bc T).toArray) ∧ Rq w' p o L c s1 ∧ Gs (fun k => k = p) w w' → RhR p o L c s w e w') := fun e w' h => by unfold RhR; rw [hTT, hs1]; exact h
  clear hTT hs1 q
  as_aux_lemma =>
  go_wp2_with fail
  go_loopg [5] 17 (fun kx s5 wr => ∃ i : Nat, s5 = .int .i64 (i : Int) ∧ i ≤ 16 ∧ 16 - i ≤ kx ∧ Hid (Hq w wr p o L c s1 (.slice o' 16 c') T i))
  case atStart => exact ⟨0, rfl, by omega, by omega, HH.out⟩
  case round =>
    obtain ⟨i, rfl, hi1, hg, HQ⟩ := hrel
    by_cases hlt : i < 16
    · have i1 : (i : Int) < 16 := by omega
      have i1' : decide ((i : Int) < 16) = true := by simpa using i1
      have i0' : (0 : Int) ≤ (i : Int) := by omega
      have iw : IntKind.i64.wrap ((i : Int) + 1) = ((i + 1 : Nat) : Int) := by rw [IntKind.wrap_i64]; omega
      obtain ⟨g, hog, hcg⟩ := By.at (show By w.heap.size wr (.slice o' 16 c') T from HQ.out.by5) i (by rw [HT.out]; exact hlt)
      subst hog
      obtain ⟨k1, k2, k3⟩ := HQ.out.step HT.out hlt
      obtain ⟨x0, hx0⟩ := Option.ne_none_iff_exists'.1 k1
      have K3 : Hid _ := k3
      clear k1 k3 HQ
      obtain ⟨tb, htb⟩ : ∃ tb : Int, ((T[i]'(by rw [HT.out]; exact hlt)).toNat : Int) = tb := ⟨_, rfl⟩
      rw [htb] at hcg K3
      as_aux_lemma =>
      go_wp2_with fail
      go_roundg (16 - (i + 1))
      case measure => omega
      case rel => exact ⟨i + 1, rfl, by omega, Nat.le_refl _, K3.out⟩
    · have i1 : ¬ (i : Int) < 16 := by omega
      have i1' : decide ((i : Int) < 16) = false := by simpa using i1
      have hie : i = 16 := by omega
      subst hie
      have HX1 : Hid (wr.heap[w.heap.size + 1]? = some (.cells (bc T).toArray 22 (0, 0))) := by
        show _ = _
        have := HQ.out.h1
        rw [List.take_of_length_le (by rw [HT.out]; exact Nat.le_refl _), show z16.drop 16 = [] from rfl, List.append_nil] at this
        exact this
      as_aux_lemma =>
      go_wp2_with (first
        | refine wpList_load_row rfl 22 (.tmp 3) rfl (w.heap.size + 1) rfl 22 _ (0, 0) _ HX1.out ru22 rfl (ri22.trans (by simp [bc, HT.out])) ?_
        | refine wpList_store_row rfl 22 (.tmp 2) (.tmp 18) rfl w.heap.size (bc T).toArray rfl rfl 22 _ HQ.out.h0 (ri22.trans (by simp [bc, HT.out])) (by simp [bc, HT.out, z16]) (bc_all T) (Hid.out ?_))
      have HF1 : Hid _ := setRow_heap wr w.heap.size _ (bc T).toArray 22 (0, 0) HQ.out.h0
      have hne : p ≠ w.heap.size := by omega
      have hGr : Gs (fun k => k = w.heap.size) wr (wr.setRow w.heap.size (bc T).toArray) := ⟨rfl, rfl, rfl, by simp [World.setRow], fun k _ hn => setRow_other _ _ _ _ hn⟩
      have HR9 : Hid (Rq (wr.setRow w.heap.size (bc T).toArray) p o L c s1) := ⟨(setRow_other _ _ _ _ hne).trans HQ.out.rq.row, hGr.sl HQ.out.rq.sl (fun a ha hL => by have := HQ.out.old a ha hL; omega), HQ.out.rq.le, HQ.out.rq.cap, HQ.out.rq.big, HQ.out.rq.few, HQ.out.rq.ap, HQ.out.rq.nil⟩
      have HG9 : Hid (Gs (fun k => k = p) w (wr.setRow w.heap.size (bc T).toArray)) := ⟨HQ.out.gs.os, HQ.out.gs.tape, HQ.out.gs.output, Nat.le_trans HQ.out.gs.size hGr.size, fun k hk hn => (setRow_other _ _ _ _ (by omega)).trans (HQ.out.gs.block k hk hn)⟩
      clear hGr
      refine mkHid ?_
      go_wp2_with fail
      refine bodyPost_ret (v := .agg (bc T).toArray) (results_cell_row (fn := Try.f24) rfl _ _ w.heap.size 22 _ (0, 0) _ rfl HF1.out ru22 rfl (ri22.trans (by simp [bc, HT.out]))) rfl ?_
      exact HF.out _ _ ⟨rfl, HR9.out, HG9.out⟩
end
end Go.Proofs.Ytcchlicokglmnaa
namespace Go.Proofs.Ytcchlicokglmnaa
open Go.ChangeShapes Go.WideShapes Go.ChangeAt Go.RowKit Go.Lib
set_option linter.unusedVariables false

section
variable {w w' : World} {p : Nat} {o : Option Addr} {L : List UInt8} {c : Nat} {s : Sd}
theorem By.str2 {B : Nat} {w : World} {o : Option Addr} {n c : Nat} {l : List UInt8} (hn : l.length = n) (h : By B w (.slice o n c) l) : (convert 25 9 (.slice o n c)).run Try.prog w = .ok (.string ⟨l.toArray⟩) w := by
  subst hn
  obtain ⟨h1, h2⟩ := By.sl h
  exact str_any h1 rfl h2
/-- A short text read by the reference. -/
def rS (L : List UInt8) (s : Sd) : Sd × ByteArray := ((rT L ((rT L 1 s).2.headD 0).toNat (rT L 1 s).1).1, if (rT L ((rT L 1 s).2.headD 0).toNat (rT L 1 s).1).1.1 = true then ⟨#[]⟩ else ⟨(rT L ((rT L 1 s).2.headD 0).toNat (rT L 1 s).1).2.toArray⟩)
/-- Flags read by the reference. -/
def rF (L : List UInt8) (most : Nat) (s : Sd) : Sd × UInt8 := (((rT L 1 s).1.1 || decide (most < ((rT L 1 s).2.headD 0).toNat), (rT L 1 s).1.2), (rT L 1 s).2.headD 0)
/-- Long bytes read by the reference. -/
def rLn (T : List UInt8) : Nat := (T.headD 0).toNat * 256 + ((T.drop 1).headD 0).toNat
def rL (L : List UInt8) (s : Sd) : Sd × List UInt8 := rT L (rLn (rT L 2 s).2) (rT L 2 s).1
def RsR (p : Nat) (o : Option Addr) (L : List UInt8) (c : Nat) (s : Sd) (w : World) (e : Ending) (w' : World) : Prop :=
  e = .returned (.string (rS L s).2) ∧ Rq w' p o L c (rS L s).1 ∧ Gs (fun k => k = p) w w'
theorem one_of {T : List UInt8} (h : T.length = 1) : ∃ b, T = [b] := by
  match T, h with
  | [b], _ => exact ⟨b, rfl⟩
theorem two_of {T : List UInt8} (h : T.length = 2) : ∃ a b, T = [a, b] := by
  match T, h with
  | [a, b], _ => exact ⟨a, b, rfl⟩
theorem By.drw {B : Nat} {w : World} {v : Value} {l : List UInt8} (h : By B w v l) : By B w.drew v l := By.below h (bld w)
set_option maxRecDepth 100000 in
set_option maxHeartbeats 1000000 in
theorem rshort_c2 (h : Rq w p o L c s) : Calls Try.prog 25 #[.pointer (some ⟨p, 0, none⟩)] w (RsR p o L c s w) := by
  have HC : Hid _ := rbytes_c 1 (by decide) h
  have hl1 := rT_len (L := L) (s := s) 1 h.le
  obtain ⟨b, hb⟩ := one_of hl1
  have HF : Hid (∀ e w', e = .returned (.string (if (rT L b.toNat (rT L 1 s).1).1.1 = true then ⟨#[]⟩ else ⟨(rT L b.toNat (rT L 1 s).1).2.toArray⟩)) ∧ Rq w' p o L c (rT L b.toNat (rT L 1 s).1).1 ∧ Gs (fun k => k = p) w w' → RsR p o L c s w e w') := fun e w' h => by unfold RsR rS; rw [hb]; exact h
  have hbl := b.toNat_lt
  clear h
  go_enter Try.func25, Try.ntmps25
  go_wp2_with fail
  refine Calls.mono HC.out ?_
  rintro e W1 ⟨o1, c1, rfl, hby, hrq, hgs⟩
  obtain ⟨g, hog, hcg⟩ := By.at hby 0 (by rw [hl1]; decide)
  subst hog
  have hcg' : W1.cell? ⟨g, 0, none⟩ = some (.int .u8 (b.toNat : Int)) := by rw [hcg]; simp [hb]
  have HC2 : Hid _ := rbytes_c b.toNat (by omega) hrq
  have HLE : Hid ((rT L 1 s).1.2 ≤ L.length) := hrq.le
  have HGS : Hid _ := hgs
  obtain ⟨N, hN⟩ : ∃ N, b.toNat = N := ⟨_, rfl⟩
  rw [hN] at HC2 HF hcg' hbl
  have n0 : (0 : Int) ≤ (N : Int) := by omega
  have n1 : (N : Int) < 256 := by omega
  have nw : IntKind.i64.wrap (N : Int) = (N : Int) := by rw [IntKind.wrap_i64]; omega
  have nw2 : wrap64 (N : Int) = (N : Int) := by unfold wrap64; omega
  clear hby hrq hgs hcg hl1 hb hN
  generalize (rT L 1 s).1 = s1 at *
  as_aux_lemma =>
  go_wp2_with fail
  refine Calls.mono HC2.out ?_
  rintro e W2 ⟨o2, c2, rfl, hby, hrq, hgs⟩
  have hl2 := rT_len (L := L) (s := s1) N HLE.out
  have qs := By.str2 hl2 hby
  have q2 := hrq.c2
  have HRQ : Hid _ := hrq
  have HG2 : Hid (Gs (fun k => k = p) w W2) := HGS.out.trans hgs
  clear hby hrq hgs HGS HC2
  generalize (rT L N s1).2 = T2 at *
  obtain ⟨⟨b2, a2⟩, hs2⟩ : ∃ s2, (rT L N s1).1 = s2 := ⟨_, rfl⟩
  rw [hs2] at q2 HRQ HF
  as_aux_lemma =>
  cases b2 with
  | true =>
    go_wp2_with fail
    go_ret
    exact HF.out _ _ ⟨rfl, HRQ.out, HG2.out⟩
  | false =>
    go_wp2_with fail
    go_ret
    exact HF.out _ _ ⟨rfl, HRQ.out, HG2.out⟩
def RfR (p : Nat) (o : Option Addr) (L : List UInt8) (c most : Nat) (s : Sd) (w : World) (e : Ending) (w' : World) : Prop :=
  e = .returned (.int .u8 ((rF L most s).2.toNat : Int)) ∧ Rq w' p o L c (rF L most s).1 ∧ Gs (fun k => k = p) w w'
set_option maxRecDepth 100000 in
set_option maxHeartbeats 1000000 in
theorem rflags_c2 (most : Nat) (hm : most ≤ 255) (h : Rq w p o L c s) : Calls Try.prog 28 #[.pointer (some ⟨p, 0, none⟩), .int .u8 (most : Int)] w (RfR p o L c most s w) := by
  have HC : Hid _ := rbytes_c 1 (by decide) h
  have hl1 := rT_len (L := L) (s := s) 1 h.le
  obtain ⟨b, hb⟩ := one_of hl1
  have HF : Hid (∀ e w', e = .returned (.int .u8 (b.toNat : Int)) ∧ Rq w' p o L c ((rT L 1 s).1.1 || decide (most < b.toNat), (rT L 1 s).1.2) ∧ Gs (fun k => k = p) w w' → RfR p o L c most s w e w') := fun e w' h => by unfold RfR rF; rw [hb]; exact h
  have hbl := b.toNat_lt
  clear h
  go_enter Try.func28, Try.ntmps28
  go_wp2_with fail
  refine Calls.mono HC.out ?_
  rintro e W1 ⟨o1, c1, rfl, hby, hrq, hgs⟩
  obtain ⟨g, hog, hcg⟩ := By.at hby 0 (by rw [hl1]; decide)
  subst hog
  have hcg' : W1.cell? ⟨g, 0, none⟩ = some (.int .u8 (b.toNat : Int)) := by rw [hcg]; simp [hb]
  have HRQ : Hid _ := hrq
  have HGS : Hid _ := hgs
  obtain ⟨N, hN⟩ : ∃ N, b.toNat = N := ⟨_, rfl⟩
  rw [hN] at HF hcg' hbl
  have q2 := hrq.c2
  have f2 := hrq.fr 2
  clear hby hrq hgs hcg hl1 hb hN
  generalize (rT L 1 s).1 = s1 at *
  by_cases hlt : most < N
  · have d1 : (most : Int) < (N : Int) := by omega
    have d1' : decide ((most : Int) < (N : Int)) = true := by simpa using d1
    have HR2 : Hid _ := HRQ.out.set2 true
    have HG2 : Hid (Gs (fun k => k = p) w (W1.setCell ⟨p, 2, none⟩ (.bool true))) := HGS.out.trans (Gs.set _ rfl)
    have HE : Hid ((s1.1 || decide (most < N), s1.2) = (true, s1.2)) := by show _ = _; simp [hlt]
    clear hlt
    as_aux_lemma =>
    go_wp2_with fail
    go_ret
    exact HF.out _ _ ⟨rfl, by rw [HE.out]; exact HR2.out, HG2.out⟩
  · have d1 : ¬ (most : Int) < (N : Int) := by omega
    have d1' : decide ((most : Int) < (N : Int)) = false := by simpa using d1
    have HE : Hid ((s1.1 || decide (most < N), s1.2) = s1) := by show _ = _; simp [hlt]
    clear hlt
    as_aux_lemma =>
    go_wp2_with fail
    go_ret
    exact HF.out _ _ ⟨rfl, by rw [HE.out]; exact HRQ.out, HGS.out⟩
def RlR (p : Nat) (o : Option Addr) (L : List UInt8) (c : Nat) (s : Sd) (w : World) (e : Ending) (w' : World) : Prop :=
  ∃ o' c', e = .returned (.slice o' (rL L s).2.length c') ∧ By w.heap.size w' (.slice o' (rL L s).2.length c') (rL L s).2 ∧ Rq w' p o L c (rL L s).1 ∧ Gs (fun k => k = p) w w'
set_option maxRecDepth 100000 in
set_option maxHeartbeats 1000000 in
theorem rlong_c2 (h : Rq w p o L c s) : Calls Try.prog 27 #[.pointer (some ⟨p, 0, none⟩)] w (RlR p o L c s w) := by
  have HC : Hid _ := rbytes_c 2 (by decide) h
  have hl1 := rT_len (L := L) (s := s) 2 h.le
  obtain ⟨b0, b1, hb⟩ := two_of hl1
  have hb0 := b0.toNat_lt
  have hb1 := b1.toNat_lt
  have HF : Hid (∀ N, b0.toNat * 256 + b1.toNat = N → (rL L s) = rT L N (rT L 2 s).1) := fun N hN => by unfold rL rLn; rw [hb, ← hN]; rfl
  clear h
  go_enter Try.func27, Try.ntmps27
  go_wp2_with fail
  refine Calls.mono HC.out ?_
  rintro e W1 ⟨o1, c1, rfl, hby, hrq, hgs⟩
  have hby' : By w.heap.size W1 (.slice o1 2 c1) (rT L 2 s).2 := hby
  obtain ⟨g, hog, hcg⟩ := By.at hby' 0 (by rw [hl1]; decide)
  obtain ⟨g', hog', hcg'⟩ := By.at hby' 1 (by rw [hl1]; decide)
  have e0 : (rT L 2 s).2[0]'(by rw [hl1]; decide) = b0 := by simp [hb]
  have e1 : (rT L 2 s).2[1]'(by rw [hl1]; decide) = b1 := by simp [hb]
  rw [e0] at hcg
  rw [e1] at hcg'
  subst hog
  obtain rfl : g = g' := by injection hog' with h; injection h with h
  clear hog' e0 e1
  obtain ⟨N0, hN0⟩ : ∃ N, b0.toNat = N := ⟨_, rfl⟩
  obtain ⟨N1, hN1⟩ : ∃ N, b1.toNat = N := ⟨_, rfl⟩
  rw [hN0] at hcg hb0 HF
  rw [hN1] at hcg' hb1 HF
  have HC2 : Hid _ := rbytes_c (N0 * 256 + N1) (by omega) hrq.drew
  have HX0 : Hid (W1.drew.cell? ⟨g, 0, none⟩ = some (.int .u8 (N0 : Int))) := hcg
  have HX1 : Hid (W1.drew.cell? ⟨g, 1, none⟩ = some (.int .u8 (N1 : Int))) := hcg'
  have HGS : Hid (Gs (fun k => k = p) w W1.drew) := hgs.trans (Gs.of_below (bld W1))
  have HSZ : Hid (w.heap.size ≤ W1.drew.heap.size) := hgs.size
  have HLE : Hid ((rT L 2 s).1.2 ≤ L.length) := hrq.le
  have HFN : Hid _ := HF.out (N0 * 256 + N1) rfl
  have HGP : Hid (¬ g = p) := by
    intro e
    subst e
    have h1 := hcg
    unfold World.cell? at h1
    rw [hrq.row] at h1
    simp at h1
  rw [show ((N0 * 256 + N1 : Nat) : Int) = (N0 : Int) * 256 + (N1 : Int) by omega] at HC2
  clear hby hby' hrq hgs hcg hcg' hl1 hb hN0 hN1 HC HF
  as_aux_lemma =>
  go_wp2_with fail
  refine wp_region_held_drew (S := fun X => X.cell? ⟨g, 0, none⟩ = some (.int .u8 (N0 : Int)) ∧ X.cell? ⟨g, 1, none⟩ = some (.int .u8 (N1 : Int))) (by kernel_rfl) ⟨HX0.out, HX1.out⟩ (fun hHeld => ?_)
  generalize W1.drew = Y at *
  refine wpAnyH_take (i := 0) (v := .pointer (some ⟨p, 0, none⟩)) rfl (by kernel_rfl) (by kernel_rfl) (by kernel_rfl) (fun _ _ _ h => h) (Or.inl ⟨by rfl, by intro w hs; go_simp⟩) hHeld ?_
  refine norm_any' (fun K hK => ?_)
  go_simp
  refine hK _ _ ?_
  clear hK K
  refine wpAnyH_take (i := 1) (v := .slice (some ⟨g, 0, none⟩) 2 c1) rfl (by kernel_rfl) (by kernel_rfl) (by kernel_rfl) (fun _ _ _ h => h) (Or.inl ⟨by rfl, by intro w hs; go_simp⟩) hHeld ?_
  refine norm_any' (fun K hK => ?_)
  go_simp
  refine hK _ _ ?_
  clear hK K
  refine wpAnyH_take (i := 2) (v := .pointer (some ⟨g, 0, none⟩)) rfl (by kernel_rfl) (by kernel_rfl) (by kernel_rfl) (fun _ _ _ h => h) (Or.inl ⟨by rfl, by intro w hs; go_simp⟩) hHeld ?_
  refine norm_any' (fun K hK => ?_)
  go_simp
  refine hK _ _ ?_
  clear hK K
  refine wpAnyH_take (i := 3) (v := .int .u8 (N0 : Int)) rfl (by kernel_rfl) (by kernel_rfl) (by kernel_rfl) (fun _ _ _ h => h) (Or.inl ⟨by rfl, by intro w hs; have q := hs.1; go_simp⟩) hHeld ?_
  refine norm_any' (fun K hK => ?_)
  go_simp
  refine hK _ _ ?_
  clear hK K
  refine wpAnyH_take (i := 4) (v := .int .i64 (N0 : Int)) rfl (by kernel_rfl) (by kernel_rfl) (by kernel_rfl) (fun _ _ _ h => h) (Or.inl ⟨by rfl, by intro w hs; go_simp; try (rw [IntKind.wrap_i64]; omega)⟩) hHeld ?_
  refine norm_any' (fun K hK => ?_)
  go_simp
  refine hK _ _ ?_
  clear hK K
  refine wpAnyH_take (i := 5) (v := .int .i64 ((N0 : Int) * 256)) rfl (by kernel_rfl) (by kernel_rfl) (by kernel_rfl) (fun _ _ _ h => h) (Or.inl ⟨by rfl, by intro w hs; go_simp; try (rw [IntKind.wrap_i64]; omega)⟩) hHeld ?_
  refine norm_any' (fun K hK => ?_)
  go_simp
  refine hK _ _ ?_
  clear hK K
  refine wpAnyH_take (i := 6) (v := .slice (some ⟨g, 0, none⟩) 2 c1) rfl (by kernel_rfl) (by kernel_rfl) (by kernel_rfl) (fun _ _ _ h => h) (Or.inl ⟨by rfl, by intro w hs; go_simp⟩) hHeld ?_
  refine norm_any' (fun K hK => ?_)
  go_simp
  refine hK _ _ ?_
  clear hK K
  refine wpAnyH_take (i := 7) (v := .pointer (some ⟨g, 1, none⟩)) rfl (by kernel_rfl) (by kernel_rfl) (by kernel_rfl) (fun _ _ _ h => h) (Or.inl ⟨by rfl, by intro w hs; go_simp⟩) hHeld ?_
  refine norm_any' (fun K hK => ?_)
  go_simp
  refine hK _ _ ?_
  clear hK K
  refine wpAnyH_take (i := 8) (v := .int .u8 (N1 : Int)) rfl (by kernel_rfl) (by kernel_rfl) (by kernel_rfl) (fun _ _ _ h => h) (Or.inl ⟨by rfl, by intro w hs; have q := hs.2; go_simp⟩) hHeld ?_
  refine norm_any' (fun K hK => ?_)
  go_simp
  refine hK _ _ ?_
  clear hK K
  refine wpAnyH_take (i := 9) (v := .int .i64 (N1 : Int)) rfl (by kernel_rfl) (by kernel_rfl) (by kernel_rfl) (fun _ _ _ h => h) (Or.inl ⟨by rfl, by intro w hs; go_simp; try (rw [IntKind.wrap_i64]; omega)⟩) hHeld ?_
  refine norm_any' (fun K hK => ?_)
  go_simp
  refine hK _ _ ?_
  clear hK K
  refine wpAnyH_take (i := 10) (v := .int .i64 ((N0 : Int) * 256 + (N1 : Int))) rfl (by kernel_rfl) (by kernel_rfl) (by kernel_rfl) (fun _ _ _ h => h) (Or.inl ⟨by rfl, by intro w hs; go_simp; try (rw [IntKind.wrap_i64]; omega)⟩) hHeld ?_
  refine norm_any' (fun K hK => ?_)
  go_simp
  refine hK _ _ ?_
  clear hK K
  refine wpAnyH_ready (rs := [11]) (by kernel_rfl) (by simp) (AllReadyH.cons rfl (fun K hK => ?_) AllReadyH.nil)
  go_simp
  refine Calls.mono HC2.out ?_
  rintro e W2 ⟨o2, c2, rfl, hby, hrq, hgs2⟩
  have HBY : Hid _ := hby
  have HRQ : Hid _ := hrq
  have HG2 : Hid (Gs (fun k => k = p) w W2) := HGS.out.trans hgs2
  have HY0 : Hid (W2.cell? ⟨g, 0, none⟩ = some (.int .u8 (N0 : Int)) ∧ W2.cell? ⟨g, 1, none⟩ = some (.int .u8 (N1 : Int))) := ⟨hgs2.cell HX0.out HGP.out, hgs2.cell HX1.out HGP.out⟩
  clear hby hrq hgs2
  refine hK.out _ _ HY0.out (fun hHeld => ?_)
  clear hK K
  refine norm_any' (fun K hK => ?_)
  go_simp
  refine hK _ _ ?_
  clear hK K
  refine wpAnyH_take (i := 12) (v := .slice o2 (N0 * 256 + N1) c2) rfl (by kernel_rfl) (by kernel_rfl) (by kernel_rfl) (fun _ _ _ h => h) (Or.inl ⟨by rfl, by intro w hs; go_simp⟩) hHeld ?_
  refine norm_any' (fun K hK => ?_)
  go_simp
  refine hK _ _ ?_
  clear hK K
  refine wpAnyH_done (by kernel_rfl) ?_ _
  clear hHeld
  go_wp2_with fail
  go_ret
  have hln := rT_len (L := L) (s := (rT L 2 s).1) (N0 * 256 + N1) HLE.out
  refine ⟨o2, c2, ?_, ?_, ?_, HG2.out⟩
  · rw [HFN.out, hln]; rfl
  · rw [HFN.out, hln]; exact By.less2 HBY.out HSZ.out
  · rw [HFN.out]; exact HRQ.out
end
end Go.Proofs.Ytcchlicokglmnaa
namespace Go.Proofs.Ytcchlicokglmnaa
open Go.ChangeShapes Go.WideShapes Go.ChangeAt Go.RowKit Go.Lib
set_option linter.unusedVariables false

/-- The reading in block p, the message in block M, both made since w. -/
structure Qm (w X : World) (p M : Nat) (o : Option Addr) (B : List UInt8) (c : Nat) (s : Sd) (m : Msg) : Prop where
  rq : Rq X p o B c s
  row : X.heap[M]? = some (.cells m.cells.toArray 34 (0, 0))
  ln : m.len
  nm : X.ownsRow w.heap.size 9 1 (.slice m.po m.protos.length m.pc) m.protos.length (m.protos.map .string)
  pa : By w.heap.size X (.slice m.ao m.params.length m.ac) m.params
  ti : By w.heap.size X (.slice m.to m.ticket.length m.tc) m.ticket
  bel : Below w.heap.size w X
  hp : w.heap.size ≤ p
  hM : w.heap.size ≤ M
  old : ∀ a, o = some a → B ≠ [] → a.block < w.heap.size
section
variable {w X X' : World} {p M : Nat} {o : Option Addr} {B : List UInt8} {c : Nat} {s s' : Sd} {m : Msg}
theorem own9 {b n : Nat} {v : Value} {xs : List Value} (h : X.ownsRow b 9 1 v n xs) (hk : ∀ (g : Nat) (cs : Array Value), X.heap[g]? = some (Obj.cells cs 9 (0, 0)) → X'.heap[g]? = X.heap[g]?) : X'.ownsRow b 9 1 v n xs := by
  obtain ⟨h1, h2 | ⟨g, cap, cur, he, k1, k2, k3⟩⟩ := h
  · exact ⟨h1, .inl h2⟩
  · exact ⟨h1, .inr ⟨g, cap, cur, he, k1, (hk g _ k2).trans k2, k3⟩⟩
theorem Qm.pM (h : Qm w X p M o B c s m) : M ≠ p := by
  rintro rfl
  have := h.row.symm.trans h.rq.row
  simp at this
theorem Qm.call (h : Qm w X p M o B c s m) (g : Gs (fun k => k = p) X X') (r : Rq X' p o B c s') : Qm w X' p M o B c s' m := by
  have ne : ∀ k ob, X.heap[k]? = some ob → (∀ cs, ob ≠ .cells cs 69 (0, 0)) → k ≠ p := by
    rintro k ob hk hne rfl
    exact hne _ (by have := hk.symm.trans h.rq.row; simpa using this)
  refine ⟨r, (g.block M (lt_block h.row) h.pM).trans h.row, h.ln, own9 h.nm (fun k cs hk => g.block k (lt_block hk) (ne k _ hk (by simp))), By.blk h.pa (fun k cs hk => g.block k (lt_block hk) (ne k _ hk (by simp))), By.blk h.ti (fun k cs hk => g.block k (lt_block hk) (ne k _ hk (by simp))), ?_, h.hp, h.hM, h.old⟩
  exact ⟨g.os.trans h.bel.os, g.tape.trans h.bel.tape, g.output.trans h.bel.output, Nat.le_trans h.bel.size g.size, fun k hk => (g.block k (Nat.lt_of_lt_of_le hk h.bel.size) (by have := h.hp; omega)).trans (h.bel.block k hk)⟩
/-- The message's row is another one. -/
theorem Qm.turn (h : Qm w X p M o B c s m) (A : Array Value) (n : Msg) (hA : A = n.cells.toArray) (ln : n.len) (e1 : n.po = m.po ∧ n.protos = m.protos ∧ n.pc = m.pc) (e2 : n.ao = m.ao ∧ n.params = m.params ∧ n.ac = m.ac) (e3 : n.to = m.to ∧ n.ticket = m.ticket ∧ n.tc = m.tc) : Qm w (X.setRow M A) p M o B c s n := by
  have ne : ∀ k ob, X.heap[k]? = some ob → (∀ cs, ob ≠ .cells cs 34 (0, 0)) → k ≠ M := by
    rintro k ob hk hne rfl
    exact hne _ (by have := hk.symm.trans h.row; simpa using this)
  have hG : Gs (fun k => k = M) X (X.setRow M A) := ⟨rfl, rfl, rfl, by simp [World.setRow], fun k _ hn => setRow_other _ _ _ _ hn⟩
  have kk : ∀ k, k ≠ M → (X.setRow M A).heap[k]? = X.heap[k]? := fun k hk => setRow_other _ _ _ _ hk
  refine ⟨⟨(kk p (fun e => h.pM e.symm)).trans h.rq.row, hG.sl h.rq.sl (fun a ha hL => by have := h.old a ha hL; have := h.hM; omega), h.rq.le, h.rq.cap, h.rq.big, h.rq.few, h.rq.ap, h.rq.nil⟩, ?_, ln, ?_, ?_, ?_, ?_, h.hp, h.hM, h.old⟩
  · rw [← hA]; exact setRow_heap X M _ A 34 (0, 0) h.row
  · rw [e1.1, e1.2.1, e1.2.2]; exact own9 h.nm (fun k cs hk => kk k (ne k _ hk (by simp)))
  · rw [e2.1, e2.2.1, e2.2.2]; exact By.blk h.pa (fun k cs hk => kk k (ne k _ hk (by simp)))
  · rw [e3.1, e3.2.1, e3.2.2]; exact By.blk h.ti (fun k cs hk => kk k (ne k _ hk (by simp)))
  · exact ⟨h.bel.os, h.bel.tape, h.bel.output, Nat.le_trans h.bel.size hG.size, fun k hk => (kk k (by have := h.hM; omega)).trans (h.bel.block k hk)⟩
theorem Qm.cellM (h : Qm w X p M o B c s m) {j : Nat} (hj : j < 72) : (∃ x, X.cell? ⟨M, j, none⟩ = some x) ∧ X.frozen? ⟨M, j, none⟩ = false := by
  constructor
  · have hl := cells_len h.ln
    refine ⟨m.cells[j]'(by omega), ?_⟩
    unfold World.cell?
    simp only [h.row]
    simp [hl, hj]
  · simp [World.frozen?, h.row]
/-- One cell of the message is another one. -/
theorem Qm.set1 (h : Qm w X p M o B c s m) {j : Nat} (x : Value) (n : Msg) (hA : m.cells.toArray.setIfInBounds j x = n.cells.toArray) (ln : n.len) (e1 : n.po = m.po ∧ n.protos = m.protos ∧ n.pc = m.pc) (e2 : n.ao = m.ao ∧ n.params = m.params ∧ n.ac = m.ac) (e3 : n.to = m.to ∧ n.ticket = m.ticket ∧ n.tc = m.tc) : Qm w (X.setCell ⟨M, j, none⟩ x) p M o B c s n := by
  rw [setCell_eq_setRow X M j _ 34 (0, 0) x h.row]
  exact h.turn _ n hA ln e1 e2 e3
end
end Go.Proofs.Ytcchlicokglmnaa
