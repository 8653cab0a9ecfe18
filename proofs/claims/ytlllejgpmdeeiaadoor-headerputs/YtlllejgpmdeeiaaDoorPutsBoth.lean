/- header.Put and caravelref02.Put answer the same, for every header: one contract; spoilt over what a call has made. -/
import Derived.Test.YtlllejgpmdeeiaaDoorRefPutB
import Derived.Test.YtlllejgpmdeeiaaDoorBackBase
import Derived.Test.YtlllejgpmdeeiaaDoorSpoilt
namespace Go.Proofs.YtlllejgpmdeeiaaDoor
open Go.ChangeShapes Go.WideShapes Go.ChangeAt Go.RowKit
set_option linter.unusedVariables false

set_option maxRecDepth 10000 in
set_option maxHeartbeats 1000000 in
theorem rput_not (k : Int) (cs : Array Value) (ver len n : Int) (low : Int) (da sa ta la : Option Addr) (dc sc tc lc : Nat) (D S T : List UInt8) (lst : List Int) (ph : Bool) (tag : List UInt8) (w : World)
    (hcs : cs = (hc k ver (.slice da D.length dc) (.slice sa S.length sc) (.slice ta T.length tc) len ph (.slice la lst.length lc) (bc tag)).toArray) (htag : tag.length = 16) (hil : Il w la lst)
    (hDl : D.length ≤ 140737488355328) (hTl : T.length ≤ 140737488355328) (hSl : S.length ≤ 140737488355328) (hll : lst.length ≤ 17592186043904)
    (hmay : ¬ mayP k len n D.length S.length T.length lst) :
    Calls Tryd.prog 9 #[.agg cs, .int .u64 low, .int .i64 n] w fun e w' => e = .returned (.tuple #[.slice none 0 0, .int .i64 0, .int .i64 2]) ∧ Below w.heap.size w w' := by
  obtain ⟨d33, hd33⟩ := hu33
  have HZ := mkHid (hc_size' hcs (by rw [bc_length]; exact htag))
  have HM := mkHid hmay
  have HCS := mkHid hcs
  have HIL := mkHid hil
  clear hcs hmay hil
  have HW1 : Hid (Below w.heap.size w (w.alloc (.cells cs 33))) := (Below.refl w.heap.size w).alloc (Nat.le_refl _) _
  go_enter Tryd.func9, Tryd.ntmps9
  go_wp2_with ((refine wpList_load_row rfl 33 (.tmp 3) rfl w.heap.size rfl 33 cs (0, 0) (.struct d33) (heap_alloc_new w (.cells cs 33)) hd33 rfl (by rw [HZ.out]; exact sz33) ?_))
  refine (rmay_any k cs ver len n da sa ta la D.length dc S.length sc T.length tc lc lst ph (bc tag) (w.alloc (.cells cs 33)) HCS.out (by omega) (by omega) (by omega) (by omega) ?_ false (iff_of_false (by decide) HM.out)).mono ?_
  · exact Il_below HIL.out HW1.out
  rintro e w2 ⟨rfl, hB2⟩
  have HB2 : Hid (Below w.heap.size w w2) := HW1.out.trans (hB2.mono (by simp))
  clear hB2
  go_wp2
  go_ret3
  exact ⟨rfl, HB2.out⟩

/-- what both Puts answer: X, the place A, the error E -/
structure PutsC (k ver len n low : Int) (la : Option Addr) (lc : Nat) (D S T : List UInt8) (lst : List Int) (ph : Bool) (tag : List UInt8) (w : World) (X : List UInt8) (A : Nat) (E : Int) : Prop where
  put : ∀ (W : World) (cs : Array Value) (da sa ta : Option Addr) (dc sc tc : Nat), cs = (hc k ver (.slice da D.length dc) (.slice sa S.length sc) (.slice ta T.length tc) len ph (.slice la lst.length lc) (bc tag)).toArray → Below w.heap.size w W → Sl W da D → Sl W sa S → Sl W ta T →
    (da = none → D.length = 0 ∧ dc = 0) → (sa = none → S.length = 0 ∧ sc = 0) → (ta = none → T.length = 0 ∧ tc = 0) →
    Calls Tryd.prog 8 #[.agg cs, .int .u64 low, .int .i64 n] W fun e w' => ∃ y, e = .returned (.tuple #[y, .int .i64 A, .int .i64 E]) ∧ By (W.heap.size + 1) w' y X ∧ Below W.heap.size W w'
  rput : ∀ (W : World) (cs : Array Value) (da sa ta : Option Addr) (dc sc tc : Nat), cs = (hc k ver (.slice da D.length dc) (.slice sa S.length sc) (.slice ta T.length tc) len ph (.slice la lst.length lc) (bc tag)).toArray → Below w.heap.size w W → Sl W da D → Sl W sa S → Sl W ta T →
    (da = none → D.length = 0 ∧ dc = 0) → (sa = none → S.length = 0 ∧ sc = 0) → (ta = none → T.length = 0 ∧ tc = 0) →
    Calls Tryd.prog 9 #[.agg cs, .int .u64 low, .int .i64 n] W fun e w' => ∃ y, e = .returned (.tuple #[y, .int .i64 A, .int .i64 E]) ∧ By (W.heap.size + 1) w' y X ∧ Below W.heap.size W w'
  small : X.length ≤ 140737488355328
theorem nil_by (B : Nat) (w : World) : By B w (.slice none 0 0) [] := World.ownsRow_nil w B 5 1

theorem puts_both (k ver len n low : Int) (la : Option Addr) (lc : Nat) (D S T : List UInt8) (lst : List Int) (ph : Bool) (tag : List UInt8) (w : World) (htag : tag.length = 16) (ht : Tb w) (hil : Il w la lst)
    (hDl : D.length ≤ 140737488351232) (hSl : S.length ≤ 140737488351232) (hTl : T.length ≤ 140737488351232) (hll : lst.length ≤ 17592186043904) (hlow0 : 0 ≤ low) (hlow1 : low < 18446744073709551616) :
    ∃ X A E, PutsC k ver len n low la lc D S T lst ph tag w X A E := by
  have htb : (bc tag).length = 16 := by rw [bc_length]; exact htag
  by_cases hm : mayP k len n D.length S.length T.length lst
  · have hQ := mayQ hm
    have hk : k = 0 ∨ k = 1 ∨ k = 2 ∨ k = 3 ∨ k = 4 ∨ k = 5 := by
      obtain ⟨_, _, h3⟩ := hm
      unfold mayK at h3
      rcases h3 with h | h | h | h | h
      · omega
      · omega
      · omega
      · omega
      · exact .inr (.inr (.inr (.inr (.inl h.1))))
    obtain ⟨b1, b2, b3, b4, b5, b6, b7⟩ := hQ
    have hsz : (szN (T.length : Int)).toNat ≤ 8 := szN_le _
    rcases hk with rfl | rfl | rfl | rfl | rfl | rfl
    · exact ⟨_, _, 0, fun W cs da sa ta dc sc tc hcs hb hD hS hT d1 d2 d3 => put_0 cs ver len n low da sa ta la dc sc tc lc D S T lst ph (bc tag) W hcs htb (Tb_below ht hb (Tb_pos ht)) hD hS hT (Il_below hil hb) d1 d2 d3 (by omega) (by omega) (by omega) hlow0 hlow1 hm,
        fun W cs da sa ta dc sc tc hcs hb hD hS hT d1 d2 d3 => rput_0 cs ver len n low da sa ta la dc sc tc lc D S T lst ph tag W hcs htag hD hS hT (Il_below hil hb) d1 d2 d3 (by omega) (by omega) hll hlow0 hlow1 hm, by
          have := b3 rfl; have := b2 (by decide)
          simp only [List.length_append, longB_length, enc_length, be_length]
          have : (2 : Int).toNat = 2 := rfl
          omega⟩
    · exact ⟨_, _, 0, fun W cs da sa ta dc sc tc hcs hb hD hS hT d1 d2 d3 => put_1 cs ver len n low da sa ta la dc sc tc lc D S T lst ph (bc tag) W hcs htb (Tb_below ht hb (Tb_pos ht)) hD hS hT (Il_below hil hb) d1 d2 d3 (by omega) (by omega) (by omega) hlow0 hlow1 hm,
        fun W cs da sa ta dc sc tc hcs hb hD hS hT d1 d2 d3 => rput_1 cs ver len n low da sa ta la dc sc tc lc D S T lst ph tag W hcs htag hD hS hT (Il_below hil hb) d1 d2 d3 (by omega) (by omega) hll hlow0 hlow1 hm, by
          have := b2 (by decide)
          simp only [List.length_append, longB_length, enc_length, be_length]
          have : (2 : Int).toNat = 2 := rfl
          omega⟩
    · exact ⟨_, _, 0, fun W cs da sa ta dc sc tc hcs hb hD hS hT d1 d2 d3 => put_2 cs ver len n low da sa ta la dc sc tc lc D S T lst ph (bc tag) W hcs htb (Tb_below ht hb (Tb_pos ht)) hD hS hT (Il_below hil hb) d1 d2 d3 (by omega) (by omega) (by omega) hlow0 hlow1 hm,
        fun W cs da sa ta dc sc tc hcs hb hD hS hT d1 d2 d3 => rput_2 cs ver len n low da sa ta la dc sc tc lc D S T lst ph tag W hcs htag hD hS hT (Il_below hil hb) d1 d2 d3 (by omega) (by omega) hll hlow0 hlow1 hm, by
          have := b2 (by decide)
          simp only [List.length_append, longB_length, enc_length, be_length]
          have : (2 : Int).toNat = 2 := rfl
          omega⟩
    · exact ⟨_, _, 0, fun W cs da sa ta dc sc tc hcs hb hD hS hT d1 d2 d3 => put_3 tag cs ver len n low da sa ta la dc sc tc lc D S T lst ph (bc tag) W hcs htb (Tb_below ht hb (Tb_pos ht)) hD hS hT (Il_below hil hb) d1 d2 d3 (by omega) (by omega) (by omega) hlow0 hlow1 hm rfl,
        fun W cs da sa ta dc sc tc hcs hb hD hS hT d1 d2 d3 => rput_3 cs ver len n low da sa ta la dc sc tc lc D S T lst ph tag W hcs htag hD hS hT (Il_below hil hb) d1 d2 d3 (by omega) (by omega) hll hlow0 hlow1 hm, by
          have := b6 rfl; have := b2 (by decide)
          simp only [List.length_append, longB_length]
          omega⟩
    · have h4 := b7 rfl
      exact ⟨_, _, 0, fun W cs da sa ta dc sc tc hcs hb hD hS hT d1 d2 d3 => put_4 cs ver len n low da sa ta la dc sc tc lc D S T lst ph (bc tag) W hcs htb (Tb_below ht hb (Tb_pos ht)) hD hS hT (Il_below hil hb) d1 d2 d3 (by omega) (by omega) (by omega) hlow0 hlow1 hm (fun ad h => Nat.lt_of_lt_of_le (Il_lt hil h4.1 ad h) hb.size),
        fun W cs da sa ta dc sc tc hcs hb hD hS hT d1 d2 d3 => rput_4 cs ver len n low da sa ta la dc sc tc lc D S T lst ph tag W hcs htag hD hS hT (Il_below hil hb) d1 d2 d3 (by omega) (by omega) hll hlow0 hlow1 hm, by
          have := b2 (by decide)
          simp only [List.length_append, longB_length, vB_length]
          omega⟩
    · exact ⟨_, _, 0, fun W cs da sa ta dc sc tc hcs hb hD hS hT d1 d2 d3 => put_5 cs ver len n low da sa ta la dc sc tc lc D S T lst ph (bc tag) W hcs htb (Tb_below ht hb (Tb_pos ht)) hD hS hT (Il_below hil hb) d1 d2 d3 (by omega) (by omega) (by omega) hlow0 hlow1 hm,
        fun W cs da sa ta dc sc tc hcs hb hD hS hT d1 d2 d3 => rput_5 cs ver len n low da sa ta la dc sc tc lc D S T lst ph tag W hcs htag hD hS hT (Il_below hil hb) d1 d2 d3 (by omega) (by omega) hll hlow0 hlow1 hm, by
          have := b5 (by decide)
          simp only [List.length_append, be_length, List.length_cons, List.length_nil]
          omega⟩
  · refine ⟨[], 0, 2, fun W cs da sa ta dc sc tc hcs hb hD hS hT d1 d2 d3 => ?_, fun W cs da sa ta dc sc tc hcs hb hD hS hT d1 d2 d3 => ?_, by simp⟩
    · exact (put_not k cs ver len n low da sa ta la dc sc tc lc D S T lst ph (bc tag) W hcs htb (Tb_below ht hb (Tb_pos ht)) hD hS hT (Il_below hil hb) d1 d2 d3 (by omega) (by omega) (by omega) (by omega) hlow0 hlow1 hm).mono fun e w' ⟨h1, h2⟩ => ⟨_, h1, nil_by _ _, h2⟩
    · exact (rput_not k cs ver len n low da sa ta la dc sc tc lc D S T lst ph tag W hcs htag (Il_below hil hb) (by omega) (by omega) (by omega) hll hm).mono fun e w' ⟨h1, h2⟩ => ⟨_, h1, nil_by _ _, h2⟩

theorem spoilt_nil (wo : Option Addr) (wc : Nat) (hwn : wo = none → 0 = 0 ∧ wc = 0) (w : World) : Calls Tryd.prog 11 #[.slice none 0 0, .slice wo 0 wc] w fun e w' => e = .returned (.bool true) ∧ w' = w := by
  have cx := str_any (w := w) (ao := none) (l := []) (m := 0) (cap := 0) (fun j hj => absurd hj (by simp)) rfl (fun _ => ⟨rfl, rfl⟩)
  have cy := str_any (w := w) (ao := wo) (l := []) (m := 0) (cap := wc) (fun j hj => absurd hj (by simp)) rfl hwn
  clear hwn
  go_enter Tryd.func11, Tryd.ntmps11
  go_wp2
  go_loopg [5] 1 (fun n i wr => i = .int .i64 0 ∧ wr = w)
  case atStart => exact ⟨rfl, rfl⟩
  case round =>
    obtain ⟨rfl, rfl⟩ := hrel
    go_wp2
    go_ret
    exact ⟨rfl, rfl⟩
theorem spoilt_by (B : Nat) (y : Value) (X : List UInt8) (w : World) (hy : By B w y X) (v : Value) (B' : Nat) (hv : By B' w v X) (hl : X.length ≤ 140737488355328) :
    Calls Tryd.prog 11 #[y, v] w fun e w' => e = .returned (.bool true) ∧ w.grownBy w' y.ownBlock := by
  obtain ⟨wo, wc, rfl, hwn, hw, _⟩ := hv.parts
  obtain ⟨hly, hc | ⟨g, cap, cur, he, k1, k2, k3, k4, k5, k6⟩⟩ := hy
  · obtain ⟨rfl, h0⟩ := hc
    obtain rfl : X = [] := List.eq_nil_of_length_eq_zero h0
    exact (spoilt_nil wo wc hwn w).mono fun e w' ⟨h1, h2⟩ => ⟨h1, by rw [h2]; exact ⟨rfl, rfl, rfl, Nat.le_refl _, fun _ _ _ => rfl⟩⟩
  · subst he
    refine (spoilt_any g 0 cap X cur wo wc w k2 (Sl_own k2 (by simpa using k6)) hw hwn hl).mono ?_
    rintro e w' ⟨rfl, h⟩
    exact ⟨rfl, h.only.os, h.only.tape, h.only.output, Nat.le_of_eq h.only.size.symm, fun k _ hk => h.only.block k (fun e => hk (by rw [e]; rfl))⟩
end Go.Proofs.YtlllejgpmdeeiaaDoor
