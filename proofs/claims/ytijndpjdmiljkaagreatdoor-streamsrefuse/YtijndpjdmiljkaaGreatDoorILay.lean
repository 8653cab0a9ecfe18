/- inbox: lay. -/
import Derived.Test.YtijndpjdmiljkaaGreatDoorILef
namespace Go.Proofs.YtijndpjdmiljkaaGreatDoor
open Go.RowKit Go.Maps
set_option linter.unusedVariables false

theorem Chg.andThen {X Y : Nat → Prop} {a b c : World} (h : Chg Y a b) (k : Chg X b c) (hx : ∀ j, j < a.heap.size → X j → Y j) : Chg Y a c :=
  ⟨k.1.trans h.1, k.2.1.trans h.2.1, k.2.2.1.trans h.2.2.1, Nat.le_trans h.2.2.2.1 k.2.2.2.1, fun j hj hy => (k.2.2.2.2 j (Nat.lt_of_lt_of_le hj h.2.2.2.1) (fun e => hy (hx j hj e))).trans (h.2.2.2.2 j hj hy)⟩
/-- An inbox as it lies: its block and its map. -/
def Ib (W : World) (b mb n : Nat) (V : Nat → Option UInt8) (p R hd rm lm rc : Int) (kn : Bool) : Prop :=
  W.heap[b]? = some (.cells #[.map (some mb), .int .i64 p, .int .i64 R, .int .i64 hd, .int .i64 rm, .int .i64 lm, .int .i64 rc, .bool kn] 201 (0, 0)) ∧ Mp W mb n V
theorem Ib.ne {W : World} {b mb n : Nat} {V : Nat → Option UInt8} {p R hd rm lm rc : Int} {kn : Bool} (h : Ib W b mb n V p R hd rm lm rc kn) : b ≠ mb := by
  rintro rfl
  obtain ⟨h1, D, ⟨es, ck, h2, _⟩, _⟩ := h
  rw [h1] at h2
  simp at h2
theorem Ib.kept {W W' : World} {b mb n : Nat} {V : Nat → Option UInt8} {p R hd rm lm rc : Int} {kn : Bool} (h : Ib W b mb n V p R hd rm lm rc kn) {X : Nat → Prop} (hc : Chg X W W') (h1 : ¬ X b) (h2 : ¬ X mb) : Ib W' b mb n V p R hd rm lm rc kn :=
  ⟨(hc.2.2.2.2 b (Array.getElem?_eq_some_iff.1 h.1).1 h1).trans h.1, h.2.kept (hc.2.2.2.2 mb h.2.lt h2)⟩
theorem Ib.byte {W : World} {b mb n : Nat} {V : Nat → Option UInt8} {p R hd rm lm rc : Int} {kn : Bool} (h : Ib W b mb n V p R hd rm lm rc kn) {g off : Nat} {x : Int} (hc : W.cell? ⟨g, off, none⟩ = some (.int .u8 x)) : ¬ (g = b ∨ g = mb) := by
  rintro (rfl | rfl)
  · unfold World.cell? at hc
    rw [h.1] at hc
    simp only at hc
    rcases off with _ | _ | _ | _ | _ | _ | _ | _ | m <;> simp at hc
  · obtain ⟨_, D, ⟨es, ck, h2, _⟩, _⟩ := h
    unfold World.cell? at hc
    rw [h2] at hc
    simp at hc
theorem Ib.sl {W W' : World} {b mb n : Nat} {V : Nat → Option UInt8} {p R hd rm lm rc : Int} {kn : Bool} (h : Ib W b mb n V p R hd rm lm rc kn) (hc : Chg (fun j => j = b ∨ j = mb) W W') {la : Option Addr} {l : List UInt8} (hs : Sl W la l) : Sl W' la l := by
  intro j hj
  obtain ⟨g, off, e, hx⟩ := hs j hj
  exact ⟨g, off, e, (World.cell?_of_block (w := W) (a := ⟨g, off + j, none⟩) (hc.2.2.2.2 g (World.block_lt_of_cell? _ _ hx) (h.byte hx))).trans hx⟩
theorem Ib.tb {W W' : World} {b mb n : Nat} {V : Nat → Option UInt8} {p R hd rm lm rc : Int} {kn : Bool} (h : Ib W b mb n V p R hd rm lm rc kn) (hc : Chg (fun j => j = b ∨ j = mb) W W') (hT : TbI W) : TbI W' := by
  intro i hi
  have hx := hT i hi
  exact (World.cell?_of_block (w := W) (a := ⟨2, i, none⟩) (hc.2.2.2.2 2 (World.block_lt_of_cell? _ _ hx) (h.byte hx))).trans hx
/-- How many cells m bytes from o on lie in. -/
def fc (o m : Nat) : Nat := if m = 0 then 0 else (o + m + 63) / 64 - o / 64
theorem fc_le (o m : Nat) : fc o m ≤ m / 64 + 2 := by unfold fc; split <;> omega
theorem fc_step (o a x : Nat) (hx : x ≠ 0) (hal : a = 0 ∨ (o + a) % 64 = 0) : fc o a + 1 ≤ fc o (a + x) := by
  unfold fc
  by_cases h : a = 0
  · subst h
    rw [if_pos rfl, if_neg (by omega)]
    omega
  · rw [if_neg h, if_neg (by omega)]
    have h : (o + a) % 64 = 0 := by omega
    omega
/-- What the loop of lay keeps. -/
structure LayI (W : World) (b mb n : Nat) (V : Nat → Option UInt8) (p R hd rm lm rc : Int) (kn : Bool) (o0 : Nat) (l' pre x y : List UInt8) (lax lay : Option Addr) (capx capy : Nat) (wr : World) : Prop where
  parts : l' = pre ++ x ++ y
  nul : x = [] → y = []
  one : (o0 + pre.length) % 64 + x.length ≤ 64
  al : x ≠ [] → pre = [] ∨ (o0 + pre.length) % 64 = 0
  full : y ≠ [] → (o0 + pre.length) % 64 + x.length = 64
  sx : Sl W lax x
  sy : Sl W lay y
  cy : y.length ≤ capy
  cO : wr.heap[W.heap.size]? = some (.cells #[.int .i64 ((o0 + pre.length + x.length : Nat) : Int)] 3 (0, 0))
  cD : wr.heap[W.heap.size + 1]? = some (.cells #[.slice lay y.length capy] 38 (0, 0))
  ib : ∃ nn, nn ≤ n + fc o0 pre.length ∧ Ib wr b mb nn (putF V o0 pre) p R (hd + cntF V o0 pre) rm lm rc kn
  ch : Chg (fun j => j = b ∨ j = mb) W wr
/-- The next part. -/
theorem LayI.next {W : World} {b mb n : Nat} {V : Nat → Option UInt8} {p R hd rm lm rc : Int} {kn : Bool} {o0 : Nat} {l' pre y : List UInt8} {lay : Option Addr} {capy : Nat} {wr : World}
    (hI : Ib W b mb n V p R hd rm lm rc kn) (hb : o0 + l'.length ≤ 4000000000000000000) (parts : l' = pre ++ y) (sy : Sl W lay y) (cy : y.length ≤ capy)
    (cO : wr.heap[W.heap.size]? = some (.cells #[.int .i64 ((o0 + pre.length : Nat) : Int)] 3 (0, 0))) (cD : wr.heap[W.heap.size + 1]? = some (.cells #[.slice lay y.length capy] 38 (0, 0)))
    (pal : y ≠ [] → pre = [] ∨ (o0 + pre.length) % 64 = 0) (ib : ∃ nn, nn ≤ n + fc o0 pre.length ∧ Ib wr b mb nn (putF V o0 pre) p R (hd + cntF V o0 pre) rm lm rc kn) (ch : Chg (fun j => j = b ∨ j = mb) W wr) :
    Calls Tryz.prog 226 #[.pointer (some ⟨W.heap.size, 0, none⟩), .pointer (some ⟨W.heap.size + 1, 0, none⟩)] wr fun e w' => ∃ x' y' lay' capy', y = x' ++ y' ∧ e = .returned (.tuple #[.int .i64 ((o0 + pre.length : Nat) : Int), .slice lay x'.length capy]) ∧ LayI W b mb n V p R hd rm lm rc kn o0 l' pre x' y' lay lay' capy capy' w' := by
  have hlen : l'.length = pre.length + y.length := by rw [parts, List.length_append]
  have hlb := (Array.getElem?_eq_some_iff.1 hI.1).1
  have hlm := hI.2.lt
  refine (next_c W.heap.size (W.heap.size + 1) (o0 + pre.length) ((o0 + pre.length) / 64) ((o0 + pre.length) % 64) y.length capy lay y wr (by omega) (by omega) (by omega) rfl cy (by omega) cO cD (hI.sl ch sy)).mono ?_
  rintro e w' ⟨rfl, la', h1, h2, h3, h4, h5⟩
  obtain ⟨k, hk⟩ : ∃ k, k = min y.length (64 - (o0 + pre.length) % 64) := ⟨_, rfl⟩
  rw [← hk] at h1 h2 h3 h4
  rw [← hk]
  have el : (y.take k).length = k := by rw [List.length_take]; omega
  have ed : (y.drop k).length = y.length - k := by rw [List.length_drop]
  have hsy : Sl W la' (y.drop k) := h3 W sy
  refine ⟨y.take k, y.drop k, la', capy - k, (List.take_append_drop k y).symm, by rw [el], ?_⟩
  refine ⟨by rw [List.append_assoc, List.take_append_drop]; exact parts, fun h => ?_, by rw [el]; omega, fun h => pal (fun e => h (by rw [e]; simp)), fun h => ?_, ?_, hsy, by rw [ed]; omega, by rw [el]; exact h1, by rw [ed]; exact h2, ?_, ch.andThen h5 (fun j hj e => by omega)⟩
  · have : (y.take k).length = 0 := by rw [h]; rfl
    apply List.eq_nil_of_length_eq_zero
    omega
  · have : (y.drop k).length ≠ 0 := fun e => h (List.eq_nil_of_length_eq_zero e)
    rw [el]
    omega
  · intro j hj
    rw [el] at hj
    obtain ⟨g, off, e, hc⟩ := sy j (by omega)
    exact ⟨g, off, e, by rw [List.getElem_take]; exact hc⟩
  · obtain ⟨nn, hnn, hib⟩ := ib
    exact ⟨nn, hnn, hib.kept h5 (by omega) (by omega)⟩
/-- A part laid. -/
theorem LayI.fill {W : World} {b mb n : Nat} {V : Nat → Option UInt8} {p R hd rm lm rc : Int} {kn : Bool} {o0 : Nat} {l' pre x y : List UInt8} {lax lay : Option Addr} {capx capy : Nat} {wr : World}
    (h : LayI W b mb n V p R hd rm lm rc kn o0 l' pre x y lax lay capx capy wr) (hI : Ib W b mb n V p R hd rm lm rc kn) (hb : o0 + l'.length ≤ 4000000000000000000) (hhd : 0 ≤ hd ∧ hd ≤ 100000000000000000) (hn : n ≤ 1000000000000000000) (hx : x ≠ []) :
    Calls Tryz.prog 217 #[.pointer (some ⟨b, 0, none⟩), .int .i64 ((o0 + pre.length : Nat) : Int), .slice lax x.length capx] wr fun e w' => e = .returned (.tuple #[]) ∧
      w'.heap[W.heap.size]? = some (.cells #[.int .i64 ((o0 + (pre ++ x).length : Nat) : Int)] 3 (0, 0)) ∧ w'.heap[W.heap.size + 1]? = some (.cells #[.slice lay y.length capy] 38 (0, 0)) ∧
      (∃ nn, nn ≤ n + fc o0 (pre ++ x).length ∧ Ib w' b mb nn (putF V o0 (pre ++ x)) p R (hd + cntF V o0 (pre ++ x)) rm lm rc kn) ∧ Chg (fun j => j = b ∨ j = mb) W w' := by
  obtain ⟨parts, nul, one, al, full, sx, sy, cy, cO, cD, ⟨nn, hnn, hib⟩, ch⟩ := h
  have hlen : l'.length = pre.length + x.length + y.length := by rw [parts, List.length_append, List.length_append]
  have hlb := (Array.getElem?_eq_some_iff.1 hI.1).1
  have hlm := hI.2.lt
  have hc1 := cntF_le V o0 pre
  have hxl : x.length ≠ 0 := fun e => hx (List.eq_nil_of_length_eq_zero e)
  have hd64 := Nat.div_add_mod (o0 + pre.length) 64
  have hfc : fc o0 pre.length + 1 ≤ fc o0 (pre.length + x.length) := fc_step _ _ _ hxl ((al hx).imp (fun h => by rw [h]; rfl) id)
  have hfb := fc_le o0 pre.length
  have hq := fill_c b mb nn ((o0 + pre.length) / 64) ((o0 + pre.length) % 64) (putF V o0 pre) p R (hd + cntF V o0 pre) rm lm rc kn lax capx x.length x wr rfl (hI.sl ch sx) (by omega) one (by omega) (by omega) (by omega) hib.1 hib.2
  rw [hd64] at hq
  refine hq.mono ?_
  rintro e w' ⟨rfl, h1, h2, h3⟩
  refine ⟨rfl, ?_, ?_, ⟨nn + 1, by rw [List.length_append]; omega, ?_, ?_⟩, ch.andThen h3 (fun j hj e => e)⟩
  · rw [h3.2.2.2.2 _ (Array.getElem?_eq_some_iff.1 cO).1 (by omega), cO, List.length_append, Nat.add_assoc]
  · rw [h3.2.2.2.2 _ (Array.getElem?_eq_some_iff.1 cD).1 (by omega), cD]
  · rw [cntF_append, h1, show (hd + ((cntF V o0 pre + cntF (putF V o0 pre) (o0 + pre.length) x : Nat) : Int)) = hd + (cntF V o0 pre : Int) + (cntF (putF V o0 pre) (o0 + pre.length) x : Int) by omega]
  · rw [putF_append]
    exact h2

set_option maxRecDepth 100000 in
set_option maxHeartbeats 400000 in
theorem lay_c (b mb n o p N cap R E : Nat) (V : Nat → Option UInt8) (hd rm lm rc : Int) (kn : Bool) (la : Option Addr) (l l' : List UInt8) (W : World) (hl : l.length = N) (hcap : N ≤ cap) (ho : o + N ≤ 4000000000000000000) (hp : p ≤ 4000000000000000000) (hhd : 0 ≤ hd ∧ hd ≤ 100000000000000000) (hn : n ≤ 1000000000000000000) (hT : TbI W)
    (hI : Ib W b mb n V p R hd rm lm rc kn) (hs : Sl W la l) (hl' : l' = l.drop (min N (p - o))) (hS : Stop (putF V (max o p) l') R E) (hE : E ≤ 5000000000000000000) :
    Calls Tryz.prog 192 #[.pointer (some ⟨b, 0, none⟩), .int .i64 o, .slice la N cap] W fun e w' => e = .returned (.tuple #[]) ∧
      (∃ nn, nn ≤ n + fc (max o p) l'.length ∧ Ib w' b mb nn (putF V (max o p) l') p E (hd + cntF V (max o p) l') rm lm rc kn) ∧ Chg (fun j => j = b ∨ j = mb) W w' := by
  have hb := hI.1
  have HI : Aside (Ib W b mb n V p R hd rm lm rc kn) := hI
  have HT : Aside (TbI W) := hT
  have HS : Aside (Stop (putF V (max o p) l') R E) := hS
  have hl'n : l'.length = N - min N (p - o) := by rw [hl', List.length_drop, hl]
  have LC : Aside _ := left_c b o p N cap _ _ _ _ _ _ _ la l W hl hcap (by omega) (by omega) (by omega) hb hs
  rw [← hl'n, ← hl'] at LC
  have hbd : max o p + l'.length ≤ 4000000000000000000 := by omega
  have hcy : l'.length ≤ cap - min N (p - o) := by omega
  generalize max o p = o0 at LC HS hbd ⊢
  generalize cap - min N (p - o) = capy at LC hcy
  have HLN : Aside (l'.length ≤ N) := by show _ ≤ _; omega
  clear hb hI hT hS hl' hl'n hs hl ho hp hcap
  go_enter Tryz.func192, Tryz.ntmps192
  go_wp2_with fail
  refine Calls.mono LC.out ?_
  rintro e W1 ⟨rfl, la', h1, h2, h3, h4⟩
  have NC : Aside _ := LayI.next (pre := []) (y := l') (capy := capy) HI.out hbd rfl h3 hcy h1 h2 (fun _ => .inl rfl) ⟨n, by simp [fc], by simpa [putF, cntF] using HI.out.kept h4 (fun h => h) (fun h => h)⟩ (h4.2.2.2.2 |> fun h => ⟨h4.1, h4.2.1, h4.2.2.1, h4.2.2.2.1, fun j hj _ => h j hj (fun h => h)⟩)
  clear h1 h2 h3 h4 LC
  go_wp2_with fail
  refine Calls.mono NC.out ?_
  rintro e W2 ⟨x0, y0, lay0, capy0, hxy, rfl, hL⟩
  have HL0 : Aside _ := hL
  have HXY : Aside _ := hxy
  clear hL NC hxy
  go_wp2_with fail
  go_loopg [7, 8] (l'.length + 1) (fun kx s7 s8 wr => ∃ pre x y lax lay capx capy, s7 = .int .i64 ((o0 + pre.length : Nat) : Int) ∧ s8 = .slice lax x.length capx ∧ x.length + y.length + 1 ≤ kx ∧ Aside (LayI W b mb n V p R hd rm lm rc kn o0 l' pre x y lax lay capx capy wr))
  case atStart => exact ⟨[], x0, y0, _, _, _, _, rfl, rfl, by rw [HXY.out, List.length_append]; omega, HL0.out⟩
  case round =>
    obtain ⟨pre, x, y, lax, lay, capx, capy', rfl, rfl, hkx, HL⟩ := hrel
    by_cases hx : x = []
    · have hx0 : x.length = 0 := by rw [hx]; rfl
      have i1 : ¬ (0 : Int) < (x.length : Int) := by omega
      have hLL : LayI W b mb n V p R hd rm lm rc kn o0 l' pre x y lax lay capx capy' wr := HL.out
      have hpre : l' = pre := by have := hLL.parts; rw [hx, hLL.nul hx] at this; simpa using this
      obtain ⟨nn, hnn, hib⟩ := hLL.ib
      rw [← hpre] at hnn hib
      have HC : Aside _ := adv_c b mb nn R E _ _ _ _ _ _ kn wr (HI.out.tb hLL.ch HT.out) HS.out hE hib.1 hib.2
      have HCH : Aside _ := hLL.ch
      have HIB : Aside _ := hib
      have HNN : Aside _ := hnn
      clear hnn hib hLL hpre HL
      go_wp2_with fail
      refine Calls.mono HC.out ?_
      rintro e w3 ⟨rfl, g1, g2⟩
      have HF : Aside (∃ nn, nn ≤ n + fc o0 l'.length ∧ Ib w3 b mb nn (putF V o0 l') p E (hd + cntF V o0 l') rm lm rc kn) := ⟨nn, HNN.out, g1, HIB.out.2.kept (g2.2.2.2.2 mb HIB.out.2.lt (fun e => Ib.ne HIB.out e.symm))⟩
      have HF2 : Aside (Chg (fun j => j = b ∨ j = mb) W w3)   := Chg.andThen HCH.out g2 (fun j _ e => .inl e)
      clear g1 g2
      go_wp2
      exact bodyPost_end (results_none rfl _ _ _) rfl ⟨rfl, HF.out, HF2.out⟩
    · have hx0 : x.length ≠ 0 := fun e => hx (List.eq_nil_of_length_eq_zero e)
      have i1 : (0 : Int) < (x.length : Int) := by omega
      have HC : Aside _ := LayI.fill HL.out HI.out hbd hhd hn hx
      go_wp2_with fail
      refine Calls.mono HC.out ?_
      rintro e w3 ⟨rfl, g1, g2, g3, g4⟩
      have hLL : LayI W b mb n V p R hd rm lm rc kn o0 l' pre x y lax lay capx capy' wr := HL.out
      have NC : Aside _ := LayI.next (pre := pre ++ x) HI.out hbd hLL.parts hLL.sy hLL.cy g1 g2 (fun h => .inr (by have := hLL.full h; rw [List.length_append]; omega)) g3 g4
      clear g1 g2 g3 g4 hLL HL HC
      go_wp2_with fail
      refine Calls.mono NC.out ?_
      rintro e w4 ⟨x1, y1, lay1, capy1, hxy1, rfl, hL1⟩
      have HL1 : Aside _ := hL1
      have HXY1 : Aside _ := hxy1
      clear hL1 NC hxy1
      go_wp2
      go_roundg (x1.length + y1.length + 1)
      case measure => have := congrArg List.length HXY1.out; rw [List.length_append] at this; omega
      case rel => exact ⟨pre ++ x, x1, y1, _, _, _, _, by congr 1; rw [List.length_append]; omega, rfl, Nat.le_refl _, HL1.out⟩
end Go.Proofs.YtijndpjdmiljkaaGreatDoor
