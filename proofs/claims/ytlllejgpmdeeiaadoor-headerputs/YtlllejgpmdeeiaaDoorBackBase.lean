/- What the walks of caravellaw02.HeaderBack lean on. -/
import Derived.Test.YtlllejgpmdeeiaaDoorPutH
import Derived.Test.YtlllejgpmdeeiaaDoorReadP
import Derived.Test.YtlllejgpmdeeiaaDoorNumH
import Derived.Test.YtlllejgpmdeeiaaDoorBackPure
import Derived.Test.YtlllejgpmdeeiaaDoorZeros
namespace Go.Proofs.YtlllejgpmdeeiaaDoor
open Go.ChangeShapes Go.WideShapes Go.ChangeAt Go.RowKit
set_option linter.unusedVariables false

abbrev PutB1 (n len low : Int) (D S T : List UInt8) (lst : List Int) (tag : List UInt8) (ph : Bool) (X : List UInt8) (A : Nat) : Prop := X = longB (UInt8.ofNat (207 + n).toNat) 1 D S ++ enc 2 len ++ be n.toNat low.toNat ∧ A = (longB (UInt8.ofNat (207 + n).toNat) 1 D S ++ enc 2 len).length
abbrev PutB2 (n len low : Int) (D S T : List UInt8) (lst : List Int) (tag : List UInt8) (ph : Bool) (X : List UInt8) (A : Nat) : Prop := X = longB (UInt8.ofNat (223 + n).toNat) 1 D S ++ enc 2 len ++ be n.toNat low.toNat ∧ A = (longB (UInt8.ofNat (223 + n).toNat) 1 D S ++ enc 2 len).length
abbrev PutB0 (n len low : Int) (D S T : List UInt8) (lst : List Int) (tag : List UInt8) (ph : Bool) (X : List UInt8) (A : Nat) : Prop := X = longB (UInt8.ofNat (191 + n).toNat) 1 D S ++ enc (szN T.length) T.length ++ T ++ enc 2 len ++ be n.toNat low.toNat ∧ A = (longB (UInt8.ofNat (191 + n).toNat) 1 D S ++ enc (szN T.length) T.length ++ T ++ enc 2 len).length
abbrev PutB3 (n len low : Int) (D S T : List UInt8) (lst : List Int) (tag : List UInt8) (ph : Bool) (X : List UInt8) (A : Nat) : Prop := X = longB (UInt8.ofNat (240 : Int).toNat) 1 D S ++ T ++ tag ∧ A = (longB (UInt8.ofNat (240 : Int).toNat) 1 D S ++ T ++ tag).length
abbrev PutB4 (n len low : Int) (D S T : List UInt8) (lst : List Int) (tag : List UInt8) (ph : Bool) (X : List UInt8) (A : Nat) : Prop := X = longB (UInt8.ofNat (192 : Int).toNat) 0 D S ++ vB lst ∧ A = (longB (UInt8.ofNat (192 : Int).toNat) 0 D S ++ vB lst).length
abbrev PutB5 (n len low : Int) (D S T : List UInt8) (lst : List Int) (tag : List UInt8) (ph : Bool) (X : List UInt8) (A : Nat) : Prop := X = [UInt8.ofNat (sB ph n).toNat] ++ D ++ be n.toNat low.toNat ∧ A = ([UInt8.ofNat (sB ph n).toNat] ++ D).length

/-- what a header that can be put keeps to -/
abbrev MayQ (k len n : Int) (d s t : Nat) (lst : List Int) : Prop := d ≤ 20 ∧ (k ≠ 5 → s ≤ 20) ∧ (k = 0 → t ≤ 512) ∧ (k = 0 ∨ k = 1 ∨ k = 2 → n ≤ len ∧ len ≤ 16383) ∧ (k ≠ 3 ∧ k ≠ 4 → 1 ≤ n ∧ n ≤ 4) ∧ (k = 3 → 1 ≤ t ∧ t ≤ 512) ∧ (k = 4 → 0 < lst.length ∧ lst.any noV = false)
theorem Il_below {w w' : World} {ao : Option Addr} {l : List Int} (hs : Il w ao l) (hb : Below w.heap.size w w') : Il w' ao l := by
  intro j hj
  obtain ⟨b, off, he, hc⟩ := hs j hj
  exact ⟨b, off, he, (hb.cell (p := ⟨b, off + j, none⟩) (World.block_lt_of_cell? w _ hc)).trans hc⟩
theorem mayQ {k len n : Int} {d s t : Nat} {lst : List Int} (h : mayP k len n d s t lst) : MayQ k len n d s t lst := by
  obtain ⟨h1, h2, h3⟩ := h
  unfold mayK at h3
  refine ⟨h1, by omega, by omega, by omega, by omega, by omega, fun hk => ?_⟩
  rcases h3 with h | h | h | h | h
  · omega
  · omega
  · omega
  · omega
  · exact h.2
theorem Il_lt {w : World} {la : Option Addr} {lst : List Int} (h : Il w la lst) (h0 : 0 < lst.length) (ad : Addr) (he : la = some ad) : ad.block < w.heap.size := by
  obtain ⟨b, off, he', hc⟩ := h 0 h0
  rw [he] at he'
  cases he'
  exact World.block_lt_of_cell? w _ hc

/-- the law's own example -/
theorem put_one (g : Nat) (cs : Array Value) (hcs : cs = (hc 5 0 (.slice (some ⟨g, 0, none⟩) 1 1) (.slice none 0 0) (.slice none 0 0) 0 true (.slice none 0 0) (bc zs)).toArray) (w : World) (ht : Tb w) (hg : Sl w (some ⟨g, 0, none⟩) [7]) :
    Calls Tryd.prog 8 #[.agg cs, .int .u64 5, .int .i64 1] w fun e w' => ∃ oa cp, e = .returned (.tuple #[.slice oa 3 cp, .int .i64 2, .int .i64 0]) ∧ (convert 22 9 (.slice oa 3 cp)).run Tryd.prog w' = .ok (.string ⟨#[68, 7, 5]⟩) w' ∧ Below w.heap.size w w' := by
  have h := put_5 cs 0 0 1 5 (some ⟨g, 0, none⟩) none none none 1 0 0 0 [7] [] [] [] true (bc zs) w hcs bc_zs ht hg (fun j hj => absurd hj (by simp)) (fun j hj => absurd hj (by simp)) (fun j hj => absurd hj (by simp)) (fun h => by cases h) (fun _ => ⟨rfl, rfl⟩) (fun _ => ⟨rfl, rfl⟩) (by decide) (by decide) (by decide) (by decide) (by decide) ⟨by decide, .inl rfl, .inr (.inr (.inl ⟨rfl, by decide, by decide⟩))⟩
  refine h.mono ?_
  rintro e w' ⟨y, rfl, hby, hb⟩
  obtain ⟨ao, cp, rfl, han, hsl, _⟩ := hby.parts
  exact ⟨ao, cp, rfl, str_any (l := [68, 7, 5]) hsl rfl han, hb⟩
theorem row_all {W : World} {g : Nat} {cs : Array Value} {k ver : Int} {d s t : Value} {len : Int} {ph : Bool} {lv : Value} {tg : List Value} (h : W.heap[g]? = some (.cells cs 26 (0, 0))) (hcs : cs = (hc k ver d s t len ph lv tg).toArray) :
    W.cell? ⟨g, 0, none⟩ = some (.int .i64 k) ∧ W.cell? ⟨g, 2, none⟩ = some d ∧ W.cell? ⟨g, 3, none⟩ = some s ∧ W.cell? ⟨g, 4, none⟩ = some t ∧ W.cell? ⟨g, 5, none⟩ = some (.int .i64 len) ∧ W.cell? ⟨g, 6, none⟩ = some (.bool ph) ∧ W.cell? ⟨g, 7, none⟩ = some lv := by
  refine ⟨?_, ?_, ?_, ?_, ?_, ?_, ?_⟩ <;> (unfold World.cell?; rw [h, hcs]; rfl)
theorem hc_ones {k ver : Int} {da sa ta : Option Addr} {dn dc sn sc tn tc : Nat} {len : Int} {ph : Bool} {lv : Value} {tag : List UInt8} {cs : Array Value} (hcs : cs = (hc k ver (.slice da dn dc) (.slice sa sn sc) (.slice ta tn tc) len ph lv (bc tag)).toArray) (h : lv.oneCell' = true) : cs.all (·.oneCell') = true := by
  rw [hcs, List.all_toArray]
  unfold hc
  rw [List.all_append, bc_all]
  simp [Value.oneCell']
  exact h
theorem bc_zeros (X : List UInt8) (m : Nat) : bc X ++ List.replicate m (Value.int .u8 0) = bc (X ++ List.replicate m 0) := by
  rw [bc_append]
  simp [bc]
/-- the bytes with zeros behind them -/
theorem zeros_made {w w3 w4 : World} {X : List UInt8} {g cp m g4 cp4 : Nat} (h0 : 0 < X.length) (hg : w.heap.size + 2 ≤ g) (hb : Below w.heap.size w w3) (hlt : w.heap.size < w3.heap.size)
    (ho : w4.ownsRow (w.heap.size + 2) 5 1 (.slice (some ⟨g4, 0, none⟩) (X.length + m) cp4) (X.length + m) (bc X ++ List.replicate m (Value.int .u8 0))) (hgr : w3.grownBy w4 (Value.slice (some ⟨g, 0, none⟩) X.length cp).ownBlock) :
    Below w.heap.size w w4 ∧ Sl w4 (some ⟨g4, 0, none⟩) (X ++ List.replicate m 0) ∧ X.length + m ≤ cp4 ∧ cp4 ≤ 9223372036854775807 ∧ w4.heap[w.heap.size]? = w3.heap[w.heap.size]? ∧ w.heap.size < w4.heap.size := by
  obtain ⟨g', c', cur, he, k1, k2, k3, k4, k5, k6⟩ := own_shape ho (by omega)
  simp only [Value.slice.injEq, Option.some.injEq, Addr.mk.injEq, true_and, and_true] at he
  obtain ⟨rfl, rfl⟩ := he
  refine ⟨hb.grown hgr hb.size (fun k hk => by simp [Value.ownBlock] at hk; omega), Sl_own k2 (by rw [List.length_append, List.length_replicate, k6, bc_zeros]), k3, by unfold maxLen at k4; omega, hgr.block _ hlt (by simp [Value.ownBlock]; omega), Nat.lt_of_lt_of_le hlt hgr.size⟩
end Go.Proofs.YtlllejgpmdeeiaaDoor
