/- What the walks of caravellaw02.HeaderBack need of the bytes: plain facts. -/
import Derived.Test.YtlllejgpmdeeiaaDoorBackBase
namespace Go.Proofs.YtlllejgpmdeeiaaDoor
open Go.ChangeShapes Go.WideShapes Go.ChangeAt Go.RowKit
set_option linter.unusedVariables false

/-- what is read again of a header with a number -/
structure Bk (l : List UInt8) (ids k len n low : Int) (A : Nat) (D S T : List UInt8) (ph : Bool) : Prop where
  read : ∃ p, parse l ids = some p ∧ p.k = k ∧ p.at' = A ∧ piece l p.d = D ∧ (k ≠ 5 → piece l p.s = S ∧ p.len = len) ∧ (k = 0 → piece l p.t = T) ∧ (k = 5 → p.ph = ph) ∧ p.tag.length = 16
  size : ((fb l % 4 : Nat) : Int) + 1 = n
  clear' : clr (fb l) = true
  low' : gV l A n = low % (256 ^ n.toNat : Nat)
  one : 1 ≤ A
  room : (A : Int) + n ≤ l.length
  small : l.length ≤ 20000

theorem gV_at (P Z : List UInt8) (n low : Int) (h1 : 1 ≤ n) (h4 : n ≤ 4) (hlow : 0 ≤ low) (hP : 0 < P.length) (l : List UInt8) (hl : l = P ++ (be n.toNat low.toNat ++ Z)) : gV l P.length n = low % (256 ^ n.toNat : Nat) ∧ (P.length : Int) + n ≤ l.length := by
  have hlen : (P.length : Int) + n ≤ l.length := by rw [hl]; simp [be_length]; omega
  refine ⟨?_, hlen⟩
  unfold gV
  rw [if_pos (by unfold gOk; omega), Int.toNat_natCast]
  have e : sub l P.length n.toNat = be n.toNat low.toNat := by
    rw [hl]
    unfold sub
    rw [List.drop_append_of_le_length (Nat.le_refl _), List.drop_length, List.nil_append, List.take_append_of_le_length (by rw [be_length]; exact Nat.le_refl _), List.take_of_length_le (by rw [be_length]; exact Nat.le_refl _)]
  rw [e, num_be]
  rw [Int.natCast_emod, Int.toNat_of_nonneg hlow]

theorem clr_long {F : Nat} (h : F / 128 % 2 = 1) (h2 : F / 4 % 4 = 0) : clr F = true := by unfold clr; rw [if_pos h, h2]; rfl
theorem clr_short {F : Nat} (h : ¬ F / 128 % 2 = 1) (h2 : F / 8 % 4 = 0) : clr F = true := by unfold clr; rw [if_neg h, h2]; rfl

theorem bk_12 (k G n : Int) (hk : k = 1 ∧ G = 207 ∨ k = 2 ∧ G = 223) (len : Nat) (low : Int) (D S T : List UInt8) (ph : Bool) (n1 : 1 ≤ n) (n4 : n ≤ 4) (hn : n ≤ len) (hlen : len ≤ 16383) (hd : D.length ≤ 20) (hs : S.length ≤ 20) (hlow : 0 ≤ low) (X : List UInt8) (A : Nat) (l : List UInt8)
    (hX : X = longB (UInt8.ofNat (G + n).toNat) 1 D S ++ enc 2 len ++ be n.toNat low.toNat) (hA : A = (longB (UInt8.ofNat (G + n).toNat) 1 D S ++ enc 2 len).length) (hl : l = X ++ List.replicate len 0) : Bk l 0 k len n low A D S T ph := by
  have hl2 : l = longB (UInt8.ofNat (G + n).toNat) 1 D S ++ (enc 2 len ++ (be n.toNat low.toNat ++ List.replicate len 0)) := by rw [hl, hX]; simp
  obtain ⟨p1, p2, p3, p4⟩ := back_12 k.toNat (G + n).toNat D S len _ (by omega) (by omega) (by omega) (by omega) (by omega) hd hs hlen (by simp) l hl2
  have hAv : A = 9 + D.length + S.length := by rw [hA, List.length_append, longB_length, enc_length]; show 7 + D.length + S.length + 2 = _; omega
  have hll : l.length = A + n.toNat + len := by rw [hl, hX, List.length_append, List.length_append, ← hA, be_length, List.length_replicate]
  obtain ⟨g1, g2⟩ := gV_at (longB (UInt8.ofNat (G + n).toNat) 1 D S ++ enc 2 len) (List.replicate len 0) n low n1 n4 hlow (by rw [← hA]; omega) l (by rw [hl2]; simp)
  rw [← hA] at g1 g2
  refine ⟨⟨_, p1, by show ((k.toNat : Nat) : Int) = k; omega, by show ((9 + D.length + S.length : Nat) : Int) = A; omega, p3, fun _ => ⟨p4, rfl⟩, fun h => by omega, fun h => by omega, rfl⟩, by rw [p2]; omega, by rw [p2]; exact clr_long (by omega) (by omega), g1, by omega, g2, by omega⟩

theorem bk_0 (n : Int) (len : Nat) (low : Int) (D S T : List UInt8) (ph : Bool) (n1 : 1 ≤ n) (n4 : n ≤ 4) (hn : n ≤ len) (hlen : len ≤ 16383) (hd : D.length ≤ 20) (hs : S.length ≤ 20) (ht : T.length ≤ 512) (hlow : 0 ≤ low) (X : List UInt8) (A : Nat) (l : List UInt8)
    (hX : X = longB (UInt8.ofNat (191 + n).toNat) 1 D S ++ enc (szN T.length) T.length ++ T ++ enc 2 len ++ be n.toNat low.toNat) (hA : A = (longB (UInt8.ofNat (191 + n).toNat) 1 D S ++ enc (szN T.length) T.length ++ T ++ enc 2 len).length) (hl : l = X ++ List.replicate len 0) : Bk l 0 0 len n low A D S T ph := by
  have hl2 : l = longB (UInt8.ofNat (191 + n).toNat) 1 D S ++ (enc (szN T.length) T.length ++ (T ++ (enc 2 len ++ (be n.toNat low.toNat ++ List.replicate len 0)))) := by rw [hl, hX]; simp
  obtain ⟨o, at', p1, p1', p2, p3, p4, p5⟩ := back_0 (191 + n).toNat D S T len _ (by omega) (by omega) (by omega) (by omega) hd hs ht hlen (by simp) l hl2
  rw [← hA] at p1'
  have hsz : (szN (T.length : Int)).toNat ≤ 8 := by unfold szN; split <;> (try split) <;> (try split) <;> decide
  have hAv : A = 9 + D.length + S.length + (szN (T.length : Int)).toNat + T.length := by
    rw [hA]
    simp only [List.length_append, longB_length, enc_length]
    show 7 + D.length + S.length + (szN (T.length : Int)).toNat + T.length + 2 = _
    omega
  have hll : l.length = A + n.toNat + len := by rw [hl, hX, List.length_append, List.length_append, ← hA, be_length, List.length_replicate]
  obtain ⟨g1, g2⟩ := gV_at (longB (UInt8.ofNat (191 + n).toNat) 1 D S ++ enc (szN T.length) T.length ++ T ++ enc 2 len) (List.replicate len 0) n low n1 n4 hlow (by rw [← hA]; omega) l (by rw [hl2]; simp)
  rw [← hA] at g1 g2
  refine ⟨⟨_, p1, rfl, p1', p3, fun _ => ⟨p4, rfl⟩, fun h => p5, fun h => by omega, rfl⟩, by rw [p2]; omega, by rw [p2]; exact clr_long (by omega) (by omega), g1, by omega, g2, by omega⟩

theorem bk_5 (n : Int) (len low : Int) (D S T : List UInt8) (ph : Bool) (n1 : 1 ≤ n) (n4 : n ≤ 4) (hd : D.length ≤ 20) (hlow : 0 ≤ low) (A : Nat) (l : List UInt8)
    (hX : l = [UInt8.ofNat (sB ph n).toNat] ++ D ++ be n.toNat low.toNat) (hA : A = ([UInt8.ofNat (sB ph n).toNat] ++ D).length) : Bk l D.length 5 len n low A D S T ph := by
  have hF : sB ph n = (if ph = true then 67 else 63) + n := by unfold sB; split <;> rfl
  obtain ⟨F, hFF⟩ : ∃ F, (sB ph n).toNat = F := ⟨_, rfl⟩
  have hFb : ph = true ∧ F = 67 + n.toNat ∨ ph = false ∧ F = 63 + n.toNat := by
    rw [← hFF, hF]
    cases ph <;> simp <;> omega
  rw [hFF] at hX hA
  obtain ⟨p1, p2, p3⟩ := back_5 F D (be n.toNat low.toNat) (by omega) (by omega) hd l hX
  have hAv : A = 1 + D.length := by rw [hA]; simp; omega
  have hll : l.length = A + n.toNat := by rw [hX, List.length_append, ← hA, be_length]
  obtain ⟨g1, g2⟩ := gV_at ([UInt8.ofNat F] ++ D) [] n low n1 n4 hlow (by rw [← hA]; omega) l (by rw [hX]; simp)
  rw [← hA] at g1 g2
  refine ⟨⟨_, p1, rfl, by show ((1 + D.length : Nat) : Int) = A; omega, p3, fun h => absurd rfl h, fun h => by omega, fun _ => ?_, rfl⟩, by rw [p2]; omega, by rw [p2]; exact clr_short (by omega) (by omega), g1, by omega, g2, by omega⟩
  show bit F 4 = ph
  unfold bit
  rcases hFb with ⟨h1, h2⟩ | ⟨h1, h2⟩
  · rw [h1, beq_iff_eq]; omega
  · rw [h1, beq_eq_false_iff_ne]; omega

theorem below_drewN {B : Nat} {w w' : World} (h : Below B w w') (k : Nat) : Below B w (w'.drewN k) := ⟨h.os, h.tape, h.output, h.size, h.block⟩
theorem low_mask {low : Int} (h0 : 0 ≤ low) (h1 : low < 18446744073709551616) : bits .and .u64 low 255 = low % 256 ∧ bits .and .u64 low 65535 = low % 65536 ∧ bits .and .u64 low 16777215 = low % 16777216 ∧ bits .and .u64 low 4294967295 = low % 4294967296 :=
  ⟨bits_mask .u64 64 (by decide) wraps_u64 8 (by decide) low h0 (by omega), bits_mask .u64 64 (by decide) wraps_u64 16 (by decide) low h0 (by omega), bits_mask .u64 64 (by decide) wraps_u64 24 (by decide) low h0 (by omega), bits_mask .u64 64 (by decide) wraps_u64 32 (by decide) low h0 (by omega)⟩
/-- what header.Read answers (ReadH) -/
abbrev ReadA : Prop := ∀ (ao : Option Addr) (l : List UInt8) (cap : Nat) (ids : Int) (w : World) (hs : Sl w ao l) (ht : Tb w) (hl : l.length ≤ 140737488355327) (hc' : l.length ≤ cap) (hcm : cap ≤ 9223372036854775807)
      (hv : num (sub l 1 4) = 0 → l.length ≤ 70368744177664) (b off : Nat) (hao : 0 < l.length → ao = some ⟨b, off, none⟩),
      Calls Tryd.prog 16 #[.slice ao l.length cap, .int .i64 ids] w fun e w' => ∃ cs a E, e = .returned (.tuple #[.agg cs, .int .i64 a, .int .i64 E]) ∧ ReadP w w' l ids cs a E

/-- the header that was put and the one that was read, side by side -/
structure Back6 (W w : World) (H G : Nat) (k : Int) (d s t : Value) (len : Int) (ph : Bool) (d' s' t' : Value) (len' : Int) (ph' : Bool) (D S T : List UInt8) : Prop where
  h : W.cell? ⟨H, 0, none⟩ = some (.int .i64 k) ∧ W.cell? ⟨H, 2, none⟩ = some d ∧ W.cell? ⟨H, 3, none⟩ = some s ∧ W.cell? ⟨H, 4, none⟩ = some t ∧ W.cell? ⟨H, 5, none⟩ = some (.int .i64 len) ∧ W.cell? ⟨H, 6, none⟩ = some (.bool ph) ∧ ∃ lv, W.cell? ⟨H, 7, none⟩ = some lv
  g : W.cell? ⟨G, 0, none⟩ = some (.int .i64 k) ∧ W.cell? ⟨G, 2, none⟩ = some d' ∧ W.cell? ⟨G, 3, none⟩ = some s' ∧ W.cell? ⟨G, 4, none⟩ = some t' ∧ W.cell? ⟨G, 5, none⟩ = some (.int .i64 len') ∧ W.cell? ⟨G, 6, none⟩ = some (.bool ph') ∧ ∃ lv, W.cell? ⟨G, 7, none⟩ = some lv
  sd' : (convert 22 9 d').run Tryd.prog W = .ok (.string ⟨D.toArray⟩) W
  ss' : k ≠ 5 → (convert 22 9 s').run Tryd.prog W = .ok (.string ⟨S.toArray⟩) W
  sd : (convert 22 9 d).run Tryd.prog W = .ok (.string ⟨D.toArray⟩) W
  ss : (convert 22 9 s).run Tryd.prog W = .ok (.string ⟨S.toArray⟩) W
  st : (convert 22 9 t).run Tryd.prog W = .ok (.string ⟨T.toArray⟩) W
  st' : k = 0 → (convert 22 9 t').run Tryd.prog W = .ok (.string ⟨T.toArray⟩) W
  below : Below w.heap.size w W
theorem row_some {W : World} {g : Nat} {cs : Array Value} {k ver : Int} {d s t : Value} {len : Int} {ph : Bool} {lv : Value} {tg : List Value} (h : W.heap[g]? = some (.cells cs 26 (0, 0))) (hcs : cs = (hc k ver d s t len ph lv tg).toArray) :
    W.cell? ⟨g, 0, none⟩ = some (.int .i64 k) ∧ W.cell? ⟨g, 2, none⟩ = some d ∧ W.cell? ⟨g, 3, none⟩ = some s ∧ W.cell? ⟨g, 4, none⟩ = some t ∧ W.cell? ⟨g, 5, none⟩ = some (.int .i64 len) ∧ W.cell? ⟨g, 6, none⟩ = some (.bool ph) ∧ ∃ lv, W.cell? ⟨g, 7, none⟩ = some lv := by
  obtain ⟨a, b, c, d, e, f, g⟩ := row_all h hcs
  exact ⟨a, b, c, d, e, f, _, g⟩
end Go.Proofs.YtlllejgpmdeeiaaDoor
