/- What the bytes of a header of another version say: plain facts. -/
import Derived.Test.YtlllejgpmdeeiaaDoorClone
namespace Go.Proofs.YtlllejgpmdeeiaaDoor
open Go.ChangeShapes Go.WideShapes Go.ChangeAt Go.RowKit
set_option linter.unusedVariables false

/-- the first six bytes -/
def hb (V : Int) (n : Nat) : List UInt8 := [128, UInt8.ofNat (V / 16777216).toNat, UInt8.ofNat (V / 65536 % 256).toNat, UInt8.ofNat (V / 256 % 256).toNat, UInt8.ofNat (V % 256).toNat, UInt8.ofNat n]
def h6 (V : Int) (n : Nat) : List Value := [.int .u8 128, .int .u8 (V / 16777216), .int .u8 (V / 65536 % 256), .int .u8 (V / 256 % 256), .int .u8 (V % 256), .int .u8 n]
theorem u8_int (x : Int) (h0 : 0 ≤ x) (h1 : x < 256) : Value.int .u8 x = Value.int .u8 ((UInt8.ofNat x.toNat).toNat : Int) := by
  rw [UInt8.toNat_ofNat', show ((x.toNat % 2 ^ 8 : Nat) : Int) = x by omega]
theorem h6_bc {V : Int} {n : Nat} (h0 : 0 ≤ V) (h1 : V ≤ 4294967295) (hn : n ≤ 20) : h6 V n = bc (hb V n) := by
  unfold h6 hb bc
  simp only [List.map_cons, List.map_nil]
  rw [← u8_int (V / 16777216) (by omega) (by omega), ← u8_int (V / 65536 % 256) (by omega) (by omega), ← u8_int (V / 256 % 256) (by omega) (by omega), ← u8_int (V % 256) (by omega) (by omega)]
  have e : ((UInt8.ofNat n).toNat : Int) = n := by rw [UInt8.toNat_ofNat']; omega
  rw [e]
  rfl

theorem others_parse {V : Int} {D X : List UInt8} (h0 : V ≠ 0) (h1 : V ≠ 1) (hV0 : 0 ≤ V) (hV1 : V ≤ 4294967295) (hn : D.length ≤ 20) (l : List UInt8) (hl : l = hb V D.length ++ (D ++ (2 :: 8 :: 9 :: X))) :
    parse l 0 = some ⟨6, V, some (6, D.length), some (7 + D.length, 2), none, 0, false, [], zs, ((7 + D.length + 2 : Nat) : Int)⟩ ∧ piece l (some (6, D.length)) = D ∧ piece l (some (7 + D.length, 2)) = [8, 9] ∧ l.length = 9 + D.length + X.length ∧ num (sub l 1 4) ≠ 0 := by
  have hlen : l.length = 9 + D.length + X.length := by rw [hl]; simp [hb]; omega
  have hf : fb l = 128 := by rw [hl]; rfl
  have hN : idN l = D.length := by
    unfold idN
    rw [hl]
    show (UInt8.ofNat D.length).toNat = D.length
    rw [UInt8.toNat_ofNat']; omega
  have hM : idM l = 2 := by
    unfold idM
    rw [hN, hl]
    rw [show (hb V D.length ++ (D ++ (2 :: 8 :: 9 :: X))).getD (6 + D.length) 0 = 2 by
      rw [List.getD_eq_getElem?_getD, List.getElem?_append_right (by simp [hb]), show 6 + D.length - (hb V D.length).length = D.length by simp [hb], List.getElem?_append_right (Nat.le_refl _), Nat.sub_self]
      rfl]
    rfl
  have hnum : ((num (sub l 1 4) : Nat) : Int) = V := by
    rw [hl]
    have e : sub (hb V D.length ++ (D ++ (2 :: 8 :: 9 :: X))) 1 4 = [UInt8.ofNat (V / 16777216).toNat, UInt8.ofNat (V / 65536 % 256).toNat, UInt8.ofNat (V / 256 % 256).toNat, UInt8.ofNat (V % 256).toNat] := rfl
    rw [e]
    simp only [num, List.foldl_cons, List.foldl_nil, UInt8.toNat_ofNat']
    omega
  refine ⟨?_, ?_, ?_, hlen, fun h => by rw [h] at hnum; exact h0 hnum.symm⟩
  · unfold parse
    rw [if_neg (by omega), if_neg (by rw [hf]; decide)]
    unfold pLong
    rw [if_pos ⟨⟨by rw [hN]; omega, by rw [hN, hM]; omega⟩, by rw [hN]; exact hn, by rw [hM]; decide⟩, hN, hM, hnum]
    unfold pRest
    rw [if_neg h0, if_neg h1]
  · show sub l 6 D.length = D
    rw [hl]
    show (D ++ (2 :: 8 :: 9 :: X)).take D.length = D
    simp
  · show sub l (7 + D.length) 2 = [8, 9]
    rw [hl]
    have e : (hb V D.length ++ (D ++ (2 :: 8 :: 9 :: X))).drop (7 + D.length) = 8 :: 9 :: X := by
      rw [List.drop_append, List.drop_eq_nil_of_le (by simp [hb]; omega), List.nil_append, show 7 + D.length - (hb V D.length).length = D.length + 1 by simp [hb]; omega, List.drop_append, List.drop_eq_nil_of_le (by omega), List.nil_append, show D.length + 1 - D.length = 1 by omega]
      rfl
    unfold sub
    rw [e]
    rfl
end Go.Proofs.YtlllejgpmdeeiaaDoor
