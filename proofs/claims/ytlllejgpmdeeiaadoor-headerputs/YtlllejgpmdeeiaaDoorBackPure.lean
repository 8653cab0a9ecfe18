/- What the bytes that header.Put lays say when they are read: plain facts. -/
import Derived.Test.YtlllejgpmdeeiaaDoorPutV
namespace Go.Proofs.YtlllejgpmdeeiaaDoor
open Go.ChangeShapes Go.WideShapes Go.ChangeAt Go.RowKit
set_option linter.unusedVariables false

theorem var_at_1 (A R : List UInt8) (v : Nat) (h : v < 64) (l : List UInt8) (hl : l = A ++ (enc 1 v ++ R)) : vV l A.length = v ∧ vN l A.length = A.length + 1 ∧ vE l A.length = 0 := by
  have e : enc 1 (v : Int) = [UInt8.ofNat v] := by rw [enc_1, Int.toNat_natCast]; simp [be]
  rw [e] at hl
  have hlen : A.length < l.length := by rw [hl]; simp
  have hg : l[A.length] = UInt8.ofNat v := by subst hl; simp
  have hw : wd l A.length = 1 := wd_of hlen (q := 0) (by rw [hg, UInt8.toNat_ofNat']; omega)
  obtain ⟨r1, r2, r3⟩ := v_yes (n := 1) 64 (by decide) hlen hw (by omega)
  refine ⟨?_, by simpa using r2, r3⟩
  have es : sub l A.length 1 = [UInt8.ofNat v] := by subst hl; simp [sub]
  rw [r1, es]
  simp [num]
  omega
theorem var_at_2 (A R : List UInt8) (v : Nat) (h : v < 16384) (l : List UInt8) (hl : l = A ++ (enc 2 v ++ R)) : vV l A.length = v ∧ vN l A.length = A.length + 2 ∧ vE l A.length = 0 := by
  have e : enc 2 (v : Int) = [UInt8.ofNat ((16384 + v) / 256), UInt8.ofNat (16384 + v)] := by
    rw [enc_2, show ((16384 : Int) + v).toNat = 16384 + v by omega]; simp [be]
  rw [e] at hl
  have hlen : A.length < l.length := by rw [hl]; simp
  have hlen2 : A.length + 2 ≤ l.length := by rw [hl]; simp
  have hg : l[A.length] = UInt8.ofNat ((16384 + v) / 256) := by subst hl; simp
  have hw : wd l A.length = 2 := wd_of hlen (q := 1) (by rw [hg, UInt8.toNat_ofNat']; omega)
  obtain ⟨r1, r2, r3⟩ := v_yes (n := 2) 16384 (by decide) hlen hw (by omega)
  refine ⟨?_, by simpa using r2, r3⟩
  have es : sub l A.length 2 = [UInt8.ofNat ((16384 + v) / 256), UInt8.ofNat (16384 + v)] := by subst hl; simp [sub]
  rw [r1, es]
  simp only [num, List.foldl_cons, List.foldl_nil, UInt8.toNat_ofNat']
  omega

theorem longB_length (F : UInt8) (U : Nat) (D S : List UInt8) : (longB F U D S).length = 7 + D.length + S.length := by simp [longB, be_length]; omega
/-- a long header's bytes, read up to the identifiers' end -/
theorem long_parse (F : UInt8) (U : Nat) (D S R : List UInt8) (hF : F.toNat / 128 % 2 = 1) (hU : U < 2) (hd : D.length ≤ 20) (hs : S.length ≤ 20) (l : List UInt8) (hl : l = longB F U D S ++ R) :
    parse l 0 = pRest l (U : Nat) (some (6, D.length)) (some (7 + D.length, S.length)) ((7 + D.length + S.length : Nat) : Int) ∧ fb l = F.toNat ∧ piece l (some (6, D.length)) = D ∧ piece l (some (7 + D.length, S.length)) = S ∧ l.length = 7 + D.length + S.length + R.length := by
  have hl2 : l = F :: (be 4 U ++ (UInt8.ofNat D.length :: (D ++ (UInt8.ofNat S.length :: (S ++ R))))) := by rw [hl]; simp [longB]
  have hbe : ∃ a b c d, be 4 U = [a, b, c, d] ∧ num [a, b, c, d] = U := by
    refine ⟨_, _, _, _, rfl, ?_⟩
    have := num_be U 4
    simp only [be] at this
    rw [this]
    omega
  obtain ⟨a, b, c, d, hb, hn⟩ := hbe
  rw [hb] at hl2
  have hl3 : l = F :: a :: b :: c :: d :: UInt8.ofNat D.length :: (D ++ (UInt8.ofNat S.length :: (S ++ R))) := hl2
  have hlen : l.length = 7 + D.length + S.length + R.length := by rw [hl3]; simp; omega
  have hf : fb l = F.toNat := by rw [hl3]; rfl
  have hN : idN l = D.length := by
    unfold idN
    rw [hl3]
    show (UInt8.ofNat D.length).toNat = D.length
    rw [UInt8.toNat_ofNat']; omega
  have hM : idM l = S.length := by
    unfold idM
    rw [hN, hl3]
    rw [show (F :: a :: b :: c :: d :: UInt8.ofNat D.length :: (D ++ (UInt8.ofNat S.length :: (S ++ R)))).getD (6 + D.length) 0 = UInt8.ofNat S.length by
      rw [List.getD_eq_getElem?_getD, show 6 + D.length = D.length + 6 by omega]
      simp]
    rw [UInt8.toNat_ofNat']; omega
  have hnum : num (sub l 1 4) = U := by
    rw [hl3]
    exact hn
  refine ⟨?_, hf, ?_, ?_, hlen⟩
  · unfold parse
    rw [if_neg (by omega), if_neg (by rw [hf]; omega)]
    unfold pLong
    rw [if_pos ⟨⟨by rw [hN]; omega, by rw [hN, hM]; omega⟩, by rw [hN]; exact hd, by rw [hM]; exact hs⟩, hN, hM, hnum]
  · show sub l 6 D.length = D
    rw [hl3]
    show (D ++ (UInt8.ofNat S.length :: (S ++ R))).take D.length = D
    simp
  · show sub l (7 + D.length) S.length = S
    rw [hl3]
    unfold sub
    rw [show 7 + D.length = D.length + 1 + 6 by omega]
    show ((D ++ (UInt8.ofNat S.length :: (S ++ R))).drop (D.length + 1)).take S.length = S
    rw [List.drop_append, List.drop_eq_nil_of_le (by omega), List.nil_append, show D.length + 1 - D.length = 1 by omega]
    simp

/-- Early and Handshake are read again -/
theorem back_12 (k F : Nat) (D S : List UInt8) (len : Nat) (Z : List UInt8) (hk : k = 1 ∨ k = 2) (hF : F < 256) (hF7 : F / 128 % 2 = 1) (hF6 : F / 64 % 2 = 1) (hFk : F / 16 % 4 = k) (hd : D.length ≤ 20) (hs : S.length ≤ 20) (hlen : len ≤ 16383) (hZ : len ≤ Z.length) (l : List UInt8) (hl : l = longB (UInt8.ofNat F) 1 D S ++ (enc 2 len ++ Z)) :
    parse l 0 = some ⟨k, 1, some (6, D.length), some (7 + D.length, S.length), none, len, false, [], zs, ((9 + D.length + S.length : Nat) : Int)⟩ ∧ fb l = F ∧ piece l (some (6, D.length)) = D ∧ piece l (some (7 + D.length, S.length)) = S := by
  have hFn : (UInt8.ofNat F).toNat = F := by rw [UInt8.toNat_ofNat']; omega
  obtain ⟨p1, p2, p3, p4, p5⟩ := long_parse (UInt8.ofNat F) 1 D S _ (by rw [hFn]; exact hF7) (by decide) hd hs l hl
  rw [hFn] at p2
  have hv := var_at_2 (longB (UInt8.ofNat F) 1 D S) Z len (by omega) l hl
  rw [longB_length] at hv
  obtain ⟨v1, v2, v3⟩ := hv
  refine ⟨?_, p2, p3, p4⟩
  rw [p1]
  have hln : l.length = 7 + D.length + S.length + (2 + Z.length) := by rw [p5, List.length_append, enc_length]; rfl
  unfold pRest pSpoken kd
  rw [if_neg (by decide), if_pos (by decide), if_neg (by rw [p2]; omega), p2, hFk, if_neg (by omega), if_neg (by omega)]
  unfold pLen
  rw [if_pos ⟨v3, by rw [v1, v2, hln]; omega⟩, v1, v2]
  simp only [Option.some.injEq, PH.mk.injEq, true_and]
  omega

/-- Short is read again -/
theorem back_5 (F : Nat) (D Z : List UInt8) (hF : F < 128) (hF6 : F / 64 % 2 = 1) (hd : D.length ≤ 20) (l : List UInt8) (hl : l = [UInt8.ofNat F] ++ D ++ Z) :
    parse l D.length = some ⟨5, 0, some (1, D.length), none, none, 0, bit F 4, [], zs, ((1 + D.length : Nat) : Int)⟩ ∧ fb l = F ∧ piece l (some (1, D.length)) = D := by
  have hFn : (UInt8.ofNat F).toNat = F := by rw [UInt8.toNat_ofNat']; omega
  have hl2 : l = UInt8.ofNat F :: (D ++ Z) := by rw [hl]; simp
  have hf : fb l = F := by rw [hl2]; exact hFn
  have hlen : l.length = 1 + D.length + Z.length := by rw [hl2]; simp; omega
  have hsh : shE l D.length = 0 := by
    unfold shE
    rw [if_neg (by show ¬ (fb l) / 64 % 2 = 0; rw [hf]; omega), if_neg (by omega)]
  refine ⟨?_, hf, ?_⟩
  · unfold parse pShort
    rw [if_neg (by omega), if_pos (by rw [hf]; omega), if_pos hsh, hf, Int.toNat_natCast]
    simp only [Option.some.injEq, PH.mk.injEq, true_and]
    omega
  · show sub l 1 D.length = D
    rw [hl2]
    show (D ++ Z).take D.length = D
    simp

/-- Initial is read again -/
theorem back_0 (F : Nat) (D S T : List UInt8) (len : Nat) (Z : List UInt8) (hF : F < 256) (hF7 : F / 128 % 2 = 1) (hF6 : F / 64 % 2 = 1) (hFk : F / 16 % 4 = 0) (hd : D.length ≤ 20) (hs : S.length ≤ 20) (ht : T.length ≤ 512) (hlen : len ≤ 16383) (hZ : len ≤ Z.length) (l : List UInt8) (hl : l = longB (UInt8.ofNat F) 1 D S ++ (enc (szN T.length) T.length ++ (T ++ (enc 2 len ++ Z)))) :
    ∃ o at', parse l 0 = some ⟨0, 1, some (6, D.length), some (7 + D.length, S.length), some (o, T.length), len, false, [], zs, at'⟩ ∧ at' = ((longB (UInt8.ofNat F) 1 D S ++ enc (szN T.length) T.length ++ T ++ enc 2 len).length : Nat) ∧ fb l = F ∧ piece l (some (6, D.length)) = D ∧ piece l (some (7 + D.length, S.length)) = S ∧ piece l (some (o, T.length)) = T := by
  have hFn : (UInt8.ofNat F).toNat = F := by rw [UInt8.toNat_ofNat']; omega
  obtain ⟨p1, p2, p3, p4, p5⟩ := long_parse (UInt8.ofNat F) 1 D S _ (by rw [hFn]; exact hF7) (by decide) hd hs l hl
  rw [hFn] at p2
  obtain ⟨A, hA⟩ : ∃ A, longB (UInt8.ofNat F) 1 D S = A := ⟨_, rfl⟩
  have hAl : A.length = 7 + D.length + S.length := by rw [← hA, longB_length]
  rw [hA] at hl ⊢
  obtain ⟨E, hE⟩ : ∃ E, enc (szN T.length) T.length = E := ⟨_, rfl⟩
  have hv : vV l A.length = T.length ∧ vN l A.length = A.length + E.length ∧ vE l A.length = 0 := by
    by_cases h64 : T.length < 64
    · have e : szN (T.length : Int) = 1 := if_pos (by omega)
      rw [e] at hE hl
      have := var_at_1 A _ T.length h64 l hl
      rw [← hE, enc_length]
      exact this
    · have e : szN (T.length : Int) = 2 := (if_neg (by omega)).trans (if_pos (by omega))
      rw [e] at hE hl
      have := var_at_2 A _ T.length (by omega) l hl
      rw [← hE, enc_length]
      exact this
  rw [hE] at hl ⊢
  obtain ⟨v1, v2, v3⟩ := hv
  have hl2 : l = (A ++ E ++ T) ++ (enc 2 len ++ Z) := by rw [hl]; simp
  obtain ⟨u1, u2, u3⟩ := var_at_2 (A ++ E ++ T) Z len (by omega) l hl2
  have hB : ((A ++ E ++ T).length : Int) = A.length + E.length + T.length := by simp; omega
  have hlen2 : (l.length : Int) = A.length + E.length + T.length + 2 + Z.length := by rw [hl2]; simp [enc_length]; omega
  rw [hB] at u1 u2 u3
  refine ⟨A.length + E.length, ((A ++ E ++ T ++ enc 2 len).length : Nat), ?_, rfl, p2, p3, p4, ?_⟩
  · rw [p1, ← hAl]
    unfold pRest pSpoken kd
    rw [if_neg (by decide), if_pos (by decide), if_neg (by rw [p2]; omega), p2, hFk, if_neg (by decide), if_pos rfl]
    unfold pInitial
    rw [if_pos ⟨v3, by rw [v1]; omega, by rw [v1, v2, hlen2]; omega⟩, v1, v2]
    unfold pLen
    rw [if_pos ⟨u3, by rw [u1, u2, hlen2]; omega⟩, u1, u2]
    simp only [Option.some.injEq, PH.mk.injEq, Prod.mk.injEq, true_and, Int.toNat_natCast, and_true]
    refine ⟨by omega, ?_⟩
    simp [enc_length]
    omega
  · show sub l (A.length + E.length) T.length = T
    rw [hl2, List.append_assoc]
    unfold sub
    rw [show A.length + E.length = (A ++ E).length by simp, List.drop_append_of_le_length (by simp), List.drop_length, List.nil_append]
    simp

/-- Retry is read again -/
theorem back_3 (D S T tag : List UInt8) (hd : D.length ≤ 20) (hs : S.length ≤ 20) (ht0 : 0 < T.length) (ht : T.length ≤ 512) (htag : tag.length = 16) (l : List UInt8) (hl : l = longB (UInt8.ofNat (240 : Int).toNat) 1 D S ++ (T ++ tag)) :
    parse l 0 = some ⟨3, 1, some (6, D.length), some (7 + D.length, S.length), some (7 + D.length + S.length, T.length), 0, false, [], tag, (l.length : Int)⟩ ∧ piece l (some (6, D.length)) = D ∧ piece l (some (7 + D.length, S.length)) = S ∧ piece l (some (7 + D.length + S.length, T.length)) = T := by
  obtain ⟨p1, p2, p3, p4, p5⟩ := long_parse (UInt8.ofNat (240 : Int).toNat) 1 D S _ (by decide) (by decide) hd hs l hl
  have p2' : fb l = 240 := p2
  have hAl : (longB (UInt8.ofNat (240 : Int).toNat) 1 D S).length = 7 + D.length + S.length := longB_length _ _ _ _
  have hlen : l.length = 7 + D.length + S.length + (T.length + 16) := by rw [p5, List.length_append, htag]
  have hdrop : l.drop (l.length - 16) = tag := by
    rw [hlen, show 7 + D.length + S.length + (T.length + 16) - 16 = (longB (UInt8.ofNat (240 : Int).toNat) 1 D S ++ T).length by rw [List.length_append, hAl]; omega, hl, ← List.append_assoc, List.drop_append_of_le_length (Nat.le_refl _), List.drop_length, List.nil_append]
  refine ⟨?_, p3, p4, ?_⟩
  · rw [p1]
    unfold pRest pSpoken kd
    rw [if_neg (by decide), if_pos (by decide), if_neg (by rw [p2']; decide), if_pos (by rw [p2'])]
    unfold pRetry
    rw [if_pos (by omega), hdrop, show (((7 + D.length + S.length : Nat) : Int)).toNat = 7 + D.length + S.length by omega, show ((l.length : Int) - ((7 + D.length + S.length : Nat) : Int) - 16).toNat = T.length by omega]
  · show sub l (7 + D.length + S.length) T.length = T
    unfold sub
    rw [← hAl, hl, List.drop_append_of_le_length (Nat.le_refl _), List.drop_length, List.nil_append]
    simp

/-- Versions are read again -/
theorem back_4 (D S : List UInt8) (lst : List Int) (hd : D.length ≤ 20) (hs : S.length ≤ 20) (h0 : 0 < lst.length) (l : List UInt8) (hl : l = longB (UInt8.ofNat (192 : Int).toNat) 0 D S ++ vB lst) :
    ∃ vs, parse l 0 = some ⟨4, 0, some (6, D.length), some (7 + D.length, S.length), none, 0, false, vs, zs, (l.length : Int)⟩ ∧ vs.length = lst.length ∧ piece l (some (6, D.length)) = D ∧ piece l (some (7 + D.length, S.length)) = S := by
  obtain ⟨p1, p2, p3, p4, p5⟩ := long_parse (UInt8.ofNat (192 : Int).toNat) 0 D S _ (by decide) (by decide) hd hs l hl
  have hlen : l.length = 7 + D.length + S.length + 4 * lst.length := by rw [p5, vB_length]
  refine ⟨vers l (7 + D.length + S.length) ((l.length - (7 + D.length + S.length)) / 4), ?_, ?_, p3, p4⟩
  · rw [p1]
    unfold pRest
    rw [if_pos (by decide)]
    unfold pVersions
    rw [if_pos (by omega), show (((7 + D.length + S.length : Nat) : Int)).toNat = 7 + D.length + S.length by omega]
  · unfold vers
    simp
    omega
end Go.Proofs.YtlllejgpmdeeiaaDoor
