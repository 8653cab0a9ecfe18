/- What slices.Clone answers for bytes; and where the pieces of a header that was read lie. -/
import Derived.Test.YtlllejgpmdeeiaaDoorPh
import Derived.Test.YtlllejgpmdeeiaaDoorIn
import Derived.OwnWalk
namespace Go.Proofs.YtlllejgpmdeeiaaDoor
open Go.ChangeShapes Go.WideShapes Go.ChangeAt Go.RowKit
set_option linter.unusedVariables false

/-- bytes of the call's own -/
def By (B : Nat) (w : World) (v : Value) (X : List UInt8) : Prop := w.ownsRow B 5 1 v X.length (bc X)
theorem By.below {B : Nat} {w w' : World} {v : Value} {X : List UInt8} (h : By B w v X) (hb : Below w.heap.size w w') : By B w' v X := by
  obtain ⟨hl, hc | ⟨g, cap, cur, he, k1, k2, k3⟩⟩ := h
  · exact ⟨hl, .inl hc⟩
  · exact ⟨hl, .inr ⟨g, cap, cur, he, k1, (hb.block g (lt_block k2)).trans k2, k3⟩⟩
theorem By.mono {B B' : Nat} {w : World} {v : Value} {X : List UInt8} (h : By B w v X) (hB : B' ≤ B) : By B' w v X := by
  obtain ⟨hl, hc | ⟨g, cap, cur, he, k1, k2⟩⟩ := h
  · exact ⟨hl, .inl hc⟩
  · exact ⟨hl, .inr ⟨g, cap, cur, he, Nat.le_trans hB k1, k2⟩⟩
theorem By.parts {B : Nat} {w : World} {v : Value} {X : List UInt8} (h : By B w v X) : ∃ ao c, v = .slice ao X.length c ∧ (ao = none → X.length = 0 ∧ c = 0) ∧ Sl w ao X ∧ X.length ≤ c ∧ c ≤ 9223372036854775807 ∧ (∀ ad, ao = some ad → ∃ g, ad = ⟨g, 0, none⟩ ∧ B ≤ g ∧ g < w.heap.size) := by
  obtain ⟨hl, ⟨h1, h2⟩ | ⟨g, cap, cur, he, k1, k2, k3, k4, k5, k6⟩⟩ := h
  · have : X = [] := List.eq_nil_of_length_eq_zero h2
    subst this
    exact ⟨none, 0, h1, fun _ => ⟨rfl, rfl⟩, fun j hj => absurd hj (by simp), by simp, by decide, fun _ h => by cases h⟩
  · exact ⟨some ⟨g, 0, none⟩, cap, he, (fun h => nomatch h), Sl_own k2 (by simpa using k6), k3, k4, fun ad h => ⟨g, (Option.some.inj h).symm, k1, lt_block k2⟩⟩

theorem eql_nil (w : World) : Sem.run Tryd.prog (binOp BinOp.eql 22 (.slice none 0 0) (.slice none 0 0)) w = .ok (.bool true) w := by kernel_rfl
theorem eql_some (ad : Addr) (n c : Nat) (w : World) : Sem.run Tryd.prog (binOp BinOp.eql 22 (.slice (some ad) n c) (.slice none 0 0)) w = .ok (.bool false) w := by kernel_rfl

set_option maxRecDepth 10000 in
theorem clone_any (ao : Option Addr) (X : List UInt8) (n c : Nat) (w : World) (hs : Sl w ao X) (hn : X.length = n) (hl : n ≤ 140737488355328) (hnil : ao = none → n = 0 ∧ c = 0) :
    Calls Tryd.prog 28 #[.slice ao n c] w fun e w' => ∃ oa cp, e = .returned (.slice oa n cp) ∧ By w.heap.size w' (.slice oa n cp) X ∧ Below w.heap.size w w' := by
  obtain ⟨i0, hi, hz0, hz1, hz2⟩ := info_parts info5
  cases ao with
  | none =>
    obtain ⟨rfl, rfl⟩ := hnil rfl
    have hX : X = [] := List.eq_nil_of_length_eq_zero hn
    clear hs hnil
    have q := eql_nil
    go_enter Tryd.func28, Tryd.ntmps28
    go_wp2
    go_ret
    subst hX
    exact ⟨none, 0, rfl, ⟨rfl, .inl ⟨rfl, rfl⟩⟩, Below.refl _ _⟩
  | some ad =>
    have HS := mkHid hs
    have HX := mkHid hn
    clear hs hn hnil
    have q := eql_some
    go_enter Tryd.func28, Tryd.ntmps28
    go_wp2_with ((at_builtin; refine wpList_append_bytes rfl (.tmp 5) (.tmp 6) rfl w.heap.size i0 Tryd.underlying22 hi hz0 hz1 hz2 _ 0 [] rfl (World.ownsRow_made w #[] 0 (Nat.le_refl _) (by decide) rfl) (some ad) n c X rfl HX.out (fun h => by cases h) (Sl_alloc HS.out _) (by omega) (by simp) ?_; intro v1 w1 hown hgrow; have HO1 := mkHid hown; have HG1 := mkHid hgrow; clear hown hgrow))
    go_ret
    have ho := HO1.out
    rw [List.nil_append, Nat.zero_add] at ho
    have hg : (w.alloc (.cells #[] 5)).grownBy w1 (Value.slice (some ⟨w.heap.size, 0, none⟩) 0 0).ownBlock := HG1.out
    have hB : Below w.heap.size w w1 := ((Below.refl w.heap.size w).alloc (Nat.le_refl _) _).grown hg (by simp) (fun k hk => by simp [Value.ownBlock] at hk; omega)
    have hy : By w.heap.size w1 v1 X := by unfold By; rw [HX.out]; exact ho
    obtain ⟨oa, cp, he, _⟩ := hy.parts
    rw [HX.out] at he
    subst he
    exact ⟨oa, cp, rfl, hy, hB⟩

/-- a piece of the bytes -/
def piece (l : List UInt8) : Option (Nat × Nat) → List UInt8
  | none => []
  | some (a, n) => sub l a n
def inR (l : List UInt8) : Option (Nat × Nat) → Prop
  | none => True
  | some (a, n) => a + n ≤ l.length
theorem piece_len {l : List UInt8} {o : Option (Nat × Nat)} (h : inR l o) : (piece l o).length = pvn o := by
  cases o with
  | none => rfl
  | some x => exact sub_length l x.1 x.2 h
theorem pv_nil {b off : Nat} {o : Option (Nat × Nat)} : pvo b off o = none → pvn o = 0 ∧ pvn o = 0 := by
  cases o with
  | none => exact fun _ => ⟨rfl, rfl⟩
  | some x => exact fun h => by cases h
theorem pv_sl {w : World} {b off : Nat} {l : List UInt8} {o : Option (Nat × Nat)} (hs : Sl w (some ⟨b, off, none⟩) l) (h : inR l o) : Sl w (pvo b off o) (piece l o) := by
  cases o with
  | none => exact fun j hj => absurd hj (by simp [piece])
  | some x =>
    obtain ⟨a, n⟩ := x
    intro j hj
    have hj' : j < n := by have := piece_len h; rw [this] at hj; exact hj
    obtain ⟨b', off', he, hc⟩ := hs (a + j) (by have : a + n ≤ l.length := h; omega)
    simp only [Option.some.injEq, Addr.mk.injEq] at he
    obtain ⟨rfl, rfl, _⟩ := he
    refine ⟨b, off + a, ?_, ?_⟩
    · show some (⟨b, if n = 0 then off else off + a, none⟩ : Addr) = _
      rw [if_neg (by omega)]
    · rw [Nat.add_assoc, hc]
      simp [piece, sub]

theorem rest_range {l : List UInt8} {a : Nat} {d s : Option (Nat × Nat)} {ver : Int} {p : PH} (ha : a ≤ l.length) (hd : inR l d) (hs : inR l s) (h : pRest l ver d s a = some p) : inR l p.d ∧ inR l p.s ∧ inR l p.t ∧ (p.k ≤ 2 → 0 ≤ p.len ∧ 1 ≤ p.at' ∧ p.at' + p.len ≤ l.length) ∧ 0 ≤ p.k := by
  have hlen : ∀ k t a' p, 0 ≤ k → inR l t → pLen l k d s t a' = some p → inR l p.d ∧ inR l p.s ∧ inR l p.t ∧ (p.k ≤ 2 → 0 ≤ p.len ∧ 1 ≤ p.at' ∧ p.at' + p.len ≤ l.length) ∧ 0 ≤ p.k := by
    intro k t a' p hk ht h
    unfold pLen at h
    by_cases hc : vE l a' = 0 ∧ vN l a' + vV l a' ≤ l.length
    · rw [if_pos hc] at h
      simp only [Option.some.injEq] at h
      subst h
      obtain ⟨v1, v2, v3⟩ := v_bounds l a'
      have := v3 hc.1
      exact ⟨hd, hs, ht, fun _ => ⟨v1, by show 1 ≤ vN l a'; omega, hc.2⟩, hk⟩
    · rw [if_neg hc] at h; cases h
  unfold pRest at h
  by_cases h0 : ver = 0
  · rw [if_pos h0] at h
    unfold pVersions at h
    split at h
    · simp only [Option.some.injEq] at h
      subst h
      exact ⟨hd, hs, trivial, fun h => absurd h (by simp), by simp⟩
    · cases h
  · rw [if_neg h0] at h
    by_cases h1 : ver = 1
    · rw [if_pos h1] at h
      unfold pSpoken at h
      by_cases q1 : fb l / 64 % 2 = 0
      · rw [if_pos q1] at h; cases h
      · rw [if_neg q1] at h
        by_cases q2 : kd l = 3
        · rw [if_pos q2] at h
          unfold pRetry at h
          by_cases hc : 16 < (l.length : Int) - a ∧ (l.length : Int) - a ≤ 528
          · rw [if_pos hc] at h
            simp only [Option.some.injEq] at h
            subst h
            refine ⟨hd, hs, ?_, fun h => absurd h (by simp), by simp⟩
            show (a : Int).toNat + ((l.length : Int) - a - 16).toNat ≤ l.length
            omega
          · rw [if_neg hc] at h; cases h
        · rw [if_neg q2] at h
          by_cases q3 : kd l = 0
          · rw [if_pos q3] at h
            unfold pInitial at h
            by_cases hc : vE l a = 0 ∧ vV l a ≤ 512 ∧ vN l a + vV l a ≤ l.length
            · rw [if_pos hc] at h
              obtain ⟨v1, v2, v3⟩ := v_bounds l a
              have := v3 hc.1
              exact hlen 0 _ _ p (by decide) (by show (vN l a).toNat + (vV l a).toNat ≤ l.length; omega) h
            · rw [if_neg hc] at h; cases h
          · rw [if_neg q3] at h
            exact hlen _ none _ p (by omega) trivial h
    · rw [if_neg h1] at h
      simp only [Option.some.injEq] at h
      subst h
      exact ⟨hd, hs, trivial, fun h => absurd h (by simp), by simp⟩

theorem parse_range {l : List UInt8} {ids : Int} {p : PH} (h : parse l ids = some p) : inR l p.d ∧ inR l p.s ∧ inR l p.t ∧ (p.k ≤ 2 → 0 ≤ p.len ∧ 1 ≤ p.at' ∧ p.at' + p.len ≤ l.length) ∧ 0 ≤ p.k := by
  unfold parse at h
  by_cases h0 : ids < 0 ∨ 20 < ids ∨ l.length = 0
  · rw [if_pos h0] at h; cases h
  · rw [if_neg h0] at h
    by_cases h1 : fb l / 128 % 2 = 0
    · rw [if_pos h1] at h
      unfold pShort at h
      by_cases h2 : shE l ids = 0
      · rw [if_pos h2] at h
        simp only [Option.some.injEq] at h
        subst h
        refine ⟨?_, trivial, trivial, fun h => absurd h (by simp), by simp⟩
        show 1 + ids.toNat ≤ l.length
        unfold shE at h2
        split at h2
        · cases h2
        · split at h2
          · cases h2
          · omega
      · rw [if_neg h2] at h; cases h
    · rw [if_neg h1] at h
      unfold pLong at h
      by_cases h2 : idOk l ∧ idN l ≤ 20 ∧ idM l ≤ 20
      · rw [if_pos h2] at h
        obtain ⟨⟨q1, q2⟩, _⟩ := h2
        exact rest_range (a := 7 + idN l + idM l) q2 (by show 6 + idN l ≤ l.length; omega) (by show 7 + idN l + idM l ≤ l.length; omega) h
      · rw [if_neg h2] at h; cases h
end Go.Proofs.YtlllejgpmdeeiaaDoor
