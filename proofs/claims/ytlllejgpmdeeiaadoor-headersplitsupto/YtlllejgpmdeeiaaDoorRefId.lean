/- What the reference's id answers: a contract. -/
import Derived.Test.YtlllejgpmdeeiaaDoorClone
namespace Go.Proofs.YtlllejgpmdeeiaaDoor
open Go.ChangeShapes Go.WideShapes Go.ChangeAt Go.RowKit
set_option linter.unusedVariables false

/-- the identifier's length at a place -/
def iN (l : List UInt8) (a : Nat) : Nat := (l.getD a 0).toNat
abbrev iOk (l : List UInt8) (a : Nat) : Prop := a < l.length ∧ iN l a ≤ 20 ∧ a + 1 + iN l a ≤ l.length

/-- a piece of a slice, whatever the place that a cut of no room is laid at -/
theorem Sl_cut {w : World} {b off a n : Nat} {l : List UInt8} (o : Nat) (hs : Sl w (some ⟨b, off, none⟩) l) (h : a + n ≤ l.length) (ho : 0 < n → o = off + a) : Sl w (some ⟨b, o, none⟩) (sub l a n) := by
  intro j hj
  rw [sub_length l a n h] at hj
  obtain ⟨b', off', he, hc⟩ := hs (a + j) (by omega)
  simp only [Option.some.injEq, Addr.mk.injEq] at he
  obtain ⟨rfl, rfl, _⟩ := he
  refine ⟨b, o, rfl, ?_⟩
  rw [ho (by omega), Nat.add_assoc, hc]
  simp [sub]

theorem id_end {w w1 : World} {v1 : Value} {Y : List UInt8} {n m : Nat} (hY : Y.length = n) (hm : m = n) (ho : w1.ownsRow w.heap.size 5 1 v1 (0 + m) ([] ++ bc Y)) (hg : (w.alloc (.cells #[] 5)).grownBy w1 (Value.slice (some ⟨w.heap.size, 0, none⟩) 0 0).ownBlock) : ∃ oa cp, v1 = .slice oa n cp ∧ By w.heap.size w1 (.slice oa n cp) Y ∧ Below w.heap.size w w1 := by
  subst hm
  rw [List.nil_append, Nat.zero_add] at ho
  have hB : Below w.heap.size w w1 := ((Below.refl w.heap.size w).alloc (Nat.le_refl _) _).grown hg (by simp) (fun k hk => by simp [Value.ownBlock] at hk; omega)
  have hy : By w.heap.size w1 v1 Y := by unfold By; rw [hY]; exact ho
  obtain ⟨oa, cp, he, _⟩ := hy.parts
  rw [hY] at he
  subst he
  exact ⟨oa, cp, rfl, hy, hB⟩
set_option maxRecDepth 10000 in
set_option maxHeartbeats 400000 in
theorem id_yes (b off cap : Nat) (l : List UInt8) (a : Nat) (w : World) (hs : Sl w (some ⟨b, off, none⟩) l) (hl : l.length ≤ 140737488355327) (hc : l.length ≤ cap) (hcm : cap ≤ 9223372036854775807) (ho : iOk l a) :
    Calls Tryd.prog 45 #[.slice (some ⟨b, off, none⟩) l.length cap, .int .i64 (a : Int)] w fun e w' => ∃ oa cp, e = .returned (.tuple #[.slice oa (iN l a) cp, .int .i64 ((a + 1 + iN l a : Nat) : Int), .int .i64 0]) ∧ By w.heap.size w' (.slice oa (iN l a) cp) (sub l (a + 1) (iN l a)) ∧ Below w.heap.size w w' := by
  obtain ⟨i0, hi, hz0, hz1, hz2⟩ := info_parts info5
  obtain ⟨h1, h2, h3⟩ := ho
  obtain ⟨b', off', he, hcell⟩ := hs a h1
  simp only [Option.some.injEq, Addr.mk.injEq, and_true] at he
  obtain ⟨rfl, rfl⟩ := he
  obtain ⟨n, hn⟩ : ∃ n, iN l a = n := ⟨_, rfl⟩
  rw [show l[a].toNat = n by rw [← hn]; unfold iN; simp [List.getD, h1]] at hcell
  rw [hn] at h2 h3 ⊢
  have HS := mkHid hs
  have hsub := sub_length l (a + 1) n h3
  have HSUB := mkHid hsub
  clear hs hn hsub
  by_cases hcap : cap = a + 1
  · have hn0 : n = 0 := by omega
    subst hn0
    have e1 : (cap : Int) = (a : Int) + 1 := by omega
    have HP : Hid (Sl w (some ⟨b, off, none⟩) (sub l (a + 1) 0)) := Sl_cut off HS.out h3 (by omega)
    subst hcap
    go_enter Tryd.func45, Tryd.ntmps45
    go_wp2_with ((at_builtin; refine wpList_append_bytes rfl (.tmp 26) (.tmp 34) rfl w.heap.size i0 Tryd.underlying22 hi hz0 hz1 hz2 _ 0 [] rfl (World.ownsRow_made w #[] 0 (Nat.le_refl _) (by decide) rfl) (some ⟨b, off, none⟩) 0 0 (sub l (a + 1) 0) rfl HSUB.out (fun h => by cases h) (Sl_alloc HP.out _) (by omega) (by simp) ?_; intro v1 w1 hown hgrow; have HO1 := mkHid hown; have HG1 : Hid ((w.alloc (.cells #[] 5)).grownBy w1 (Value.slice (some ⟨w.heap.size, 0, none⟩) 0 0).ownBlock) := hgrow; clear hown hgrow))
    obtain ⟨oa, cp, hv, hy, hB⟩ := id_end HSUB.out rfl HO1.out HG1.out
    subst hv
    go_ret3
    exact ⟨oa, cp, rfl, hy, hB⟩
  · have e1 : ¬ (cap : Int) = (a : Int) + 1 := by omega
    have e2 : ¬ cap = ((a : Int) + 1).toNat := by omega
    have HP : Hid (Sl w (some ⟨b, off + (a + 1), none⟩) (sub l (a + 1) n)) := Sl_cut (off + (a + 1)) HS.out h3 (fun _ => rfl)
    go_enter Tryd.func45, Tryd.ntmps45
    go_wp2_with ((at_builtin; refine wpList_append_bytes rfl (.tmp 26) (.tmp 34) rfl w.heap.size i0 Tryd.underlying22 hi hz0 hz1 hz2 _ 0 [] rfl (World.ownsRow_made w #[] 0 (Nat.le_refl _) (by decide) rfl) (some ⟨b, off + (a + 1), none⟩) (a + 1 + n - (a + 1)) (cap - (a + 1)) (sub l (a + 1) n) rfl (by rw [HSUB.out]; omega) (fun h => by cases h) (Sl_alloc HP.out _) (by omega) (by simp) ?_; intro v1 w1 hown hgrow; have HO1 := mkHid hown; have HG1 : Hid ((w.alloc (.cells #[] 5)).grownBy w1 (Value.slice (some ⟨w.heap.size, 0, none⟩) 0 0).ownBlock) := hgrow; clear hown hgrow))
    obtain ⟨oa, cp, hv, hy, hB⟩ := id_end HSUB.out (by omega) HO1.out HG1.out
    subst hv
    go_ret3
    exact ⟨oa, cp, rfl, hy, hB⟩

set_option maxRecDepth 10000 in
theorem id_no (b off cap : Nat) (l : List UInt8) (a : Nat) (w : World) (hs : Sl w (some ⟨b, off, none⟩) l) (hl : l.length ≤ 140737488355327) (hal : a ≤ 140737488355327) (ho : ¬ iOk l a) :
    Calls Tryd.prog 45 #[.slice (some ⟨b, off, none⟩) l.length cap, .int .i64 (a : Int)] w fun e w' => ∃ E, e = .returned (.tuple #[.slice none 0 0, .int .i64 0, .int .i64 E]) ∧ E ≠ 0 ∧ w' = w := by
  by_cases h1 : a < l.length
  · obtain ⟨b', off', he, hcell⟩ := hs a h1
    simp only [Option.some.injEq, Addr.mk.injEq, and_true] at he
    obtain ⟨rfl, rfl⟩ := he
    obtain ⟨n, hn⟩ : ∃ n, iN l a = n := ⟨_, rfl⟩
    rw [show l[a].toNat = n by rw [← hn]; unfold iN; simp [List.getD, h1]] at hcell
    have hn8 : n < 256 := by rw [← hn]; exact (l.getD a 0).toNat_lt
    unfold iOk at ho
    rw [hn] at ho
    clear hs hn
    by_cases h2 : n ≤ 20
    · have h3 : l.length < a + 1 + n := by omega
      clear ho
      go_enter Tryd.func45, Tryd.ntmps45
      go_wp2
      go_ret3
      exact ⟨10, rfl, by decide, rfl⟩
    · clear ho
      go_enter Tryd.func45, Tryd.ntmps45
      go_wp2
      go_ret3
      exact ⟨11, rfl, by decide, rfl⟩
  · clear ho hs
    go_enter Tryd.func45, Tryd.ntmps45
    go_wp2
    go_ret3
    exact ⟨10, rfl, by decide, rfl⟩
end Go.Proofs.YtlllejgpmdeeiaaDoor
