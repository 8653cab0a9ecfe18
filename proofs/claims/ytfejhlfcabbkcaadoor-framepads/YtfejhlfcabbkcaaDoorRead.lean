/- What the reference's Read answers, for every input: contracts. -/
import Derived.Test.YtfejhlfcabbkcaaDoorGet
import Derived.Test.YtfejhlfcabbkcaaDoorVar
import Derived.Test.YtfejhlfcabbkcaaDoorOrder
import Derived.Laws.AppendOwnNone
namespace Go.Proofs.YtfejhlfcabbkcaaDoor
open Go.ChangeShapes Go.WideShapes Go.ChangeAt Go.RowKit
set_option linter.unusedVariables false

theorem own_shape {w : World} {base n : Nat} {v : Value} {xs : List Value} (h : w.ownsRow base 5 1 v n xs) (hn : 0 < n) : ∃ g cap cur, v = .slice (some ⟨g, 0, none⟩) n cap ∧ base ≤ g ∧ w.heap[g]? = some (.cells cur 5 (0, 0)) ∧ n ≤ cap ∧ cap ≤ maxLen ∧ cur.size = cap ∧ cur.toList.take n = xs := by
  obtain ⟨hl, ⟨_, h1⟩ | ⟨g, cap, cur, he, h1, h2, h3, h4, h5, h6⟩⟩ := h
  · omega
  · exact ⟨g, cap, cur, he, h1, h2, h3, h4, by omega, by simpa using h6⟩
theorem Sl_own {w : World} {g : Nat} {cur : Array Value} {fr : Nat × Nat} {l : List UInt8} (hb : w.heap[g]? = some (.cells cur 5 fr)) (ht : cur.toList.take l.length = bc l) : Sl w (some ⟨g, 0, none⟩) l := by
  intro j hj
  refine ⟨g, 0, rfl, ?_⟩
  unfold World.cell?
  rw [hb]
  have h1 : (cur.toList.take l.length)[j]? = some (.int .u8 l[j].toNat) := by rw [ht]; simp [bc, hj]
  rw [List.getElem?_take, if_pos hj] at h1
  simpa using h1
theorem Sl_cells {w : World} {ad : Addr} {l : List UInt8} (hs : Sl w (some ad) l) : ∀ j u, (bc l)[j]? = some u → w.cell? (ad.add j) = some u := by
  intro j u hu
  have hj : j < l.length := by
    have := (List.getElem?_eq_some_iff.1 hu).1
    simpa [bc] using this
  obtain ⟨b, off, he, hc⟩ := hs j hj
  simp only [Option.some.injEq] at he
  subst he
  rw [add_none, hc]
  simp [bc, List.getElem?_eq_getElem hj] at hu
  rw [← hu]
theorem Sl_alloc {w : World} {ao : Option Addr} {l : List UInt8} (hs : Sl w ao l) (o : Obj) : Sl (w.alloc o) ao l := by
  intro j hj
  obtain ⟨b, off, he, hc⟩ := hs j hj
  exact ⟨b, off, he, (((Below.refl w.heap.size w).alloc (Nat.le_refl _) o).cell (p := ⟨b, off + j, none⟩) (World.block_lt_of_cell? w _ hc)).trans hc⟩

/-- the first byte without its two highest bits -/
def low6 : List UInt8 → List UInt8
  | [] => []
  | b :: t => UInt8.ofNat (b.toNat % 64) :: t
theorem low6_length (l : List UInt8) : (low6 l).length = l.length := by cases l <;> rfl
theorem low6_set (l : List UInt8) (h : 0 < l.length) : (bc l).set 0 (.int .u8 ((l[0].toNat : Int) % 64)) = bc (low6 l) := by
  match l, h with
  | b :: t, _ =>
    have e : ((UInt8.ofNat (b.toNat % 64)).toNat : Int) = (b.toNat : Int) % 64 := by rw [UInt8.toNat_ofNat']; omega
    show Value.int .u8 ((b.toNat : Int) % 64) :: bc t = Value.int .u8 ((UInt8.ofNat (b.toNat % 64)).toNat : Int) :: bc t
    rw [e]
theorem num_cons (b : UInt8) (t : List UInt8) : num (b :: t) = b.toNat * 256 ^ t.length + num t := by
  have := num_append [b] t
  simpa [num] using this
theorem num_low6 (l : List UInt8) (k : Nat) (h : l.length = k + 1) : num (low6 l) = num l % (64 * 256 ^ k) := by
  match l, h with
  | b :: t, h =>
    have hk : t.length = k := by simpa using h
    have ht := num_lt t
    rw [hk] at ht
    show num (UInt8.ofNat (b.toNat % 64) :: t) = _
    rw [num_cons, num_cons, hk, UInt8.toNat_ofNat']
    generalize 256 ^ k = M at ht
    generalize num t = T at ht
    have e : b.toNat % 64 % 2 ^ 8 = b.toNat % 64 := by omega
    rw [e]
    obtain ⟨q, r, hq, hr⟩ : ∃ q r, b.toNat = 64 * q + r ∧ r < 64 := ⟨b.toNat / 64, b.toNat % 64, by omega, by omega⟩
    have hbr : b.toNat % 64 = r := by omega
    rw [hbr, hq]
    have h2 : (64 * q + r) * M + T = (r * M + T) + 64 * M * q := by
      rw [Nat.add_mul, Nat.mul_right_comm 64 q M]
      omega
    have h4 := Nat.mul_le_mul_right M (show r + 1 ≤ 64 by omega)
    rw [Nat.add_mul, Nat.one_mul] at h4
    rw [h2, Nat.add_mul_mod_self_left]
    exact (Nat.mod_eq_of_lt (by omega)).symm
theorem sub_zero (l : List UInt8) (a n : Nat) (h : a + n ≤ l.length) (hn : 0 < n) : (sub l a n)[0]'(by rw [sub_length l a n h]; exact hn) = l[a]'(by omega) := by
  simp [sub]

theorem own_first {w : World} {g n c : Nat} {cur : Array Value} {l : List UInt8} (hl : l.length = n + 1) (h0 : (l[0]'(by omega)).toNat = c) (hb : w.heap[g]? = some (.cells cur 5 (0, 0))) (ht : cur.toList.take (n + 1) = [] ++ bc l) : w.cell? ⟨g, 0, none⟩ = some (.int .u8 c) := by
  have hs : Sl w (some ⟨g, 0, none⟩) l := Sl_own hb (by rw [hl]; simpa using ht)
  obtain ⟨b, off, he, hc⟩ := hs 0 (by omega)
  simp only [Option.some.injEq, Addr.mk.injEq] at he
  obtain ⟨rfl, rfl, _⟩ := he
  rw [← h0]
  simpa using hc

theorem own_set {w : World} {g n c : Nat} {cur : Array Value} {l : List UInt8} (hl : l.length = n + 1) (h0 : (l[0]'(by omega)).toNat = c) (hb : w.heap[g]? = some (.cells cur 5 (0, 0))) (ht : cur.toList.take (n + 1) = [] ++ bc l) : Sl (w.setCell ⟨g, 0, none⟩ (.int .u8 ((c : Int) % 64))) (some ⟨g, 0, none⟩) (low6 l) := by
  refine Sl_own (heap_setCell_same w g 0 cur 5 _ hb) ?_
  rw [low6_length, hl, Array.toList_setIfInBounds, List.take_set, ht, List.nil_append, ← low6_set l (by omega), h0]

theorem own_below {w w1 : World} {g : Nat} {x : Value} (hg : (w.alloc (.cells #[] 5)).grownBy w1 (Value.slice (some ⟨w.heap.size, 0, none⟩) 0 0).ownBlock) (h : w.heap.size ≤ g) : Below w.heap.size w (w1.setCell ⟨g, 0, none⟩ x) := by
  refine (((Below.refl w.heap.size w).alloc (Nat.le_refl _) _).grown hg (by simp) ?_).setCell h _
  intro k hk
  simp [Value.ownBlock] at hk
  omega

end Go.Proofs.YtfejhlfcabbkcaaDoor
