/- What the reference's Read answers, for every input: contracts. -/
import Derived.Test.YtaeapgkfmofjlaaDoorOrder
import Derived.Laws.AppendOwnNone
namespace Go.Proofs.YtaeapgkfmofjlaaDoor
open Go.ChangeShapes Go.WideShapes Go.ChangeAt Go.RowKit
set_option linter.unusedVariables false

theorem own_shape {w : World} {base n : Nat} {v : Value} {xs : List Value} (h : w.ownsRow base 5 1 v n xs) (hn : 0 < n) : ∃ g cap cur, v = .slice (some ⟨g, 0, none⟩) n cap ∧ base ≤ g ∧ w.heap[g]? = some (.cells cur 5 (0, 0)) ∧ n ≤ cap ∧ cap ≤ maxLen ∧ cur.size = cap ∧ cur.toList.take n = xs := by
  obtain ⟨hl, ⟨_, h1⟩ | ⟨g, cap, cur, he, h1, h2, h3, h4, h5, h6⟩⟩ := h
  · omega
  · exact ⟨g, cap, cur, he, h1, h2, h3, h4, by omega, by simpa using h6⟩
theorem Sl_own {w : World} {g : Nat} {cur : Array Value} {fr : Nat × Nat} {l : List UInt8} (hb : w.heap[g]? = some (.cells cur 5 fr)) (ht : cur.toList.take l.length = bc l) : Sl w (some ⟨g, 0, none⟩) l := by
  intro j hj
  refine ⟨g, 0, rfl, ?_⟩
  unfold World.cell?
  rw [hb]
  have h1 : (cur.toList.take l.length)[j]? = some (.int .u8 l[j].toNat) := by rw [ht]; simp [bc, hj]
  rw [List.getElem?_take, if_pos hj] at h1
  simpa using h1
theorem Sl_cells {w : World} {ad : Addr} {l : List UInt8} (hs : Sl w (some ad) l) : ∀ j u, (bc l)[j]? = some u → w.cell? (ad.add j) = some u := by
  intro j u hu
  have hj : j < l.length := by
    have := (List.getElem?_eq_some_iff.1 hu).1
    simpa [bc] using this
  obtain ⟨b, off, he, hc⟩ := hs j hj
  simp only [Option.some.injEq] at he
  subst he
  rw [add_none, hc]
  simp [bc, List.getElem?_eq_getElem hj] at hu
  rw [← hu]
theorem Sl_alloc {w : World} {ao : Option Addr} {l : List UInt8} (hs : Sl w ao l) (o : Obj) : Sl (w.alloc o) ao l := by
  intro j hj
  obtain ⟨b, off, he, hc⟩ := hs j hj
  exact ⟨b, off, he, (((Below.refl w.heap.size w).alloc (Nat.le_refl _) o).cell (p := ⟨b, off + j, none⟩) (World.block_lt_of_cell? w _ hc)).trans hc⟩

/-- the first byte without its two highest bits -/
def low6 : List UInt8 → List UInt8
  | [] => []
  | b :: t => UInt8.ofNat (b.toNat % 64) :: t
theorem low6_length (l : List UInt8) : (low6 l).length = l.length := by cases l <;> rfl
theorem low6_set (l : List UInt8) (h : 0 < l.length) : (bc l).set 0 (.int .u8 ((l[0].toNat : Int) % 64)) = bc (low6 l) := by
  match l, h with
  | b :: t, _ =>
    have e : ((UInt8.ofNat (b.toNat % 64)).toNat : Int) = (b.toNat : Int) % 64 := by rw [UInt8.toNat_ofNat']; omega
    show Value.int .u8 ((b.toNat : Int) % 64) :: bc t = Value.int .u8 ((UInt8.ofNat (b.toNat % 64)).toNat : Int) :: bc t
    rw [e]
theorem num_cons (b : UInt8) (t : List UInt8) : num (b :: t) = b.toNat * 256 ^ t.length + num t := by
  have := num_append [b] t
  simpa [num] using this
theorem num_low6 (l : List UInt8) (k : Nat) (h : l.length = k + 1) : num (low6 l) = num l % (64 * 256 ^ k) := by
  match l, h with
  | b :: t, h =>
    have hk : t.length = k := by simpa using h
    have ht := num_lt t
    rw [hk] at ht
    show num (UInt8.ofNat (b.toNat % 64) :: t) = _
    rw [num_cons, num_cons, hk, UInt8.toNat_ofNat']
    generalize 256 ^ k = M at ht
    generalize num t = T at ht
    have e : b.toNat % 64 % 2 ^ 8 = b.toNat % 64 := by omega
    rw [e]
    obtain ⟨q, r, hq, hr⟩ : ∃ q r, b.toNat = 64 * q + r ∧ r < 64 := ⟨b.toNat / 64, b.toNat % 64, by omega, by omega⟩
    have hbr : b.toNat % 64 = r := by omega
    rw [hbr, hq]
    have h2 : (64 * q + r) * M + T = (r * M + T) + 64 * M * q := by
      rw [Nat.add_mul, Nat.mul_right_comm 64 q M]
      omega
    have h4 := Nat.mul_le_mul_right M (show r + 1 ≤ 64 by omega)
    rw [Nat.add_mul, Nat.one_mul] at h4
    rw [h2, Nat.add_mul_mod_self_left]
    exact (Nat.mod_eq_of_lt (by omega)).symm
theorem sub_zero (l : List UInt8) (a n : Nat) (h : a + n ≤ l.length) (hn : 0 < n) : (sub l a n)[0]'(by rw [sub_length l a n h]; exact hn) = l[a]'(by omega) := by
  simp [sub]

theorem own_first {w : World} {g n c : Nat} {cur : Array Value} {l : List UInt8} (hl : l.length = n + 1) (h0 : (l[0]'(by omega)).toNat = c) (hb : w.heap[g]? = some (.cells cur 5 (0, 0))) (ht : cur.toList.take (n + 1) = [] ++ bc l) : w.cell? ⟨g, 0, none⟩ = some (.int .u8 c) := by
  have hs : Sl w (some ⟨g, 0, none⟩) l := Sl_own hb (by rw [hl]; simpa using ht)
  obtain ⟨b, off, he, hc⟩ := hs 0 (by omega)
  simp only [Option.some.injEq, Addr.mk.injEq] at he
  obtain ⟨rfl, rfl, _⟩ := he
  rw [← h0]
  simpa using hc

theorem own_set {w : World} {g n c : Nat} {cur : Array Value} {l : List UInt8} (hl : l.length = n + 1) (h0 : (l[0]'(by omega)).toNat = c) (hb : w.heap[g]? = some (.cells cur 5 (0, 0))) (ht : cur.toList.take (n + 1) = [] ++ bc l) : Sl (w.setCell ⟨g, 0, none⟩ (.int .u8 ((c : Int) % 64))) (some ⟨g, 0, none⟩) (low6 l) := by
  refine Sl_own (heap_setCell_same w g 0 cur 5 _ hb) ?_
  rw [low6_length, hl, Array.toList_setIfInBounds, List.take_set, ht, List.nil_append, ← low6_set l (by omega), h0]

theorem own_below {w w1 : World} {g : Nat} {x : Value} (hg : (w.alloc (.cells #[] 5)).grownBy w1 (Value.slice (some ⟨w.heap.size, 0, none⟩) 0 0).ownBlock) (h : w.heap.size ≤ g) : Below w.heap.size w (w1.setCell ⟨g, 0, none⟩ x) := by
  refine (((Below.refl w.heap.size w).alloc (Nat.le_refl _) _).grown hg (by simp) ?_).setCell h _
  intro k hk
  simp [Value.ownBlock] at hk
  omega

theorem rread_arg (ao : Option Addr) (len cap : Nat) (a : Int) (w : World) (h : a < 0 ∨ len < a) (hl : len ≤ 9223372036854775000) :
    Calls Tryd.prog 45 #[.slice ao len cap, .int .i64 a] w fun e w' => e = .returned (.tuple #[.int .i64 0, .int .i64 0, .int .i64 2]) ∧ w' = w := by
  have hcs : a < 0 ∨ (0 ≤ a ∧ (len : Int) < a) := by omega
  clear h
  rcases hcs with h | ⟨h, h'⟩
  all_goals
    go_enter Tryd.func45, Tryd.ntmps45
    go_wp2
    go_ret3
    exact ⟨rfl, rfl⟩

theorem rread_end (ao : Option Addr) (len cap : Nat) (w : World) (hl : len ≤ 9223372036854775000) :
    Calls Tryd.prog 45 #[.slice ao len cap, .int .i64 len] w fun e w' => e = .returned (.tuple #[.int .i64 0, .int .i64 0, .int .i64 10]) ∧ w' = w := by
  go_enter Tryd.func45, Tryd.ntmps45
  go_wp2
  go_ret3
  exact ⟨rfl, rfl⟩

set_option maxRecDepth 10000 in
theorem rread_few_2 (ao : Option Addr) (l : List UInt8) (cap a : Nat) (w : World) (hs : Sl w ao l) (hl : l.length ≤ 9223372036854775000) (h : a < l.length) (h' : l.length < a + 2) (hq : l[a].toNat / 64 = 1) :
    Calls Tryd.prog 45 #[.slice ao l.length cap, .int .i64 a] w fun e w' => e = .returned (.tuple #[.int .i64 0, .int .i64 0, .int .i64 10]) ∧ w' = w := by
  obtain ⟨b, off, rfl, hc⟩ := Sl_addr hs (by omega)
  have hcell := hc a (by omega)
  obtain ⟨c, hcc⟩ : ∃ c : Nat, c = l[a].toNat := ⟨_, rfl⟩
  rw [← hcc] at hcell hq
  have hc8 : c < 256 := by rw [hcc]; exact l[a].toNat_lt
  have hq' : (c : Int) / 64 = 1 := by omega
  have hw : wrap64 (2 ^ 1) = 2 := by kernel_rfl
  clear hc hs hcc hq
  go_enter Tryd.func45, Tryd.ntmps45
  go_wp2
  go_ret3
  exact ⟨rfl, rfl⟩

set_option maxRecDepth 10000 in
theorem rread_few_4 (ao : Option Addr) (l : List UInt8) (cap a : Nat) (w : World) (hs : Sl w ao l) (hl : l.length ≤ 9223372036854775000) (h : a < l.length) (h' : l.length < a + 4) (hq : l[a].toNat / 64 = 2) :
    Calls Tryd.prog 45 #[.slice ao l.length cap, .int .i64 a] w fun e w' => e = .returned (.tuple #[.int .i64 0, .int .i64 0, .int .i64 10]) ∧ w' = w := by
  obtain ⟨b, off, rfl, hc⟩ := Sl_addr hs (by omega)
  have hcell := hc a (by omega)
  obtain ⟨c, hcc⟩ : ∃ c : Nat, c = l[a].toNat := ⟨_, rfl⟩
  rw [← hcc] at hcell hq
  have hc8 : c < 256 := by rw [hcc]; exact l[a].toNat_lt
  have hq' : (c : Int) / 64 = 2 := by omega
  have hw : wrap64 (2 ^ 2) = 4 := by kernel_rfl
  clear hc hs hcc hq
  go_enter Tryd.func45, Tryd.ntmps45
  go_wp2
  go_ret3
  exact ⟨rfl, rfl⟩

set_option maxRecDepth 10000 in
theorem rread_few_8 (ao : Option Addr) (l : List UInt8) (cap a : Nat) (w : World) (hs : Sl w ao l) (hl : l.length ≤ 9223372036854775000) (h : a < l.length) (h' : l.length < a + 8) (hq : l[a].toNat / 64 = 3) :
    Calls Tryd.prog 45 #[.slice ao l.length cap, .int .i64 a] w fun e w' => e = .returned (.tuple #[.int .i64 0, .int .i64 0, .int .i64 10]) ∧ w' = w := by
  obtain ⟨b, off, rfl, hc⟩ := Sl_addr hs (by omega)
  have hcell := hc a (by omega)
  obtain ⟨c, hcc⟩ : ∃ c : Nat, c = l[a].toNat := ⟨_, rfl⟩
  rw [← hcc] at hcell hq
  have hc8 : c < 256 := by rw [hcc]; exact l[a].toNat_lt
  have hq' : (c : Int) / 64 = 3 := by omega
  have hw : wrap64 (2 ^ 3) = 8 := by kernel_rfl
  clear hc hs hcc hq
  go_enter Tryd.func45, Tryd.ntmps45
  go_wp2
  go_ret3
  exact ⟨rfl, rfl⟩

set_option maxRecDepth 10000 in
theorem rread_1 (ao : Option Addr) (l : List UInt8) (cap a : Nat) (w : World) (hs : Sl w ao l) (hl : l.length ≤ 9223372036854775000) (hcap : l.length ≤ cap) (hcm : cap ≤ 9223372036854775807) (h : a + 1 ≤ l.length) (hq : (l[a]'(by omega)).toNat / 64 = 0) :
    Calls Tryd.prog 45 #[.slice ao l.length cap, .int .i64 a] w fun e w' => e = .returned (.tuple #[.int .i64 ((num (sub l a 1) : Int) % 64), .int .i64 (a + 1), .int .i64 0]) ∧ Below w.heap.size w w' := by
  obtain ⟨i0, hi, hz0, hz1, hz2⟩ := info_parts info5
  obtain ⟨b, off, rfl, hc⟩ := Sl_addr hs (by omega)
  have hcell := hc a (by omega)
  have hs0 := sub_zero l a 1 h (by decide)
  obtain ⟨c, hcc⟩ : ∃ c : Nat, c = (l[a]'(by omega)).toNat := ⟨_, rfl⟩
  rw [← hcc] at hcell hq
  have hc8 : c < 256 := by rw [hcc]; exact (l[a]'(by omega)).toNat_lt
  have hq' : (c : Int) / 64 = 0 := by omega
  have hw : wrap64 (2 ^ 0) = 1 := by kernel_rfl
  have HP := mkHid (Sl_alloc (Sl_sub a 1 hc (by omega)) (.cells #[] 5))
  have HL := mkHid (sub_length l a 1 (by omega))
  have hlow := num_low6 (sub l a 1) 0 HL.out
  have hlt := num_sub_64 l a 1 h (by decide)
  have e4 : (64 : Nat) * 256 ^ 0 = 64 := by decide
  rw [e4] at hlow
  have HLOW := mkHid hlow
  have HS0 : Hid (((sub l a 1)[0]'(by rw [HL.out]; decide)).toNat = c) := by unfold Hid; rw [hs0, ← hcc]
  clear hc hs hcc hq hs0 hlow e4
  go_enter Tryd.func45, Tryd.ntmps45
  go_wp2_with (at_builtin; refine wpList_append_own _ rfl (.tmp 34) (.tmp 40) 22 rfl w.heap.size 5 i0 (.int .u8 0) 1 1 Tryd.underlying22 hi hz0 hz1 hz2 rfl (by decide) _ 0 [] rfl (World.ownsRow_made w #[] 0 (Nat.le_refl _) (by decide) rfl) ⟨b, off + a, none⟩ 1 (cap - a) (bc (sub l a 1)) rfl (by rw [bc_length, HL.out]) (Sl_cells HP.out) (bc_one _) (by unfold maxLen; omega) (by omega) (by simp) ?_; intro v' w1 hown hgrow _; have HO := mkHid hown; have HG := mkHid hgrow; clear hown hgrow; obtain ⟨g, cp, cur, hv, hg, hblk, hle, hmx, hsz, htk⟩ := own_shape HO.out (by decide); subst hv; have HBK := mkHid hblk; have HTK := mkHid htk; clear hblk htk; have hfr : w1.frozen? ⟨g, 0, none⟩ = false := (by unfold World.frozen?; rw [HBK.out]; simp); have hc0 := own_first HL.out HS0.out HBK.out HTK.out)
  have HSL := mkHid (own_set HL.out HS0.out HBK.out HTK.out)
  have hn62 : num (low6 (sub l a 1)) < 64 := by rw [HLOW.out]; exact Nat.mod_lt _ (by decide)
  have HV : Hid ((num (low6 (sub l a 1)) : Int) = (num (sub l a 1) : Int) % 64) := by unfold Hid; rw [HLOW.out]; omega
  have HBE := mkHid (own_below (x := .int .u8 ((c : Int) % 64)) HG.out hg)
  refine (number_any _ (low6 (sub l a 1)) 1 _ _ HSL.out (by rw [low6_length]; exact HL.out) (by decide) (by decide)).mono ?_
  rintro e w' ⟨rfl, rfl⟩
  go_wp2
  go_ret3
  exact ⟨ret_3 HV.out rfl rfl, HBE.out⟩

set_option maxRecDepth 10000 in
theorem rread_2 (ao : Option Addr) (l : List UInt8) (cap a : Nat) (w : World) (hs : Sl w ao l) (hl : l.length ≤ 9223372036854775000) (hcap : l.length ≤ cap) (hcm : cap ≤ 9223372036854775807) (h : a + 2 ≤ l.length) (hq : (l[a]'(by omega)).toNat / 64 = 1) :
    Calls Tryd.prog 45 #[.slice ao l.length cap, .int .i64 a] w fun e w' => e = .returned (.tuple #[.int .i64 ((num (sub l a 2) : Int) % 16384), .int .i64 (a + 2), .int .i64 0]) ∧ Below w.heap.size w w' := by
  obtain ⟨i0, hi, hz0, hz1, hz2⟩ := info_parts info5
  obtain ⟨b, off, rfl, hc⟩ := Sl_addr hs (by omega)
  have hcell := hc a (by omega)
  have hs0 := sub_zero l a 2 h (by decide)
  obtain ⟨c, hcc⟩ : ∃ c : Nat, c = (l[a]'(by omega)).toNat := ⟨_, rfl⟩
  rw [← hcc] at hcell hq
  have hc8 : c < 256 := by rw [hcc]; exact (l[a]'(by omega)).toNat_lt
  have hq' : (c : Int) / 64 = 1 := by omega
  have hw : wrap64 (2 ^ 1) = 2 := by kernel_rfl
  have HP := mkHid (Sl_alloc (Sl_sub a 2 hc (by omega)) (.cells #[] 5))
  have HL := mkHid (sub_length l a 2 (by omega))
  have hlow := num_low6 (sub l a 2) 1 HL.out
  have hlt := num_sub_64 l a 2 h (by decide)
  have e4 : (64 : Nat) * 256 ^ 1 = 16384 := by decide
  rw [e4] at hlow
  have HLOW := mkHid hlow
  have HS0 : Hid (((sub l a 2)[0]'(by rw [HL.out]; decide)).toNat = c) := by unfold Hid; rw [hs0, ← hcc]
  clear hc hs hcc hq hs0 hlow e4
  go_enter Tryd.func45, Tryd.ntmps45
  go_wp2_with (at_builtin; refine wpList_append_own _ rfl (.tmp 34) (.tmp 40) 22 rfl w.heap.size 5 i0 (.int .u8 0) 1 1 Tryd.underlying22 hi hz0 hz1 hz2 rfl (by decide) _ 0 [] rfl (World.ownsRow_made w #[] 0 (Nat.le_refl _) (by decide) rfl) ⟨b, off + a, none⟩ (a + 2 - a) (cap - a) (bc (sub l a 2)) rfl (by rw [bc_length, HL.out]; omega) (Sl_cells HP.out) (bc_one _) (by unfold maxLen; omega) (by omega) (by simp) ?_; intro v' w1 hown hgrow _; rw [show 0 + (a + 2 - a) = 2 by omega] at hown; have HO := mkHid hown; have HG := mkHid hgrow; clear hown hgrow; obtain ⟨g, cp, cur, hv, hg, hblk, hle, hmx, hsz, htk⟩ := own_shape HO.out (by decide); subst hv; have HBK := mkHid hblk; have HTK := mkHid htk; clear hblk htk; have hfr : w1.frozen? ⟨g, 0, none⟩ = false := (by unfold World.frozen?; rw [HBK.out]; simp); have hc0 := own_first HL.out HS0.out HBK.out HTK.out)
  have HSL := mkHid (own_set HL.out HS0.out HBK.out HTK.out)
  have hn62 : num (low6 (sub l a 2)) < 16384 := by rw [HLOW.out]; exact Nat.mod_lt _ (by decide)
  have HV : Hid ((num (low6 (sub l a 2)) : Int) = (num (sub l a 2) : Int) % 16384) := by unfold Hid; rw [HLOW.out]; omega
  have HBE := mkHid (own_below (x := .int .u8 ((c : Int) % 64)) HG.out hg)
  refine (number_any _ (low6 (sub l a 2)) 2 _ _ HSL.out (by rw [low6_length]; exact HL.out) (by decide) (by decide)).mono ?_
  rintro e w' ⟨rfl, rfl⟩
  go_wp2
  go_ret3
  exact ⟨ret_3 HV.out rfl rfl, HBE.out⟩

set_option maxRecDepth 10000 in
theorem rread_4 (ao : Option Addr) (l : List UInt8) (cap a : Nat) (w : World) (hs : Sl w ao l) (hl : l.length ≤ 9223372036854775000) (hcap : l.length ≤ cap) (hcm : cap ≤ 9223372036854775807) (h : a + 4 ≤ l.length) (hq : (l[a]'(by omega)).toNat / 64 = 2) :
    Calls Tryd.prog 45 #[.slice ao l.length cap, .int .i64 a] w fun e w' => e = .returned (.tuple #[.int .i64 ((num (sub l a 4) : Int) % 1073741824), .int .i64 (a + 4), .int .i64 0]) ∧ Below w.heap.size w w' := by
  obtain ⟨i0, hi, hz0, hz1, hz2⟩ := info_parts info5
  obtain ⟨b, off, rfl, hc⟩ := Sl_addr hs (by omega)
  have hcell := hc a (by omega)
  have hs0 := sub_zero l a 4 h (by decide)
  obtain ⟨c, hcc⟩ : ∃ c : Nat, c = (l[a]'(by omega)).toNat := ⟨_, rfl⟩
  rw [← hcc] at hcell hq
  have hc8 : c < 256 := by rw [hcc]; exact (l[a]'(by omega)).toNat_lt
  have hq' : (c : Int) / 64 = 2 := by omega
  have hw : wrap64 (2 ^ 2) = 4 := by kernel_rfl
  have HP := mkHid (Sl_alloc (Sl_sub a 4 hc (by omega)) (.cells #[] 5))
  have HL := mkHid (sub_length l a 4 (by omega))
  have hlow := num_low6 (sub l a 4) 3 HL.out
  have hlt := num_sub_64 l a 4 h (by decide)
  have e4 : (64 : Nat) * 256 ^ 3 = 1073741824 := by decide
  rw [e4] at hlow
  have HLOW := mkHid hlow
  have HS0 : Hid (((sub l a 4)[0]'(by rw [HL.out]; decide)).toNat = c) := by unfold Hid; rw [hs0, ← hcc]
  clear hc hs hcc hq hs0 hlow e4
  go_enter Tryd.func45, Tryd.ntmps45
  go_wp2_with (at_builtin; refine wpList_append_own _ rfl (.tmp 34) (.tmp 40) 22 rfl w.heap.size 5 i0 (.int .u8 0) 1 1 Tryd.underlying22 hi hz0 hz1 hz2 rfl (by decide) _ 0 [] rfl (World.ownsRow_made w #[] 0 (Nat.le_refl _) (by decide) rfl) ⟨b, off + a, none⟩ (a + 4 - a) (cap - a) (bc (sub l a 4)) rfl (by rw [bc_length, HL.out]; omega) (Sl_cells HP.out) (bc_one _) (by unfold maxLen; omega) (by omega) (by simp) ?_; intro v' w1 hown hgrow _; rw [show 0 + (a + 4 - a) = 4 by omega] at hown; have HO := mkHid hown; have HG := mkHid hgrow; clear hown hgrow; obtain ⟨g, cp, cur, hv, hg, hblk, hle, hmx, hsz, htk⟩ := own_shape HO.out (by decide); subst hv; have HBK := mkHid hblk; have HTK := mkHid htk; clear hblk htk; have hfr : w1.frozen? ⟨g, 0, none⟩ = false := (by unfold World.frozen?; rw [HBK.out]; simp); have hc0 := own_first HL.out HS0.out HBK.out HTK.out)
  have HSL := mkHid (own_set HL.out HS0.out HBK.out HTK.out)
  have hn62 : num (low6 (sub l a 4)) < 1073741824 := by rw [HLOW.out]; exact Nat.mod_lt _ (by decide)
  have HV : Hid ((num (low6 (sub l a 4)) : Int) = (num (sub l a 4) : Int) % 1073741824) := by unfold Hid; rw [HLOW.out]; omega
  have HBE := mkHid (own_below (x := .int .u8 ((c : Int) % 64)) HG.out hg)
  refine (number_any _ (low6 (sub l a 4)) 4 _ _ HSL.out (by rw [low6_length]; exact HL.out) (by decide) (by decide)).mono ?_
  rintro e w' ⟨rfl, rfl⟩
  go_wp2
  go_ret3
  exact ⟨ret_3 HV.out rfl rfl, HBE.out⟩

set_option maxRecDepth 10000 in
theorem rread_8 (ao : Option Addr) (l : List UInt8) (cap a : Nat) (w : World) (hs : Sl w ao l) (hl : l.length ≤ 9223372036854775000) (hcap : l.length ≤ cap) (hcm : cap ≤ 9223372036854775807) (h : a + 8 ≤ l.length) (hq : (l[a]'(by omega)).toNat / 64 = 3) :
    Calls Tryd.prog 45 #[.slice ao l.length cap, .int .i64 a] w fun e w' => e = .returned (.tuple #[.int .i64 ((num (sub l a 8) : Int) % 4611686018427387904), .int .i64 (a + 8), .int .i64 0]) ∧ Below w.heap.size w w' := by
  obtain ⟨i0, hi, hz0, hz1, hz2⟩ := info_parts info5
  obtain ⟨b, off, rfl, hc⟩ := Sl_addr hs (by omega)
  have hcell := hc a (by omega)
  have hs0 := sub_zero l a 8 h (by decide)
  obtain ⟨c, hcc⟩ : ∃ c : Nat, c = (l[a]'(by omega)).toNat := ⟨_, rfl⟩
  rw [← hcc] at hcell hq
  have hc8 : c < 256 := by rw [hcc]; exact (l[a]'(by omega)).toNat_lt
  have hq' : (c : Int) / 64 = 3 := by omega
  have hw : wrap64 (2 ^ 3) = 8 := by kernel_rfl
  have HP := mkHid (Sl_alloc (Sl_sub a 8 hc (by omega)) (.cells #[] 5))
  have HL := mkHid (sub_length l a 8 (by omega))
  have hlow := num_low6 (sub l a 8) 7 HL.out
  have hlt := num_sub_64 l a 8 h (by decide)
  have e4 : (64 : Nat) * 256 ^ 7 = 4611686018427387904 := by decide
  rw [e4] at hlow
  have HLOW := mkHid hlow
  have HS0 : Hid (((sub l a 8)[0]'(by rw [HL.out]; decide)).toNat = c) := by unfold Hid; rw [hs0, ← hcc]
  clear hc hs hcc hq hs0 hlow e4
  go_enter Tryd.func45, Tryd.ntmps45
  go_wp2_with (at_builtin; refine wpList_append_own _ rfl (.tmp 34) (.tmp 40) 22 rfl w.heap.size 5 i0 (.int .u8 0) 1 1 Tryd.underlying22 hi hz0 hz1 hz2 rfl (by decide) _ 0 [] rfl (World.ownsRow_made w #[] 0 (Nat.le_refl _) (by decide) rfl) ⟨b, off + a, none⟩ (a + 8 - a) (cap - a) (bc (sub l a 8)) rfl (by rw [bc_length, HL.out]; omega) (Sl_cells HP.out) (bc_one _) (by unfold maxLen; omega) (by omega) (by simp) ?_; intro v' w1 hown hgrow _; rw [show 0 + (a + 8 - a) = 8 by omega] at hown; have HO := mkHid hown; have HG := mkHid hgrow; clear hown hgrow; obtain ⟨g, cp, cur, hv, hg, hblk, hle, hmx, hsz, htk⟩ := own_shape HO.out (by decide); subst hv; have HBK := mkHid hblk; have HTK := mkHid htk; clear hblk htk; have hfr : w1.frozen? ⟨g, 0, none⟩ = false := (by unfold World.frozen?; rw [HBK.out]; simp); have hc0 := own_first HL.out HS0.out HBK.out HTK.out)
  have HSL := mkHid (own_set HL.out HS0.out HBK.out HTK.out)
  have hn62 : num (low6 (sub l a 8)) < 4611686018427387904 := by rw [HLOW.out]; exact Nat.mod_lt _ (by decide)
  have HV : Hid ((num (low6 (sub l a 8)) : Int) = (num (sub l a 8) : Int) % 4611686018427387904) := by unfold Hid; rw [HLOW.out]; omega
  have HBE := mkHid (own_below (x := .int .u8 ((c : Int) % 64)) HG.out hg)
  refine (number_any _ (low6 (sub l a 8)) 8 _ _ HSL.out (by rw [low6_length]; exact HL.out) (by decide) (by decide)).mono ?_
  rintro e w' ⟨rfl, rfl⟩
  go_wp2
  go_ret3
  exact ⟨ret_3 HV.out rfl rfl, HBE.out⟩
end Go.Proofs.YtaeapgkfmofjlaaDoor
