/- What octet.lay answers, for every input: a contract. -/
import Derived.Test.YtcppnellgkbndaaDoorBase
import Derived.Laws.CopyOwn
namespace Go.Proofs.YtcppnellgkbndaaDoor
open Go.ChangeShapes Go.WideShapes Go.ChangeAt Go.RowKit
set_option linter.unusedVariables false

theorem mkHid {p : Prop} (h : p) : Hid p := h

/-- bytes as cells -/
def bc (l : List UInt8) : List Value := l.map fun b => Value.int .u8 b.toNat
/-- the k lowest bytes of v, the highest first -/
def be : Nat → Nat → List UInt8
  | 0, _ => []
  | k + 1, v => UInt8.ofNat (v / 256 ^ k) :: be k v
/-- the slice's bytes are l -/
def Sl (w : World) (ao : Option Addr) (l : List UInt8) : Prop := ∀ j (hj : j < l.length), ∃ b off, ao = some ⟨b, off, none⟩ ∧ w.cell? ⟨b, off + j, none⟩ = some (.int .u8 (l[j].toNat))

theorem info5 : (Tryd.prog.info? 5).map (fun i => (i.zero, i.size, i.bytes)) = some (some (.int .u8 0), 1, 1) := by kernel_rfl

theorem block_of_owns {w : World} {base g m : Nat} {xs : List Value} (h : w.ownsRow base 5 1 (.slice (some ⟨g, 0, none⟩) m m) m xs) : w.heap[g]? = some (.cells xs.toArray 5 (0, 0)) := by
  obtain ⟨hl, ⟨h1, _⟩ | ⟨g', cap, cur, he, _, hb, _, _, hsz, htk⟩⟩ := h
  · cases h1
  · simp only [Value.slice.injEq, Option.some.injEq, Addr.mk.injEq] at he
    obtain ⟨⟨rfl, _⟩, _, rfl⟩ := he
    rw [hb]
    have : cur.toList = xs := by
      rw [← htk, List.take_of_length_le (by simp; omega)]
    rw [← this]

theorem bc_length (l : List UInt8) : (bc l).length = l.length := by simp [bc]
theorem bc_append (a b : List UInt8) : bc (a ++ b) = bc a ++ bc b := by simp [bc]
theorem be_length (k V : Nat) : (be k V).length = k := by induction k with
  | zero => rfl
  | succ k ih => simp [be, ih]
theorem made_zero (n : Nat) : (madeCells #[Value.int .u8 0] n).toList = bc (List.replicate n 0) := by
  rw [toList_madeCells_one]; simp [bc]

theorem Sl_addr {w : World} {ao : Option Addr} {l : List UInt8} (hs : Sl w ao l) (h : 0 < l.length) : ∃ b off, ao = some ⟨b, off, none⟩ ∧ ∀ j (hj : j < l.length), w.cell? ⟨b, off + j, none⟩ = some (.int .u8 (l[j].toNat)) := by
  obtain ⟨b, off, he, _⟩ := hs 0 h
  refine ⟨b, off, he, fun j hj => ?_⟩
  obtain ⟨b', off', he', hc⟩ := hs j hj
  rw [he] at he'
  simp only [Option.some.injEq, Addr.mk.injEq] at he'
  obtain ⟨rfl, rfl, _⟩ := he'
  exact hc

theorem add_none (b off j : Nat) : (⟨b, off, none⟩ : Addr).add j = ⟨b, off + j, none⟩ := by
  unfold Addr.add
  split
  · rename_i h; subst h; rfl
  · rfl

/-- the new bytes behind k rounds -/
def layAt (l : List UInt8) (n V k : Nat) : List UInt8 := l ++ (List.replicate (n - k) 0 ++ be k V)
theorem layAt_length (l : List UInt8) (n V k : Nat) (hk : k ≤ n) : (layAt l n V k).length = l.length + n := by
  simp [layAt, be_length]; omega
theorem layAt_start (l : List UInt8) (n V : Nat) : splice (bc (List.replicate (l.length + n) 0)) 0 (bc l) = bc (layAt l n V 0) := by
  have e : (bc (List.replicate (l.length + n) 0)).drop (0 + (bc l).length) = bc (List.replicate n 0) := by
    rw [bc_length, Nat.zero_add]; simp [bc]
  unfold splice layAt
  rw [e, bc_append]
  simp [be]
theorem layAt_end (l : List UInt8) (n V : Nat) : layAt l n V n = l ++ be n V := by simp [layAt]

theorem layAt_zero (l : List UInt8) (n V k : Nat) (hk : k < n) : (bc (layAt l n V k))[l.length + n - 1 - k]? = some (.int .u8 0) := by
  unfold layAt
  rw [bc_append, bc_append, List.getElem?_append_right (by rw [bc_length]; omega), List.getElem?_append_left (by simp [bc]; omega)]
  simp [bc, List.getElem?_replicate]
  omega

theorem be_head (V k : Nat) : be (k + 1) V = UInt8.ofNat (V / 256 ^ k) :: be k V := rfl

theorem layAt_step (l : List UInt8) (n V k : Nat) (hk : k < n) : (bc (layAt l n V k)).set (l.length + n - 1 - k) (.int .u8 ((V : Int) / 2 ^ (8 * k) % 256)) = bc (layAt l n V (k + 1)) := by
  have e1 : layAt l n V k = (l ++ List.replicate (n - (k + 1)) 0) ++ (0 :: be k V) := by
    unfold layAt
    have : n - k = (n - (k + 1)) + 1 := by omega
    rw [this, List.replicate_succ']
    simp
  have e2 : layAt l n V (k + 1) = (l ++ List.replicate (n - (k + 1)) 0) ++ (UInt8.ofNat (V / 256 ^ k) :: be k V) := by
    unfold layAt
    rw [be_head]
    simp
  have hlen : (bc (l ++ List.replicate (n - (k + 1)) 0)).length = l.length + n - 1 - k := by rw [bc_length]; simp; omega
  have ev : Value.int .u8 ((V : Int) / 2 ^ (8 * k) % 256) = Value.int .u8 ((UInt8.ofNat (V / 256 ^ k)).toNat : Int) := by
    have e3 : (2 : Int) ^ (8 * k) = ((256 ^ k : Nat) : Int) := by
      rw [Int.pow_mul]
      simp
    rw [e3, UInt8.toNat_ofNat']
    generalize 256 ^ k = P
    have e4 : ((V / P % 2 ^ 8 : Nat) : Int) = (V : Int) / (P : Int) % 256 := by rw [Int.natCast_emod, Int.natCast_ediv]; rfl
    rw [e4]
  rw [e1, e2, bc_append _ (0 :: be k V), bc_append _ (UInt8.ofNat (V / 256 ^ k) :: be k V), List.set_append_right _ _ (by omega), hlen, Nat.sub_self, ev]
  rfl

theorem layAt_stored {w wr : World} {l : List UInt8} {n V k : Nat} (hk : k < n) (hb : wr.heap[w.heap.size]? = some (.cells (bc (layAt l n V k)).toArray 5 (0, 0))) :
    (wr.setCell ⟨w.heap.size, l.length + n - 1 - k, none⟩ (.int .u8 ((V : Int) / 2 ^ (8 * k) % 256))).heap[w.heap.size]? = some (.cells (bc (layAt l n V (k + 1))).toArray 5 (0, 0)) := by
  rw [heap_setCell_same wr w.heap.size _ _ 5 _ hb, ← layAt_step l n V k hk]
  simp

theorem copy_pos {w w1 : World} {ao : Option Addr} {l : List UInt8} {g : Nat} (hs : Sl w ao l) (hb : Below w.heap.size w w1) : 0 < (bc l).length → (some (⟨g, 0, none⟩ : Addr)) = some ⟨g, 0, none⟩ ∧ ∃ ad, ao = some ad ∧ ∀ j v, (bc l)[j]? = some v → w1.cell? (ad.add j) = some v := by
  intro h
  rw [bc_length] at h
  obtain ⟨b, off, he, hc⟩ := Sl_addr hs h
  refine ⟨rfl, ⟨b, off, none⟩, he, fun j v hj => ?_⟩
  have hj' : j < l.length := by
    have := (List.getElem?_eq_some_iff.1 hj).1
    simpa [bc] using this
  have hv : v = .int .u8 (l[j].toNat) := by
    simp [bc, List.getElem?_eq_getElem hj'] at hj
    exact hj.symm
  have hcj := hc j hj'
  have hlt := World.block_lt_of_cell? w _ hcj
  rw [hv, add_none, ← hcj]
  exact World.cell?_of_block (w := w) (w' := w1) (a := ⟨b, off + j, none⟩) (hb.block b hlt)

theorem bc_one (l : List UInt8) : ∀ v ∈ bc l, v.oneCell' = true := by
  intro v hv
  simp [bc] at hv
  obtain ⟨b, _, rfl⟩ := hv
  rfl

theorem lay_made {w w1 : World} {base m : Nat} (h : w1.ownsRow base 5 1 (.slice (some ⟨w.heap.size, 0, none⟩) m m) m (madeCells (Value.int .u8 0).cells (m * 1)).toList) : w1.heap[w.heap.size]? = some (.cells (bc (List.replicate m 0)).toArray 5 (0, 0)) := by
  rw [block_of_owns h]
  have e : (Value.int .u8 0).cells = #[Value.int .u8 0] := rfl
  rw [e, made_zero, Nat.mul_one]

set_option maxRecDepth 10000 in
theorem lay_any (ao : Option Addr) (l : List UInt8) (cap : Nat) (V n : Nat) (w : World) (hs : Sl w ao l) (hl : l.length ≤ 140737488351232) (hV : V < 18446744073709551616) (hn1 : 1 ≤ n) (hn8 : n ≤ 8) :
    Calls Tryd.prog 58 #[.slice ao l.length cap, .int .u64 V, .int .i64 n] w fun e w' => e = .returned (.slice (some ⟨w.heap.size, 0, none⟩) (l.length + n) (l.length + n)) ∧
      w'.heap[w.heap.size]? = some (.cells (bc (l ++ be n V)).toArray 5 (0, 0)) ∧ Below w.heap.size w w' := by
  obtain ⟨i0, hi, hz0, hz1, hz2⟩ := info_parts info5
  have hsz5 : (Tryd.prog.info? 5).map (·.size) = some 1 := by kernel_rfl
  have HS := mkHid hs
  clear hs
  go_enter Tryd.func58, Tryd.ntmps58
  go_wp2_with (first
    | (at_make; refine wpList_make_full _ rfl _ _ 22 rfl w.heap.size 5 i0 (.int .u8 0) 1 Tryd.underlying22 hi hz0 hz1 .i64 .i64 _ _ (l.length + n) rfl rfl (by omega) (by omega) (by rw [hz2]; omega) (by unfold maxLen; omega) (Nat.le_refl _) ?_; intro w1 hown hgrow; have HB := mkHid (lay_made hown); have HL := mkHid ((Below.refl w.heap.size w).grown hgrow (Nat.le_refl _) (by intro k hk; cases hk)); clear hown hgrow)
    | (refine wpList_copy_splice rfl (.tmp 14) (.tmp 15) 22 22 rfl 5 Tryd.underlying22 hsz5 _ _ _ _ _ _ rfl rfl w.heap.size 0 (bc (List.replicate (l.length + n) 0)) 5 HB.out (bc l) (by rw [bc_length]; exact (Nat.min_eq_left (by omega)).symm) (copy_pos HS.out HL.out) (by simp [bc_length]) (bc_one l) w.heap.size w HL.out (Nat.le_refl _) ?_; intro w2 HB2 hl2; have HL2 := mkHid hl2; clear hl2 HB HL))
  rw [layAt_start l n V] at HB2
  go_loopw [18] (fun i wr => ∃ k : Nat, k ≤ n ∧ i = .int .i64 k ∧ Hid (wr.heap[w.heap.size]? = some (.cells (bc (layAt l n V k)).toArray 5 (0, 0))) ∧ Hid (Below w.heap.size w wr)) (fun i _ => n - (intOf i).toNat)
  case atStart => exact ⟨0, Nat.zero_le _, rfl, HB2, HL2⟩
  case round =>
    obtain ⟨k, hk, rfl, HBr, HLr⟩ := hrel
    by_cases hlt : k < n
    · have hfr : ∀ j, wr.frozen? ⟨w.heap.size, j, none⟩ = false := fun j => by unfold World.frozen?; rw [HBr.out]; simp
      have hcell : wr.cell? ⟨w.heap.size, l.length + n - 1 - k, none⟩ = some (.int .u8 0) := by unfold World.cell?; rw [HBr.out]; simpa using layAt_zero l n V k hlt
      go_wp2
      go_roundw
      case rel => exact ⟨k + 1, by omega, by go_num, layAt_stored hlt HBr.out, HLr.out.setCell (Nat.le_refl _) _⟩
      case measure => simp [intOf]; omega
    · go_wp2
      go_ret
      have : k = n := by omega
      subst this
      have h := HBr.out
      rw [layAt_end] at h
      exact ⟨rfl, h, HLr.out⟩
end Go.Proofs.YtcppnellgkbndaaDoor
