/- The walk of caravellaw02.HeaderWhole. -/
import Derived.Test.YtlllejgpmdeeiaaDoorSplit
namespace Go.Proofs.YtlllejgpmdeeiaaDoor
open Go.ChangeShapes Go.WideShapes Go.ChangeAt Go.RowKit
set_option linter.unusedVariables false

theorem take_sub (l : List UInt8) (o n : Nat) : l.take o ++ sub l o n = l.take (o + n) := by
  unfold sub; rw [List.take_add]
theorem rows_cell {w : World} {B g k : Nat} {ps : List (Nat × Nat)} {po : Option Addr} {pc : Nat} (h : w.ownsRow B 22 1 (.slice po ps.length pc) ps.length (pvals g ps)) (hk : k < ps.length) : ∃ q, po = some ⟨q, 0, none⟩ ∧ w.cell? ⟨q, k, none⟩ = some (pval g ps[k]) ∧ ps.length ≤ pc ∧ pc ≤ 9223372036854775807 := by
  obtain ⟨hl, ⟨_, h1⟩ | ⟨q, cap, cur, he, h1, h2, h3, h4, h5, h6⟩⟩ := h
  · omega
  · simp only [Value.slice.injEq, true_and] at he
    obtain ⟨rfl, rfl⟩ := he
    refine ⟨q, rfl, ?_, h3, h4⟩
    unfold World.cell?
    rw [h2]
    have e := congrArg (fun x => x[k]?) h6
    simp only [Nat.mul_one, pvals, List.getElem?_map] at e
    rw [List.getElem?_take_of_lt hk, List.getElem?_eq_getElem hk] at e
    simpa using e
theorem Chain.one {ps : List (Nat × Nat)} {ids : Int} (h : Chain [1] ids ps 0 [(1 : UInt8)].length) : ps.length = 1 := by
  cases ps with
  | nil => have : (0 : Nat) = 1 := h; omega
  | cons x r =>
    obtain ⟨o, n⟩ := x
    have := Chain.le h.2.2.2
    have h2 := h.2.2.1
    simp at this ⊢
    have h3 : r.length = 0 := by omega
    exact List.eq_nil_of_length_eq_zero h3

set_option maxRecDepth 10000 in
set_option maxHeartbeats 400000 in
theorem whole_walk (ao : Option Addr) (l : List UInt8) (cap : Nat) (ids : Int) (w : World) (ht : Tb w) (hs : Sl w ao l) (hl : l.length ≤ 4294967296) (hnil : ao = none → l.length = 0 ∧ cap = 0) :
    Calls Tryd.prog 6 #[.slice ao l.length cap, .int .i64 ids] w fun e w' => e = .returned (.bool true) ∧ Below w.heap.size w w' := by
  have HS := mkHid hs
  have HT := mkHid ht
  have HN := mkHid hnil
  clear hs ht hnil
  go_enter Tryd.func6, Tryd.ntmps6
  go_wp2_with fail
  refine (split_any ao l cap ids w HS.out HT.out hl HN.out).mono ?_
  rintro e w2 ⟨po, pc, ps, g, B, rfl, hown, hch, hsl, hB, hbel⟩
  have HO := mkHid hown
  have HCH := mkHid hch
  have HSL := mkHid hsl
  have HB := mkHid hbel
  have hpl := hch.le
  clear hown hch hsl hbel
  go_wp2
  go_loop [6, 7] (fun s i => ∃ (k o : Nat), k ≤ ps.length ∧ i = .int .i64 k ∧ Hid (Chain l ids (ps.drop k) o l.length) ∧ s = .string ⟨(l.take o).toArray⟩) (fun _ i => ps.length - (intOf i).toNat)
  case atStart => exact ⟨0, 0, by omega, rfl, by simpa using HCH, by simp⟩
  case round =>
    obtain ⟨k, o, hk, rfl, HC, rfl⟩ := hrel
    by_cases hlt : k < ps.length
    · have hd : ps.drop k = ps[k] :: ps.drop (k + 1) := List.drop_eq_getElem_cons hlt
      obtain ⟨q, hq, hcell, hq1, hq2⟩ := rows_cell HO.out hlt
      have hch := HC.out
      rw [hd] at hch
      obtain ⟨x, hx⟩ : ∃ x, ps[k] = x := ⟨_, rfl⟩
      rw [hx] at hcell hch
      obtain ⟨o', n⟩ := x
      obtain ⟨rfl, hps, hn0, hch'⟩ := hch
      have hon := hch'.le
      have hpos : 0 < l.length := by omega
      subst hq
      have hsub := sub_length l o' n (by omega)
      have hpiece : Sl w2 (some ⟨g, o', none⟩) (sub l o' n) := by
        have h1 := Sl_drop (o := o') (HSL.out hpos).1
        intro j hj
        obtain ⟨b', off', he, hc⟩ := h1 j (by rw [hsub] at hj; simp; omega)
        refine ⟨b', off', he, ?_⟩
        rw [hc]
        simp [sub]
      have cx := str_any (cap := n) (m := n) hpiece hsub (fun h => by cases h)
      have hcell' : w2.cell? ⟨q, k, none⟩ = some (.slice (some ⟨g, o', none⟩) n n) := hcell
      have HCH' := mkHid hch'
      have hts := take_sub l o' n
      obtain ⟨A, hA⟩ : ∃ A, l.take o' = A := ⟨_, rfl⟩
      obtain ⟨X, hX⟩ : ∃ X, sub l o' n = X := ⟨_, rfl⟩
      obtain ⟨A', hA'⟩ : ∃ A', l.take (o' + n) = A' := ⟨_, rfl⟩
      have hlenA : A.length ≤ 4294967296 := by rw [← hA]; simp; omega
      rw [hA, hX, hA'] at hts
      rw [hX] at cx hsub
      rw [hA]
      have hadd : ((⟨A.toArray⟩ : ByteArray) ++ ⟨X.toArray⟩) = ⟨A'.toArray⟩ := (ByteArray.mk_append_mk A X).trans (by rw [hts])
      have hbnd : A.length + X.length ≤ 9223372036854775807 := by omega
      have HA' := mkHid hA'
      have hnb : ((n : Int) == 0) = false := by simp; omega
      clear hcell hch' hA hX hA' hts hpiece hx hd hsub HC hps
      go_wp2
      go_round
      case rel => exact ⟨k + 1, o' + n, by omega, by go_num, HCH', by rw [HA'.out]⟩
      case measure => simp [intOf]; omega
    · obtain rfl : k = ps.length := by omega
      have ho : o = l.length := by
        have := HC.out
        rw [List.drop_length] at this
        exact this
      subst ho
      rw [List.take_length]
      have cy := str_any (cap := cap) (Sl_below HS.out HB.out) rfl HN.out
      go_wp2_with fail
      refine (split_any (some ⟨w2.heap.size, 0, none⟩) [1] 1 0 _ ?_ ?_ (by decide) (fun h => by cases h)).mono ?_
      · exact Sl_new w2 1
      · exact Tb_below (Tb_below HT.out HB.out (Tb_pos HT.out)) ((Below.refl w2.heap.size w2).alloc (Nat.le_refl _) _) (by have := Tb_pos HT.out; have := HB.out.size; omega)
      rintro e w3 ⟨po', pc', ps', g', B', rfl, _, hch2, _, _, hb3⟩
      have h1 := hch2.one
      have HB3 : Hid (Below w2.heap.size w2 w3) := ((Below.refl w2.heap.size w2).alloc (Nat.le_refl _) _).trans (hb3.mono (by simp))
      clear hch2 hb3
      go_wp2
      go_ret
      exact ⟨rfl, HB.out.trans (HB3.out.mono HB.out.size)⟩
end Go.Proofs.YtlllejgpmdeeiaaDoor
