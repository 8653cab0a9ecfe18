/- params: rows of the table: the first that may not be. -/
import Derived.Test.YtcppnellgkbndaaDoorMa
import Derived.Shelf.Abstract
import Derived.Shelf.RegionOpen
namespace Go.Proofs.YtcppnellgkbndaaDoor
open Go.ChangeShapes Go.WideShapes Go.ChangeAt Go.RowKit Go.Shelf
set_option linter.unusedVariables false
set_option maxRecDepth 100000

theorem wrq (n : Int) (h : -9223372036854775808 ≤ n) (h2 : n ≤ 9223372036854775807) : IntKind.i64.wrap n = n := by
  rw [IntKind.wrap_i64]; omega
/-- A row of the table: its number, whose it is, its value, and what the value's methods answer. -/
structure Row where
  n : Int
  sv : Bool
  mu : Bool
  T : TypeId
  v : Value
  al : Bool
  th : Bool
/-- Rows as they lie. -/
def Fs (w : World) (g : Nat) (L : List Row) : Prop := ∀ k (h : k < L.length), w.cell? ⟨g, k * 4, none⟩ = some (.int .i64 L[k].n) ∧ w.cell? ⟨g, k * 4 + 1, none⟩ = some (.bool L[k].sv) ∧ w.cell? ⟨g, k * 4 + 2, none⟩ = some (.bool L[k].mu) ∧ w.cell? ⟨g, k * 4 + 3, none⟩ = some (.iface L[k].T L[k].v)
theorem Fs.bel {w X : World} {g : Nat} {L : List Row} (h : Fs w g L) (hb : Below w.heap.size w X) : Fs X g L := fun k hk => ⟨cell_bel (h k hk).1 hb, cell_bel (h k hk).2.1 hb, cell_bel (h k hk).2.2.1 hb, cell_bel (h k hk).2.2.2 hb⟩
/-- What the values' methods answer. -/
def Row.may (w : World) (r : Row) : Prop := MB w r.T r.v "caravel/params.allowed" r.al ∧ MB w r.T r.v "caravel/params.there" r.th
def Row.bad (s : Bool) (r : Row) : Bool := YtcppnellgkbndaaDoor.bad s r.sv r.al r.th
theorem eg26 : ∀ args w, (callFunc 26 args).run Tryd.prog w = .ok (.enter 26 args) w := enters_of Tryd.func26 (by kernel_rfl) rfl
def IxR (W : World) (s : Bool) (L : List Row) (r : Ending) (w' : World) : Prop := ∃ v : Int, r = .returned (.int .i64 v) ∧ decide (0 ≤ v) = L.any (Row.bad s) ∧ Below W.heap.size W w'
set_option maxHeartbeats 1000000 in
theorem index_c {W : World} {g sb c : Nat} {s : Bool} {L : List Row} (h : Fs W g L) (hm : ∀ r ∈ L, r.may W) (hs : W.cell? ⟨sb, 0, none⟩ = some (.bool s)) (hl : L.length ≤ 17) : Calls Tryd.prog 40 #[.slice (some ⟨g, 0, none⟩) L.length c, .func (.func 26) #[] #[.pointer (some ⟨sb, 0, none⟩)]] W (IxR W s L) := by
  have HP : Aside (Fs W g L) := h
  have HM : Aside (∀ r ∈ L, r.may W) := hm
  have HS : Aside (W.cell? ⟨sb, 0, none⟩ = some (.bool s)) := hs
  obtain ⟨N, hN⟩ : ∃ N, L.length = N := ⟨_, rfl⟩
  have HN : Aside (L.length = N) := hN
  rw [hN]
  rw [hN] at hl
  have HR : Aside (∀ (v : Int) (w' : World), decide (0 ≤ v) = L.any (Row.bad s) → Below W.heap.size W w' → IxR W s L (.returned (.int .i64 v)) w') := fun v w' h1 h2 => ⟨v, rfl, h1, h2⟩
  generalize IxR W s L = RR at *
  clear h hN hm hs
  have eg := eg26
  go_enter Tryd.func40, Tryd.ntmps40
  go_wp2
  go_loopg [8] N (fun kx s8 wr => ∃ k : Nat, s8 = .int .i64 (k : Int) ∧ k ≤ N ∧ N - k ≤ kx ∧ Aside (Below W.heap.size W wr ∧ (L.take k).any (Row.bad s) = false))
  case atStart => exact ⟨0, rfl, by omega, by omega, Below.refl _ _, rfl⟩
  case round =>
    obtain ⟨k, rfl, hk, hg, HB⟩ := hrel
    by_cases hlt : k < N
    · have hi : k < L.length := by rw [HN.out]; exact hlt
      obtain ⟨c0, c1, c2, c3⟩ := (Fs.bel HP.out HB.out.1) k hi
      have HT : Aside (L.take (k + 1) = L.take k ++ [L[k]]) := List.take_succ_eq_append_getElem hi
      have HL : Aside (L[k] ∈ L) := List.getElem_mem hi
      obtain ⟨hA, hT⟩ := HM.out _ (List.getElem_mem hi)
      have hc := mayNot_c L[k].n L[k].sv L[k].mu s L[k].al L[k].th L[k].T L[k].v sb wr (hA.above HB.out.1) (hT.above HB.out.1) (cell_bel HS.out HB.out.1)
      have HBD : Aside (L[k].bad s = bad s L[k].sv L[k].al L[k].th) := rfl
      generalize bad s L[k].sv L[k].al L[k].th = y at *
      clear hA hT
      generalize L[k] = x at *
      obtain ⟨xn, xsv, xmu, xT, xv, xal, xth⟩ := x
      simp only at c0 c1 c2 c3 hc
      generalize Value.iface xT xv = vv at *
      have hc' : Calls Tryd.prog 26 #[.agg #[.int .i64 xn, .bool xsv, .bool xmu, vv], .pointer (some ⟨sb, 0, none⟩)] wr fun e w' => e = .returned (.bool y) ∧ Below wr.heap.size wr w' := hc
      clear hc
      have i1 : (k : Int) < N := by omega
      have iw : IntKind.i64.wrap ((k : Int) + 1) = (k : Int) + 1 := wrq _ (by omega) (by omega)
      cases y with
      | true =>
        go_wp2_with (go_at_fn 26; refine hc'.mono ?_; rintro e w' ⟨rfl, hbw⟩; have HBW : Aside _ := hbw; clear hbw)
        refine HR.out _ _ ?_ (bel_trans HB.out.1 HBW.out)
        have : L.any (Row.bad s) = true := List.any_eq_true.2 ⟨_, HL.out, HBD.out⟩
        rw [this]
        simp
      | false =>
        go_wp2_with (go_at_fn 26; refine hc'.mono ?_; rintro e w' ⟨rfl, hbw⟩; have HBW : Aside _ := hbw; clear hbw)
        go_roundg (N - (k + 1))
        case measure => omega
        case rel => exact ⟨k + 1, rfl, by omega, Nat.le_refl _, bel_trans HB.out.1 HBW.out, by rw [HT.out, List.any_append, HB.out.2]; simp [HBD.out]⟩
    · obtain rfl : k = N := by omega
      have i1 : ¬ (k : Int) < k := by omega
      go_wp2
      refine HR.out _ _ ?_ HB.out.1
      have h2 := HB.out.2
      rw [show L.take k = L by rw [← HN.out, List.take_length]] at h2
      rw [h2]
      rfl
theorem contains_c {W : World} {g sb c : Nat} {s : Bool} {L : List Row} (h : Fs W g L) (hm : ∀ r ∈ L, r.may W) (hs : W.cell? ⟨sb, 0, none⟩ = some (.bool s)) (hl : L.length ≤ 17) : Calls Tryd.prog 28 #[.slice (some ⟨g, 0, none⟩) L.length c, .func (.func 26) #[] #[.pointer (some ⟨sb, 0, none⟩)]] W fun r w' => r = .returned (.bool (L.any (Row.bad s))) ∧ Below W.heap.size W w' := by
  have hp := index_c (c := c) h hm hs hl
  obtain ⟨N, hN⟩ : ∃ N, L.length = N := ⟨_, rfl⟩
  rw [hN] at hp ⊢
  clear h hm hs
  go_enter Tryd.func28, Tryd.ntmps28
  go_wp2_with fail
  refine hp.mono ?_
  rintro e w' ⟨v, rfl, h1, h2⟩
  have HE : Aside (Below W.heap.size W w') := h2
  have H1 : Aside (decide (0 ≤ v) = L.any (Row.bad s)) := h1
  clear h2 hp h1
  go_wp2
  go_ret
  refine ⟨?_, HE.out⟩
  rw [← H1.out]
  rfl
end Go.Proofs.YtcppnellgkbndaaDoor
