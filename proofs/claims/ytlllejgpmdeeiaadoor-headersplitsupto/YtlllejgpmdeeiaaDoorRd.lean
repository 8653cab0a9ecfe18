/- What the methods of header.reader answer: contracts. -/
import Derived.Test.YtlllejgpmdeeiaaDoorVarAny
import Derived.Test.YtlllejgpmdeeiaaDoorIn
import Derived.Test.YtlllejgpmdeeiaaDoorBack
import Derived.BigQuiet
import Derived.Deep.RegionWith
namespace Go.Proofs.YtlllejgpmdeeiaaDoor
open Go.ChangeShapes Go.WideShapes Go.ChangeAt Go.RowKit
set_option linter.unusedVariables false

/-- The world is as it was but for block R. -/
structure Only (R : Nat) (w w' : World) : Prop where
  os : w'.os = w.os
  tape : w'.tape = w.tape
  output : w'.output = w.output
  size : w'.heap.size = w.heap.size
  block : ∀ k, k ≠ R → w'.heap[k]? = w.heap[k]?

theorem Only.refl (R : Nat) (w : World) : Only R w w := ⟨rfl, rfl, rfl, rfl, fun _ _ => rfl⟩
theorem Only.trans {R : Nat} {a b c : World} (h : Only R a b) (k : Only R b c) : Only R a c :=
  ⟨k.os.trans h.os, k.tape.trans h.tape, k.output.trans h.output, k.size.trans h.size, fun i hi => (k.block i hi).trans (h.block i hi)⟩
theorem Only.drewN {R : Nat} {a w : World} (h : Only R a w) (n : Nat) : Only R a (w.drewN n) := ⟨h.os, h.tape, h.output, h.size, h.block⟩
theorem Only.setCell {R : Nat} {a w : World} (h : Only R a w) {p : Addr} (hp : p.block = R) (u : Value) : Only R a (w.setCell p u) :=
  h.trans ⟨rfl, rfl, rfl, by simp [World.setCell], fun k hk => Below.heap_setCell _ _ _ _ (by omega)⟩

/-- The reader as it lies. -/
def Rd (w : World) (R : Nat) (s : Value) (at' : Int) (lk : Bool) : Prop := w.heap[R]? = some (.cells #[s, .int .i64 at', .bool lk] 85 (0, 0))
theorem Rd.c0 {w : World} {R : Nat} {s : Value} {a : Int} {lk : Bool} (h : Rd w R s a lk) : w.cell? ⟨R, 0, none⟩ = some s := by unfold World.cell?; rw [h]; rfl
theorem Rd.c1 {w : World} {R : Nat} {s : Value} {a : Int} {lk : Bool} (h : Rd w R s a lk) : w.cell? ⟨R, 1, none⟩ = some (.int .i64 a) := by unfold World.cell?; rw [h]; rfl
theorem Rd.c2 {w : World} {R : Nat} {s : Value} {a : Int} {lk : Bool} (h : Rd w R s a lk) : w.cell? ⟨R, 2, none⟩ = some (.bool lk) := by unfold World.cell?; rw [h]; rfl
theorem Rd.fr {w : World} {R : Nat} {s : Value} {a : Int} {lk : Bool} (h : Rd w R s a lk) (j : Nat) : w.frozen? ⟨R, j, none⟩ = false := by unfold World.frozen?; rw [h]; simp
theorem Rd.drewN {w : World} {R : Nat} {s : Value} {a : Int} {lk : Bool} (h : Rd w R s a lk) (n : Nat) : Rd (w.drewN n) R s a lk := h
theorem Rd.set1 {w : World} {R : Nat} {s : Value} {a : Int} {lk : Bool} (h : Rd w R s a lk) (x : Int) : Rd (w.setCell ⟨R, 1, none⟩ (.int .i64 x)) R s x lk := by
  unfold Rd at h ⊢; rw [heap_setCell_same w R 1 _ 85 _ h]; rfl
theorem Rd.set2 {w : World} {R : Nat} {s : Value} {a : Int} {lk : Bool} (h : Rd w R s a lk) (x : Bool) : Rd (w.setCell ⟨R, 2, none⟩ (.bool x)) R s a x := by
  unfold Rd at h ⊢; rw [heap_setCell_same w R 2 _ 85 _ h]; rfl
theorem Rd.lt {w : World} {R : Nat} {s : Value} {a : Int} {lk : Bool} (h : Rd w R s a lk) : R < w.heap.size := lt_block h
theorem Rd.other {w w' : World} {R H : Nat} {s : Value} {a : Int} {lk : Bool} (h : Rd w R s a lk) (o : Only H w w') (hne : R ≠ H) : Rd w' R s a lk := (o.block R hne).trans h

theorem left_any (R : Nat) (ao : Option Addr) (len cap : Nat) (a : Int) (lk : Bool) (w : World) (h : Rd w R (.slice ao len cap) a lk) (h0 : 0 ≤ a) (h1 : a ≤ len) (hl : len ≤ 9223372036854775000) :
    Calls Tryd.prog 59 #[.pointer (some ⟨R, 0, none⟩)] w fun e w' => e = .returned (.int .i64 (len - a)) ∧ ∃ n, w' = w.drewN n := by
  have c0 := h.c0
  have c1 := h.c1
  clear h
  go_enter Tryd.func59, Tryd.ntmps59
  go_wp2
  go_quiet (fail)
  go_wp2
  go_ret
  exact ⟨rfl, _, rfl⟩

def pV (lk : Bool) (v e : Int) : Int := if lk = true ∨ e ≠ 0 then 0 else v
def pA (lk : Bool) (a next e : Int) : Int := if lk = true ∨ e ≠ 0 then a else next
def pL (lk : Bool) (e : Int) : Bool := lk || (e != 0)

theorem pass_any (R : Nat) (s : Value) (a : Int) (lk : Bool) (v next er : Int) (w : World) (h : Rd w R s a lk) :
    Calls Tryd.prog 58 #[.pointer (some ⟨R, 0, none⟩), .int .i64 v, .int .i64 next, .int .i64 er] w fun e w' => e = .returned (.int .i64 (pV lk v er)) ∧ Rd w' R s (pA lk a next er) (pL lk er) ∧ Only R w w' := by
  have c2 := h.c2
  have f := h.fr
  have HR := mkHid h
  have c1 := h.c1
  clear h
  cases lk
  · by_cases he : er = 0
    · have V : Hid (pV false v er = v) := by unfold Hid pV; simp [he]
      have A : Hid (pA false a next er = next) := by unfold Hid pA; simp [he]
      have L : Hid (pL false er = false) := by unfold Hid pL; simp [he]
      subst he
      go_enter Tryd.func58, Tryd.ntmps58
      go_wp2
      go_ret
      rw [V.out, A.out, L.out]
      exact ⟨rfl, HR.out.set1 _, (Only.refl R w).setCell rfl _⟩
    · have V : Hid (pV false v er = 0) := by unfold Hid pV; simp [he]
      have A : Hid (pA false a next er = a) := by unfold Hid pA; simp [he]
      have L : Hid (pL false er = true) := by unfold Hid pL; simp [he]
      have hb : (er != 0) = true := by simp [he]
      go_enter Tryd.func58, Tryd.ntmps58
      go_wp2
      go_ret
      rw [V.out, A.out, L.out]
      exact ⟨rfl, HR.out.set2 _, (Only.refl R w).setCell rfl _⟩
  · have V : Hid (pV true v er = 0) := by unfold Hid pV; simp
    have A : Hid (pA true a next er = a) := by unfold Hid pA; simp
    have L : Hid (pL true er = true) := by unfold Hid pL; simp
    go_enter Tryd.func58, Tryd.ntmps58
    go_wp2
    go_ret
    rw [V.out, A.out, L.out]
    exact ⟨rfl, HR.out.set2 _, (Only.refl R w).setCell rfl _⟩

theorem gV_bounds (l : List UInt8) (a n : Int) (hn : n ≤ 4) : 0 ≤ gV l a n ∧ gV l a n < 4294967296 := by
  unfold gV
  by_cases h : gOk l.length a n
  · rw [if_pos h]
    obtain ⟨h1, h2, h3, h4⟩ := h
    have := num_lt (sub l a.toNat n.toNat)
    rw [sub_length l _ _ (by omega)] at this
    have h5 : 256 ^ n.toNat ≤ 256 ^ 4 := Nat.pow_le_pow_right (by decide) (by omega)
    omega
  · rw [if_neg h]; omega

set_option maxRecDepth 10000 in
theorem number_rd (R : Nat) (ao : Option Addr) (l : List UInt8) (cap : Nat) (a n : Int) (lk : Bool) (w : World) (h : Rd w R (.slice ao l.length cap) a lk) (hs : Sl w ao l) (hl : l.length ≤ 9223372036854775000) (hn : n ≤ 4) :
    Calls Tryd.prog 54 #[.pointer (some ⟨R, 0, none⟩), .int .i64 n] w fun e w' => e = .returned (.int .i64 (pV lk (gV l a n) (gE l a n))) ∧ Rd w' R (.slice ao l.length cap) (pA lk a (gN l a n) (gE l a n)) (pL lk (gE l a n)) ∧ Only R w w' := by
  have c0 := h.c0
  have c1 := h.c1
  have HR := mkHid h
  have HS := mkHid hs
  obtain ⟨v0, v1⟩ := gV_bounds l a n hn
  have HG := fun W (hW : Sl W ao l) => get_any ao l cap a n W hW hl
  have HG' := mkHid HG
  clear h hs HG
  generalize gV l a n = V at *
  generalize gN l a n = N at *
  generalize gE l a n = E at *
  go_enter Tryd.func54, Tryd.ntmps54
  go_wp2
  go_quiet ((go_at_call 32; refine Calls.quiet_of_same (HG'.out _ HS.out)))
  go_wp2_with fail
  refine (pass_any R _ a lk V N E _ (HR.out.drewN _)).mono ?_
  rintro e w' ⟨rfl, h1, h2⟩
  go_wp2
  go_ret
  exact ⟨rfl, h1, ⟨h2.os, h2.tape, h2.output, h2.size, h2.block⟩⟩

set_option maxRecDepth 10000 in
theorem variable_rd (R : Nat) (ao : Option Addr) (l : List UInt8) (cap : Nat) (a : Int) (lk : Bool) (w : World) (h : Rd w R (.slice ao l.length cap) a lk) (hs : Sl w ao l) (ht : Tb w) (hl : l.length ≤ 9223372036854775000) :
    Calls Tryd.prog 60 #[.pointer (some ⟨R, 0, none⟩)] w fun e w' => e = .returned (.int .i64 (pV lk (vV l a) (vE l a))) ∧ Rd w' R (.slice ao l.length cap) (pA lk a (vN l a) (vE l a)) (pL lk (vE l a)) ∧ Only R w w' := by
  have c0 := h.c0
  have c1 := h.c1
  have HR := mkHid h
  have HS := mkHid hs
  have HG := fun W (hT : Tb W) (hW : Sl W ao l) => var_any ao l cap a W hT hW hl
  have HG' := mkHid HG
  have HT := mkHid ht
  clear h hs HG ht
  generalize vV l a = V at *
  generalize vN l a = N at *
  generalize vE l a = E at *
  go_enter Tryd.func60, Tryd.ntmps60
  go_wp2
  go_region_with ((first
    | (go_at_call 62; refine (HG'.out w.drew HT.out HS.out).mono ?_; rintro e w' ⟨rfl, rfl⟩)
    | (go_at_call 58; refine (pass_any R _ a lk V N E w.drew HR.out).mono ?_; rintro e w' ⟨rfl, h1, h2⟩; have H1 := mkHid h1; have H2 := mkHid h2; clear h1 h2)))
  all_goals
    go_wp2
    go_ret
    exact ⟨rfl, H1.out, ⟨H2.out.os, H2.out.tape, H2.out.output, H2.out.size, H2.out.block⟩⟩

abbrev tO (len : Int) (lk : Bool) (a n : Int) : Prop := lk = false ∧ n ≤ len - a
def tA (len : Int) (lk : Bool) (a n : Int) : Int := if tO len lk a n then a + n else a
def tL (len : Int) (lk : Bool) (a n : Int) : Bool := !decide (tO len lk a n)
def tSo (b off : Nat) (len : Int) (lk : Bool) (a n : Int) : Option Addr := if tO len lk a n then some ⟨b, if n = 0 then off else off + a.toNat, none⟩ else none
def tSn (len : Int) (lk : Bool) (a n : Int) : Nat := if tO len lk a n then n.toNat else 0

set_option maxRecDepth 10000 in
theorem take_rd (R b off len cap : Nat) (a n : Int) (lk : Bool) (w : World) (h : Rd w R (.slice (some ⟨b, off, none⟩) len cap) a lk) (h0 : 0 ≤ a) (h1 : a ≤ len) (hn : 0 ≤ n) (hc : len ≤ cap) (hcm : cap ≤ 9223372036854775807) (hl : len ≤ 9223372036854775000) :
    Calls Tryd.prog 55 #[.pointer (some ⟨R, 0, none⟩), .int .i64 n] w fun e w' => e = .returned (.slice (tSo b off len lk a n) (tSn len lk a n) (tSn len lk a n)) ∧ Rd w' R (.slice (some ⟨b, off, none⟩) len cap) (tA len lk a n) (tL len lk a n) ∧ Only R w w' := by
  have c0 := h.c0
  have c1 := h.c1
  have c2 := h.c2
  have f := h.fr
  have HR := mkHid h
  cases lk
  · by_cases hlt : n ≤ len - a
    · have ho : tO len false a n := ⟨rfl, hlt⟩
      have A : Hid (tA len false a n = a + n) := if_pos ho
      have L : Hid (tL len false a n = false) := by unfold Hid tL; simp [ho]
      have S : Hid (tSo b off len false a n = some ⟨b, if n = 0 then off else off + a.toNat, none⟩) := if_pos ho
      have N : Hid (tSn len false a n = n.toNat) := if_pos ho
      clear h ho
      go_enter Tryd.func55, Tryd.ntmps55
      go_wp2_with fail
      refine (left_any R _ len cap a false _ HR.out h0 h1 hl).mono ?_
      rintro e w' ⟨rfl, k, rfl⟩
      go_wp2
      go_quiet (fail)
      by_cases hz : n = 0
      · subst hz
        have e1 : (a + 0).toNat = a.toNat := by rw [Int.add_zero]
        go_wp2
        go_ret
        rw [A.out, L.out, S.out, N.out, Int.add_zero]
        exact ⟨rfl, (HR.out.drewN _).set1 _, ((Only.refl R w).drewN _).setCell rfl _⟩
      · have e1 : ¬ (a + n).toNat = a.toNat := by omega
        have e2 : (a + n).toNat - a.toNat = n.toNat := by omega
        go_wp2
        go_ret
        rw [A.out, L.out, S.out, N.out, if_neg hz]
        exact ⟨rfl, (HR.out.drewN _).set1 _, ((Only.refl R w).drewN _).setCell rfl _⟩
    · have ho : ¬ tO len false a n := fun h => hlt h.2
      have A : Hid (tA len false a n = a) := if_neg ho
      have L : Hid (tL len false a n = true) := by unfold Hid tL; simp [hlt]
      have S : Hid (tSo b off len false a n = none) := if_neg ho
      have N : Hid (tSn len false a n = 0) := if_neg ho
      clear h ho
      go_enter Tryd.func55, Tryd.ntmps55
      go_wp2_with fail
      refine (left_any R _ len cap a false _ HR.out h0 h1 hl).mono ?_
      rintro e w' ⟨rfl, k, rfl⟩
      go_wp2
      go_ret
      rw [A.out, L.out, S.out, N.out]
      exact ⟨rfl, (HR.out.drewN _).set2 _, ((Only.refl R w).drewN _).setCell rfl _⟩
  · have ho : ¬ tO len true a n := fun h => by cases h.1
    have A : Hid (tA len true a n = a) := if_neg ho
    have L : Hid (tL len true a n = true) := by unfold Hid tL; simp
    have S : Hid (tSo b off len true a n = none) := if_neg ho
    have N : Hid (tSn len true a n = 0) := if_neg ho
    clear h ho
    go_enter Tryd.func55, Tryd.ntmps55
    go_wp2
    go_ret
    rw [A.out, L.out, S.out, N.out]
    exact ⟨rfl, HR.out.set2 _, (Only.refl R w).setCell rfl _⟩
end Go.Proofs.YtlllejgpmdeeiaaDoor
