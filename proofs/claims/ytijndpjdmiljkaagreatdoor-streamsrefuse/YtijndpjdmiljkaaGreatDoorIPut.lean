/- inbox: Put, End. -/
import Derived.Test.YtijndpjdmiljkaaGreatDoorILay
import Derived.Test.YtijndpjdmiljkaaGreatDoorINob
namespace Go.Proofs.YtijndpjdmiljkaaGreatDoor
open Go.RowKit Go.Maps
set_option linter.unusedVariables false

theorem some_none (b mb : Nat) (w : World) (h : w.cell? ⟨b, 0, none⟩ = some (.map (some mb))) : Calls Tryz.prog 127 #[.pointer (some ⟨b, 0, none⟩)] w fun e w' => e = .returned (.bool false) ∧ w' = w := by
  have h1 := eql_map_some mb
  go_enter Tryz.func127, Tryz.ntmps127
  go_wp2
  go_ret
  exact ⟨rfl, rfl⟩
theorem Ib.c0 {W : World} {b mb n : Nat} {V : Nat → Option UInt8} {p R hd rm lm rc : Int} {kn : Bool} (h : Ib W b mb n V p R hd rm lm rc kn) : W.cell? ⟨b, 0, none⟩ = some (.map (some mb)) := by simp [World.cell?, h.1]
theorem Ib.c5 {W : World} {b mb n : Nat} {V : Nat → Option UInt8} {p R hd rm lm rc : Int} {kn : Bool} (h : Ib W b mb n V p R hd rm lm rc kn) : W.cell? ⟨b, 5, none⟩ = some (.int .i64 lm) := by simp [World.cell?, h.1]
theorem Ib.c6 {W : World} {b mb n : Nat} {V : Nat → Option UInt8} {p R hd rm lm rc : Int} {kn : Bool} (h : Ib W b mb n V p R hd rm lm rc kn) : W.cell? ⟨b, 6, none⟩ = some (.int .i64 rc) := by simp [World.cell?, h.1]
theorem Ib.c7 {W : World} {b mb n : Nat} {V : Nat → Option UInt8} {p R hd rm lm rc : Int} {kn : Bool} (h : Ib W b mb n V p R hd rm lm rc kn) : W.cell? ⟨b, 7, none⟩ = some (.bool kn) := by simp [World.cell?, h.1]
theorem Ib.f6 {W : World} {b mb n : Nat} {V : Nat → Option UInt8} {p R hd rm lm rc : Int} {kn : Bool} (h : Ib W b mb n V p R hd rm lm rc kn) (j : Nat) : W.frozen? ⟨b, j, none⟩ = false := by simp [World.frozen?, h.1]
theorem Ib.set67 {W : World} {b mb n : Nat} {V : Nat → Option UInt8} {p R hd rm lm rc : Int} {kn : Bool} (h : Ib W b mb n V p R hd rm lm rc kn) (rc' : Int) (kn' : Bool) :
    Ib ((W.setCell ⟨b, 6, none⟩ (.int .i64 rc')).setCell ⟨b, 7, none⟩ (.bool kn')) b mb n V p R hd rm lm rc' kn' ∧ Chg (fun j => j = b ∨ j = mb) W ((W.setCell ⟨b, 6, none⟩ (.int .i64 rc')).setCell ⟨b, 7, none⟩ (.bool kn')) := by
  rw [setCell_eq_setRow W b 6 _ 201 (0, 0) _ h.1]
  have h1 := setRow_heap W b _ (#[.map (some mb), .int .i64 p, .int .i64 R, .int .i64 hd, .int .i64 rm, .int .i64 lm, .int .i64 rc, .bool kn].setIfInBounds 6 (.int .i64 rc')) 201 (0, 0) h.1
  rw [setCell_eq_setRow _ b 7 _ 201 (0, 0) _ h1]
  have hne := h.ne
  refine ⟨⟨?_, h.2.kept ?_⟩, rfl, rfl, rfl, by simp, fun k hk hx => ?_⟩
  · rw [setRow_heap _ b _ _ 201 (0, 0) h1]
    simp
  · rw [setRow_other _ b mb _ (fun e => hne e.symm), setRow_other _ b mb _ (fun e => hne e.symm)]
  · rw [setRow_other _ b k _ (fun e => hx (.inl e)), setRow_other _ b k _ (fun e => hx (.inl e))]

set_option maxRecDepth 100000 in
set_option maxHeartbeats 400000 in
theorem put_ok (b mb n o p N cap R E lm rc mx : Nat) (V : Nat → Option UInt8) (hd rm : Int) (kn fin : Bool) (la : Option Addr) (l l' : List UInt8) (W : World) (hl : l.length = N) (hcap : N ≤ cap) (ho : o + N ≤ 4000000000000000000) (hp : p ≤ 4000000000000000000) (hrc : rc ≤ 4000000000000000000) (hhd : 0 ≤ hd ∧ hd ≤ 100000000000000000) (hn : n ≤ 1000000000000000000) (hT : TbI W)
    (hI : Ib W b mb n V p R hd rm lm rc kn) (hs : Sl W la l) (hl' : l' = l.drop (min N (p - o))) (hS : Stop (putF V (max o p) l') R E) (hE : E ≤ 5000000000000000000)
    (h1 : kn = true → o + N ≤ rc) (h2 : fin = true → rc ≤ o + N) (h3 : o + N ≤ lm) (hmx : mx = max rc (o + N)) :
    Calls Tryz.prog 151 #[.pointer (some ⟨b, 0, none⟩), .int .i64 o, .slice la N cap, .bool fin] W fun e w' => e = .returned (.int .i64 0) ∧
      (∃ nn, nn ≤ n + fc (max o p) l'.length ∧ Ib w' b mb nn (putF V (max o p) l') p E (hd + cntF V (max o p) l') rm lm mx (kn || fin)) ∧ Chg (fun j => j = b ∨ j = mb) W w' := by
  have LC : Aside _ := lay_c b mb n o p N cap R E V hd rm lm rc kn la l l' W hl hcap ho hp hhd hn hT hI hs hl' hS hE
  have c0 := hI.c0
  have c5 := hI.c5
  have c6 := hI.c6
  have c7 := hI.c7
  have i0 : IntKind.i64.wrap (4611686018427387903 - (o : Int)) = 4611686018427387903 - (o : Int) := by rw [IntKind.wrap_i64]; omega
  have i1 : ¬ (4611686018427387903 - (o : Int) < (N : Int)) := by omega
  have i2 : IntKind.i64.wrap ((o : Int) + (N : Int)) = (o : Int) + (N : Int) := by rw [IntKind.wrap_i64]; omega
  have i3 : ¬ ((lm : Int) < (o : Int) + (N : Int)) := by omega
  have j1 : kn = true → ¬ ((rc : Int) < (o : Int) + (N : Int)) := fun h => by have := h1 h; omega
  have j2 : fin = true → ¬ ((o : Int) + (N : Int) < (rc : Int)) := fun h => by have := h2 h; omega
  have HX : Aside _ := hmx
  have j3 : (if (rc : Int) < (o : Int) + (N : Int) then (o : Int) + (N : Int) else (rc : Int)) = (mx : Int) := by split <;> omega
  generalize fc (max o p) l'.length = fcc at LC ⊢
  generalize putF V (max o p) l' = V' at LC ⊢
  generalize cntF V (max o p) l' = cc at LC ⊢
  clear hI hS hT hs hl' hl h1 h2 h3 hmx
  cases kn <;> cases fin
  all_goals
    (try have k1 := j1 rfl)
    (try have k2 := j2 rfl)
    clear j1 j2
    go_enter Tryz.func151, Tryz.ntmps151
    go_wp2_with (first | (go_at_call 127; refine (some_none b mb _ c0).mono ?_; rintro e w1 ⟨rfl, rfl⟩) | fail)
    refine Calls.mono LC.out ?_
    rintro e w2 ⟨rfl, ⟨nn, hnn, hib⟩, hch⟩
    have d6 := hib.c6
    have d7 := hib.c7
    have f6 := hib.f6 6
    have f7 := hib.f6 7
    have HIB : Aside (Ib w2 b mb nn V' p E (hd + cc) rm lm rc _) := hib
    have HCH : Aside _ := hch
    clear hib hch c0 c5 c6 c7
    go_wp2
    go_ret
    first
      | exact ⟨rfl, ⟨nn, hnn, (Ib.set67 HIB.out mx _).1⟩, Chg.trans HCH.out (Ib.set67 HIB.out mx _).2⟩
      | (have hm : (mx : Int) = (rc : Int) := by (have := HX.out; omega)
         rw [hm]
         exact ⟨rfl, ⟨nn, hnn, (Ib.set67 HIB.out rc _).1⟩, Chg.trans HCH.out (Ib.set67 HIB.out rc _).2⟩)
set_option maxRecDepth 100000 in
set_option maxHeartbeats 400000 in
/-- Refused: the final size is known, and this goes beyond it or ends elsewhere. -/
theorem put_final (b mb n o N cap lm rc : Nat) (V : Nat → Option UInt8) (p R hd rm : Int) (kn fin : Bool) (la : Option Addr) (W : World) (ho : o + N ≤ 4611686018427387903)
    (hI : Ib W b mb n V p R hd rm lm rc kn) (h : (kn = true ∧ rc < o + N) ∨ (fin = true ∧ o + N < rc)) :
    Calls Tryz.prog 151 #[.pointer (some ⟨b, 0, none⟩), .int .i64 o, .slice la N cap, .bool fin] W fun e w' => e = .returned (.int .i64 33) ∧ w' = W := by
  have c0 := hI.c0
  have c6 := hI.c6
  have c7 := hI.c7
  have i0 : IntKind.i64.wrap (4611686018427387903 - (o : Int)) = 4611686018427387903 - (o : Int) := by rw [IntKind.wrap_i64]; omega
  have i1 : ¬ (4611686018427387903 - (o : Int) < (N : Int)) := by omega
  have i2 : IntKind.i64.wrap ((o : Int) + (N : Int)) = (o : Int) + (N : Int) := by rw [IntKind.wrap_i64]; omega
  clear hI
  rcases h with ⟨rfl, h⟩ | ⟨rfl, h⟩
  · have j1 : ((rc : Int) < (o : Int) + (N : Int)) := by omega
    go_enter Tryz.func151, Tryz.ntmps151
    go_wp2_with (first | (go_at_call 127; refine (some_none b mb _ c0).mono ?_; rintro e w1 ⟨rfl, rfl⟩) | fail)
    go_ret
    exact ⟨rfl, rfl⟩
  · have j1 : ¬ ((rc : Int) < (o : Int) + (N : Int)) := by omega
    have j2 : ((o : Int) + (N : Int) < (rc : Int)) := by omega
    cases kn
    all_goals
      go_enter Tryz.func151, Tryz.ntmps151
      go_wp2_with (first | (go_at_call 127; refine (some_none b mb _ c0).mono ?_; rintro e w1 ⟨rfl, rfl⟩) | fail)
      go_ret
      exact ⟨rfl, rfl⟩
theorem final_c {W : World} {b mb n : Nat} {V : Nat → Option UInt8} {p R hd rm lm rc : Int} (h : Ib W b mb n V p R hd rm lm rc true) : Calls Tryz.prog 149 #[.pointer (some ⟨b, 0, none⟩)] W fun e w' => e = .returned (.tuple #[.int .i64 rc, .bool true]) ∧ w' = W := by
  have c0 := h.c0
  have c6 := h.c6
  have c7 := h.c7
  clear h
  go_enter Tryz.func149, Tryz.ntmps149
  go_wp2_with (first | (go_at_call 127; refine (some_none b mb _ c0).mono ?_; rintro e w1 ⟨rfl, rfl⟩) | fail)
  go_ret2
  exact ⟨rfl, rfl⟩
theorem reach_c {W : World} {b mb n : Nat} {V : Nat → Option UInt8} {p R hd rm lm rc : Int} {kn : Bool} (h : Ib W b mb n V p R hd rm lm rc kn) : Calls Tryz.prog 95 #[.pointer (some ⟨b, 0, none⟩)] W fun e w' => e = .returned (.int .i64 rc) ∧ w' = W := by
  have c0 := h.c0
  have c6 := h.c6
  clear h
  go_enter Tryz.func95, Tryz.ntmps95
  go_wp2_with (first | (go_at_call 127; refine (some_none b mb _ c0).mono ?_; rintro e w1 ⟨rfl, rfl⟩) | fail)
  go_ret
  exact ⟨rfl, rfl⟩
end Go.Proofs.YtijndpjdmiljkaaGreatDoor
