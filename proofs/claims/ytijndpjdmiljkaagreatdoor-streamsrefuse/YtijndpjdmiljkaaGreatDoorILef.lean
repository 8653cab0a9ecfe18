/- inbox: left and what it hands back. -/
import Derived.Test.YtijndpjdmiljkaaGreatDoorIAdv
import Derived.Deep.QuietTactic
namespace Go.Proofs.YtijndpjdmiljkaaGreatDoor
open Go.RowKit Go.Maps
set_option linter.unusedVariables false

theorem set2 {X : World} {Ob Db : Nat} {v0 u0 v u : Value} (hne : Ob ≠ Db) (hO : X.heap[Ob]? = some (.cells #[v0] 3 (0, 0))) (hD : X.heap[Db]? = some (.cells #[u0] 38 (0, 0))) :
    ((X.setCell ⟨Ob, 0, none⟩ v).setCell ⟨Db, 0, none⟩ u).heap[Ob]? = some (.cells #[v] 3 (0, 0)) ∧ ((X.setCell ⟨Ob, 0, none⟩ v).setCell ⟨Db, 0, none⟩ u).heap[Db]? = some (.cells #[u] 38 (0, 0)) ∧ Chg (fun j => j = Ob ∨ j = Db) X ((X.setCell ⟨Ob, 0, none⟩ v).setCell ⟨Db, 0, none⟩ u) := by
  rw [setCell_eq_setRow X Ob 0 _ 3 (0, 0) _ hO]
  have h1 := setRow_heap X Ob _ ((#[v0] : Array Value).setIfInBounds 0 v) 3 (0, 0) hO
  have h2 : (X.setRow Ob ((#[v0] : Array Value).setIfInBounds 0 v)).heap[Db]? = some (.cells #[u0] 38 (0, 0)) := (setRow_other _ Ob Db _ (fun e => hne e.symm)).trans hD
  rw [setCell_eq_setRow _ Db 0 _ 38 (0, 0) _ h2]
  refine ⟨?_, ?_, rfl, rfl, rfl, by simp, fun k hk hx => ?_⟩
  · rw [setRow_other _ Db Ob _ hne, h1]
    simp
  · rw [setRow_heap _ Db _ _ 38 (0, 0) h2]
    simp
  · rw [setRow_other _ Db k _ (fun e => hx (.inr e)), setRow_other _ Ob k _ (fun e => hx (.inl e))]

set_option maxRecDepth 100000 in
set_option maxHeartbeats 400000 in
theorem next_w (Ob Db o fr k N cap : Nat) (la la' : Option Addr) (W : World) (hne : Ob ≠ Db) (hfr : fr < 64) (hk : k = min N (64 - fr)) (hcap : N ≤ cap) (ho : o ≤ 5000000000000000000) (e1 : (o : Int).tmod 64 = (fr : Int))
    (hO : W.heap[Ob]? = some (.cells #[.int .i64 o] 3 (0, 0))) (hD : W.heap[Db]? = some (.cells #[.slice la N cap] 38 (0, 0)))
    (hla : (if cap = k then la else la.map (·.add k)) = la') :
    Calls Tryz.prog 226 #[.pointer (some ⟨Ob, 0, none⟩), .pointer (some ⟨Db, 0, none⟩)] W fun e w' => e = .returned (.tuple #[.int .i64 o, .slice la k cap]) ∧
      w'.heap[Ob]? = some (.cells #[.int .i64 ((o : Int) + (k : Int))] 3 (0, 0)) ∧ w'.heap[Db]? = some (.cells #[.slice la' (N - k) (cap - k)] 38 (0, 0)) ∧ Chg (fun j => j = Ob ∨ j = Db) W w' := by
  have cO : W.cell? ⟨Ob, 0, none⟩ = some (.int .i64 o) := by simp [World.cell?, hO]
  have cD : W.cell? ⟨Db, 0, none⟩ = some (.slice la N cap) := by simp [World.cell?, hD]
  have fO : W.frozen? ⟨Ob, 0, none⟩ = false := by simp [World.frozen?, hO]
  have fD : W.frozen? ⟨Db, 0, none⟩ = false := by simp [World.frozen?, hD]
  have i1 : IntKind.i64.wrap (64 - (fr : Int)) = 64 - (fr : Int) := by rw [IntKind.wrap_i64]; omega
  have i2 : (if 64 - (fr : Int) < (N : Int) then 64 - (fr : Int) else (N : Int)) = (k : Int) := by split <;> omega
  have i3 : (0 : Int) ≤ (k : Int) := by omega
  have i4 : (k : Int) ≤ (cap : Int) := by omega
  have i5 : (k : Int) ≤ (N : Int) := by omega
  have i6 : IntKind.i64.wrap ((o : Int) + (k : Int)) = (o : Int) + (k : Int) := by rw [IntKind.wrap_i64]; omega
  have HO : Aside _ := hO
  have HD : Aside _ := hD
  clear hO hD hk
  go_enter Tryz.func226, Tryz.ntmps226
  go_wp2_with fail
  go_quiet (fail)
  go_wp2_with fail
  go_region
  go_wp2
  go_ret2
  obtain ⟨h1, h2, h3⟩ := set2 (X := W.drewN (nq + 1)) (v := .int .i64 ((o : Int) + (k : Int))) (u := .slice la' (N - k) (cap - k)) hne HO.out HD.out
  exact ⟨rfl, h1, h2, h3⟩
/-- What next hands back: the bytes of one cell. -/
theorem next_c (Ob Db o q fr N cap : Nat) (la : Option Addr) (l : List UInt8) (W : World) (hne : Ob ≠ Db) (hfr : fr < 64) (ho : o = 64 * q + fr) (hN : l.length = N) (hcap : N ≤ cap) (ho' : o ≤ 5000000000000000000)
    (hO : W.heap[Ob]? = some (.cells #[.int .i64 o] 3 (0, 0))) (hD : W.heap[Db]? = some (.cells #[.slice la N cap] 38 (0, 0))) (hs : Sl W la l) :
    Calls Tryz.prog 226 #[.pointer (some ⟨Ob, 0, none⟩), .pointer (some ⟨Db, 0, none⟩)] W fun e w' => e = .returned (.tuple #[.int .i64 o, .slice la (min N (64 - fr)) cap]) ∧ ∃ la',
      w'.heap[Ob]? = some (.cells #[.int .i64 ((o + min N (64 - fr) : Nat) : Int)] 3 (0, 0)) ∧ w'.heap[Db]? = some (.cells #[.slice la' (N - min N (64 - fr)) (cap - min N (64 - fr))] 38 (0, 0)) ∧ (∀ Z, Sl Z la l → Sl Z la' (l.drop (min N (64 - fr)))) ∧ Sl W la (l.take (min N (64 - fr))) ∧ Chg (fun j => j = Ob ∨ j = Db) W w' := by
  obtain ⟨k, hk⟩ : ∃ k, k = min N (64 - fr) := ⟨_, rfl⟩
  rw [← hk]
  refine (next_w Ob Db o fr k N cap la _ W hne hfr hk hcap ho' (by rw [Int.tmod_eq_emod_of_nonneg (by omega)]; omega) hO hD rfl).mono ?_
  rintro e w' ⟨rfl, h1, h2, h3⟩
  refine ⟨rfl, _, by rw [h1]; rfl, h2, fun Z hZ j hj => ?_, fun j hj => ?_, h3⟩
  · rw [List.length_drop] at hj
    obtain ⟨b, off, rfl, hc⟩ := hZ (k + j) (by omega)
    rw [List.getElem_drop, if_neg (by omega)]
    refine ⟨b, off + k, ?_, by rw [Nat.add_assoc]; exact hc⟩
    show some ((⟨b, off, none⟩ : Addr).add k) = some ⟨b, off + k, none⟩
    unfold Addr.add
    by_cases h0 : k = 0
    · rw [if_pos h0, h0]; rfl
    · rw [if_neg h0]
  · rw [List.length_take] at hj
    obtain ⟨b, off, rfl, hc⟩ := hs j (by omega)
    exact ⟨b, off, rfl, by rw [List.getElem_take]; exact hc⟩

set_option maxRecDepth 100000 in
set_option maxHeartbeats 400000 in
theorem left_w (b o p N cap : Nat) (mv rd hd rm lm rc kn : Value) (la la' : Option Addr) (W : World) (hcap : N ≤ cap) (ho : o ≤ 5000000000000000000) (hp : p ≤ 5000000000000000000) (hN : N ≤ 5000000000000000000)
    (hb : W.heap[b]? = some (.cells #[mv, .int .i64 p, rd, hd, rm, lm, rc, kn] 201 (0, 0)))
    (k mx : Nat) (hmx : mx = max o p) (hk : k = min N (p - o)) (hla : o < p → (if cap = k then la else la.map (·.add k)) = la') (hla' : p ≤ o → la = la') :
    Calls Tryz.prog 216 #[.pointer (some ⟨b, 0, none⟩), .int .i64 o, .slice la N cap] W fun e w' => e = .returned (.func (.func 226) #[] #[.pointer (some ⟨W.heap.size, 0, none⟩), .pointer (some ⟨W.heap.size + 1, 0, none⟩)]) ∧
      w'.heap[W.heap.size]? = some (.cells #[.int .i64 (mx : Int)] 3 (0, 0)) ∧ w'.heap[W.heap.size + 1]? = some (.cells #[.slice la' (N - k) (cap - k)] 38 (0, 0)) ∧ Chg (fun _ => False) W w' := by
  have hmf : ∀ (fn : Fn) (first cap : Array Value) (w : World), (Instr.makeFunc fn first cap).run Tryz.prog w = .ok (.func fn first cap) w := fun _ _ _ _ => rfl
  have hlb : b < W.heap.size := (Array.getElem?_eq_some_iff.1 hb).1
  obtain ⟨W2, hW2⟩ : ∃ W2, (W.alloc (.cells #[.int .i64 o] 3)).alloc (.cells #[.slice la N cap] 38) = W2 := ⟨_, rfl⟩
  have hO : W2.heap[W.heap.size]? = some (.cells #[.int .i64 o] 3 (0, 0)) := by
    rw [← hW2, Below.heap_alloc _ _ _ (by simp)]
    exact heap_alloc_new W _
  have hD : W2.heap[W.heap.size + 1]? = some (.cells #[.slice la N cap] 38 (0, 0)) := by
    rw [← hW2]
    simpa using heap_alloc_new (W.alloc (.cells #[.int .i64 o] 3)) (.cells #[.slice la N cap] 38)
  have hG : Chg (fun _ => False) W W2 := by rw [← hW2]; exact ((Chg.refl _ W).alloc _).alloc _
  have c1 : W2.cell? ⟨b, 1, none⟩ = some (.int .i64 p) := by
    have := (hG.2.2.2.2 b hlb (fun h => h)).trans hb
    simp [World.cell?, this]
  have cO : W2.cell? ⟨W.heap.size, 0, none⟩ = some (.int .i64 o) := by simp [World.cell?, hO]
  have cD : W2.cell? ⟨W.heap.size + 1, 0, none⟩ = some (.slice la N cap) := by simp [World.cell?, hD]
  have fO : W2.frozen? ⟨W.heap.size, 0, none⟩ = false := by simp [World.frozen?, hO]
  have fD : W2.frozen? ⟨W.heap.size + 1, 0, none⟩ = false := by simp [World.frozen?, hD]
  have i1 : IntKind.i64.wrap ((p : Int) - (o : Int)) = (p : Int) - (o : Int) := by rw [IntKind.wrap_i64]; omega
  have HO : Aside _ := hO
  have HD : Aside _ := hD
  have HG : Aside _ := hG
  have HB : Aside _ := hb
  have HK : Aside _ := hk
  have HX : Aside _ := hmx
  clear hO hD hb hG hk hmx
  go_enter Tryz.func216, Tryz.ntmps216
  go_wp2_with fail
  clear hW2
  go_quiet (fail)
  by_cases hpo : p ≤ o
  · have i2 : ¬ (0 : Int) < (p : Int) - (o : Int) := by omega
    obtain rfl : k = 0 := by have := HK.out; omega
    obtain rfl : mx = o := by have := HX.out; omega
    have HLL : Aside _ := hla' hpo
    clear hla hla'
    go_wp2
    go_ret
    exact ⟨rfl, HO.out, by rw [← HLL.out]; exact HD.out, HG.out⟩
  · have i2 : (0 : Int) < (p : Int) - (o : Int) := by omega
    have hla2 := hla (by omega)
    obtain rfl : mx = p := by have := HX.out; omega
    have hk := HK.out
    have i3 : (if (N : Int) < (mx : Int) - (o : Int) then (N : Int) else (mx : Int) - (o : Int)) = (k : Int) := by split <;> omega
    have i4 : (0 : Int) ≤ (k : Int) := by omega
    have i5 : (k : Int) ≤ (N : Int) := by omega
    have i6 : (k : Int) ≤ (cap : Int) := by omega
    have hne : W.heap.size ≠ W.heap.size + 1 := by omega
    clear hla hla' hk
    go_wp2_with fail
    go_region
    go_wp2
    go_ret
    obtain ⟨h1, h2, h3⟩ := set2 (X := W2.drewN (nq + 1)) (v := .int .i64 (mx : Int)) (u := .slice la' (N - k) (cap - k)) hne HO.out HD.out
    refine ⟨rfl, h1, h2, ?_⟩
    refine ⟨h3.1.trans HG.out.1, h3.2.1.trans HG.out.2.1, h3.2.2.1.trans HG.out.2.2.1, Nat.le_trans HG.out.2.2.2.1 h3.2.2.2.1, fun j hj hx => ?_⟩
    exact (h3.2.2.2.2 j (Nat.lt_of_lt_of_le hj HG.out.2.2.2.1) (by rintro (e | e) <;> omega)).trans (HG.out.2.2.2.2 j hj hx)
/-- left hands back next, with what is left of the piece. -/
theorem left_c (b o p N cap : Nat) (mv rd hd rm lm rc kn : Value) (la : Option Addr) (l : List UInt8) (W : World) (hl : l.length = N) (hcap : N ≤ cap) (ho : o ≤ 5000000000000000000) (hp : p ≤ 5000000000000000000) (hN : N ≤ 5000000000000000000)
    (hb : W.heap[b]? = some (.cells #[mv, .int .i64 p, rd, hd, rm, lm, rc, kn] 201 (0, 0))) (hs : Sl W la l) :
    Calls Tryz.prog 216 #[.pointer (some ⟨b, 0, none⟩), .int .i64 o, .slice la N cap] W fun e w' => e = .returned (.func (.func 226) #[] #[.pointer (some ⟨W.heap.size, 0, none⟩), .pointer (some ⟨W.heap.size + 1, 0, none⟩)]) ∧ ∃ la',
      w'.heap[W.heap.size]? = some (.cells #[.int .i64 ((max o p : Nat) : Int)] 3 (0, 0)) ∧ w'.heap[W.heap.size + 1]? = some (.cells #[.slice la' (N - min N (p - o)) (cap - min N (p - o))] 38 (0, 0)) ∧ Sl W la' (l.drop (min N (p - o))) ∧ Chg (fun _ => False) W w' := by
  obtain ⟨k, hk⟩ : ∃ k, k = min N (p - o) := ⟨_, rfl⟩
  rw [← hk]
  refine (left_w b o p N cap mv rd hd rm lm rc kn la (if cap = k then la else la.map (·.add k)) W hcap ho hp hN hb k _ rfl hk (fun _ => rfl) (fun h => ?_)).mono ?_
  · obtain rfl : k = 0 := by omega
    split
    · rfl
    · cases la <;> rfl
  · rintro e w' ⟨rfl, h1, h2, h3⟩
    refine ⟨rfl, _, h1, h2, fun j hj => ?_, h3⟩
    rw [List.length_drop] at hj
    obtain ⟨b, off, rfl, hc⟩ := hs (k + j) (by omega)
    rw [List.getElem_drop, if_neg (by omega)]
    refine ⟨b, off + k, ?_, by rw [Nat.add_assoc]; exact hc⟩
    show some ((⟨b, off, none⟩ : Addr).add k) = some ⟨b, off + k, none⟩
    unfold Addr.add
    by_cases h0 : k = 0
    · rw [if_pos h0, h0]; rfl
    · rw [if_neg h0]
end Go.Proofs.YtijndpjdmiljkaaGreatDoor
