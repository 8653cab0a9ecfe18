/- LedgerPlays: results, of two that are the same. -/
import Derived.Test.YtkjcapmhjhnckaaPp
namespace Go.Proofs.Ytkjcapmhjhnckaa
open Go.RowKit Go.Maps Go.Shelf
set_option linter.unusedVariables false
set_option maxRecDepth 100000

def RsR (W : World) (o1 o2 : Option Addr) (r : Ending) (w' : World) : Prop := r = .returned (.bool true) ∧ Chg (fun j => Blk o1 j ∨ Blk o2 j) W w'
set_option maxHeartbeats 1000000 in
theorem results_same {W : World} {o1 : Option Addr} {c1 : Nat} {ps : List Pk} {o2 : Option Addr} {c2 : Nat} {qs : List Pk} {p1 : Option Addr} {d1 : Nat} {P : List (Pk × Int)} {p2 : Option Addr} {d2 : Nat} {Q : List (Pk × Int)} (h1 : Pr W o1 c1 ps) (h2 : Pr W o2 c2 qs) (k1 : Qr W p1 d1 P) (k2 : Qr W p2 d2 Q) (e1 : P.map (fun x => x.1) = ps) (e2 : Q.map (fun x => x.1) = qs) (l1 : ps.length ≤ 4000000000000) (l2 : qs.length ≤ 4000000000000) (hd : ∀ j, Blk o1 j → ¬ Blk o2 j) (sa sd : Int) :
    Calls Try.prog 14 #[.agg #[.slice o1 ps.length c1, .slice o2 qs.length c2, .int .i64 sa, .int .i64 sd], .agg #[.slice p1 P.length d1, .slice p2 Q.length d2, .int .i64 sa, .int .i64 sd]] W (RsR W o1 o2) := by
  obtain ⟨W1, hW1⟩ : ∃ W1, (W.alloc (.cells #[.slice o1 ps.length c1, .slice o2 qs.length c2, .int .i64 sa, .int .i64 sd] 40)).alloc (.cells #[.slice p1 P.length d1, .slice p2 Q.length d2, .int .i64 sa, .int .i64 sd] 45) = W1 := ⟨_, rfl⟩
  have hb1 : Below W.heap.size W W1 := by rw [← hW1]; exact bel_trans (bel1 W _) (bel1 _ _)
  have x1 : W1.heap[W.heap.size]? = some (.cells #[.slice o1 ps.length c1, .slice o2 qs.length c2, .int .i64 sa, .int .i64 sd] 40 (0, 0)) := by
    rw [← hW1]; exact ((bel1 (W.alloc _) _).block _ (by simp)).trans (heap_alloc_new W _)
  have y1 : W1.heap[W.heap.size + 1]? = some (.cells #[.slice p1 P.length d1, .slice p2 Q.length d2, .int .i64 sa, .int .i64 sd] 45 (0, 0)) := by
    rw [← hW1]; have := heap_alloc_new (W.alloc (.cells #[.slice o1 ps.length c1, .slice o2 qs.length c2, .int .i64 sa, .int .i64 sd] 40)) (.cells #[.slice p1 P.length d1, .slice p2 Q.length d2, .int .i64 sa, .int .i64 sd] 45)
    rw [World.size_alloc] at this
    exact this
  have hc1 := packets_c (h1.bel hb1) (Rw.bel k1 hb1) e1 l1
  have HC2 : Aside (∀ X, Chg (Blk o1) W1 X → Calls Try.prog 17 #[.slice o2 qs.length c2, .slice p2 Q.length d2] X (PkR X o2)) := fun X hX => by
    refine packets_c (Rw.chg (h2.bel hb1) hX fun j hj hj1 => hd j hj1 hj) (Rw.chg (Rw.bel k2 hb1) hX fun j hj hj1 => ?_) e2 l2
    obtain ⟨Z, hz⟩ := Rw.ty h1 hj1
    obtain ⟨Z', hz'⟩ := Rw.ty k2 hj
    rw [hz] at hz'
    simp at hz'
  have HX : Aside (∀ X, Chg (Blk o1) W1 X → X.heap[W.heap.size]? = some (.cells #[.slice o1 ps.length c1, .slice o2 qs.length c2, .int .i64 sa, .int .i64 sd] 40 (0, 0)) ∧ X.heap[W.heap.size + 1]? = some (.cells #[.slice p1 P.length d1, .slice p2 Q.length d2, .int .i64 sa, .int .i64 sd] 45 (0, 0))) := fun X hX => ⟨hX.blk x1 fun hj => by have := Rw.lt h1 hj; omega, hX.blk y1 fun hj => by have := Rw.lt h1 hj; omega⟩
  have HY : Aside (∀ X Y, Chg (Blk o1) W1 X → Chg (Blk o2) X Y → Y.heap[W.heap.size]? = some (.cells #[.slice o1 ps.length c1, .slice o2 qs.length c2, .int .i64 sa, .int .i64 sd] 40 (0, 0)) ∧ Y.heap[W.heap.size + 1]? = some (.cells #[.slice p1 P.length d1, .slice p2 Q.length d2, .int .i64 sa, .int .i64 sd] 45 (0, 0))) := fun X Y hX hY => by
    obtain ⟨a, b⟩ := HX.out X hX
    exact ⟨hY.blk a fun hj => by have := Rw.lt h2 hj; omega, hY.blk b fun hj => by have := Rw.lt h2 hj; omega⟩
  have HE : Aside (∀ X Y, Chg (Blk o1) W1 X → Chg (Blk o2) X Y → RsR W o1 o2 (.returned (.bool true)) Y) := fun X Y hX hY => ⟨rfl, ((Chg.of_below hb1).trans (hX.mono fun k _ hk => .inl hk)).trans (hY.mono fun k _ hk => .inr hk)⟩
  generalize RsR W o1 o2 = RR at *
  generalize ps.length = n1 at *
  generalize qs.length = n2 at *
  generalize P.length = m1 at *
  generalize Q.length = m2 at *
  have a0 : W1.cell? ⟨W.heap.size, 0, none⟩ = some (.slice o1 n1 c1) := by simp [World.cell?, x1]
  have b0 : W1.cell? ⟨W.heap.size + 1, 0, none⟩ = some (.slice p1 m1 d1) := by simp [World.cell?, y1]
  clear h1 h2 k1 k2 e1 e2 hd hb1 x1 y1
  go_enter Try.func14, Try.ntmps14
  go_wp2_with fail
  refine hc1.mono ?_
  rintro e X ⟨rfl, hX⟩
  obtain ⟨x2, y2⟩ := HX.out X hX
  have a1 : X.cell? ⟨W.heap.size, 1, none⟩ = some (.slice o2 n2 c2) := by simp [World.cell?, x2]
  have b1 : X.cell? ⟨W.heap.size + 1, 1, none⟩ = some (.slice p2 m2 d2) := by simp [World.cell?, y2]
  have hc2 := HC2.out X hX
  have HHX : Aside _ := hX
  clear hc1 hX HC2 x2 y2 a0 b0
  go_wp2_with fail
  refine hc2.mono ?_
  rintro e Y ⟨rfl, hY⟩
  obtain ⟨x3, y3⟩ := HY.out X Y HHX.out hY
  have a2 : Y.cell? ⟨W.heap.size, 2, none⟩ = some (.int .i64 sa) := by simp [World.cell?, x3]
  have b2 : Y.cell? ⟨W.heap.size + 1, 2, none⟩ = some (.int .i64 sa) := by simp [World.cell?, y3]
  have a3 : Y.cell? ⟨W.heap.size, 3, none⟩ = some (.int .i64 sd) := by simp [World.cell?, x3]
  have b3 : Y.cell? ⟨W.heap.size + 1, 3, none⟩ = some (.int .i64 sd) := by simp [World.cell?, y3]
  have HEE : Aside _ := HE.out X Y HHX.out hY
  clear hc2 hY HE HY HX x3 y3 a1 b1
  go_wp2
  exact HEE.out
end Go.Proofs.Ytkjcapmhjhnckaa
