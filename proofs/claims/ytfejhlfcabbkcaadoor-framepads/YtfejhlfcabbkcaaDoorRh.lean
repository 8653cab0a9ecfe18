/- frame's reader: take, array. -/
import Derived.Test.YtfejhlfcabbkcaaDoorRg
namespace Go.Proofs.YtfejhlfcabbkcaaDoor
open Go.ChangeShapes Go.WideShapes Go.ChangeAt Go.RowKit
set_option linter.unusedVariables false
set_option maxRecDepth 100000

section
variable {w w' : World} {p F g off : Nat} {c : Nat} {l : List UInt8} {at' : Nat} {f : Fr}
set_option maxHeartbeats 1000000 in
theorem rtake8_c (h : Rq w p F (some ⟨g, off, none⟩) c l at' f) (ha : at' + 8 ≤ l.length) (hc : l.length ≤ c) :
    Calls Tryd.prog 78 #[.pointer (some ⟨p, 0, none⟩), .int .i64 8] w fun e w' => e = .returned (.slice (some ⟨g, off + at', none⟩) 8 (c - at')) ∧ Rp w p F (some ⟨g, off, none⟩) c l (at' + 8) f w' := by
  obtain ⟨c0, c1, c2, fz⟩ := h.cs
  have hll := h.ll
  have hd := h.bel ((Below.refl _ w).drew).drew
  obtain ⟨r1, r2⟩ := hd.go (at' + 8)
  obtain ⟨b, hb⟩ : ∃ b : Int, ((at' + 8 : Nat) : Int) = b := ⟨_, rfl⟩
  have HR : Aside (Rp w p F (some ⟨g, off, none⟩) c l (at' + 8) f (w.drew.drew.setCell ⟨p, 1, none⟩ (.int .i64 (at' + 8 : Nat)))) := ⟨r1, (Chg.of_below ((Below.refl _ w).drew).drew).trans r2⟩
  rw [hb] at HR
  have d0 : w.drew.cell? ⟨p, 0, none⟩ = some (.slice (some ⟨g, off, none⟩) l.length c) := c0
  have d1 : w.drew.cell? ⟨p, 1, none⟩ = some (.int .i64 at') := c1
  have e0 : w.drew.drew.cell? ⟨p, 0, none⟩ = some (.slice (some ⟨g, off, none⟩) l.length c) := c0
  have e1 : w.drew.drew.cell? ⟨p, 1, none⟩ = some (.int .i64 at') := c1
  have f1 : w.drew.drew.frozen? ⟨p, 1, none⟩ = false := fz 1
  have i1 : IntKind.i64.wrap ((l.length : Int) - at') = (l.length : Int) - at' := wrp' _ (by omega) (by omega)
  have i2 : ¬ ((l.length : Int) - at' < 8) := by omega
  have i3 : IntKind.i64.wrap ((at' : Int) + 8) = b := by rw [wrp' _ (by omega) (by omega)]; omega
  have j0 : (0 : Int) ≤ (at' : Int) := by omega
  have j1 : (at' : Int) ≤ b := by omega
  have j2 : b ≤ (c : Int) := by omega
  have j3 : (b - (at' : Int)).toNat = 8 := by omega
  have j4 : b.toNat - at' = 8 := by omega
  have j5 : b ≤ (l.length : Int) := by omega
  clear h hd r1 r2 fz hb
  go_enter Tryd.func78, Tryd.ntmps78
  go_wp2_with fail
  go_region_held3 (fun X => X.cell? ⟨p, 0, none⟩ = some (.slice (some ⟨g, off, none⟩) l.length c) ∧ X.cell? ⟨p, 1, none⟩ = some (.int .i64 at')) (exact ⟨d0, d1⟩) (fail)
  go_wp2_with fail
  go_region_held3 (fun X => X.cell? ⟨p, 0, none⟩ = some (.slice (some ⟨g, off, none⟩) l.length c) ∧ X.cell? ⟨p, 1, none⟩ = some (.int .i64 at')) (exact ⟨e0, e1⟩) (fail)
  go_wp2
  go_ret
  refine ⟨?_, HR.out⟩
  first | rfl | (simp [j4])
theorem bc_at {T : List UInt8} {j : Nat} {v : Value} (h : (bc T)[j]? = some v) : ∃ hj : j < T.length, v = .int .u8 (T[j].toNat) := by
  unfold bc at h
  rw [List.getElem?_map] at h
  obtain ⟨x, hx, e⟩ := Option.map_eq_some_iff.1 h
  obtain ⟨hj, rfl⟩ := List.getElem?_eq_some_iff.1 hx
  exact ⟨hj, e.symm⟩
theorem Fr.setPt (hr : f.rs.length = 16) (hp : f.pt.length = 8) (P : List Value) (hP : P.length = 8) : (f.cells.toArray.toList.take 33 ++ P ++ f.cells.toArray.toList.drop (33 + P.length)).toArray = ({ f with pt := P } : Fr).cells.toArray := by
  congr 1
  have e : f.cells = ([.int .i64 f.k, .int .i64 f.s, .int .i64 f.o, f.D, .bool f.fin, .bool f.len, .int .i64 f.lim, .int .i64 f.code, .int .i64 f.of, f.A, .int .i64 f.del, .int .i64 f.e0, .int .i64 f.e1, .int .i64 f.e2, .int .i64 f.seq, .int .i64 f.ret, f.I] ++ f.rs) ++ (f.pt ++ [.int .i64 f.cnt]) := by simp [Fr.cells]
  have h1 : (([.int .i64 f.k, .int .i64 f.s, .int .i64 f.o, f.D, .bool f.fin, .bool f.len, .int .i64 f.lim, .int .i64 f.code, .int .i64 f.of, f.A, .int .i64 f.del, .int .i64 f.e0, .int .i64 f.e1, .int .i64 f.e2, .int .i64 f.seq, .int .i64 f.ret, f.I] : List Value) ++ f.rs).length = 33 := by simp [hr]
  rw [hP]
  show f.cells.take 33 ++ P ++ f.cells.drop 41 = _
  rw [e, List.take_append_of_le_length (by omega), List.take_of_length_le (by omega), List.drop_append, h1, List.drop_of_length_le (by omega), List.nil_append, List.drop_append, hp, List.drop_of_length_le (by omega), List.nil_append]
  simp [Fr.cells]
set_option maxHeartbeats 1000000 in
theorem rarray8_c (h : Rq w p F (some ⟨g, off, none⟩) c l at' f) (hr : f.rs.length = 16) (hp : f.pt.length = 8) (ha : at' + 8 ≤ l.length) (hc : l.length ≤ c) :
    Calls Tryd.prog 70 #[.pointer (some ⟨p, 0, none⟩), .slice (some ⟨F, 33, none⟩) 8 8] w fun e w' => e = .returned (.tuple #[]) ∧ Rp w p F (some ⟨g, off, none⟩) c l (at' + 8) { f with pt := bc (sub l at' 8) } w' := by
  have htk := rtake8_c h ha hc
  have hsz5 : (Tryd.prog.info? 5).map (·.size) = some 1 := by kernel_rfl
  have hTl : (sub l at' 8).length = 8 := sub_length l at' 8 ha
  have HH : Aside (∀ X, Rp w p F (some ⟨g, off, none⟩) c l (at' + 8) f X → ∃ v X', (Builtin.copy_ #[27, 27] 3 #[.slice (some ⟨F, 33, none⟩) 8 8, .slice (some ⟨g, off + at', none⟩) 8 (c - at')]).run Tryd.prog X = .ok v X' ∧ Rp w p F (some ⟨g, off, none⟩) c l (at' + 8) { f with pt := bc (sub l at' 8) } X') := by
    rintro X ⟨x1, x2⟩
    have hb : (bc (sub l at' 8)).length = 8 := by rw [bc_length, hTl]
    obtain ⟨b', off', he, hcl⟩ := Sl_addr x1.sl (by omega)
    injection he with he
    injection he with he1 he2
    subst he1 he2
    have hsl := Sl_sub at' 8 hcl ha
    refine ⟨_, _, run_copy_row (P := Tryd.prog) X 27 27 3 5 F 33 8 8 ⟨g, off + at', none⟩ 8 (c - at') f.cells.toArray 33 (bc (sub l at' 8)) Tryd.underlying27 hsz5 x1.fm (by rw [hb]; rfl) (fun j v hj => ?_) (by rw [hb]; show 33 + 8 ≤ f.cells.length; rw [Fr.long hr hp]; omega) (bc_one _), ?_⟩
    · obtain ⟨hj', rfl⟩ := bc_at hj
      obtain ⟨b2, o2, he, hc2⟩ := hsl j hj'
      injection he with he
      injection he with he1 he2
      subst he1 he2
      rw [Addr.add_lit]
      exact hc2
    · have hcg : Chg (fun k => k = F) X (X.setRow F (f.cells.toArray.toList.take 33 ++ bc (sub l at' 8) ++ f.cells.toArray.toList.drop (33 + (bc (sub l at' 8)).length)).toArray) := ⟨rfl, rfl, rfl, by simp, fun k _ hk => setRow_other X F k _ hk⟩
      refine ⟨⟨hcg.blk x1.rd x1.pf, ?_, x1.sl.chg hcg fun a ha e => (x1.ab a ha).2 e, x1.tb.chg hcg fun e => x1.f1 e, x1.pf, x1.ab, x1.p1, x1.f1, x1.ll⟩, x2.trans (hcg.mono fun k e => .inr e)⟩
      show (X.setRow F _).heap[F]? = _
      rw [setRow_heap X F _ _ 33 (0, 0) x1.fm, Fr.setPt hr hp _ hb]
  clear h
  go_enter Tryd.func70, Tryd.ntmps70
  go_wp2_with fail
  refine htk.mono ?_
  rintro e X ⟨rfl, hx⟩
  obtain ⟨v, X', hcp, hr'⟩ := HH.out X hx
  have HR : Aside _ := hr'
  clear htk hx hr' HH
  go_wp2
  go_end0
  exact ⟨rfl, HR.out⟩
end
end Go.Proofs.YtfejhlfcabbkcaaDoor
