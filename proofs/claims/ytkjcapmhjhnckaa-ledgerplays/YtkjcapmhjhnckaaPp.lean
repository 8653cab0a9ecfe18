/- LedgerPlays: packets, of two lists that are the same. -/
import Derived.Test.YtkjcapmhjhnckaaRc
namespace Go.Proofs.Ytkjcapmhjhnckaa
open Go.RowKit Go.Maps Go.Shelf
set_option linter.unusedVariables false
set_option maxRecDepth 100000

def gone (p : Pk) : Pk := { p with n := -1 }
def mdl (ps : List Pk) (k : Nat) : List Pk := (ps.take k).map gone ++ ps.drop k
theorem mdl_len (ps : List Pk) (k : Nat) : (mdl ps k).length = ps.length := by unfold mdl; rw [List.length_append, List.length_map, List.length_take, List.length_drop]; omega
theorem mdl_at {ps : List Pk} {k : Nat} (h : k < ps.length) (h2 : k < (mdl ps k).length) : (mdl ps k)[k] = ps[k] := by
  have e : ((ps.take k).map gone).length = k := by rw [List.length_map, List.length_take]; omega
  have h3 : (mdl ps k)[k]? = ps[k]? := by
    unfold mdl
    rw [List.getElem?_append_right (by omega), List.getElem?_drop]
    congr 1
    omega
  rw [List.getElem?_eq_getElem h2, List.getElem?_eq_getElem h] at h3
  exact Option.some.inj h3
theorem neq29 (n a s : Int) (e : Bool) (w : World) : (binOp .neq 29 (.agg #[.int .i64 n, .int .i64 a, .int .i64 s, .bool e]) (.agg #[.int .i64 n, .int .i64 a, .int .i64 s, .bool e])).run Try.prog w = .ok (.bool false) w := by
  have u3 := Try.underlying3
  have a3 := Try.isAgg3
  have z3 := Try.sizeOf3
  have u4 := Try.underlying4
  have a4 := Try.isAgg4
  have z4 := Try.sizeOf4
  have hS : Try.prog.underlying 29 = some (.struct (Try.prog.fieldsOf 29)) := by kernel_rfl
  have hp : Try.prog.stoodInHeld 29 = false := by kernel_rfl
  rw [run_neq_struct, show (10000 : Nat) = 9999 + 1 from rfl, run_equalIn_struct w 9999 29 _ _ hS hp]
  simp only [Program.fieldsOf, Try.underlying29]
  go_simp
theorem pks_set {ps : List Pk} {i : Nat} (h : i < ps.length) (v : Int) : (pks ps).set (i * 4) (.int .i64 v) = pks (ps.set i { ps[i] with n := v }) := by
  induction ps generalizing i with
  | nil => simp at h
  | cons x t ih =>
    have e : ∀ (y : Pk) l, pks (y :: l) = y.cs ++ pks l := fun y l => by simp [pks]
    cases i with
    | zero => simp [e, Pk.cs]
    | succ i =>
      have := ih (i := i) (by simpa using h)
      rw [e, List.set_append_right _ _ (by simp [Pk.cs]; omega)]
      rw [show (i + 1) * 4 - x.cs.length = i * 4 by simp [Pk.cs]; omega, this]
      simp [e]
theorem mdl_set {ps : List Pk} {k : Nat} (h : k < ps.length) : (mdl ps k).set k (gone ps[k]) = mdl ps (k + 1) := by
  have e : ((ps.take k).map gone).length = k := by rw [List.length_map, List.length_take]; omega
  unfold mdl
  rw [List.set_append_right _ _ (by omega), e, Nat.sub_self, List.drop_eq_getElem_cons h, List.set_cons_zero, List.take_succ_eq_append_getElem h, List.map_append, List.append_assoc]
  rfl
def PkR (W : World) (o : Option Addr) (r : Ending) (w' : World) : Prop := r = .returned (.bool true) ∧ Chg (Blk o) W w'
structure PkI (W : World) (o : Option Addr) (c : Nat) (ps : List Pk) (o' : Option Addr) (c' : Nat) (qs : List (Pk × Int)) (k : Nat) (X : World) : Prop where
  p : Pr X o c (mdl ps k)
  q : Qr X o' c' qs
  ch : Chg (Blk o) W X
theorem PkI.below {W : World} {o : Option Addr} {c : Nat} {ps : List Pk} {o' : Option Addr} {c' : Nat} {qs : List (Pk × Int)} {k : Nat} {X Y : World} (h : PkI W o c ps o' c' qs k X) (hb : Below X.heap.size X Y) : PkI W o c ps o' c' qs k Y := ⟨h.p.bel hb, Rw.bel h.q hb, h.ch.below hb⟩
theorem PkI.next {W : World} {c : Nat} {ps : List Pk} {o' : Option Addr} {c' : Nat} {qs : List (Pk × Int)} {k : Nat} {X : World} {g off : Nat} (h : PkI W (some ⟨g, off, none⟩) c ps o' c' qs k X) (hk : k < ps.length) : PkI W (some ⟨g, off, none⟩) c ps o' c' qs (k + 1) (X.setCell ⟨g, off + k * 4, none⟩ (.int .i64 (-1))) := by
  have hm := mdl_len ps k
  obtain ⟨h1, h2⟩ := Rw.set h.p (j := k * 4) (by rw [pks_len]; omega) (.int .i64 (-1))
  rw [pks_set (by omega), mdl_at hk] at h1
  refine ⟨?_, Rw.chg h.q h2 fun j hj hb => ?_, h.ch.trans h2⟩
  · unfold Pr
    have e := mdl_set hk
    unfold gone at e
    rw [e] at h1
    rw [mdl_len] at h1 ⊢
    exact h1
  · obtain ⟨Z, hz⟩ := Rw.ty h.q hj
    obtain ⟨Z', hz'⟩ := Rw.ty h.p hb
    rw [hz] at hz'
    simp at hz'
set_option maxHeartbeats 1000000 in
theorem packets_c {W : World} {o : Option Addr} {c : Nat} {ps : List Pk} {o' : Option Addr} {c' : Nat} {qs : List (Pk × Int)} (hp : Pr W o c ps) (hq : Qr W o' c' qs) (he : qs.map (fun x => x.1) = ps) (hl : ps.length ≤ 4000000000000) :
    Calls Try.prog 17 #[.slice o ps.length c, .slice o' qs.length c'] W (PkR W o) := by
  have HI0 : Aside (PkI W o c ps o' c' qs 0 W) := ⟨by simpa [mdl] using hp, hq, Chg.refl _ _⟩
  have HE : Aside _ := he
  have hlen : qs.length = ps.length := by rw [← he, List.length_map]
  obtain ⟨N, hN⟩ : ∃ N, ps.length = N := ⟨_, rfl⟩
  have HN : Aside _ := hN
  rw [hlen, hN]
  rw [hN] at hl hlen
  have HQ : Aside _ := hlen
  have HR : Aside (∀ w', Chg (Blk o) W w' → PkR W o (.returned (.bool true)) w') := fun w' h => ⟨rfl, h⟩
  generalize PkR W o = RR at *
  clear hp hq he hN hlen
  go_enter Try.func17, Try.ntmps17
  go_wp2_with fail
  go_loopg [5] N (fun kx s5 wr => ∃ k : Nat, s5 = .int .i64 (k : Int) ∧ k ≤ N ∧ N - k ≤ kx ∧ Aside (PkI W o c ps o' c' qs k wr))
  case atStart => exact ⟨0, rfl, by omega, by omega, HI0.out⟩
  case round =>
    clear HI0
    obtain ⟨k, rfl, hk, hgk, HI⟩ := hrel
    by_cases hlt : k < N
    · have hi : k < ps.length := by rw [HN.out]; exact hlt
      have hi2 : k < qs.length := by rw [HQ.out]; exact hlt
      obtain ⟨g, off, ho, p0, p1, p2, p3⟩ := HI.out.p.cells (i := k) (by rw [mdl_len]; exact hi)
      obtain ⟨g', off', ho', q0, q1, q2, q3, -, -⟩ := HI.out.q.cells hi2
      rw [mdl_at hi] at p0 p1 p2 p3
      have hx : qs[k].1 = ps[k] := by
        have h3 : (qs.map (fun x => x.1))[k]? = ps[k]? := by rw [HE.out]
        rw [List.getElem?_map, List.getElem?_eq_getElem hi2, List.getElem?_eq_getElem hi] at h3
        simpa using h3
      rw [hx] at q0 q1 q2 q3
      subst ho ho'
      have fz : wr.frozen? ⟨g, off + k * 4, none⟩ = false := by
        have := HI.out.p.2
        rcases this with ⟨h, _⟩ | ⟨g1, off1, Z, e1, hg, _⟩
        · cases h
        · injection e1 with e1
          injection e1 with e1 e2
          subst e1 e2
          simp [World.frozen?, hg]
      have HID : Aside (∀ m, PkI W (some ⟨g, off, none⟩) c ps (some ⟨g', off', none⟩) c' qs (k + 1) ((wr.drewN m).setCell ⟨g, off + k * 4, none⟩ (.int .i64 (-1)))) := fun m => (HI.out.below (below_drewN (Below.refl _ wr) m)).next hi
      generalize ps[k] = x at *
      obtain ⟨xn, xa, xz, xe⟩ := x
      simp only at p0 p1 p2 p3 q0 q1 q2 q3
      clear hx hi hi2 HI
      have hne := fun w => neq29 xn xa xz xe w
      have i1 : (k : Int) < N := by omega
      have iw : IntKind.i64.wrap ((k : Int) + 1) = (k : Int) + 1 := wrp _ (by omega) (by omega)
      go_wp2_with fail
      go_quiet (fail)
      go_wp2
      go_roundg (N - (k + 1))
      case measure => omega
      case rel => exact ⟨k + 1, rfl, by omega, Nat.le_refl _, HID.out _⟩
    · obtain rfl : k = N := by omega
      have i1 : ¬ (k : Int) < k := by omega
      have HF : Aside _ := HR.out wr HI.out.ch
      clear HI HR
      go_wp2
      exact HF.out
end Go.Proofs.Ytkjcapmhjhnckaa
