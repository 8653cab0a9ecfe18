/- params: a strange piece ahead of what was put: once, twice. -/
import Derived.Test.YtcppnellgkbndaaDoorPe
namespace Go.Proofs.YtcppnellgkbndaaDoor
open Go.ChangeShapes Go.WideShapes Go.ChangeAt Go.RowKit
set_option linter.unusedVariables false
set_option maxRecDepth 100000

theorem enc_small (n : Int) (h0 : 0 ≤ n) (h1 : n < 64) : enc (szN n) n = [UInt8.ofNat n.toNat] := by
  have h : szN n = 1 := by unfold szN; rw [if_pos h1]
  rw [h]
  unfold enc
  have e : mV 1 * lim 1 + n = n := by rw [show mV 1 = 0 from rfl]; omega
  rw [e]
  show be 1 n.toNat = _
  simp [be]
theorem strange_lay (n : Int) (v : List UInt8) (h0 : 0 ≤ n) (h1 : n < 64) (hv : v.length ≤ 60) : layB n v = UInt8.ofNat n.toNat :: UInt8.ofNat v.length :: v := by
  unfold layB
  rw [enc_small n h0 h1, enc_small v.length (by omega) (by omega)]
  rfl
theorem rdP_cons {s : Bool} {x : Int × List UInt8} {t : List (Int × List UInt8)} {S : Int → Bool} {q : Rq} (h1 : 33 ≤ x.1) (hS : S x.1 = false) : rdP s (x :: t) S q = rdP s t (fun y => y == x.1 || S y) q := by
  conv => lhs; unfold rdP
  rw [if_neg (by rw [hS]; decide), if_neg (by omega)]
theorem rdP_last {s : Bool} {p : Rq} {n : Int} {v : List UInt8} : ∀ (L : List (Int × List UInt8)) (S : Int → Bool) (q : Rq), (∀ x ∈ L, Good s p x) → (L.map (·.1)).Nodup → (∀ x ∈ L, S x.1 = false ∧ x.1 ≠ n) → S n = true → rdP s (L ++ [(n, v)]) S q = (13, rqE)
  | [], S, q, _, _, _, hn => by
    show rdP s [(n, v)] S q = _
    unfold rdP
    rw [if_pos hn]
  | x :: t, S, q, hg, hd, hs, hn => by
    have hx := hs x (by simp)
    have hg' := hg x (by simp) q
    rw [List.map_cons, List.nodup_cons] at hd
    rw [List.cons_append]
    unfold rdP
    rw [if_neg (by rw [hx.1]; decide), hg']
    refine rdP_last t _ _ (fun y hy => hg y (List.mem_cons_of_mem _ hy)) hd.2 (fun y hy => ⟨?_, (hs y (List.mem_cons_of_mem _ hy)).2⟩) (by show (n == x.1 || S n) = true; rw [hn, Bool.or_true])
    show (y.1 == x.1 || S y.1) = false
    rw [(hs y (List.mem_cons_of_mem _ hy)).1, Bool.or_false]
    have : y.1 ≠ x.1 := fun e => hd.1 (by rw [← e]; exact List.mem_map.2 ⟨y, hy, rfl⟩)
    simpa using this
theorem pcs_good {p : Ps} {s : Bool} (h16 : p.reset.length = 16) (hb : p.bad s = false) : ∀ x ∈ pcs s (tab 0 p), Good s (refq p) x ∧ x.1 ≤ 32 := fun x hx => by
  obtain ⟨r, hr, rfl⟩ := List.mem_map.1 hx
  obtain ⟨h1, h2⟩ := List.mem_filter.1 hr
  have h3 : r.r.n ∈ allK := by rw [← tab_keys p]; exact List.mem_map.2 ⟨r, h1, rfl⟩
  have h4 : ∀ n ∈ allK, n ≤ 32 := by decide
  exact ⟨(good_row h16 hb r h1 h2).1, h4 _ h3⟩
theorem pcs_tab (p : Ps) (s : Bool) : enP (pcs s (tab 0 p)) = p.bytes s := pcs_en s (tab 0 p)
theorem enP_cons (x : Int × List UInt8) (L : List (Int × List UInt8)) : enP (x :: L) = layB x.1 x.2 ++ enP L := by simp [enP]
theorem enP_app (L M : List (Int × List UInt8)) : enP (L ++ M) = enP L ++ enP M := by simp [enP]
/-- A strange piece ahead: the same is read. -/
theorem strange_one {p : Ps} {s : Bool} (h16 : p.reset.length = 16) (hb : p.bad s = false) (n : Int) (v : List UInt8) (h0 : 33 ≤ n) (h1 : n < 64) (hv : v.length ≤ 60) : rdL (layB n v ++ p.bytes s) s ((layB n v ++ p.bytes s).length + 1) 0 (fun _ => false) (refq dps) = (0, refq p) := by
  have e : layB n v ++ p.bytes s = enP ((n, v) :: pcs s (tab 0 p)) := by rw [enP_cons, pcs_tab]
  have h := rd_en s ((n, v) :: pcs s (tab 0 p)) [] ((layB n v ++ p.bytes s).length + 1) (fun _ => false) (refq dps) (fun x hx => by
    rcases List.mem_cons.1 hx with rfl | hx
    · exact ⟨by show (0:Int) ≤ n; omega, by show n ≤ 4611686018427387903; omega, by show v.length ≤ 1000; omega⟩
    · exact pcs_fit h16 hb x hx) (by rw [← e]; exact Nat.lt_succ_self _)
  rw [List.nil_append, ← e] at h
  refine h.trans ?_
  rw [rdP_cons (show 33 ≤ ((n, v) : Int × List UInt8).1 from h0) rfl]
  have hg := fun x hx => (pcs_good h16 hb x hx).1
  have hk := fun x hx => (pcs_good h16 hb x hx).2
  have ha := pcs_read h16 hb (pcs s (tab 0 p)) (fun _ => Iff.rfl) (pcs_nodup p s)
  rw [rd_good s (refq p) _ _ _ hg (pcs_nodup p s) (fun _ _ => rfl)] at ha
  rw [rd_good s (refq p) _ _ _ hg (pcs_nodup p s) (fun x hx => by
    show (x.1 == n || false) = false
    have := hk x hx
    rw [Bool.or_false]
    have : x.1 ≠ n := by omega
    simpa using this)]
  have h15 : ((15 : Int) == n || false) = false := by rw [Bool.or_false]; have : (15 : Int) ≠ n := by omega
                                                      simpa using this
  have h00 : ((0 : Int) == n || false) = false := by rw [Bool.or_false]; have : (0 : Int) ≠ n := by omega
                                                     simpa using this
  show (if (_ || ((15 : Int) == n || false)) && (!s || (_ || ((0 : Int) == n || false))) then _ else _) = _
  rw [h15, h00]
  exact ha
/-- A strange piece ahead and behind: it came twice. -/
theorem strange_two {p : Ps} {s : Bool} (h16 : p.reset.length = 16) (hb : p.bad s = false) (n : Int) (v : List UInt8) (h0 : 33 ≤ n) (h1 : n < 64) (hv : v.length ≤ 60) : rdL (layB n v ++ p.bytes s ++ layB n v) s ((layB n v ++ p.bytes s ++ layB n v).length + 1) 0 (fun _ => false) (refq dps) = (13, rqE) := by
  have e : layB n v ++ p.bytes s ++ layB n v = enP ((n, v) :: (pcs s (tab 0 p) ++ [(n, v)])) := by rw [enP_cons, enP_app, pcs_tab, enP_cons]; simp [enP]
  have hself : 0 ≤ ((n, v) : Int × List UInt8).1 ∧ ((n, v) : Int × List UInt8).1 ≤ 4611686018427387903 ∧ ((n, v) : Int × List UInt8).2.length ≤ 1000 := ⟨by show (0:Int) ≤ n; omega, by show n ≤ 4611686018427387903; omega, by show v.length ≤ 1000; omega⟩
  have h := rd_en s ((n, v) :: (pcs s (tab 0 p) ++ [(n, v)])) [] ((layB n v ++ p.bytes s ++ layB n v).length + 1) (fun _ => false) (refq dps) (fun x hx => by
    rcases List.mem_cons.1 hx with rfl | hx
    · exact hself
    · rcases List.mem_append.1 hx with hx | hx
      · exact pcs_fit h16 hb x hx
      · rw [List.mem_singleton.1 hx]; exact hself) (by rw [← e]; exact Nat.lt_succ_self _)
  rw [List.nil_append, ← e] at h
  refine h.trans ?_
  rw [rdP_cons (show 33 ≤ ((n, v) : Int × List UInt8).1 from h0) rfl]
  refine rdP_last (p := refq p) _ _ _ (fun x hx => (pcs_good h16 hb x hx).1) (pcs_nodup p s) (fun x hx => ?_) (by show (n == n || false) = true; simp)
  have := (pcs_good h16 hb x hx).2
  have hne : x.1 ≠ n := by omega
  refine ⟨?_, hne⟩
  show (x.1 == n || false) = false
  rw [Bool.or_false]
  simpa using hne
end Go.Proofs.YtcppnellgkbndaaDoor
