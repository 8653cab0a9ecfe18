/- streams: a stream's first frame; a frame behind its end. -/
import Derived.Test.YtijndpjdmiljkaaGreatDoorRa
import Derived.Test.YtijndpjdmiljkaaGreatDoorRb
import Derived.Test.YtijndpjdmiljkaaGreatDoorIPut
namespace Go.Proofs.YtijndpjdmiljkaaGreatDoor
open Go.RowKit Go.Maps
set_option linter.unusedVariables false

theorem stop_ex {V : Nat → Option UInt8} {B : Nat} (hB : ∀ p, B ≤ p → V p = none) (k : Nat) : ∀ R, R ≤ B → B - R ≤ k → ∃ E, Stop V R E ∧ E ≤ B := by
  induction k with
  | zero =>
    intro R h1 h2
    obtain rfl : R = B := by omega
    exact ⟨R, ⟨Nat.le_refl _, fun p h1 h2 => by omega, hB R (Nat.le_refl _)⟩, Nat.le_refl _⟩
  | succ k ih =>
    intro R h1 h2
    by_cases hv : V R = none
    · exact ⟨R, ⟨Nat.le_refl _, fun p h1 h2 => by omega, hv⟩, h1⟩
    · have hlt : R < B := by
        by_cases h : R < B
        · exact h
        · exact absurd (hB R (by omega)) hv
      obtain ⟨E, ⟨e1, e2, e3⟩, e4⟩ := ih (R + 1) (by omega) (by omega)
      refine ⟨E, ⟨by omega, fun p h1 h2 => ?_, e3⟩, e4⟩
      by_cases hp : p = R
      · rw [hp]; exact hv
      · exact e2 p (by omega) h2
/-- What begin leaves: a stream, and its inbox. -/
def Qb (id : Int) (wr : Bool) (win : Int) (X W : World) (S : Nat) (cs : Array Value) : Prop :=
  Rt 128 cs W S ∧ cs[0]? = some (.int .i64 id) ∧ cs[1]? = some (.bool false) ∧ cs[2]? = some (.bool false) ∧ cs[15]? = some (.bool false) ∧ cs[10]? = some (.bool wr) ∧
    ∃ ib mb, cs[11]? = some (.pointer (some ⟨ib, 0, none⟩)) ∧ Ib W ib mb 0 (fun _ => none) 0 0 0 win win 0 false ∧ X.heap.size ≤ ib ∧ X.heap.size ≤ mb
theorem begin_q {srv : Bool} {x y : Lm} {k : Bks} {st : Tst} {w : World} (h : Tb srv x y k st w) (hx : x.le ownM = true) (hy : y.le peerM = true) (p : Nat) (s u : Bool) (hp : p < 1152921504606846976) (hq : (s == srv) = false) :
    Calls Tryz.prog 51 #[.pointer (some ⟨k.T, 0, none⟩), .int .i64 (sid p s u)] w fun e w' => ∃ S cs, e = .returned (.pointer (some ⟨S, 0, none⟩)) ∧ Below w.heap.size w w' ∧ Qb (sid p s u) u (x.first false u) w w' S cs := by
  cases u
  · refine (begin_pb h hx hy p s hp hq).mono ?_
    rintro e w' ⟨S, vo, vg, vi, rfl, hb, ib, mb, rfl, h1, h2, h3⟩
    exact ⟨S, _, rfl, hb.bel, hb.sc, rfl, rfl, rfl, rfl, rfl, ib, mb, rfl, h1, h2, h3⟩
  · refine (begin_pu h hx hy p s hp hq).mono ?_
    rintro e w' ⟨S, vo, vg, vi, rfl, hb, ib, mb, rfl, h1, h2, h3⟩
    exact ⟨S, _, rfl, hb.bel, hb.sc, rfl, rfl, rfl, rfl, rfl, ib, mb, rfl, h1, h2, h3⟩
theorem begin_fine {x y : Lm} (hy : y.le peerM = true) : (Tst.begin x y).shut := by
  obtain ⟨⟨a0, a1⟩, ⟨b0, b1⟩, ⟨c0, c1⟩, ⟨d0, d1⟩, ⟨e0, e1⟩, ⟨f0, f1⟩⟩ := le_ok hy
  simp only [peerM] at e1 f1
  refine ⟨fun u => ?_, fun u => ?_⟩
  · cases u
    · exact ⟨Int.le_refl _, e0, by show y.b ≤ _; omega⟩
    · exact ⟨Int.le_refl _, f0, by show y.s ≤ _; omega⟩
  · cases u <;> rfl
/-- How many streams of a kind the peer may open. -/
def Lm.most (x : Lm) (u : Bool) : Int := if u then x.s else x.b
theorem begin_tk {x y : Lm} (u : Bool) : ((Tst.begin x y).tk u).c = 0 ∧ ((Tst.begin x y).tk u).l = x.most u := by cases u <;> exact ⟨rfl, rfl⟩
theorem win_le {x : Lm} (hx : x.tiny) (u : Bool) : ∃ m : Nat, x.first false u = (m : Int) ∧ 1 ≤ m ∧ m ≤ 64 := by
  obtain ⟨h1, h2, h3, h4, h5, h6⟩ := hx
  cases u
  · exact ⟨x.r.toNat, by show x.r = _; omega, by omega, by omega⟩
  · exact ⟨x.u.toNat, by show x.u = _; omega, by omega, by omega⟩
theorem most_le {x : Lm} (hx : x.tiny) (u : Bool) : x.most u ≤ 4 := by
  obtain ⟨h1, h2, h3, h4, h5, h6⟩ := hx
  cases u
  · exact h5.2
  · exact h6.2
/-- A first frame with more than is allowed, of the stream or of all. -/
theorem take_flow {x y : Lm} {k : Bks} {w : World} (h : Tb true x y k (Tst.begin x y) w) (hx : x.tiny) (hy : y.tiny) (hsm : w.heap[k.sb]? = some (.map #[] 0)) (p : Nat) (u : Bool) (hp : (p : Int) < x.most u) (n cap : Nat) (la : Option Addr) (fin : Bool) (hn : n ≤ 1000) (hno : x.first false u < (n : Int) ∨ x.d < (n : Int)) :
    Calls Tryz.prog 21 #[.pointer (some ⟨k.T, 0, none⟩), .agg (fr6 8 (sid p false u) 0 (.slice la n cap) fin).toArray] w fun e w' => ∃ v, e = .returned v ∧ Cl w' v 3 8 30 ∧ Below w.heap.size w w' := by
  have hm : x.most u ≤ 4 := most_le hx u
  have hp' : p < 1000 := by omega
  have hs := begin_fine (x := x) hy.peer
  obtain ⟨m, hwin, hm1, hm2⟩ := win_le hx u
  have hd : 1 ≤ x.d ∧ x.d ≤ 256 := hx.1
  refine take_cl h _ _ _ _ _ _ _ (Or.inl rfl) fun X hX => ?_
  have hT := h.go hX
  refine takeOf_no hT (heap_bel hsm hX) hs.1 8 p false u 0 _ fin (by omega) ?_ 3 30 (fun X hX => wrong_r_nil hX hs.1 8 p false u _ _ _ (by omega) (Or.inl rfl) rfl rfl (by rw [(begin_tk u).2]; exact hp)) (Qb (sid p false u) u (x.first false u)) (fun X hX => begin_q hX hx.own hy.peer p false u (by omega) rfl) ?_
  · show ¬ (p : Int) < ((Tst.begin x y).tk u).c
    rw [(begin_tk u).1]; omega
  · rintro X1 X2 S cs hb1 hb2 ⟨hr, h0, h1, h2, h15, h10, ib, mb, h11, hib, hlo1, hlo2⟩
    refine apply_8 X2 k.T S _ 0 _ fin (fun v w' => Cl w' v 3 8 30 ∧ Below X2.heap.size X2 w') fun Y hY => ?_
    have hTY := ((hT.go hb1).go hb2).go hY
    have hst : St Y S cs ib mb 0 (fun _ => none) 0 0 0 (x.first false u) (x.first false u) ((0 : Nat) : Int) false := ⟨rt_bel hr hY, h11, ib_bel hib hY⟩
    by_cases hab : x.d < (n : Int)
    · refine (put_above hTY hst h1 h2 8 _ 0 n cap la fin (by omega) (by omega) ⟨?_, ?_⟩ ?_).mono ?_
      · show -9223372036854775808 ≤ x.d - 0; omega
      · show x.d - 0 ≤ 9223372036854775807; omega
      · show x.d - 0 < ((0 : Nat) : Int) + n - ((0 : Nat) : Int); omega
      · rintro e w' ⟨v, rfl, hv, hb⟩
        exact ⟨v, rfl, hv, bel_trans hY hb⟩
    · refine (put_flow_ hTY hst h1 h2 8 _ 0 n cap la fin (by omega) (by omega) ⟨?_, ?_⟩ ?_ ?_).mono ?_
      · show -9223372036854775808 ≤ x.d - 0; omega
      · show x.d - 0 ≤ 9223372036854775807; omega
      · show ¬ x.d - 0 < ((0 : Nat) : Int) + n - ((0 : Nat) : Int); omega
      · intro Z hZ hs'
        have hio := hs'.io
        rw [hwin] at hio hno
        exact put_flow ib mb 0 0 n cap m 0 _ _ _ _ _ la Z (by omega) hio (by omega) fin (by omega)
      · rintro e w' ⟨v, rfl, hv, hb⟩
        exact ⟨v, rfl, hv, bel_trans hY hb⟩
/-- A table with a stream that was opened by its first frame. -/
structure Af (x y : Lm) (k : Bks) (st : Tst) (id : Int) (S : Nat) (cs : Array Value) (F : Int → Value) (n ib mb nn : Nat) (V : Nat → Option UInt8) (E hd : Int) (win len : Nat) (fin : Bool) (W : World) : Prop where
  tb : Tb true x y k st W
  sh : st.shut
  tk : ∀ u, (st.tk u).l = x.most u
  bd : -9223372036854775808 ≤ st.t.l - st.t.c ∧ st.t.l - st.t.c ≤ 9223372036854775807
  sm : Sm W k.sb n F
  fs : F id = .pointer (some ⟨S, 0, none⟩)
  i1 : cs[1]? = some (.bool false)
  i2 : cs[2]? = some (.bool false)
  s : St W S cs ib mb nn V 0 E hd (win : Int) (win : Int) (len : Int) fin
theorem Af.go {x y : Lm} {k : Bks} {st : Tst} {id : Int} {S : Nat} {cs : Array Value} {F : Int → Value} {n ib mb nn : Nat} {V : Nat → Option UInt8} {E hd : Int} {win len : Nat} {fin : Bool} {W Z : World} (h : Af x y k st id S cs F n ib mb nn V E hd win len fin W) (hb : Below W.heap.size W Z) : Af x y k st id S cs F n ib mb nn V E hd win len fin Z :=
  ⟨h.tb.go hb, h.sh, h.tk, h.bd, h.sm.kept (hb.block k.sb h.sm.lt), h.fs, h.i1, h.i2, h.s.go hb⟩
theorem tak_fit (d : Int) (n : Nat) (hd : 0 ≤ d ∧ d ≤ 256) (hn : (n : Int) ≤ d) : ((tv0 d).tak ((n : Int) - ((0 : Nat) : Int))).2 = ⟨d, n, 0, d⟩ := by
  have e1 : IntKind.i64.wrap ((tv0 d).l - (tv0 d).c) = d := by show IntKind.i64.wrap (d - 0) = d; rw [wrp _ (by omega) (by omega)]; omega
  have e2 : IntKind.i64.wrap ((tv0 d).c + ((n : Int) - ((0 : Nat) : Int))) = n := by show IntKind.i64.wrap (0 + ((n : Int) - ((0 : Nat) : Int))) = n; rw [wrp _ (by omega) (by omega)]; omega
  unfold Tv.tak
  rw [if_neg (by omega), e1, if_neg (by omega), e2]
  rfl
theorem opn_tk {st : Tst} {u u' : Bool} {ws : Value} {v : Tv} (hl : v.l = (st.tk u).l) : ((st.opn u ws v).tk u').l = (st.tk u').l := by
  cases u <;> cases u' <;> first | exact hl | rfl
theorem opn_gk {st : Tst} {u u' : Bool} {ws : Value} {v : Tv} : (st.opn u ws v).gk u' = st.gk u' := by
  cases u <;> cases u' <;> rfl
theorem opn_t {st : Tst} {u : Bool} {ws : Value} {v : Tv} : (st.opn u ws v).t = st.t := by cases u <;> rfl
theorem tak_l (v : Tv) (n : Int) : (v.tak n).2.l = v.l := by
  unfold Tv.tak
  split
  · rfl
  · split <;> rfl
theorem Tb.lts {srv : Bool} {x y : Lm} {k : Bks} {st : Tst} {w : World} (h : Tb srv x y k st w) (u : Bool) : k.T < w.heap.size ∧ k.t < w.heap.size ∧ k.tk u < w.heap.size := ⟨h.tab.lt, h.ht.lt, (h.htk u).lt⟩
theorem Bks.tk_mem (k : Bks) (u : Bool) : k.tk u ∈ k.l := by cases u <;> simp [Bks.tk, Bks.l]
set_option maxHeartbeats 1000000 in
/-- A first frame that is taken. -/
theorem take_first {x y : Lm} {k : Bks} {w : World} (h : Tb true x y k (Tst.begin x y) w) (hx : x.tiny) (hy : y.tiny) (hsm : w.heap[k.sb]? = some (.map #[] 0)) (hnb : w.heap[k.nb]? = some (.map #[] 0)) (hTI : TbI w) (p : Nat) (u : Bool) (hp : (p : Int) < x.most u) (n cap : Nat) (la : Option Addr) (fin : Bool) (l : List UInt8) (hl : l.length = n) (hsl : Sl w la l) (hcap : n ≤ cap) (hn : n ≤ 1000) (hd : (n : Int) ≤ x.d) (hr : (n : Int) ≤ x.first false u) :
    Calls Tryz.prog 21 #[.pointer (some ⟨k.T, 0, none⟩), .agg (fr6 8 (sid p false u) 0 (.slice la n cap) fin).toArray] w fun e w' => e = .returned .nilIface ∧ ∃ st S cs F m ib mb nn V E hd win, Af x y k st (sid p false u) S cs F m ib mb nn V E hd win n fin w' ∧ Chg (fun j => j ∈ k.l ∨ k.T ≤ j) w w' := by
  have hm : x.most u ≤ 4 := most_le hx u
  have hp' : p < 1000 := by omega
  have hs := begin_fine (x := x) hy.peer
  obtain ⟨m, hwin, hm1, hm2⟩ := win_le hx u
  have hdd : 1 ≤ x.d ∧ x.d ≤ 256 := hx.1
  have hV : ∀ q, n ≤ q → putF (fun _ => none) 0 l q = none := fun q hq => putF_out _ 0 l q (Or.inr (by omega))
  obtain ⟨E, hE, hE2⟩ := stop_ex hV n 0 (Nat.zero_le _) (by omega)
  refine (take_of h 8 _ 0 _ fin (Or.inl rfl) (fun v w' => v = .nilIface ∧ ∃ st S cs F m ib mb nn V E hd win, Af x y k st (sid p false u) S cs F m ib mb nn V E hd win n fin w' ∧ Chg (fun j => j ∈ k.l ∨ k.T ≤ j) w w') fun X hX => ?_).mono (by rintro e w' ⟨v, rfl, rfl, hh⟩; exact ⟨rfl, hh⟩)
  have hT := h.go hX
  obtain ⟨st4, hst4⟩ : ∃ st4, { Tst.begin x y with t := ((tv0 x.d).tak ((n : Int) - ((0 : Nat) : Int))).2 } = st4 := ⟨_, rfl⟩
  have g4 : ∀ u, st4.gk u = (Tst.begin x y).gk u := fun u => by rw [← hst4]; cases u <;> rfl
  have t4 : ∀ u, st4.tk u = (Tst.begin x y).tk u := fun u => by rw [← hst4]; cases u <;> rfl
  have tt4 : st4.t = ⟨x.d, n, 0, x.d⟩ := by rw [← hst4]; exact tak_fit _ _ ⟨by omega, hdd.2⟩ hd
  have hs4 : st4.shut := ⟨fun u => by rw [g4]; exact hs.1 u, fun u => by rw [g4]; exact hs.2 u⟩
  have hwz : x.first false u = ((m : Nat) : Int) := hwin
  refine (takeOf_ok (st4 := st4) hx.own hy.peer hT (heap_bel hsm hX) hs.1 hs4.1 (by rw [← hst4]; rfl) 8 p false u rfl (by rw [t4]; exact (begin_tk u).1) 0 _ fin (by omega) (by omega) ?_ (fun X hX => wrong_r_nil hX hs.1 8 p false u _ _ _ (by omega) (Or.inl rfl) rfl rfl (by rw [(begin_tk u).2]; exact hp)) (Qb (sid p false u) u (x.first false u)) (fun X hX => begin_q hX hx.own hy.peer p false u (by omega) rfl) ?_
    (fun W S cs => ∃ ib mb nn hd, Ib W ib mb nn (putF (fun _ => none) 0 l) 0 E hd m m n fin ∧ cs[1]? = some (.bool false) ∧ cs[2]? = some (.bool false) ∧ cs[11]? = some (.pointer (some ⟨ib, 0, none⟩)) ∧ w.heap.size ≤ ib ∧ w.heap.size ≤ mb ∧ Chg (fun j => j = k.t) w W) ?_).mono ?_
  · show ¬ (p : Int) < ((Tst.begin x y).tk u).c
    rw [(begin_tk u).1]; omega
  · rintro X1 X2 S cs ⟨hr, h0, h1, h2, h15, h10, ib, mb, h11, hib, hlo1, hlo2⟩
    exact ⟨h0, h1, h2, h15, u, ib, h10, h11⟩
  · rintro X1 X2 S cs hb1 hb2 ⟨hr', h0, h1, h2, h15, h10, ib, mb, h11, hib, hlo1, hlo2⟩ hsb
    have hw1 := bel_trans hX hb1
    have hs1 : w.heap.size ≤ X1.heap.size := hw1.size
    refine (apply_8 X2 k.T S _ 0 _ fin (fun v w' => v = .nilIface ∧ Tb true x y k st4 w' ∧ w'.heap[k.sb]? = some (.map #[] 0) ∧ Rt 128 cs w' S ∧ ∃ ib mb nn hd, Ib w' ib mb nn (putF (fun _ => none) 0 l) 0 E hd m m n fin ∧ cs[1]? = some (.bool false) ∧ cs[2]? = some (.bool false) ∧ cs[11]? = some (.pointer (some ⟨ib, 0, none⟩)) ∧ w.heap.size ≤ ib ∧ w.heap.size ≤ mb ∧ Chg (fun j => j = k.t) w w') fun Y hY => ?_).mono (by rintro e w' ⟨v, rfl, rfl, hh⟩; exact ⟨rfl, hh⟩)
    have hwY : Below w.heap.size w Y := bel_trans (bel_trans hw1 hb2) hY
    have hTY := h.go hwY
    have hst : St Y S cs ib mb 0 (fun _ => none) 0 0 0 (x.first false u) (x.first false u) ((0 : Nat) : Int) false := ⟨rt_bel hr' hY, h11, ib_bel hib hY⟩
    refine (put_ok_ hTY (heap_bel hnb hwY) hst _ h0 h1 h2 ?_ _ 0 n cap la fin (by omega) (by omega) ⟨?_, ?_⟩ ?_ n (by omega) E ((0 : Int) + cntF (fun _ => none) 0 l) (putF (fun _ => none) 0 l) ?_).mono ?_
    · have := (Array.getElem?_eq_some_iff.1 hnb).1
      omega
    · show -9223372036854775808 ≤ x.d - 0; omega
    · show x.d - 0 ≤ 9223372036854775807; omega
    · show ¬ x.d - 0 < ((0 : Nat) : Int) + n - ((0 : Nat) : Int); omega
    · intro Z hZ hs'
      have hio := hs'.io
      rw [hwz] at hio
      have hwZ := bel_trans hwY hZ
      refine (put_ok ib mb 0 0 0 n cap 0 E m 0 n (fun _ => none) 0 _ false fin la l l Z hl hcap (by omega) (by omega) (by omega) ⟨by omega, by omega⟩ (by omega) (fun i hi => cell_bel (hTI i hi) hwZ) hio (fun j hj => ?_) (by simp) hE (by omega) (by intro e; cases e) (fun _ => by omega) (by omega) (by omega)).mono ?_
      · obtain ⟨b, off, e1, e2⟩ := hsl j hj
        exact ⟨b, off, e1, cell_bel e2 hwZ⟩
      · rintro e w' ⟨rfl, ⟨nn, _, h3⟩, h4⟩
        rw [hwz]
        exact ⟨rfl, ⟨nn, h3⟩, h4⟩
    · rintro e w' ⟨rfl, htb, ⟨nn, hst'⟩, hch⟩
      have l1 := (Array.getElem?_eq_some_iff.1 hsm).1
      have l2 := (Array.getElem?_eq_some_iff.1 (heap_bel hsm hwY)).1
      have nd := h.nd
      simp only [Bks.l, List.nodup_cons, List.mem_cons, not_or] at nd
      have hne : k.sb ≠ k.t := fun e => nd.1.2.2.1 e.symm
      rw [hwz] at hst'
      refine ⟨_, rfl, rfl, hst4 ▸ htb, (hch.2.2.2.2 k.sb l2 (by omega)).trans (heap_bel hsm hwY), hst'.sc, ib, mb, nn, _, hst'.io, h1, h2, h11, by omega, by omega, ?_⟩
      exact (bel_chg hwY).andThen hch (fun j hj e => by omega)
  · rintro e w' ⟨rfl, w4, W5, S, cs, ⟨ib, mb, nn, hd', hib, i1, i2, i11, hlo1, hlo2, hch0⟩, hch1, hch2, zs, F, n', o', c', htb, hsm', hF, hsc⟩
    obtain ⟨t1, t2, t3⟩ := h.lts u
    have lsb := (Array.getElem?_eq_some_iff.1 hsm).1
    have hi4 := hib.1
    have hm4 : ∃ es ck, w4.heap[mb]? = some (.map es ck) := by
      obtain ⟨_, D, ⟨es, ck, h5, _⟩, _⟩ := hib
      exact ⟨es, ck, h5⟩
    have hib5 : Ib W5 ib mb nn (putF (fun _ => none) 0 l) 0 E hd' m m n fin := hib.kept hch1 (by
      rintro (e | e | ⟨_, cs3, fr, e⟩)
      · omega
      · omega
      · rw [hi4] at e; simp at e) (by
      rintro (e | e | ⟨_, cs3, fr, e⟩)
      · omega
      · omega
      · obtain ⟨es, ck, hm5⟩ := hm4
        rw [hm5] at e; simp at e)
    have hib6 := hib5.kept hch2 (by omega) (by omega)
    refine ⟨_, rfl, rfl, _, S, cs, F, n', ib, mb, nn, putF (fun _ => none) 0 l, E, hd', m, ⟨htb, ⟨fun u' => ?_, fun u' => ?_⟩, fun u' => ?_, ?_, hsm', hF, i1, i2, ⟨hsc, i11, hib6⟩⟩, ?_⟩
    · rw [opn_gk]; exact hs4.1 u'
    · rw [opn_gk]; exact hs4.2 u'
    · rw [opn_tk (tak_l _ _), t4]; exact (begin_tk u').2
    · rw [opn_t, tt4]; exact ⟨by show -9223372036854775808 ≤ x.d - (n : Int); omega, by show x.d - (n : Int) ≤ 9223372036854775807; omega⟩
    · refine (((Chg.refl (fun j => j ∈ k.l ∨ k.T ≤ j) w).andThen hch0 ?_).andThen hch1 ?_).andThen hch2 ?_
      · rintro j hj rfl
        exact .inl (by simp [Bks.l])
      · rintro j hj (rfl | rfl | ⟨e, _⟩)
        · exact .inl (by simp [Bks.l])
        · exact .inl (by simp [Bks.l])
        · exact .inr e
      · rintro j hj rfl
        exact .inl (k.tk_mem u)
section
variable {x y : Lm} {k : Bks} {st : Tst} {S : Nat} {cs : Array Value} {F : Int → Value} {n ib mb nn : Nat} {V : Nat → Option UInt8} {E hd : Int} {win : Nat} {w : World}
/-- A frame beyond a stream's end. -/
theorem take_behind (h : Af x y k st 2 S cs F n ib mb nn V E hd win 1 true w) (hx : x.tiny) (la : Option Addr) (cap : Nat) :
    Calls Tryz.prog 21 #[.pointer (some ⟨k.T, 0, none⟩), .agg (fr6 8 2 1 (.slice la 1 cap) false).toArray] w fun e w' => ∃ v, e = .returned v ∧ Cl w' v 6 8 33 ∧ Below w.heap.size w w' := by
  have hxs : 1 ≤ x.s := hx.2.2.2.2.2.1
  have hl : ((0 : Nat) : Int) < (st.tk true).l := by rw [h.tk]; show ((0 : Nat) : Int) < x.s; omega
  refine take_cl h.tb _ _ _ _ _ _ _ (Or.inl rfl) fun X hX => takeOf_is (p := 0) (s := false) (u := true) (h.tb.go hX) (h.sm.kept (hX.block k.sb h.sm.lt)) 8 1 _ false (by omega) S h.fs 6 33 (fun Y hY => wrong_r_nil hY h.sh.1 8 0 false true _ _ _ (by omega) (Or.inl rfl) rfl rfl hl) fun Y hY => ?_
  refine apply_8 Y k.T S 2 1 _ false (fun v w' => Cl w' v 6 8 33 ∧ Below Y.heap.size Y w') fun Z hZ => ?_
  have hwZ := bel_trans (bel_trans hX hY) hZ
  refine (put_final_ (rc := 1) (h.tb.go hwZ) (h.s.go hwZ) h.i1 h.i2 8 2 1 1 cap la false (by omega) (by omega) h.bd ?_).mono (by rintro e w' ⟨v, rfl, hv, hb⟩; exact ⟨v, rfl, hv, bel_trans hZ hb⟩)
  intro Q hQ hs
  exact put_final ib mb nn 1 1 cap win 1 V _ _ _ _ true false la Q (by omega) hs.io (Or.inl ⟨rfl, by omega⟩)
theorem take_short (h : Af x y k st 2 S cs F n ib mb nn V E hd win 1 true w) (hx : x.tiny) :
    Calls Tryz.prog 21 #[.pointer (some ⟨k.T, 0, none⟩), .agg (fr6 4 2 0 (.slice none 0 0) false).toArray] w fun e w' => ∃ v, e = .returned v ∧ Cl w' v 6 4 33 ∧ Below w.heap.size w w' := by
  have hxs : 1 ≤ x.s := hx.2.2.2.2.2.1
  have hl : ((0 : Nat) : Int) < (st.tk true).l := by rw [h.tk]; show ((0 : Nat) : Int) < x.s; omega
  refine take_cl h.tb _ _ _ _ _ _ _ (Or.inr (Or.inl rfl)) fun X hX => takeOf_is (p := 0) (s := false) (u := true) (h.tb.go hX) (h.sm.kept (hX.block k.sb h.sm.lt)) 4 0 _ false (by omega) S h.fs 6 33 (fun Y hY => wrong_r_nil hY h.sh.1 4 0 false true _ _ _ (by omega) (Or.inr (Or.inl rfl)) rfl rfl hl) fun Y hY => ?_
  refine apply_4 Y k.T S 2 (fun v w' => Cl w' v 6 4 33 ∧ Below Y.heap.size Y w') fun Z hZ => ?_
  have hwZ := bel_trans (bel_trans hX hY) hZ
  refine (put_final_ (rc := 1) (h.tb.go hwZ) (h.s.go hwZ) h.i1 h.i2 4 2 0 0 0 none true (by omega) (by omega) h.bd ?_).mono (by rintro e w' ⟨v, rfl, hv, hb⟩; exact ⟨v, rfl, hv, bel_trans hZ hb⟩)
  intro Q hQ hs
  exact put_final ib mb nn 0 0 0 win 1 V _ _ _ _ true true none Q (by omega) hs.io (Or.inr ⟨rfl, by omega⟩)
end
end Go.Proofs.YtijndpjdmiljkaaGreatDoor
