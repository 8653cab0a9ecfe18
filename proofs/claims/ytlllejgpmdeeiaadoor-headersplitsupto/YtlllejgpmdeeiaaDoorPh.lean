/- What a header says, read off its bytes: plain functions; and what a walk of the reader's methods ends with. -/
import Derived.Test.YtlllejgpmdeeiaaDoorHd
namespace Go.Proofs.YtlllejgpmdeeiaaDoor
open Go.ChangeShapes Go.WideShapes Go.ChangeAt Go.RowKit
set_option linter.unusedVariables false

/-- A header that was read: its identifiers and its token by place and length. -/
structure PH where
  k : Int
  ver : Int
  d : Option (Nat × Nat)
  s : Option (Nat × Nat)
  t : Option (Nat × Nat)
  len : Int
  ph : Bool
  lst : List Int
  tag : List UInt8
  at' : Int

def zs : List UInt8 := List.replicate 16 0
/-- the first byte -/
def fb (l : List UInt8) : Nat := (l.getD 0 0).toNat
theorem fb_lt (l : List UInt8) : fb l < 256 := (l.getD 0 0).toNat_lt
def pShort (l : List UInt8) (ids : Int) : Option PH := if shE l ids = 0 then some ⟨5, 0, some (1, ids.toNat), none, none, 0, bit (fb l) 4, [], zs, 1 + ids⟩ else none
def pLen (l : List UInt8) (k : Int) (d s t : Option (Nat × Nat)) (a : Int) : Option PH :=
  if vE l a = 0 ∧ vN l a + vV l a ≤ l.length then some ⟨k, 1, d, s, t, vV l a, false, [], zs, vN l a⟩ else none
def pRetry (l : List UInt8) (d s : Option (Nat × Nat)) (a : Int) : Option PH :=
  if 16 < (l.length : Int) - a ∧ (l.length : Int) - a ≤ 528 then some ⟨3, 1, d, s, some (a.toNat, ((l.length : Int) - a - 16).toNat), 0, false, [], l.drop (l.length - 16), l.length⟩ else none
def pInitial (l : List UInt8) (d s : Option (Nat × Nat)) (a : Int) : Option PH :=
  if vE l a = 0 ∧ vV l a ≤ 512 ∧ vN l a + vV l a ≤ l.length then pLen l 0 d s (some ((vN l a).toNat, (vV l a).toNat)) (vN l a + vV l a) else none
def kd (l : List UInt8) : Nat := fb l / 16 % 4
def pSpoken (l : List UInt8) (d s : Option (Nat × Nat)) (a : Int) : Option PH :=
  if fb l / 64 % 2 = 0 then none else if kd l = 3 then pRetry l d s a else if kd l = 0 then pInitial l d s a else pLen l (kd l) d s none a
/-- numbers of four bytes each, from a place on -/
def vers (l : List UInt8) (a n : Nat) : List Int := (List.range n).map fun i => ((num (sub l (a + 4 * i) 4) : Nat) : Int)
def pVersions (l : List UInt8) (d s : Option (Nat × Nat)) (a : Int) : Option PH :=
  if a < l.length ∧ ((l.length : Int) - a) % 4 = 0 then some ⟨4, 0, d, s, none, 0, false, vers l a.toNat ((l.length - a.toNat) / 4), zs, l.length⟩ else none
def pRest (l : List UInt8) (ver : Int) (d s : Option (Nat × Nat)) (a : Int) : Option PH :=
  if ver = 0 then pVersions l d s a else if ver = 1 then pSpoken l d s a else some ⟨6, ver, d, s, none, 0, false, [], zs, a⟩
def idN (l : List UInt8) : Nat := (l.getD 5 0).toNat
def idM (l : List UInt8) : Nat := (l.getD (6 + idN l) 0).toNat
abbrev idOk (l : List UInt8) : Prop := 6 + idN l < l.length ∧ 7 + idN l + idM l ≤ l.length
def pLong (l : List UInt8) : Option PH :=
  if idOk l ∧ idN l ≤ 20 ∧ idM l ≤ 20 then pRest l (num (sub l 1 4) : Nat) (some (6, idN l)) (some (7 + idN l, idM l)) (7 + idN l + idM l : Nat) else none
def parse (l : List UInt8) (ids : Int) : Option PH :=
  if ids < 0 ∨ 20 < ids ∨ l.length = 0 then none else if fb l / 128 % 2 = 0 then pShort l ids else pLong l

/-- a piece as a value -/
def pvo (b off : Nat) : Option (Nat × Nat) → Option Addr
  | none => none
  | some (o, n) => some ⟨b, if n = 0 then off else off + o, none⟩
def pvn : Option (Nat × Nat) → Nat
  | none => 0
  | some (_, n) => n
def pv (b off : Nat) (x : Option (Nat × Nat)) : Value := .slice (pvo b off x) (pvn x) (pvn x)
def HdP (w' : World) (H b off : Nat) (p : PH) (lv : Value) : Prop := Hd w' H p.k p.ver (pv b off p.d) (pv b off p.s) (pv b off p.t) p.len p.ph lv (bc p.tag)
def ic (l : List Int) : List Value := l.map fun x => Value.int .i64 x
/-- a list of ints of the call's own, nil where it is empty -/
def Lv (B : Nat) (w : World) (v : Value) (lst : List Int) : Prop := (lst = [] ∧ v = .slice none 0 0) ∨ (lst ≠ [] ∧ w.ownsRow B 3 1 v lst.length (ic lst))

structure Done (w w' : World) (R H b off cap : Nat) (l : List UInt8) (E : Int) (r : Option PH) : Prop where
  two : Two R H w w'
  rd : ∃ a lk, Rd w' R (.slice (some ⟨b, off, none⟩) l.length cap) a lk
  hd : ∃ k ver d s t len ph lv tg, Hd w' H k ver d s t len ph lv tg ∧ (hc k ver d s t len ph lv tg).all (·.oneCell') = true
  res : (E ≠ 0 ∧ r = none) ∨ (E = 0 ∧ ∃ p lv, r = some p ∧ HdP w' H b off p lv ∧ Lv w.heap.size w' lv p.lst ∧ ∃ lk, Rd w' R (.slice (some ⟨b, off, none⟩) l.length cap) p.at' lk)

theorem Lv.one {B : Nat} {w : World} {v : Value} {lst : List Int} (h : Lv B w v lst) : v.oneCell' = true := by
  rcases h with ⟨_, rfl⟩ | ⟨_, _, ⟨rfl, _⟩ | ⟨g, cap, cur, rfl, _⟩⟩ <;> rfl
theorem bc_all (l : List UInt8) : (bc l).all (·.oneCell') = true := List.all_eq_true.2 (bc_one l)
theorem hc_one {k ver : Int} {b off : Nat} {d s t : Option (Nat × Nat)} {len : Int} {ph : Bool} {lv : Value} {tag : List UInt8} (h : lv.oneCell' = true) : (hc k ver (pv b off d) (pv b off s) (pv b off t) len ph lv (bc tag)).all (·.oneCell') = true := by
  unfold hc
  rw [List.all_append, bc_all]
  simp [pv, Value.oneCell']
  exact h
theorem Done.no {w w' : World} {R H b off cap : Nat} {l : List UInt8} {E : Int} {r : Option PH} {a : Int} {lk : Bool} {k ver : Int} {d s t : Value} {len : Int} {ph : Bool} {lv : Value} {tg : List Value}
    (h2 : Two R H w w') (hr : Rd w' R (.slice (some ⟨b, off, none⟩) l.length cap) a lk) (hh : Hd w' H k ver d s t len ph lv tg) (hE : E ≠ 0) (hn : r = none) (ho : (hc k ver d s t len ph lv tg).all (·.oneCell') = true := by rfl) : Done w w' R H b off cap l E r :=
  ⟨h2, ⟨a, lk, hr⟩, ⟨k, ver, d, s, t, len, ph, lv, tg, hh, ho⟩, .inl ⟨hE, hn⟩⟩
theorem Done.yes {w w' : World} {R H b off cap : Nat} {l : List UInt8} {r : Option PH} {lk : Bool} {p : PH} {lv : Value}
    (h2 : Two R H w w') (hp : r = some p) (hr : Rd w' R (.slice (some ⟨b, off, none⟩) l.length cap) p.at' lk) (hh : HdP w' H b off p lv) (hl : Lv w.heap.size w' lv p.lst) : Done w w' R H b off cap l 0 r :=
  ⟨h2, ⟨_, _, hr⟩, ⟨_, _, _, _, _, _, _, _, _, hh, hc_one hl.one⟩, .inr ⟨rfl, p, lv, hp, hh, hl, lk, hr⟩⟩
theorem Lv.mono {B B' : Nat} {w : World} {v : Value} {lst : List Int} (h : Lv B w v lst) (hB : B' ≤ B) : Lv B' w v lst := by
  rcases h with h | ⟨h1, h2⟩
  · exact .inl h
  · refine .inr ⟨h1, h2.1, ?_⟩
    rcases h2.2 with k | ⟨g, cap, cur, he, k1, k2⟩
    · exact .inl k
    · exact .inr ⟨g, cap, cur, he, Nat.le_trans hB k1, k2⟩
theorem Done.before {u w w' : World} {R H b off cap : Nat} {l : List UInt8} {E : Int} {r : Option PH} (h : Done w w' R H b off cap l E r) (t : Two R H u w) : Done u w' R H b off cap l E r := by
  refine ⟨t.trans h.two, h.rd, h.hd, ?_⟩
  rcases h.res with k | ⟨k1, p, lv, k2, k3, k4, k5⟩
  · exact .inl k
  · exact .inr ⟨k1, p, lv, k2, k3, k4.mono t.size, k5⟩
theorem HdP_of {w' : World} {H b off : Nat} {k ver len at' : Int} {d s t : Option (Nat × Nat)} {oa sa ta : Option Addr} {on sn tn : Nat} {ph : Bool} {lst : List Int} {tag : List UInt8} {lv : Value}
    (h : Hd w' H k ver (.slice oa on on) (.slice sa sn sn) (.slice ta tn tn) len ph lv (bc tag)) (hd : oa = pvo b off d ∧ on = pvn d) (hs : sa = pvo b off s ∧ sn = pvn s) (ht : ta = pvo b off t ∧ tn = pvn t) :
    HdP w' H b off ⟨k, ver, d, s, t, len, ph, lst, tag, at'⟩ lv := by
  obtain ⟨rfl, rfl⟩ := hd
  obtain ⟨rfl, rfl⟩ := hs
  obtain ⟨rfl, rfl⟩ := ht
  exact h
theorem bc_zs : (bc zs).length = 16 := by decide
theorem tS_yes {b off : Nat} {len a n : Int} (h : n ≤ len - a) (h0 : 0 ≤ n) : tSo b off len false a n = pvo b off (some (a.toNat, n.toNat)) ∧ tSn len false a n = n.toNat := by
  unfold tSo tSn
  have ho : tO len false a n := ⟨rfl, h⟩
  rw [if_pos ho, if_pos ho]
  refine ⟨?_, rfl⟩
  show _ = some (⟨b, if n.toNat = 0 then off else off + a.toNat, none⟩ : Addr)
  by_cases hz : n = 0
  · subst hz; rfl
  · rw [if_neg hz, if_neg (by omega)]
theorem v_bounds (l : List UInt8) (a : Int) : 0 ≤ vV l a ∧ vV l a ≤ 4611686018427387903 ∧ (vE l a = 0 → 0 ≤ a ∧ a < vN l a ∧ vN l a ≤ l.length) := by
  by_cases h : vOk l a
  · have e1 : vV l a = _ := if_pos h
    have e2 : vN l a = _ := if_pos h
    obtain ⟨h1, h2, h3⟩ := h
    rw [e1, e2]
    have hw : wd l a.toNat = 1 ∨ wd l a.toNat = 2 ∨ wd l a.toNat = 4 ∨ wd l a.toNat = 8 := by
      unfold wd
      have hx := (l.getD a.toNat 0).toNat_lt
      have hq : (l.getD a.toNat 0).toNat / 64 = 0 ∨ (l.getD a.toNat 0).toNat / 64 = 1 ∨ (l.getD a.toNat 0).toNat / 64 = 2 ∨ (l.getD a.toNat 0).toNat / 64 = 3 := by omega
      rcases hq with hq | hq | hq | hq <;> rw [hq] <;> decide
    refine ⟨by omega, ?_, fun _ => ⟨h1, by omega, h3⟩⟩
    have hm : num (sub l a.toNat (wd l a.toNat)) % 2 ^ (8 * wd l a.toNat - 2) < 2 ^ (8 * wd l a.toNat - 2) := Nat.mod_lt _ (Nat.pow_pos (by decide))
    have hp : 2 ^ (8 * wd l a.toNat - 2) ≤ 2 ^ 62 := Nat.pow_le_pow_right (by decide) (by omega)
    omega
  · have e1 : vV l a = 0 := if_neg h
    have e3 : vE l a ≠ 0 := by
      unfold vE
      by_cases h' : a < 0 ∨ (l.length : Int) < a
      · rw [if_pos h']; decide
      · rw [if_neg h', if_neg h]; decide
    rw [e1]
    exact ⟨by decide, by decide, fun h => absurd h e3⟩
end Go.Proofs.YtlllejgpmdeeiaaDoor
