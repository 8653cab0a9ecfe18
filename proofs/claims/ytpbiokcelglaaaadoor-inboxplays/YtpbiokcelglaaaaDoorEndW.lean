/- inbox: InboxEnds, the walk. -/
import Derived.Test.YtpbiokcelglaaaaDoorPut
import Derived.Test.YtpbiokcelglaaaaDoorNew
namespace Go.Proofs.YtpbiokcelglaaaaDoor
open Go.RowKit Go.Maps
set_option linter.unusedVariables false

theorem and16 (a : Int) : ∃ F : Nat, F ≤ 65535 ∧ bits .and .i64 a 65535 = (F : Int) := by
  have h : (BitVec.ofInt 64 a &&& BitVec.ofInt 64 65535).toNat ≤ 65535 := by
    rw [BitVec.toNat_and]
    exact Nat.and_le_right
  have e : bits .and .i64 a 65535 = IntKind.i64.wrap ((BitVec.ofInt 64 a &&& BitVec.ofInt 64 65535).toNat : Int) := rfl
  refine ⟨_, h, ?_⟩
  rw [e, IntKind.wrap_i64]
  omega
theorem stop_ex {V : Nat → Option UInt8} {B : Nat} (hB : ∀ p, B ≤ p → V p = none) (k : Nat) : ∀ R, R ≤ B → B - R ≤ k → ∃ E, Stop V R E ∧ E ≤ B := by
  induction k with
  | zero =>
    intro R h1 h2
    obtain rfl : R = B := by omega
    exact ⟨R, ⟨Nat.le_refl _, fun p h1 h2 => by omega, hB R (Nat.le_refl _)⟩, Nat.le_refl _⟩
  | succ k ih =>
    intro R h1 h2
    by_cases hv : V R = none
    · exact ⟨R, ⟨Nat.le_refl _, fun p h1 h2 => by omega, hv⟩, h1⟩
    · have hlt : R < B := by
        by_cases h : R < B
        · exact h
        · exact absurd (hB R (by omega)) hv
      obtain ⟨E, ⟨e1, e2, e3⟩, e4⟩ := ih (R + 1) (by omega) (by omega)
      refine ⟨E, ⟨by omega, fun p h1 h2 => ?_, e3⟩, e4⟩
      by_cases hp : p = R
      · rw [hp]; exact hv
      · exact e2 p (by omega) h2
theorem Sl.chg {W W' : World} {la : Option Addr} {l : List UInt8} (h : Sl W la l) (hc : Chg (fun _ => False) W W') : Sl W' la l := by
  intro j hj
  obtain ⟨g, off, e, hx⟩ := h j hj
  exact ⟨g, off, e, (World.cell?_of_block (w := W) (a := ⟨g, off + j, none⟩) (hc.2.2.2.2 g (World.block_lt_of_cell? _ _ hx) (fun h => h))).trans hx⟩
theorem Tb.chg {W W' : World} (h : Tb W) (hc : Chg (fun _ => False) W W') : Tb W' := by
  intro i hi
  have hx := h i hi
  exact (World.cell?_of_block (w := W) (a := ⟨0, i, none⟩) (hc.2.2.2.2 0 (World.block_lt_of_cell? _ _ hx) (fun h => h))).trans hx
/-- An end that is told again, or first. -/
theorem end_ok (b mb n o lm rc : Nat) (rm : Int) (kn : Bool) (W : World) (hT : Tb W) (hI : Ib W b mb n (fun _ => none) 0 0 0 rm lm rc kn) (ho : o ≤ 65535) (hn : n ≤ 1000000000000000000) (hrc : rc ≤ 65535) (h1 : kn = true → o ≤ rc) (h2 : rc ≤ o) (h3 : o ≤ lm) :
    Calls Tryd.prog 14 #[.pointer (some ⟨b, 0, none⟩), .int .i64 o] W fun e w' => e = .returned (.int .i64 0) ∧ ((∃ nn, nn ≤ n ∧ Ib w' b mb nn (fun _ => none) 0 0 0 rm lm o true) ∧ Chg (fun j => j = b ∨ j = mb) W w') := by
  refine end_of ?_
  refine (put_ok b mb n o 0 0 0 0 0 lm rc o (fun _ => none) 0 rm kn true none [] [] W rfl (Nat.le_refl _) (by omega) (by omega) (by omega) ⟨by omega, by omega⟩ hn hT hI (fun j hj => by simp at hj) rfl ⟨Nat.le_refl _, fun p h1 h2 => by omega, rfl⟩ (by omega) h1 (fun _ => h2) h3 (by omega)).mono ?_
  rintro e w' ⟨rfl, ⟨nn, hnn, hib⟩, hch⟩
  refine ⟨rfl, ⟨nn, by simpa [fc] using hnn, ?_⟩, hch⟩
  have : (kn || true) = true := by simp
  rw [this] at hib
  exact hib
/-- What stands behind the first End. -/
structure St (W : World) (b mb F : Nat) (la : Option Addr) (l : List UInt8) (w : World) : Prop where
  ib : ∃ nn, nn ≤ 10 ∧ Ib w b mb nn (fun _ => none) 0 0 0 1048576 (1048576 : Nat) F true
  tb : Tb w
  sl : Sl w la l
  bel : Below W.heap.size W w
  hb : W.heap.size ≤ b
  hm : W.heap.size ≤ mb
theorem St.step {W : World} {b mb F' : Nat} {la : Option Addr} {l : List UInt8} {w w' : World} {nn n' : Nat} {p R hd rm lm rc : Int} {kn : Bool} {V : Nat → Option UInt8} (h0 : Ib w b mb nn V p R hd rm lm rc kn) (ht : Tb w) (hs : Sl w la l) (hbel : Below W.heap.size W w) (hb : W.heap.size ≤ b) (hm : W.heap.size ≤ mb)
    (hc : Chg (fun j => j = b ∨ j = mb) w w') (hn : n' ≤ 10) (h1 : Ib w' b mb n' (fun _ => none) 0 0 0 1048576 (1048576 : Nat) F' true) : St W b mb F' la l w' :=
  ⟨⟨n', hn, h1⟩, h0.tb hc ht, h0.sl hc hs, hbel.trans ⟨hc.1, hc.2.1, hc.2.2.1, hc.2.2.2.1, fun j hj => hc.2.2.2.2 j (Nat.lt_of_lt_of_le hj hbel.size) (by omega)⟩, hb, hm⟩
theorem St.same {W : World} {b mb F : Nat} {la : Option Addr} {l : List UInt8} {w : World} (h : St W b mb F la l w) (hF : F ≤ 65535) : Calls Tryd.prog 14 #[.pointer (some ⟨b, 0, none⟩), .int .i64 F] w fun e w' => e = .returned (.int .i64 0) ∧ St W b mb F la l w' := by
  obtain ⟨nn, hnn, hib⟩ := h.ib
  refine (end_ok b mb nn F 1048576 F 1048576 true w h.tb hib hF (by omega) hF (fun _ => Nat.le_refl _) (Nat.le_refl _) (by omega)).mono ?_
  rintro e w' ⟨rfl, ⟨n', hn', h1⟩, hc⟩
  exact ⟨rfl, St.step hib h.tb h.sl h.bel h.hb h.hm hc (by omega) h1⟩
theorem St.other {W : World} {b mb F G : Nat} {la : Option Addr} {l : List UInt8} {w : World} (h : St W b mb F la l w) (hG : G ≤ 65535) (hne : G ≠ F) : Calls Tryd.prog 14 #[.pointer (some ⟨b, 0, none⟩), .int .i64 G] w fun e w' => e = .returned (.int .i64 33) ∧ St W b mb F la l w' := by
  obtain ⟨nn, hnn, hib⟩ := h.ib
  refine end_of ?_
  refine (put_final b mb nn G 0 0 1048576 F _ 0 0 0 1048576 true true none w (by omega) hib ((Nat.lt_or_gt_of_ne hne).elim (fun h => .inr ⟨rfl, h⟩) (fun h => .inl ⟨rfl, h⟩))).mono ?_
  rintro e w' ⟨rfl, rfl⟩
  exact ⟨rfl, h⟩
theorem St.behind {W : World} {b mb F N cap : Nat} {la : Option Addr} {l : List UInt8} {w : World} (h : St W b mb F la l w) (hF : F ≤ 65535) (hN : 0 < N) (hN' : N ≤ 140737488351232) : Calls Tryd.prog 10 #[.pointer (some ⟨b, 0, none⟩), .int .i64 F, .slice la N cap, .bool false] w fun e w' => e = .returned (.int .i64 33) ∧ St W b mb F la l w' := by
  obtain ⟨nn, hnn, hib⟩ := h.ib
  refine (put_final b mb nn F N cap 1048576 F _ 0 0 0 1048576 true false la w (by omega) hib (.inl ⟨rfl, by omega⟩)).mono ?_
  rintro e w' ⟨rfl, rfl⟩
  exact ⟨rfl, h⟩
theorem St.last {W : World} {b mb F N cap : Nat} {la : Option Addr} {l : List UInt8} {w : World} (h : St W b mb F la l w) (hF : F ≤ 65535) (hl : l.length = N) (hN : N ≤ F) (hcap : N ≤ cap) : Calls Tryd.prog 10 #[.pointer (some ⟨b, 0, none⟩), .int .i64 ((F - N : Nat) : Int), .slice la N cap, .bool true] w fun e w' => e = .returned (.int .i64 0) ∧ Below W.heap.size W w' := by
  obtain ⟨nn, hnn, hib⟩ := h.ib
  have hdr : l = l.drop (min N (0 - (F - N))) := by rw [show min N (0 - (F - N)) = 0 by omega]; rfl
  obtain ⟨E, hE, hE'⟩ := stop_ex (V := putF (fun _ => none) (max (F - N) 0) l) (B := F) (fun p hp => putF_out _ _ _ _ (by omega)) F 0 (by omega) (by omega)
  refine (put_ok b mb nn (F - N) 0 N cap 0 E 1048576 F F (fun _ => none) 0 1048576 true true la l l w hl hcap (by omega) (by omega) (by omega) ⟨by omega, by omega⟩ (by omega) h.tb hib h.sl hdr hE (by omega) (fun _ => by omega) (fun _ => by omega) (by omega) (by omega)).mono ?_
  rintro e w' ⟨rfl, ⟨n', hn', h1⟩, hc⟩
  have hb := h.hb
  have hm := h.hm
  exact ⟨rfl, h.bel.trans ⟨hc.1, hc.2.1, hc.2.2.1, hc.2.2.2.1, fun j hj => hc.2.2.2.2 j (Nat.lt_of_lt_of_le hj h.bel.size) (by omega)⟩⟩

set_option maxRecDepth 100000 in
set_option maxHeartbeats 1000000 in
theorem ends_walk (fi ot : Int) (la : Option Addr) (l : List UInt8) (cap : Nat) (W : World) (hT : Tb W) (hs : Sl W la l) (hl : l.length ≤ 140737488351232) (hcap : l.length ≤ cap) :
    Calls Tryd.prog 6 #[.int .i64 fi, .int .i64 ot, .slice la l.length cap] W fun e w' => e = .returned (.bool true) ∧ Below W.heap.size W w' := by
  obtain ⟨F, hF, hA⟩ := and16 fi
  obtain ⟨G, hG, hB⟩ := and16 ot
  have HT : Aside _ := hT
  have HS : Aside _ := hs
  have NC : Aside _ := new_c 1048576 W (by omega) (by omega)
  obtain ⟨N, hN⟩ : ∃ N, l.length = N := ⟨_, rfl⟩
  rw [hN] at hl hcap ⊢
  have HN : Aside (l.length = N) := hN
  clear hT hs hN
  go_enter Tryd.func6, Tryd.ntmps6
  go_wp2_with fail
  refine Calls.mono NC.out ?_
  rintro e W1 ⟨rfl, hib, hch⟩
  have hEC := end_ok _ _ 0 F 1048576 0 1048576 false W1 (Tb.chg HT.out hch) hib hF (by omega) (by omega) (fun h => by cases h) (by omega) (by omega)
  have HST : Aside (∀ w' n', n' ≤ 0 → Ib w' (W.heap.size + 1) W.heap.size n' (fun _ => none) 0 0 0 1048576 (1048576 : Nat) F true → Chg (fun j => j = W.heap.size + 1 ∨ j = W.heap.size) W1 w' → St W (W.heap.size + 1) W.heap.size F la l w') :=
    fun w' n' hn' h1 hc => St.step hib (Tb.chg HT.out hch) (Sl.chg HS.out hch) ⟨hch.1, hch.2.1, hch.2.2.1, hch.2.2.2.1, fun j hj => hch.2.2.2.2 j hj (fun h => h)⟩ (by omega) (Nat.le_refl _) hc (by omega) h1
  have HEC : Aside _ := hEC
  have HWS : Aside _ := Nat.le_refl W.heap.size
  generalize W.heap.size + 1 = b at *
  clear hEC hib hch NC
  go_wp2_with fail
  refine Calls.mono HEC.out ?_
  rintro e W2 ⟨rfl, ⟨nn, hnn, hib⟩, hch⟩
  have hst := HST.out W2 nn hnn hib hch
  have HC1 : Aside _ := final_c hib
  have HC2 : Aside _ := reach_c hib
  have HH : Aside (St W b W.heap.size F la l W2) := hst
  clear hib hch hst HST HEC
  go_wp2_with fail
  refine Calls.mono HC1.out ?_
  rintro e w3 ⟨rfl, rfl⟩
  go_wp2_with fail
  refine Calls.mono HC2.out ?_
  rintro e w4 ⟨rfl, rfl⟩
  by_cases hGF : G = F
  · subst hGF
    go_wp2_with fail
    refine Calls.mono (St.same HH.out hF) ?_
    rintro e w5 ⟨rfl, hst⟩
    have HH5 : Aside (St W b W.heap.size G la l w5) := hst
    clear hst HH HC1 HC2
    by_cases hN0 : N = 0
    · subst hN0
      have hL := St.last HH5.out hF HN.out (Nat.zero_le _) hcap
      rw [Nat.sub_zero] at hL
      have HL : Aside _ := hL
      have i1 : IntKind.i64.wrap ((G : Int) - 0) = (G : Int) := by rw [IntKind.wrap_i64]; omega
      have i2 : ¬ (G : Int) < 0 := by omega
      clear hL
      go_wp2_with fail
      refine Calls.mono HL.out ?_
      rintro e w6 ⟨rfl, hbel⟩
      have HBE : Aside _ := hbel
      clear hbel
      go_wp2
      go_ret
      exact ⟨rfl, HBE.out⟩
    · have HP : Aside _ := St.behind (cap := cap) HH5.out hF (Nat.pos_of_ne_zero hN0) hl
      have i0 : (0 : Int) < (N : Int) := by omega
      by_cases hNF : N ≤ G
      · have i1 : IntKind.i64.wrap ((G : Int) - (N : Int)) = ((G - N : Nat) : Int) := by rw [IntKind.wrap_i64]; omega
        have i2 : ¬ (G : Int) < (N : Int) := by omega
        go_wp2_with fail
        refine Calls.mono HP.out ?_
        rintro e w6 ⟨rfl, hst⟩
        have HL : Aside _ := St.last hst hF HN.out hNF hcap
        clear hst HP
        generalize (G - N : Nat) = FN at i1 HL
        go_wp2_with fail
        refine Calls.mono HL.out ?_
        rintro e w7 ⟨rfl, hbel⟩
        have HBE : Aside _ := hbel
        clear hbel
        go_wp2
        go_ret
        exact ⟨rfl, HBE.out⟩
      · have i2 : (G : Int) < (N : Int) := by omega
        go_wp2_with fail
        refine Calls.mono HP.out ?_
        rintro e w6 ⟨rfl, hst⟩
        have HBE : Aside _ := hst.bel
        clear hst HP
        go_wp2
        go_ret
        exact ⟨rfl, HBE.out⟩
  · have hne : ¬ (G : Int) = (F : Int) := by omega
    have hne2 : ((G : Int) == (F : Int)) = false := by simp; omega
    go_wp2_with fail
    refine Calls.mono (St.other HH.out hG hGF) ?_
    rintro e w5 ⟨rfl, hst⟩
    have HH5 : Aside (St W b W.heap.size F la l w5) := hst
    clear hst HH HC1 HC2
    by_cases hN0 : N = 0
    · subst hN0
      have hL := St.last HH5.out hF HN.out (Nat.zero_le _) hcap
      rw [Nat.sub_zero] at hL
      have HL : Aside _ := hL
      have i1 : IntKind.i64.wrap ((F : Int) - 0) = (F : Int) := by rw [IntKind.wrap_i64]; omega
      have i2 : ¬ (F : Int) < 0 := by omega
      clear hL
      go_wp2_with fail
      refine Calls.mono HL.out ?_
      rintro e w6 ⟨rfl, hbel⟩
      have HBE : Aside _ := hbel
      clear hbel
      go_wp2
      go_ret
      exact ⟨rfl, HBE.out⟩
    · have HP : Aside _ := St.behind (cap := cap) HH5.out hF (Nat.pos_of_ne_zero hN0) hl
      have i0 : (0 : Int) < (N : Int) := by omega
      by_cases hNF : N ≤ F
      · have i1 : IntKind.i64.wrap ((F : Int) - (N : Int)) = ((F - N : Nat) : Int) := by rw [IntKind.wrap_i64]; omega
        have i2 : ¬ (F : Int) < (N : Int) := by omega
        go_wp2_with fail
        refine Calls.mono HP.out ?_
        rintro e w6 ⟨rfl, hst⟩
        have HL : Aside _ := St.last hst hF HN.out hNF hcap
        clear hst HP
        generalize (F - N : Nat) = FN at i1 HL
        go_wp2_with fail
        refine Calls.mono HL.out ?_
        rintro e w7 ⟨rfl, hbel⟩
        have HBE : Aside _ := hbel
        clear hbel
        go_wp2
        go_ret
        exact ⟨rfl, HBE.out⟩
      · have i2 : (F : Int) < (N : Int) := by omega
        go_wp2_with fail
        refine Calls.mono HP.out ?_
        rintro e w6 ⟨rfl, hst⟩
        have HBE : Aside _ := hst.bel
        clear hst HP
        go_wp2
        go_ret
        exact ⟨rfl, HBE.out⟩
end Go.Proofs.YtpbiokcelglaaaaDoor
