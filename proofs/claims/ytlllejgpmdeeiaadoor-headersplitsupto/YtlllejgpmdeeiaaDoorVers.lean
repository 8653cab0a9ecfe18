/- What header.reader's versions answers: a contract. -/
import Derived.Test.YtlllejgpmdeeiaaDoorSpoken
import Derived.Deep.LoopGhost
import Derived.OwnWalk
import Derived.WalkMore
namespace Go.Proofs.YtlllejgpmdeeiaaDoor
open Go.ChangeShapes Go.WideShapes Go.ChangeAt Go.RowKit
set_option linter.unusedVariables false

theorem info3 : (Tryd.prog.info? 3).map (fun i => (i.zero, i.size, i.bytes)) = some (some (.int .i64 0), 1, 8) := by kernel_rfl
theorem vers_succ (l : List UInt8) (a i : Nat) : vers l a (i + 1) = vers l a i ++ [((num (sub l (a + 4 * i) 4) : Nat) : Int)] := by
  unfold vers; rw [List.range_succ, List.map_append]; rfl
theorem vers_length (l : List UInt8) (a i : Nat) : (vers l a i).length = i := by simp [vers]
theorem ic_append (a b : List Int) : ic (a ++ b) = ic a ++ ic b := by simp [ic]
theorem ints_shape {w : World} {base n : Nat} {v : Value} {xs : List Value} (h : w.ownsRow base 3 1 v n xs) (hn : 0 < n) : ∃ g cap, v = .slice (some ⟨g, 0, none⟩) n cap := by
  obtain ⟨hl, ⟨_, h1⟩ | ⟨g, cap, cur, he, _⟩⟩ := h
  · omega
  · exact ⟨g, cap, he⟩
theorem new_int {w : World} (V : Int) : ∀ j u, [Value.int .i64 V][j]? = some u → (w.alloc (.cells #[.int .i64 V] 3)).cell? ((⟨w.heap.size, 0, none⟩ : Addr).add j) = some u := by
  intro j u hu
  cases j with
  | zero =>
    simp at hu
    subst hu
    rw [add_none]
    unfold World.cell?
    rw [heap_alloc_new]
    rfl
  | succ j => simp at hu
theorem Hd.alloc {w : World} {H : Nat} {k ver : Int} {dst src tok : Value} {len : Int} {ph : Bool} {lst : Value} {tg : List Value} (h : Hd w H k ver dst src tok len ph lst tg) (o : Obj) : Hd (w.alloc o) H k ver dst src tok len ph lst tg :=
  ⟨(Below.heap_alloc w o H h.lt).trans h.1, h.2⟩
theorem Hd.grown {w w' : World} {H B : Nat} {k ver : Int} {dst src tok : Value} {len : Int} {ph : Bool} {lst v : Value} {tg : List Value} (h : Hd w H k ver dst src tok len ph lst tg) (hg : w.grownBy w' v.ownBlock) (hb : ∀ g, v.ownBlock = some g → B ≤ g) (hH : H < B) : Hd w' H k ver dst src tok len ph lst tg :=
  ⟨(hg.block H h.lt (fun e => by have := hb H e.symm; omega)).trans h.1, h.2⟩
theorem Rd.alloc {w : World} {R : Nat} {s : Value} {a : Int} {lk : Bool} (h : Rd w R s a lk) (o : Obj) : Rd (w.alloc o) R s a lk := (Below.heap_alloc w o R h.lt).trans h
theorem Rd.grown {w w' : World} {R B : Nat} {s v : Value} {a : Int} {lk : Bool} (h : Rd w R s a lk) (hg : w.grownBy w' v.ownBlock) (hb : ∀ g, v.ownBlock = some g → B ≤ g) (hR : R < B) : Rd w' R s a lk :=
  (hg.block R h.lt (fun e => by have := hb R e.symm; omega)).trans h
theorem Two.grown {R H : Nat} {u w w' : World} {v : Value} (h : Two R H u w) (hg : w.grownBy w' v.ownBlock) (hb : ∀ g, v.ownBlock = some g → u.heap.size ≤ g) : Two R H u w' :=
  ⟨hg.os.trans h.os, hg.tape.trans h.tape, hg.output.trans h.output, Nat.le_trans h.size hg.size, fun k hk h1 h2 => (hg.block k (Nat.lt_of_lt_of_le hk h.size) (fun e => by have := hb k e.symm; omega)).trans (h.block k hk h1 h2)⟩
theorem owns_ge {w : World} {B n : Nat} {v : Value} {xs : List Value} (h : w.ownsRow B 3 1 v n xs) : ∀ g, v.ownBlock = some g → B ≤ g := fun g hg => (h.lt g hg).1
theorem In.below {w w' : World} {R H b off cap : Nat} {l : List UInt8} (h : In w R H b off cap l) (hb : Below w.heap.size w w') : In w' R H b off cap l :=
  ⟨Sl_below h.sl hb, Tb_below h.tb hb (Tb_pos h.tb), h.ne, h.bR, h.bH, h.zR, h.zH⟩
theorem owns_setBelow {w : World} {B n : Nat} {v : Value} {xs : List Value} (h : w.ownsRow B 3 1 v n xs) {p : Addr} (hp : p.block < B) (u : Value) : (w.setCell p u).ownsRow B 3 1 v n xs := ownsRow_setCell_below h hp u
theorem owns_only {w w' : World} {R B n : Nat} {v : Value} {xs : List Value} (h : w.ownsRow B 3 1 v n xs) (o : Only R w w') (hR : R < B) : w'.ownsRow B 3 1 v n xs := by
  obtain ⟨hl, hc | ⟨g, cap, cur, he, k1, k2, k3⟩⟩ := h
  · exact ⟨hl, .inl hc⟩
  · exact ⟨hl, .inr ⟨g, cap, cur, he, k1, (o.block g (by omega)).trans k2, k3⟩⟩

theorem In.grown {w w' : World} {R H b off cap B : Nat} {l : List UInt8} {v : Value} (h : In w R H b off cap l) (hg : w.grownBy w' v.ownBlock) (hb : ∀ g, v.ownBlock = some g → B ≤ g) (hbB : b < B) (hB : B ≤ w.heap.size) : In w' R H b off cap l := by
  refine ⟨?_, ?_, h.ne, h.bR, h.bH, h.zR, h.zH⟩
  · intro j hj
    obtain ⟨b', off', he, hc⟩ := h.sl j hj
    simp only [Option.some.injEq, Addr.mk.injEq] at he
    obtain ⟨rfl, rfl, _⟩ := he
    exact ⟨b, off, rfl, (World.cell?_of_block (w := w) (w' := w') (a := ⟨b, off + j, none⟩) (hg.block b (by omega) (fun e => by have := hb b e.symm; omega))).trans hc⟩
  · obtain ⟨t0, t1, t2, t3⟩ := h.tb
    have e := hg.block 0 (Tb_pos h.tb) (fun e => by have := hb 0 e.symm; omega)
    exact ⟨(World.cell?_of_block (w := w) (a := ⟨0, 0, none⟩) e).trans t0, (World.cell?_of_block (w := w) (a := ⟨0, 1, none⟩) e).trans t1, (World.cell?_of_block (w := w) (a := ⟨0, 2, none⟩) e).trans t2, (World.cell?_of_block (w := w) (a := ⟨0, 3, none⟩) e).trans t3⟩
theorem In.alloc {w : World} {R H b off cap : Nat} {l : List UInt8} (h : In w R H b off cap l) (o : Obj) : In (w.alloc o) R H b off cap l := h.below ((Below.refl _ _).alloc (Nat.le_refl _) o)

/-- the loop's relation behind i rounds -/
structure VR (w wr : World) (R H b off cap : Nat) (l : List UInt8) (a : Nat) (d s : Option (Nat × Nat)) (i : Nat) (lo : Option Addr) (lc : Nat) : Prop where
  two : Two R H w wr
  inn : In wr R H b off cap l
  rd : Rd wr R (.slice (some ⟨b, off, none⟩) l.length cap) ((a + 4 * i : Nat) : Int) false
  hd : Hd wr H 4 0 (pv b off d) (pv b off s) (.slice none 0 0) 0 false (.slice lo i lc) (bc zs)
  own : wr.ownsRow w.heap.size 3 1 (.slice lo i lc) i (ic (vers l a i))

theorem g4_yes {l : List UInt8} {A : Nat} (h : A + 4 ≤ l.length) : gV l A 4 = (num (sub l A 4) : Nat) ∧ gN l A 4 = ((A + 4 : Nat) : Int) ∧ gE l A 4 = 0 := by
  have ho : gOk l.length A 4 := by unfold gOk; omega
  have ha : ¬ gArg l.length A 4 := by unfold gArg; omega
  exact ⟨if_pos ho, (if_pos ho).trans (by omega), (if_neg ha).trans (if_pos ho)⟩
theorem g4_no {l : List UInt8} {A : Nat} (h : ¬ A + 4 ≤ l.length) : gE l A 4 ≠ 0 := by
  have ho : ¬ gOk l.length A 4 := by unfold gOk; omega
  unfold gE
  by_cases ha : gArg l.length A 4
  · rw [if_pos ha]; decide
  · rw [if_neg ha, if_neg ho]; decide

set_option maxRecDepth 10000 in
theorem versions_rd (R H b off cap : Nat) (l : List UInt8) (a : Nat) (d s : Option (Nat × Nat)) (w : World) (hi : In w R H b off cap l) (h : Rd w R (.slice (some ⟨b, off, none⟩) l.length cap) (a : Int) false)
    (hh : Hd w H 4 0 (pv b off d) (pv b off s) (.slice none 0 0) 0 false (.slice none 0 0) (bc zs)) (h1 : a ≤ l.length) (hp : 0 < l.length) (hl : l.length ≤ 70368744177664) (hc : l.length ≤ cap) (hcm : cap ≤ 9223372036854775807) :
    Calls Tryd.prog 56 #[.pointer (some ⟨R, 0, none⟩), .pointer (some ⟨H, 0, none⟩)] w fun e w' => ∃ E, e = .returned (.int .i64 E) ∧ Done w w' R H b off cap l E (pVersions l d s a) := by
  obtain ⟨i0, hi0, hz0, hz1, hz2⟩ := info_parts info3
  have HV : Hid (VR w w R H b off cap l a d s 0 none 0) := ⟨Two.refl _ _ _, hi, h, hh, by simp [vers, ic], .inl ⟨rfl, rfl⟩⟩
  have n1 : ¬ R = H := hi.ne
  have n2 : ¬ H = R := fun h => n1 h.symm
  have rlt := h.lt
  have blt : b < w.heap.size := by
    obtain ⟨b', off', he, hx⟩ := hi.sl 0 hp
    simp only [Option.some.injEq, Addr.mk.injEq, and_true] at he
    obtain ⟨rfl, rfl⟩ := he
    exact World.block_lt_of_cell? w _ hx
  have hlt := hh.lt
  clear h hh hi
  go_enter Tryd.func56, Tryd.ntmps56
  go_wp2
  go_step3
  go_wp2
  go_step3
  go_wp2
  go_loopg [5] (l.length + 1) (fun k v wr => ∃ i lo lc, a + 4 * i ≤ l.length ∧ k = l.length + 1 - i ∧ Hid (VR w wr R H b off cap l a d s i lo lc))
  case atStart => exact ⟨0, none, 0, by omega, by omega, HV⟩
  case round =>
    obtain ⟨i, lo, lc, hi, hk, HR⟩ := hrel
    clear HV
    have N := fun W (hW : Rd W R (.slice (some ⟨b, off, none⟩) l.length cap) ((a + 4 * i : Nat) : Int) false) (hs : Sl W (some ⟨b, off, none⟩) l) => number_rd R (some ⟨b, off, none⟩) l cap ((a + 4 * i : Nat) : Int) 4 false W hW hs (by omega) (by omega)
    by_cases hf : a + 4 * i + 4 ≤ l.length
    · obtain ⟨e1, e2, e3⟩ := g4_yes hf
      rw [e1, e2, e3, pV_yes, pA_yes, pL_yes] at N
      have HN := mkHid N
      clear N e1 e2 e3
      obtain ⟨V, hV⟩ : ∃ V : Int, ((num (sub l (a + 4 * i) 4) : Nat) : Int) = V := ⟨_, rfl⟩
      rw [hV] at HN
      have HVV := mkHid hV
      clear hV
      go_wp2_with fail
      refine (HN.out _ HR.out.rd HR.out.inn.sl).mono ?_
      rintro e w2 ⟨rfl, g1, g2⟩
      have HD := mkHid (HR.out.hd.other g2 n2)
      have HRD := mkHid g1
      have HO := mkHid (owns_only HR.out.own g2 rlt)
      have HT := mkHid (HR.out.two.only g2)
      have HI := mkHid (HR.out.inn.only g2)
      have r2 := g1.c2
      have f2 := HD.out.fr
      have d7 := HD.out.c7
      clear g1 g2
      go_wp2_with ((at_builtin; refine wpList_append_own _ rfl (.tmp 18) (.tmp 20) 23 rfl w.heap.size 3 i0 (.int .i64 0) 1 8 Tryd.underlying23 hi0 hz0 hz1 hz2 rfl (by decide) (.slice lo i lc) i (ic (vers l a i)) rfl (HO.out.alloc _) ⟨w2.heap.size, 0, none⟩ 1 1 [.int .i64 V] rfl rfl (new_int V) (by simp [Value.oneCell']) (by unfold maxLen; omega) (by omega) (by have := HT.out.size; simp; omega) ?_; intro v' w3 hown hgrow hnn; obtain ⟨g', cp', hv'⟩ := ints_shape hown (by omega); subst hv'; have HO3 := mkHid hown; have HG3 := mkHid hgrow; clear hown hgrow hnn; have HD3 := mkHid ((HD.out.alloc (.cells #[.int .i64 V] 3)).grown HG3.out (owns_ge HO.out) hlt); have f3 := HD3.out.fr; have d73 := HD3.out.c7))
      go_roundg (l.length + 1 - (i + 1))
      case measure => omega
      case rel =>
        refine ⟨i + 1, some ⟨g', 0, none⟩, cp', by omega, rfl, ?_⟩
        have hb := owns_ge HO.out
        have hsz := HT.out.size
        refine ⟨((HT.out.alloc _).grown HG3.out hb).setCell rfl _, ((HI.out.alloc _).grown HG3.out hb blt (by simp; omega)).set 7 _, ?_, HD3.out.set7 _, ?_⟩
        · rw [show a + 4 * (i + 1) = a + 4 * i + 4 by omega]
          exact ((HRD.out.alloc _).grown HG3.out hb rlt).setOther n1 _
        · rw [vers_succ, ic_append, HVV.out]
          exact owns_setBelow HO3.out hlt _
    · have he := g4_no hf
      rw [pV_no he, pA_no he, pL_no he] at N
      have HN := mkHid N
      clear N he
      have bAl : ((a + 4 * i : Nat) : Int) ≤ l.length := by omega
      obtain ⟨A, hA⟩ : ∃ A : Nat, a + 4 * i = A := ⟨_, rfl⟩
      rw [hA] at HN bAl hf hi
      have HA := mkHid hA
      clear hA
      by_cases hrest : A < l.length
      · have hr : Hid (pVersions l d s a = none) := if_neg (by have := HA.out; omega)
        have hd : decide ((0 : Int) < (l.length : Int) - (A : Int)) = true := decide_eq_true (by omega)
        go_wp2_with fail
        refine (HN.out _ (by have := HR.out.rd; rw [HA.out] at this; exact this) HR.out.inn.sl).mono ?_
        rintro e w2 ⟨rfl, g1, g2⟩
        have HD := mkHid (HR.out.hd.other g2 n2)
        have HRD := mkHid g1
        have HT := mkHid (HR.out.two.only g2)
        have r2 := g1.c2
        clear g1 g2
        go_wp2_with fail
        refine (left_any R _ l.length cap A true _ HRD.out (by omega) bAl (by omega)).mono ?_
        rintro e w' ⟨rfl, q, rfl⟩
        go_wp2
        rw [Exit.noGoto_ret]
        go_ret
        exact ⟨11, rfl, Done.no (HT.out.drewN _) (HRD.out.drewN _) (HD.out.drewN _) (by decide) hr.out⟩
      · have hAl : A = l.length := by omega
        have hd : decide ((0 : Int) < (l.length : Int) - (A : Int)) = false := decide_eq_false (by omega)
        by_cases hz : i = 0
        · have hr : Hid (pVersions l d s a = none) := if_neg (by have := HA.out; omega)
          subst hz
          have HAl := mkHid hAl
          clear hAl
          go_wp2_with fail
          refine (HN.out _ (by have := HR.out.rd; rw [HA.out] at this; exact this) HR.out.inn.sl).mono ?_
          rintro e w2 ⟨rfl, g1, g2⟩
          have HD := mkHid (HR.out.hd.other g2 n2)
          have HRD := mkHid g1
          have HT := mkHid (HR.out.two.only g2)
          have r2 := g1.c2
          have d7 := HD.out.c7
          clear g1 g2
          go_wp2_with fail
          refine (left_any R _ l.length cap A true _ HRD.out (by omega) bAl (by omega)).mono ?_
          rintro e w' ⟨rfl, q, rfl⟩
          go_wp2
          rw [Exit.noGoto_ret]
          go_ret
          exact ⟨11, rfl, Done.no (HT.out.drewN _) (HRD.out.drewN _) (HD.out.drewN _) (by decide) hr.out⟩
        · have hr : Hid (pVersions l d s a = some ⟨4, 0, d, s, none, 0, false, vers l a i, zs, l.length⟩) := by
            have hA := HA.out
            unfold Hid pVersions
            rw [if_pos (by omega), Int.toNat_natCast, show (l.length - a) / 4 = i by omega]
          have HAl := mkHid hAl
          clear hAl
          go_wp2_with fail
          refine (HN.out _ (by have := HR.out.rd; rw [HA.out] at this; exact this) HR.out.inn.sl).mono ?_
          rintro e w2 ⟨rfl, g1, g2⟩
          have HD := mkHid (HR.out.hd.other g2 n2)
          have HRD := mkHid g1
          have HO := mkHid (owns_only HR.out.own g2 rlt)
          have HT := mkHid (HR.out.two.only g2)
          have r2 := g1.c2
          have d7 := HD.out.c7
          clear g1 g2
          go_wp2_with fail
          refine (left_any R _ l.length cap A true _ HRD.out (by omega) bAl (by omega)).mono ?_
          rintro e w' ⟨rfl, q, rfl⟩
          go_wp2
          rw [Exit.noGoto_ret]
          go_ret
          refine ⟨0, rfl, Done.yes (HT.out.drewN _) hr.out (lk := true) ?_ (HdP_of (HD.out.drewN _) ⟨rfl, rfl⟩ ⟨rfl, rfl⟩ ⟨rfl, rfl⟩) (.inr ⟨?_, ?_⟩)⟩
          · have := HRD.out; rw [HAl.out] at this; exact this
          · intro hn; have := congrArg List.length hn; rw [vers_length] at this; simp at this; exact hz this
          · show World.ownsRow _ _ _ _ _ (vers l a i).length _
            rw [vers_length]
            exact HO.out
end Go.Proofs.YtlllejgpmdeeiaaDoor
