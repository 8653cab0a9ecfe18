/- What header.reader's retry answers: a contract. -/
import Derived.Test.YtlllejgpmdeeiaaDoorPh
namespace Go.Proofs.YtlllejgpmdeeiaaDoor
open Go.ChangeShapes Go.WideShapes Go.ChangeAt Go.RowKit
set_option linter.unusedVariables false

/-- 'copy(d, s)' into a row that is known whole, as one step of a region that draws its order; nothing but that row turns. -/
theorem step_copy_only {P : Program} {ops : Array Oper} {o : Oper} {a : Act} {w : World} {K : Act → World → Prop} {Q : Exit → Act → World → Prop} {E : Prop} (hgd : o.guard = none) (d s : Operand) (dT sT : TypeId)
    (ho : o.op = .call { callee := .builtin .copy, args := #[d, s], argTypes := #[dT, sT] }) (elem : TypeId) (hu : P.underlying dT = some (.slice elem)) (hsz : (P.info? elem).map (·.size) = some 1)
    (g off dLen dCap : Nat) (ad : Addr) (sLen sCap : Nat) (hd : a.eval d = .slice (some ⟨g, off, none⟩) dLen dCap) (hs : a.eval s = .slice (some ad) sLen sCap)
    (cur : List Value) (t : TypeId) (hg : w.heap[g]? = some (.cells cur.toArray t (0, 0))) (cs : List Value) (hn : cs.length = Nat.min sLen dLen)
    (hsrc : ∀ j v, cs[j]? = some v → w.cell? (ad.add j) = some v)
    (hfit : off + cs.length ≤ cur.length) (h1 : ∀ v ∈ cs, v.oneCell' = true)
    (h : ∀ w', Hid (w'.heap[g]? = some (.cells (splice cur off cs).toArray t (0, 0))) → Hid (Only g w w') → K (a.put o.dst (goInt cs.length)) w') :
    if Region.wanted o (yielded ops a.tmps) = true then Oper.wp P o a w K Q else E := by
  have hw : Region.wanted o (yielded ops a.tmps) = true := by simp [Region.wanted, hgd]
  rw [if_pos hw]
  have hrun := run_copy_row (P := P) w dT sT o.type elem g off dLen dCap ad sLen sCap cur.toArray t cs hu hsz hg hn hsrc (by simpa using hfit) h1
  unfold Oper.wp
  simp [execOp, ho, resolve, invoke, builtin, hd, hs, hrun, Result.andThen]
  exact h _ (show _ = _ by simpa [splice] using setRow_heap w g _ _ t _ hg) ⟨rfl, rfl, rfl, by simp [World.setRow], fun k hk => setRow_other w g k _ (by omega)⟩

theorem hc_length (k ver : Int) (dst src tok : Value) (len : Int) (ph : Bool) (lst : Value) (tg : List Value) : (hc k ver dst src tok len ph lst tg).length = 8 + tg.length := by simp [hc]; omega
theorem Two.onlyH {R H : Nat} {a b c : World} (h : Two R H a b) (k : Only H b c) : Two R H a c :=
  h.trans ⟨k.os, k.tape, k.output, Nat.le_of_eq k.size.symm, fun i _ _ h2 => k.block i h2⟩
theorem splice_tag {k ver : Int} {dst src tok : Value} {len : Int} {ph : Bool} {lst : Value} {tg cs : List Value} (h : tg.length = 16) (h16 : cs.length = 16) : splice (hc k ver dst src tok len ph lst tg) 8 cs = hc k ver dst src tok len ph lst cs := by
  unfold splice hc
  rw [h16]
  have e1 : ([.int .i64 k, .int .i64 ver, dst, src, tok, .int .i64 len, .bool ph, lst] ++ tg).take 8 = [.int .i64 k, .int .i64 ver, dst, src, tok, .int .i64 len, .bool ph, lst] := by simp
  have e2 : ([.int .i64 k, .int .i64 ver, dst, src, tok, .int .i64 len, .bool ph, lst] ++ tg).drop (8 + 16) = [] := by
    apply List.drop_eq_nil_of_le; simp [h]
  rw [e1, e2]
  simp

theorem Sl.drop_cells {w : World} {b off : Nat} {l : List UInt8} (hs : Sl w (some ⟨b, off, none⟩) l) (n : Nat) : ∀ j v, (bc (l.drop n))[j]? = some v → w.cell? ((⟨b, off + n, none⟩ : Addr).add j) = some v := by
  intro j v hv
  have hj : j < l.length - n := by
    have := (List.getElem?_eq_some_iff.1 hv).1
    simpa [bc] using this
  obtain ⟨b', off', he, hc⟩ := hs (n + j) (by omega)
  simp only [Option.some.injEq, Addr.mk.injEq] at he
  obtain ⟨rfl, rfl, _⟩ := he
  rw [add_none, Nat.add_assoc, hc]
  simp [bc, List.getElem?_drop, List.getElem?_eq_getElem (show n + j < l.length by omega)] at hv
  rw [hv]

set_option maxRecDepth 10000 in
theorem retry_rd (R H b off cap : Nat) (l : List UInt8) (a : Int) (d s : Option (Nat × Nat)) (w : World) (hi : In w R H b off cap l) (h : Rd w R (.slice (some ⟨b, off, none⟩) l.length cap) a false)
    (hh : Hd w H 3 1 (pv b off d) (pv b off s) (.slice none 0 0) 0 false (.slice none 0 0) (bc zs)) (h0 : 0 ≤ a) (h1 : a ≤ l.length) (hl : l.length ≤ 140737488355327) (hc : l.length ≤ cap) (hcm : cap ≤ 9223372036854775807) :
    Calls Tryd.prog 61 #[.pointer (some ⟨R, 0, none⟩), .pointer (some ⟨H, 0, none⟩)] w fun e w' => ∃ E, e = .returned (.int .i64 E) ∧ Done w w' R H b off cap l E (pRetry l d s a) := by
  have hsz5 : (Tryd.prog.info? 5).map (·.size) = some 1 := by kernel_rfl
  have HR := mkHid h
  have HH := mkHid hh
  have HI := mkHid hi
  have n1 : ¬ R = H := hi.ne
  have n2 : ¬ H = R := fun h => n1 h.symm
  have n3 : ¬ b = H := hi.bH
  have n4 : ¬ H = b := fun h => n3 h.symm
  clear h hh hi
  by_cases hs : (l.length : Int) - a < 16
  · go_enter Tryd.func61, Tryd.ntmps61
    go_wp2_with fail
    refine (left_any R _ l.length cap a false _ HR.out h0 h1 (by omega)).mono ?_
    rintro e w' ⟨rfl, q, rfl⟩
    go_wp2
    go_ret
    exact ⟨10, rfl, Done.no ((Two.refl _ _ _).drewN _) (HR.out.drewN _) (HH.out.drewN _) (by decide) (if_neg (by omega))⟩
  · obtain ⟨N, hN⟩ : ∃ N : Nat, (l.length : Int) - a - 16 = N := Int.eq_ofNat_of_zero_le (by omega)
    obtain ⟨S, hS⟩ : ∃ S, S = pvo b off (some (a.toNat, N)) := ⟨_, rfl⟩
    have ts := tS_yes (b := b) (off := off) (len := l.length) (a := a) (n := N) (by omega) (by omega)
    rw [Int.toNat_natCast] at ts
    have tA1 : tA l.length false a N = a + N := if_pos ⟨rfl, by omega⟩
    have tL1 : tL l.length false a N = false := by unfold tL tO; simp; omega
    have HS := mkHid hS
    have hN' : (l.length : Int) - a = N + 16 := by omega
    have HN := mkHid hN
    have T1 := take_rd R b off l.length cap a N false
    rw [ts.1, ts.2, tA1, tL1, ← hS] at T1
    have HT1 := mkHid T1
    clear ts hN tA1 tL1 T1 hS
    by_cases hbad : N = 0 ∨ 512 < N
    · have hb : decide (0 < N ∧ N ≤ 512) = false := decide_eq_false (by omega)
      go_enter Tryd.func61, Tryd.ntmps61
      go_wp2_with fail
      refine (left_any R _ l.length cap a false _ HR.out h0 h1 (by omega)).mono ?_
      rintro e w' ⟨rfl, q, rfl⟩
      rw [hN']
      go_wp2_with fail
      refine (HT1.out _ (HR.out.drewN _) h0 h1 (by omega) hc hcm (by omega)).mono ?_
      rintro e w2 ⟨rfl, g1, g2⟩
      have HD := mkHid ((HH.out.drewN q).other g2 n2)
      have f2 := HD.out.fr
      have d4 := HD.out.c4
      have HR2 := mkHid (g1.setOther (p := ⟨H, 4, none⟩) n1 (.slice S N N))
      have HT2 := mkHid ((((Two.refl R H w).drewN q).only g2).setCell (p := ⟨H, 4, none⟩) rfl (.slice S N N))
      clear g1 g2
      go_wp2_with fail
      refine (retryToken_any S N N _ (by omega)).mono ?_
      rintro e w' ⟨rfl, rfl⟩
      rw [hb]
      go_wp2
      go_ret
      exact ⟨11, rfl, Done.no HT2.out HR2.out (HD.out.set4 _) (by decide) (if_neg (by have := HN.out; omega))⟩
    · have hb : decide (0 < N ∧ N ≤ 512) = true := decide_eq_true (by omega)
      have ts := tS_yes (b := b) (off := off) (len := l.length) (a := a + N) (n := 16) (by omega) (by omega)
      have tA1 : tA l.length false (a + N) 16 = a + N + 16 := if_pos ⟨rfl, by omega⟩
      have tL1 : tL l.length false (a + N) 16 = false := by unfold tL tO; simp; omega
      have e1 : (a + (N : Int)).toNat = l.length - 16 := by have := HN.out; omega
      have e2 : a + (N : Int) + 16 = l.length := by have := HN.out; omega
      have T2 := take_rd R b off l.length cap (a + N) 16 false
      rw [ts.1, ts.2, tA1, tL1, e1, e2] at T2
      have T2' : ∀ w, _ := T2
      have HT2' := mkHid T2'
      clear ts tA1 tL1 T2 T2' e1 e2
      go_enter Tryd.func61, Tryd.ntmps61
      go_wp2_with fail
      refine (left_any R _ l.length cap a false _ HR.out h0 h1 (by omega)).mono ?_
      rintro e w' ⟨rfl, q, rfl⟩
      rw [hN']
      go_wp2_with fail
      refine (HT1.out _ (HR.out.drewN _) h0 h1 (by omega) hc hcm (by omega)).mono ?_
      rintro e w2 ⟨rfl, g1, g2⟩
      have HD := mkHid ((HH.out.drewN q).other g2 n2)
      have f2 := HD.out.fr
      have d4 := HD.out.c4
      have HR2 := mkHid (g1.setOther (p := ⟨H, 4, none⟩) n1 (.slice S N N))
      have HT2 := mkHid ((((Two.refl R H w).drewN q).only g2).setCell (p := ⟨H, 4, none⟩) rfl (.slice S N N))
      have HI2 := mkHid (((HI.out.drewN q).only g2).set 4 (.slice S N N))
      have HD2 := mkHid (HD.out.set4 (.slice S N N))
      clear g1 g2
      go_wp2_with fail
      refine (retryToken_any S N N _ (by omega)).mono ?_
      rintro e w' ⟨rfl, rfl⟩
      rw [hb]
      go_wp2
      go_region_law ((first
        | (go_simp; go_at_call 55; refine (HT2'.out ((w2.setCell ⟨H, 4, none⟩ (.slice S N N)).drew) HR2.out (by omega) (by omega) (by omega) hc hcm (by omega)).mono ?_; rintro e w3 ⟨rfl, g1, g2⟩; have HR3 := mkHid g1; have HO3 : Hid (Only R (w2.setCell ⟨H, 4, none⟩ (.slice S N N)) w3) := ⟨g2.os, g2.tape, g2.output, g2.size, g2.block⟩; clear g1 g2)
        | (refine step_copy_only rfl (.tmp 26) (.tmp 28) 22 22 rfl 5 Tryd.underlying22 hsz5 H 8 16 16 ⟨b, off + (l.length - 16), none⟩ 16 16 (by simp [Act.eval]) (by simp [Act.eval, pvo]) _ 26 (HD2.out.other HO3.out n2).1 (bc (l.drop (l.length - 16))) (by rw [bc_length, List.length_drop]; show _ = 16; omega) ((HI2.out.only HO3.out).sl.drop_cells _) (by rw [hc_length, bc_length, List.length_drop, bc_zs]; omega) (bc_one _) ?_; intro w4 HX4 HO4)))
      go_wp2
      go_ret
      have hX := HX4.out
      rw [splice_tag bc_zs (by rw [bc_length, List.length_drop]; omega)] at hX
      have hl16 : (bc (l.drop (l.length - 16))).length = 16 := by rw [bc_length, List.length_drop]; omega
      have hn : ((l.length : Int) - a - 16).toNat = N := by have := HN.out; omega
      refine ⟨0, rfl, Done.yes (p := ⟨3, 1, d, s, some (a.toNat, N), 0, false, [], l.drop (l.length - 16), l.length⟩) (lk := false) ((HT2.out.only HO3.out).onlyH HO4.out) ?_ (HR3.out.other HO4.out n1) (HdP_of ⟨hX, hl16⟩ ⟨rfl, rfl⟩ ⟨rfl, rfl⟩ ⟨HS.out, rfl⟩) (.inl ⟨rfl, rfl⟩)⟩
      unfold pRetry
      rw [if_pos (by have := HN.out; omega), hn]
end Go.Proofs.YtlllejgpmdeeiaaDoor
