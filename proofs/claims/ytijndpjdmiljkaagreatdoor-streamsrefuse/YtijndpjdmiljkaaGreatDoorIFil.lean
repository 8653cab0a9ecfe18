/- inbox: fill. -/
import Derived.Test.YtijndpjdmiljkaaGreatDoorIMp
import Derived.Laws.Rows
import Derived.Laws.Tables
import Derived.Deep.LoopGhost
import Derived.Deep.RegionHeld3
namespace Go.Proofs.YtijndpjdmiljkaaGreatDoor
open Go.RowKit Go.Maps
set_option linter.unusedVariables false

/-- Nothing but the blocks X and what is new has turned. -/
def Chg (X : Nat → Prop) (w w' : World) : Prop := w'.os = w.os ∧ w'.tape = w.tape ∧ w'.output = w.output ∧ w.heap.size ≤ w'.heap.size ∧ ∀ k, k < w.heap.size → ¬ X k → w'.heap[k]? = w.heap[k]?
theorem Chg.refl (X : Nat → Prop) (w : World) : Chg X w w := ⟨rfl, rfl, rfl, Nat.le_refl _, fun _ _ _ => rfl⟩
theorem Chg.trans {X : Nat → Prop} {a b c : World} (h : Chg X a b) (k : Chg X b c) : Chg X a c :=
  ⟨k.1.trans h.1, k.2.1.trans h.2.1, k.2.2.1.trans h.2.2.1, Nat.le_trans h.2.2.2.1 k.2.2.2.1, fun j hj hx => (k.2.2.2.2 j (Nat.lt_of_lt_of_le hj h.2.2.2.1) hx).trans (h.2.2.2.2 j hj hx)⟩
theorem Chg.alloc {X : Nat → Prop} {a b : World} (h : Chg X a b) (o : Obj) : Chg X a (b.alloc o) :=
  ⟨h.1, h.2.1, h.2.2.1, by have := h.2.2.2.1; simp; omega, fun j hj hx => (Below.heap_alloc b o j (Nat.lt_of_lt_of_le hj h.2.2.2.1)).trans (h.2.2.2.2 j hj hx)⟩
/-- Bytes as they lie. -/
def Sl (w : World) (la : Option Addr) (l : List UInt8) : Prop := ∀ j (h : j < l.length), ∃ b off, la = some ⟨b, off, none⟩ ∧ w.cell? ⟨b, off + j, none⟩ = some (.int .u8 (l[j].toNat : Int))
/-- Bytes put into a cell from fr on, but for those that stand there. -/
def putF (f : Nat → Option UInt8) (fr : Nat) : List UInt8 → (Nat → Option UInt8)
  | [] => f
  | x :: t => putF (put1 f fr x) (fr + 1) t
theorem putF_snoc (f : Nat → Option UInt8) (fr : Nat) (xs : List UInt8) (x : UInt8) : putF f fr (xs ++ [x]) = put1 (putF f fr xs) (fr + xs.length) x := by
  induction xs generalizing f fr with
  | nil => rfl
  | cons y t ih =>
    rw [List.cons_append, putF, ih, putF, List.length_cons]
    congr 1
    omega

/-- How many of the bytes are new. -/
def cntF (f : Nat → Option UInt8) (fr : Nat) : List UInt8 → Nat
  | [] => 0
  | x :: t => (if f fr = none then 1 else 0) + cntF (put1 f fr x) (fr + 1) t
theorem cntF_snoc (f : Nat → Option UInt8) (fr : Nat) (xs : List UInt8) (x : UInt8) : cntF f fr (xs ++ [x]) = cntF f fr xs + (if putF f fr xs (fr + xs.length) = none then 1 else 0) := by
  induction xs generalizing f fr with
  | nil =>
    show (if f fr = none then 1 else 0) + 0 = 0 + (if f (fr + 0) = none then 1 else 0)
    rw [Nat.add_zero, Nat.zero_add]
    rfl
  | cons y t ih =>
    rw [List.cons_append, cntF, ih, cntF, putF, List.length_cons, show fr + 1 + t.length = fr + (t.length + 1) by omega]
    omega
theorem cntF_le (f : Nat → Option UInt8) (fr : Nat) (xs : List UInt8) : cntF f fr xs ≤ xs.length := by
  induction xs generalizing f fr with
  | nil => simp [cntF]
  | cons y t ih =>
    have := ih (put1 f fr y) (fr + 1)
    rw [cntF, List.length_cons]
    split <;> omega
/-- What a fill of one byte makes of the two blocks. -/
theorem fill_set {W : World} {Cb b mb : Nat} {fk : Nat → Option UInt8} {j : Nat} {x : UInt8} {pl rd hd rm lm rc : Int} {kn : Bool} (hj : j < 64) (hf : fk j = none) (hne : Cb ≠ b)
    (hC : W.heap[Cb]? = some (.cells (cellL fk).toArray 267 (0, 0))) (hB : W.heap[b]? = some (.cells #[.map (some mb), .int .i64 pl, .int .i64 rd, .int .i64 hd, .int .i64 rm, .int .i64 lm, .int .i64 rc, .bool kn] 201 (0, 0))) :
    (((W.setCell ⟨Cb, 0, none⟩ (.int .u64 ((wdN (fun i => (fk i).isSome) 64 ||| 2 ^ j : Nat) : Int))).setCell ⟨Cb, 1 + j, none⟩ (.int .u8 (x.toNat : Int))).setCell ⟨b, 3, none⟩ (.int .i64 (hd + 1))).heap[Cb]? = some (.cells (cellL (put1 fk j x)).toArray 267 (0, 0)) ∧
    (((W.setCell ⟨Cb, 0, none⟩ (.int .u64 ((wdN (fun i => (fk i).isSome) 64 ||| 2 ^ j : Nat) : Int))).setCell ⟨Cb, 1 + j, none⟩ (.int .u8 (x.toNat : Int))).setCell ⟨b, 3, none⟩ (.int .i64 (hd + 1))).heap[b]? = some (.cells #[.map (some mb), .int .i64 pl, .int .i64 rd, .int .i64 (hd + 1), .int .i64 rm, .int .i64 lm, .int .i64 rc, .bool kn] 201 (0, 0)) ∧
    Chg (fun k => k = Cb ∨ k = b) W (((W.setCell ⟨Cb, 0, none⟩ (.int .u64 ((wdN (fun i => (fk i).isSome) 64 ||| 2 ^ j : Nat) : Int))).setCell ⟨Cb, 1 + j, none⟩ (.int .u8 (x.toNat : Int))).setCell ⟨b, 3, none⟩ (.int .i64 (hd + 1))) := by
  rw [setCell_eq_setRow W Cb 0 _ 267 (0, 0) _ hC]
  have h1 := setRow_heap W Cb _ ((cellL fk).toArray.setIfInBounds 0 (.int .u64 ((wdN (fun i => (fk i).isSome) 64 ||| 2 ^ j : Nat) : Int))) 267 (0, 0) hC
  rw [setCell_eq_setRow _ Cb (1 + j) _ 267 (0, 0) _ h1]
  have h2 := setRow_heap _ Cb _ (((cellL fk).toArray.setIfInBounds 0 (.int .u64 ((wdN (fun i => (fk i).isSome) 64 ||| 2 ^ j : Nat) : Int))).setIfInBounds (1 + j) (.int .u8 (x.toNat : Int))) 267 (0, 0) h1
  have hB2 : ((W.setRow Cb ((cellL fk).toArray.setIfInBounds 0 (.int .u64 ((wdN (fun i => (fk i).isSome) 64 ||| 2 ^ j : Nat) : Int)))).setRow Cb (((cellL fk).toArray.setIfInBounds 0 (.int .u64 ((wdN (fun i => (fk i).isSome) 64 ||| 2 ^ j : Nat) : Int))).setIfInBounds (1 + j) (.int .u8 (x.toNat : Int)))).heap[b]? = _ := (setRow_other _ Cb b _ (fun e => hne e.symm)).trans ((setRow_other _ Cb b _ (fun e => hne e.symm)).trans hB)
  rw [setCell_eq_setRow _ b 3 _ 201 (0, 0) _ hB2]
  refine ⟨?_, ?_, ?_⟩
  · rw [setRow_other _ b Cb _ hne, h2, cellL_put hj hf]
    simp
  · rw [setRow_heap _ b _ _ 201 (0, 0) hB2]
    simp
  · exact ⟨rfl, rfl, rfl, by simp, fun k hk hx => by rw [setRow_other _ b k _ (fun e => hx (.inr e)), setRow_other _ Cb k _ (fun e => hx (.inl e)), setRow_other _ Cb k _ (fun e => hx (.inl e))]⟩
theorem pow_wrap {j : Nat} (h : j < 64) : IntKind.u64.wrap ((2 : Int) ^ j) = ((2 ^ j : Nat) : Int) := by
  have e : ((2 : Int) ^ j) = ((2 ^ j : Nat) : Int) := by simp
  rw [e]
  exact u64_wrap _ (pow_lt64 h)
theorem info70 : (Tryz.prog.info? 267).map (·.size) = some 65 := by kernel_rfl
theorem cellL_one (f : Nat → Option UInt8) : (cellL f).toArray.all (·.oneCell') = true := by
  rw [List.all_toArray, List.all_eq_true]
  intro v hv
  unfold cellL at hv
  rcases List.mem_cons.1 hv with rfl | hv
  · rfl
  · obtain ⟨j, _, rfl⟩ := List.mem_map.1 hv
    rfl

theorem exec_load_row {P : Program} {o : Oper} {a : Act} {w : World} (ty : TypeId) (x : Operand) (ho : o.op = .load ty x)
    (g : Nat) (hx : a.eval x = .pointer (some ⟨g, 0, none⟩)) (t : TypeId) (cs : Array Value) (fr : Nat × Nat) (d : TypeDesc) (hg : w.heap[g]? = some (.cells cs t fr))
    (hu : P.underlying ty = some d) (hd : (match d with | .struct _ | .array _ _ => true | _ => false) = true) (hi : (P.info? ty).map (·.size) = some cs.size) :
    (execOp a.eval o).run P w = .ok (.value (.agg cs)) w := by
  unfold execOp
  simp only [ho, hx, Instr.loadAt, Instr.sureAddr, Sem.run_bind, Sem.run_pure, Result.andThen_ok, run_loadVar_row w g t ty cs fr d hg hu hd hi]

set_option maxRecDepth 100000 in
set_option maxHeartbeats 1000000 in
theorem fill_w (b mb fr : Nat) (at' ky : Int) (pl rd hd rm lm rc : Int) (kn : Bool) (f : Nat → Option UInt8) (la : Option Addr) (cap N : Nat) (l : List UInt8) (W : World) (hN : l.length = N) (hl : Sl W la l) (hfr : fr + N ≤ 64) (hhd : 0 ≤ hd ∧ hd ≤ 4611686018427387903)
    (hb : W.heap[b]? = some (.cells #[.map (some mb), .int .i64 pl, .int .i64 rd, .int .i64 hd, .int .i64 rm, .int .i64 lm, .int .i64 rc, .bool kn] 201 (0, 0)))
    (e1 : at'.tmod 64 = (fr : Int)) (e2 : IntKind.i64.wrap (at' - (fr : Int)) = ky)
    (hlk : (Instr.lookup 199 (.map (some mb)) (.int .i64 ky) false).run Tryz.prog W = .ok (.agg (cellL f).toArray) W) (hmb : ∃ es ck, W.heap[mb]? = some (.map es ck)) (R : World → World → Prop)
    (hup : ∀ X, X.heap[mb]? = W.heap[mb]? → ∃ X', (Instr.mapUpdate 199 (.map (some mb)) (.int .i64 ky) (.agg (cellL (putF f fr l)).toArray)).run Tryz.prog X = .ok () X' ∧ (∀ k, k < X.heap.size → k ≠ mb → X'.heap[k]? = X.heap[k]?) ∧ R X X') :
    Calls Tryz.prog 217 #[.pointer (some ⟨b, 0, none⟩), .int .i64 at', .slice la N cap] W fun e w' => e = .returned (.tuple #[]) ∧ ∃ X, X.heap[b]? = some (.cells #[.map (some mb), .int .i64 pl, .int .i64 rd, .int .i64 (hd + cntF f fr l), .int .i64 rm, .int .i64 lm, .int .i64 rc, .bool kn] 201 (0, 0)) ∧ Chg (fun j => j = b) W X ∧ R X w' := by
  have HUP : Aside _ := hup
  have HMB : Aside _ := hmb
  clear hup hmb
  have c0 : W.cell? ⟨b, 0, none⟩ = some (.map (some mb)) := by simp [World.cell?, hb]
  have HB : Aside _ := hb
  have HL : Aside _ := hl
  obtain ⟨zz, hzz, hzs⟩ : ∃ zz : Array Value, (∀ w, (zeroValue 267).run Tryz.prog w = .ok (.agg zz) w) ∧ zz.size = 65 := ⟨(cellL (fun _ => none)).toArray, zero70, by simp [cellL_len]⟩
  have hcs : (cellL f).toArray.size = 65 := by simp [cellL_len]
  have hone := cellL_one f
  generalize hcl : (cellL f).toArray = cl at hlk hcs hone
  have hnew : (W.alloc (.cells zz 267)).heap[W.heap.size]? = some (.cells zz 267 (0, 0)) := heap_alloc_new W _
  clear hb hl
  go_enter Tryz.func217, Tryz.ntmps217
  go_wp2_with (refine wpList_store_row rfl 267 (.tmp 7) (.tmp 20) rfl W.heap.size cl rfl rfl 267 zz hnew (info70.trans (by rw [hcs])) (hzs.trans hcs.symm) hone ?_)
  obtain ⟨W1, hW1⟩ : ∃ W1, (W.alloc (.cells zz 267)).setRow W.heap.size cl = W1 := ⟨_, rfl⟩
  have hC1 : W1.heap[W.heap.size]? = some (.cells cl 267 (0, 0)) := by rw [← hW1]; exact setRow_heap _ _ _ _ 267 (0, 0) hnew
  have hlb : b < W.heap.size := (Array.getElem?_eq_some_iff.1 HB.out).1
  have hB1 : W1.heap[b]? = some (.cells #[.map (some mb), .int .i64 pl, .int .i64 rd, .int .i64 hd, .int .i64 rm, .int .i64 lm, .int .i64 rc, .bool kn] 201 (0, 0)) := by
    rw [← hW1, setRow_other _ _ _ _ (by omega), Below.heap_alloc _ _ _ hlb]; exact HB.out
  have hch : Chg (fun _ => False) W W1 := by
    rw [← hW1]
    exact ⟨rfl, rfl, rfl, by simp, fun k hk _ => by rw [setRow_other _ _ _ _ (by omega), Below.heap_alloc _ _ _ hk]⟩
  have HCH : Aside _ := hch
  have HC1 : Aside _ := hC1
  have HB1 : Aside _ := hB1
  rw [hW1]
  clear hW1 hC1 hB1 hch hnew hlk
  generalize hCb : W.heap.size = Cb at *
  go_loopg [23] N (fun kx s23 wr => ∃ k : Nat, s23 = .int .i64 k ∧ k ≤ N ∧ N - k ≤ kx ∧ Aside (wr.heap[Cb]? = some (.cells (cellL (putF f fr (l.take k))).toArray 267 (0, 0))) ∧ Aside (wr.heap[b]? = some (.cells #[.map (some mb), .int .i64 pl, .int .i64 rd, .int .i64 (hd + cntF f fr (l.take k)), .int .i64 rm, .int .i64 lm, .int .i64 rc, .bool kn] 201 (0, 0))) ∧ Aside (Chg (fun j => j = Cb ∨ j = b) W1 wr))
  case atStart => exact ⟨0, rfl, Nat.zero_le _, by omega, by show W1.heap[Cb]? = some (.cells (cellL f).toArray 267 (0, 0)); rw [hcl]; exact HC1.out, by show W1.heap[b]? = _; simpa [cntF] using HB1.out, Chg.refl _ _⟩
  case round =>
    obtain ⟨k, rfl, hk, hg, HCk, HBk, HGk⟩ := hrel
    by_cases hlt : k < N
    · have hkl : k < l.length := by omega
      have hj : fr + k < 64 := by omega
      obtain ⟨g, off, rfl, hx⟩ := HL.out k hkl
      have hlg : g < Cb := by have := World.block_lt_of_cell? _ _ hx; rw [hCb] at this; exact this
      have hgb : g ≠ b := by
        rintro rfl
        have hx' := hx
        unfold World.cell? at hx'
        rw [HB.out] at hx'
        simp only at hx'
        generalize off + k = m at hx'
        rcases m with _ | _ | _ | _ | _ | _ | _ | _ | m <;> simp at hx'
      have hx2 : wr.cell? ⟨g, off + k, none⟩ = some (.int .u8 (l[k].toNat : Int)) := by
        have h1 := HGk.out.2.2.2.2 g (Nat.lt_of_lt_of_le (by omega) HCH.out.2.2.2.1) (by rintro (e | e) <;> omega)
        have h2 := HCH.out.2.2.2.2 g (by omega) (fun h => h)
        exact (World.cell?_of_block (a := ⟨g, off + k, none⟩) (h1.trans h2)).trans hx
      have HT : Aside _ := putF_snoc f fr (l.take k) l[k]
      have HCN : Aside _ := cntF_snoc f fr (l.take k) l[k]
      have eT : l.take k ++ [l[k]] = l.take (k + 1) := (List.take_succ_eq_append_getElem hkl).symm
      have eL : (l.take k).length = k := by rw [List.length_take]; omega
      rw [eT, eL] at HT HCN
      have hcl' := cntF_le f fr (l.take k)
      rw [eL] at hcl'
      generalize l[k] = x at hx2 HT
      generalize hfk : putF f fr (l.take k) = fk at HT HCN HCk
      generalize hcn : cntF f fr (l.take k) = cn at HCN HBk hcl'
      have cw : wr.cell? ⟨Cb, 0, none⟩ = some (.int .u64 (wdN (fun i => (fk i).isSome) 64 : Nat)) := by
        unfold World.cell?
        rw [HCk.out]
        simp [cellL]
      have cj : wr.cell? ⟨Cb, 1 + (fr + k), none⟩ = some (.int .u8 (((fk (fr + k)).getD 0).toNat : Int)) := by
        unfold World.cell?
        rw [HCk.out]
        simp [cellL, Nat.add_comm 1 (fr + k), hj]
      have fw : wr.frozen? ⟨Cb, 0, none⟩ = false := by simp [World.frozen?, HCk.out]
      have fj : wr.frozen? ⟨Cb, 1 + (fr + k), none⟩ = false := by simp [World.frozen?, HCk.out]
      have ch : wr.cell? ⟨b, 3, none⟩ = some (.int .i64 (hd + cn)) := by simp [World.cell?, HBk.out]
      have fh : wr.frozen? ⟨b, 3, none⟩ = false := by simp [World.frozen?, HBk.out]
      have i1 : (k : Int) < (N : Int) := by omega
      have hpw := pow_wrap hj
      have hand := bits_and _ _ (wd_lt (fun i => (fk i).isSome)) (pow_lt64 hj)
      have hor := bits_or _ _ (wd_lt (fun i => (fk i).isSome)) (pow_lt64 hj)
      rw [wd_and _ _ hj] at hand
      have hne : Cb ≠ b := by omega
      have hne2 : b ≠ Cb := by omega
      have hhw : IntKind.i64.wrap (hd + cn + 1) = hd + cn + 1 := by rw [IntKind.wrap_i64]; omega
      have hpos : 0 < 2 ^ (fr + k) := Nat.two_pow_pos _
      by_cases hs : fk (fr + k) = none
      · have HS : Aside _ := fill_set (x := x) hj hs hne HCk.out HBk.out
        rw [if_neg (by simp [hs])] at hand
        generalize wdN (fun i => (fk i).isSome) 64 ||| 2 ^ (fr + k) = w2 at hor HS
        generalize wdN (fun i => (fk i).isSome) 64 = wk at cw hand hor
        generalize (2 ^ (fr + k) : Nat) = pw at hpw hand hor hpos
        have HC2 : Aside (cntF f fr (l.take (k + 1)) = cn + 1) := by show _ = _; rw [HCN.out, if_pos hs]
        go_wp2
        go_roundg (N - (k + 1))
        case measure => omega
        case rel => exact ⟨k + 1, by simp, by omega, Nat.le_refl _, by rw [HT.out]; exact HS.out.1, by rw [HC2.out, show (hd + ((cn + 1 : Nat) : Int)) = hd + cn + 1 by omega]; exact HS.out.2.1, HGk.out.trans HS.out.2.2⟩
      · rw [if_pos (by simpa [Option.isSome_iff_ne_none] using hs)] at hand
        have HC2 : Aside (cntF f fr (l.take (k + 1)) = cn) := by show _ = _; rw [HCN.out, if_neg hs, Nat.add_zero]
        have HT2 : Aside (putF f fr (l.take (k + 1)) = fk) := by show _ = _; rw [HT.out, put1_some (by simpa [Option.isSome_iff_ne_none] using hs)]
        generalize wdN (fun i => (fk i).isSome) 64 = wk at cw hand hor
        generalize (2 ^ (fr + k) : Nat) = pw at hpw hand hor hpos
        have hnz : ¬ ((pw : Int) = 0) := by omega
        have hnz2 : ((pw : Int) == 0) = false := by simp; omega
        clear hor
        go_wp2
        go_roundg (N - (k + 1))
        case measure => omega
        case rel => exact ⟨k + 1, by simp, by omega, Nat.le_refl _, by rw [HT2.out]; exact HCk.out, by rw [HC2.out]; exact HBk.out, HGk.out⟩
    · obtain rfl : k = N := by omega
      have eL : l.take k = l := by rw [← hN]; exact List.take_length
      rw [eL] at HCk HBk
      have hWX : Chg (fun j => j = b) W wr.drew := by
        subst hCb
        refine ⟨HGk.out.1.trans HCH.out.1, HGk.out.2.1.trans HCH.out.2.1, HGk.out.2.2.1.trans HCH.out.2.2.1, Nat.le_trans HCH.out.2.2.2.1 HGk.out.2.2.2.1, fun j hj hx => ?_⟩
        exact (HGk.out.2.2.2.2 j (Nat.lt_of_lt_of_le hj HCH.out.2.2.2.1) (by rintro (e | e); omega; exact hx e)).trans (HCH.out.2.2.2.2 j hj (fun h => h))
      have hmbb : mb ≠ b := by
        obtain ⟨es, ck, hmb⟩ := HMB.out
        rintro rfl
        have := hmb.symm.trans HB.out
        simp at this
      have hmbC : mb < Cb := by
        obtain ⟨es, ck, hmb⟩ := HMB.out
        have := (Array.getElem?_eq_some_iff.1 hmb).1
        omega
      obtain ⟨X', hrun, hkp, hR⟩ := HUP.out wr.drew (by
        obtain ⟨es, ck, hmb⟩ := HMB.out
        refine hWX.2.2.2.2 mb (Array.getElem?_eq_some_iff.1 hmb).1 ?_
        rintro rfl
        have := hmb.symm.trans HB.out
        simp at this)
      have HFIN : Aside (∃ X, X.heap[b]? = some (.cells #[.map (some mb), .int .i64 pl, .int .i64 rd, .int .i64 (hd + cntF f fr l), .int .i64 rm, .int .i64 lm, .int .i64 rc, .bool kn] 201 (0, 0)) ∧ Chg (fun j => j = b) W X ∧ R X X') := ⟨wr.drew, HBk.out, hWX, hR⟩
      have cb0 : wr.drew.cell? ⟨b, 0, none⟩ = some (.map (some mb)) := by
        have := HBk.out
        show wr.cell? ⟨b, 0, none⟩ = _
        simp [World.cell?, this]
      have HSX : Aside (X'.cell? ⟨b, 0, none⟩ = some (.map (some mb)) ∧ X'.heap[Cb]? = some (.cells (cellL (putF f fr l)).toArray 267 (0, 0))) :=
        ⟨(World.cell?_of_block (w := wr.drew) (a := ⟨b, 0, none⟩) (hkp b (Array.getElem?_eq_some_iff.1 HBk.out).1 (fun e => hmbb e.symm))).trans cb0, (hkp Cb (Array.getElem?_eq_some_iff.1 HCk.out).1 (by omega)).trans HCk.out⟩
      have hsz : (cellL (putF f fr l)).toArray.size = 65 := by simp [cellL_len]
      have HCd : Aside (wr.drew.heap[Cb]? = some (.cells (cellL (putF f fr l)).toArray 267 (0, 0))) := HCk.out
      clear HBk HGk HUP HMB HCH HB1 HC1 hR hWX hkp
      generalize (cellL (putF f fr l)).toArray = cq at hrun HCd hsz HCk HSX
      go_wp2_with fail
      refine wp_region_held_drew (S := fun w' => w'.cell? ⟨b, 0, none⟩ = some (.map (some mb)) ∧ w'.heap[Cb]? = some (.cells cq 267 (0, 0))) (by kernel_rfl) ⟨cb0, HCd.out⟩ (fun hHeld => ?_)
      refine wpAnyH_take (i := 0) (v := .pointer (some ⟨b, 0, none⟩)) rfl (by kernel_rfl) (by kernel_rfl) (by kernel_rfl) (fun _ _ _ h => h) (Or.inl ⟨by rfl, by rintro w ⟨s0, s1⟩; clear s1; go_simp⟩) hHeld ?_
      refine norm_any' (fun K hK => ?_)
      go_simp
      refine hK _ _ ?_
      clear hK K
      refine wpAnyH_take (i := 1) (v := .pointer (some ⟨b, 0, none⟩)) rfl (by kernel_rfl) (by kernel_rfl) (by kernel_rfl) (fun _ _ _ h => h) (Or.inl ⟨by rfl, by rintro w ⟨s0, s1⟩; clear s1; go_simp⟩) hHeld ?_
      refine norm_any' (fun K hK => ?_)
      go_simp
      refine hK _ _ ?_
      clear hK K
      refine wpAnyH_take (i := 2) (v := .pointer (some ⟨b, 0, none⟩)) rfl (by kernel_rfl) (by kernel_rfl) (by kernel_rfl) (fun _ _ _ h => h) (Or.inl ⟨by rfl, by rintro w ⟨s0, s1⟩; clear s1; go_simp⟩) hHeld ?_
      refine norm_any' (fun K hK => ?_)
      go_simp
      refine hK _ _ ?_
      clear hK K
      refine wpAnyH_take (i := 3) (v := .map (some mb)) rfl (by kernel_rfl) (by kernel_rfl) (by kernel_rfl) (fun _ _ _ h => h) (Or.inl ⟨by rfl, by rintro w ⟨s0, s1⟩; clear s1; go_simp⟩) hHeld ?_
      refine norm_any' (fun K hK => ?_)
      go_simp
      refine hK _ _ ?_
      clear hK K
      refine wpAnyH_take (i := 4) (v := .int .i64 at') rfl (by kernel_rfl) (by kernel_rfl) (by kernel_rfl) (fun _ _ _ h => h) (Or.inl ⟨by rfl, by rintro w ⟨s0, s1⟩; clear s1; go_simp⟩) hHeld ?_
      refine norm_any' (fun K hK => ?_)
      go_simp
      refine hK _ _ ?_
      clear hK K
      refine wpAnyH_take (i := 5) (v := .int .i64 (fr : Int)) rfl (by kernel_rfl) (by kernel_rfl) (by kernel_rfl) (fun _ _ _ h => h) (Or.inl ⟨by rfl, by rintro w ⟨s0, s1⟩; clear s1; go_simp⟩) hHeld ?_
      refine norm_any' (fun K hK => ?_)
      go_simp
      refine hK _ _ ?_
      clear hK K
      refine wpAnyH_take (i := 6) (v := .int .i64 ky) rfl (by kernel_rfl) (by kernel_rfl) (by kernel_rfl) (fun _ _ _ h => h) (Or.inl ⟨by rfl, by rintro w ⟨s0, s1⟩; clear s1; go_simp⟩) hHeld ?_
      refine norm_any' (fun K hK => ?_)
      go_simp
      refine hK _ _ ?_
      clear hK K
      refine wpAnyH_take (i := 7) (v := .agg cq) rfl (by kernel_rfl) (by kernel_rfl) (by kernel_rfl) (fun _ _ _ h => h) (Or.inl ⟨by rfl, by rintro w ⟨s0, s1⟩; exact exec_load_row 267 (.tmp 7) rfl Cb rfl 267 cq (0, 0) _ s1 Tryz.underlying267 rfl (info70.trans (by rw [hsz]))⟩) hHeld ?_
      clear hHeld HCd HCk cb0
      refine norm_any' (fun K hK => ?_)
      go_simp
      refine hK _ _ ?_
      clear hK K
      refine wpAnyH_ready (rs := [8]) (by kernel_rfl) (by simp) (AllReadyH.cons rfl (fun K hK => ?_) AllReadyH.nil)
      go_simp
      refine hK.out _ _ HSX.out (fun hHeld => ?_)
      clear hK K
      refine wpAnyH_done (by kernel_rfl) ?_ _
      go_wp2
      exact bodyPost_end (results_none rfl _ _ _) rfl ⟨rfl, HFIN.out⟩
theorem putF_shift (V : Nat → Option UInt8) (c fr : Nat) (l : List UInt8) : (fun j => putF V (c + fr) l (c + j)) = putF (fun j => V (c + j)) fr l := by
  induction l generalizing V fr with
  | nil => rfl
  | cons x t ih =>
    rw [putF, putF, ← show (fun j => put1 V (c + fr) x (c + j)) = put1 (fun j => V (c + j)) fr x by
      funext j
      unfold put1
      by_cases e : j = fr
      · subst e; simp
      · simp [e], ← ih, Nat.add_assoc]
theorem cntF_shift (V : Nat → Option UInt8) (c fr : Nat) (l : List UInt8) : cntF V (c + fr) l = cntF (fun j => V (c + j)) fr l := by
  induction l generalizing V fr with
  | nil => rfl
  | cons x t ih =>
    rw [cntF, cntF, ← show (fun j => put1 V (c + fr) x (c + j)) = put1 (fun j => V (c + j)) fr x by
      funext j
      unfold put1
      by_cases e : j = fr
      · subst e; simp
      · simp [e], ← ih, Nat.add_assoc]
theorem putF_out (V : Nat → Option UInt8) (a : Nat) (l : List UInt8) (p : Nat) (h : p < a ∨ a + l.length ≤ p) : putF V a l p = V p := by
  induction l generalizing V a with
  | nil => rfl
  | cons x t ih =>
    rw [List.length_cons] at h
    rw [putF, ih _ _ (by omega)]
    unfold put1
    rw [if_neg (by omega)]
theorem putF_append (V : Nat → Option UInt8) (a : Nat) (l m : List UInt8) : putF V a (l ++ m) = putF (putF V a l) (a + l.length) m := by
  induction l generalizing V a with
  | nil => rfl
  | cons x t ih => rw [List.cons_append, putF, ih, putF, List.length_cons, show a + 1 + t.length = a + (t.length + 1) by omega]
theorem cntF_append (V : Nat → Option UInt8) (a : Nat) (l m : List UInt8) : cntF V a (l ++ m) = cntF V a l + cntF (putF V a l) (a + l.length) m := by
  induction l generalizing V a with
  | nil => simp [cntF, putF]
  | cons x t ih => rw [List.cons_append, cntF, ih, cntF, putF, List.length_cons, show a + 1 + t.length = a + (t.length + 1) by omega, Nat.add_assoc]
/-- fill: the bytes of the one cell that they lie in. -/
theorem fill_c (b mb n q fr : Nat) (V : Nat → Option UInt8) (pl rd hd rm lm rc : Int) (kn : Bool) (la : Option Addr) (cap N : Nat) (l : List UInt8) (W : World) (hN : l.length = N) (hl : Sl W la l) (hfr : fr < 64) (hfN : fr + N ≤ 64) (hhd : 0 ≤ hd ∧ hd ≤ 4611686018427387903)
    (hq : q ≤ 100000000000000000) (hn : n < 9000000000000000000)
    (hb : W.heap[b]? = some (.cells #[.map (some mb), .int .i64 pl, .int .i64 rd, .int .i64 hd, .int .i64 rm, .int .i64 lm, .int .i64 rc, .bool kn] 201 (0, 0))) (hm : Mp W mb n V) :
    Calls Tryz.prog 217 #[.pointer (some ⟨b, 0, none⟩), .int .i64 ((64 * q + fr : Nat) : Int), .slice la N cap] W fun e w' => e = .returned (.tuple #[]) ∧
      w'.heap[b]? = some (.cells #[.map (some mb), .int .i64 pl, .int .i64 rd, .int .i64 (hd + cntF V (64 * q + fr) l), .int .i64 rm, .int .i64 lm, .int .i64 rc, .bool kn] 201 (0, 0)) ∧ Mp w' mb (n + 1) (putF V (64 * q + fr) l) ∧ Chg (fun j => j = b ∨ j = mb) W w' := by
  have hmb : ∃ es ck, W.heap[mb]? = some (.map es ck) := by
    obtain ⟨D, ⟨es, ck, h1, _⟩, _⟩ := hm
    exact ⟨es, ck, h1⟩
  have hne : b ≠ mb := by
    rintro rfl
    obtain ⟨es, ck, h⟩ := hmb
    rw [hb] at h
    simp at h
  have e1 : (((64 * q + fr : Nat) : Int)).tmod 64 = (fr : Int) := by
    rw [Int.tmod_eq_emod_of_nonneg (by omega)]; omega
  have e2 : IntKind.i64.wrap (((64 * q + fr : Nat) : Int) - (fr : Int)) = ((64 * q : Nat) : Int) := by
    rw [IntKind.wrap_i64]; omega
  refine (fill_w b mb fr _ _ pl rd hd rm lm rc kn (fun j => V (64 * q + j)) la cap N l W hN hl hfN hhd hb e1 e2 (hm.look q hq) hmb
    (fun X X' => Mp X' mb (n + 1) (putF V (64 * q + fr) l) ∧ X.grownBy X' (some mb)) (fun X hX => ?_)).mono ?_
  · obtain ⟨X', h1, h2, h3⟩ := (hm.kept hX).put (V' := putF V (64 * q + fr) l) q hq hn (fun p hp => putF_out _ _ _ _ (by omega))
    refine ⟨X', ?_, fun k hk hx => h3.block k hk (by simpa using hx), h2, h3⟩
    rw [← putF_shift]
    exact h1
  · rintro e w' ⟨rfl, X, h1, h2, h3, h4⟩
    rw [← cntF_shift] at h1
    refine ⟨rfl, (h4.block b (Array.getElem?_eq_some_iff.1 h1).1 (by simpa using hne)).trans h1, h3, h4.os.trans h2.1, h4.tape.trans h2.2.1, h4.output.trans h2.2.2.1, Nat.le_trans h2.2.2.2.1 h4.size, fun k hk hx => ?_⟩
    exact (h4.block k (Nat.lt_of_lt_of_le hk h2.2.2.2.1) (by simpa using fun e => hx (.inr e))).trans (h2.2.2.2.2 k hk (fun e => hx (.inl e)))
end Go.Proofs.YtijndpjdmiljkaaGreatDoor
