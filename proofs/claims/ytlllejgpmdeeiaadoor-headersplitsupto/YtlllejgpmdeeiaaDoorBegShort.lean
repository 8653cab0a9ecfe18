/- What header.beginning answers for short headers, and header.putVersions: contracts. -/
import Derived.Test.YtlllejgpmdeeiaaDoorBeg
import Derived.Deep.RegionLaw
import Derived.Laws.AppendOwnNone
namespace Go.Proofs.YtlllejgpmdeeiaaDoor
open Go.ChangeShapes Go.WideShapes Go.ChangeAt Go.RowKit
set_option linter.unusedVariables false

/-- 'append(v, xs...)' of bytes onto a row of the call's own, as one step of a region that draws its order. -/
theorem step_append_bytes {P : Program} {w : World} {ops : Array Oper} {o : Oper} {a : Act} {K : Act → World → Prop} {Q : Exit → Act → World → Prop} {E : Prop} (hgd : o.guard = none) (s x : Operand)
    (ho : o.op = .call { callee := .builtin .append, args := #[s, x], argTypes := #[22, 22] })
    (base : Nat) (i : TypeInfo) (ht : P.underlying 22 = some (.slice 5)) (hi : P.info? 5 = some i) (hz : i.zero = some (.int .u8 0)) (hsize : i.size = 1) (hby : i.bytes = 1)
    (v : Value) (n : Nat) (xs : List Value) (hs : a.eval s = v) (hown : w.ownsRow base 5 1 v n xs)
    (ao : Option Addr) (m c : Nat) (l : List UInt8) (hx : a.eval x = .slice ao m c) (hl : l.length = m) (hnil : ao = none → m = 0 ∧ c = 0) (hsl : Sl w ao l)
    (hb : n + m ≤ 140737488355328) (hbase : base ≤ w.heap.size)
    (h : ∀ v' w', w'.ownsRow base 5 1 v' (n + m) (xs ++ bc l) → w.grownBy w' v.ownBlock → K (a.put o.dst v') w') : if Region.wanted o (yielded ops a.tmps) = true then Oper.wp P o a w K Q else E := by
  have hw : Region.wanted o (yielded ops a.tmps) = true := by simp [Region.wanted, hgd]
  rw [if_pos hw]
  cases ao with
  | none =>
    obtain ⟨rfl, rfl⟩ := hnil rfl
    obtain rfl : l = [] := List.eq_nil_of_length_eq_zero hl
    have hrun := run_append_owned_none (P := P) (w := w) base 22 o.type 5 i 1 ht hi v n xs hown
    unfold Oper.wp
    simp [execOp, ho, resolve, invoke, builtin, hs, hx, hrun, Result.andThen]
    exact h v w (by simpa [bc] using hown) ⟨rfl, rfl, rfl, Nat.le_refl _, fun _ _ _ => rfl⟩
  | some ad =>
    exact wp_append_own w s x 22 ho base 5 i (.int .u8 0) 1 1 ht hi hz hsize hby rfl (by decide) v n xs hs hown ad m c (bc l) hx (by rw [bc_length]; omega) (Sl_cells hsl) (bc_one l) (by unfold maxLen; omega) (by omega) hbase (fun v' w' h1 h2 _ => h v' w' h1 h2)
theorem own_one (w : World) (x : Int) : (w.alloc (.cells #[.int .u8 x] 5)).ownsRow w.heap.size 5 1 (.slice (some ⟨w.heap.size, 0, none⟩) 1 1) 1 [.int .u8 x] :=
  ⟨rfl, .inr ⟨w.heap.size, 1, _, rfl, Nat.le_refl _, heap_alloc_new w _, Nat.le_refl _, by decide, rfl, rfl⟩⟩

set_option maxRecDepth 10000 in
set_option maxHeartbeats 1000000 in
theorem beg_5 (cs : Array Value) (ver len n : Int) (da : Option Addr) (dc : Nat) (D : List UInt8) (s t lv : Value) (ph : Bool) (tg : List Value) (w : World)
    (hcs : cs = (hc 5 ver (.slice da D.length dc) s t len ph lv tg).toArray) (hD : Sl w da D) (hd : D.length ≤ 20) (hdn : da = none → D.length = 0 ∧ dc = 0) (n1 : 1 ≤ n) (n4 : n ≤ 4) :
    Calls Tryd.prog 19 #[.agg cs, .int .i64 n] w fun e w' => ∃ v, e = .returned v ∧ By (w.heap.size + 1) w' v ([UInt8.ofNat (sB ph n).toNat] ++ D) ∧ Below w.heap.size w w' := by
  obtain ⟨i0, hi, hz0, hz1, hz2⟩ := info_parts info5
  have hrow := heap_alloc_new w (.cells cs 26)
  have c0 : (w.alloc (.cells cs 26)).cell? ⟨w.heap.size, 0, none⟩ = some (.int .i64 5) := by unfold World.cell?; rw [hrow, hcs]; rfl
  have c2 : (w.alloc (.cells cs 26)).cell? ⟨w.heap.size, 2, none⟩ = some (.slice da D.length dc) := by unfold World.cell?; rw [hrow, hcs]; rfl
  have c6 : (w.alloc (.cells cs 26)).cell? ⟨w.heap.size, 6, none⟩ = some (.bool ph) := by unfold World.cell?; rw [hrow, hcs]; rfl
  have k0 : cs[0]? = some (.int .i64 5) := by rw [hcs]; rfl
  have k2 : cs[2]? = some (.slice da D.length dc) := by rw [hcs]; rfl
  have k6 : cs[6]? = some (.bool ph) := by rw [hcs]; rfl
  have hFb : 0 ≤ sB ph n ∧ sB ph n < 256 := by unfold sB; cases ph <;> simp <;> omega
  have hFv : Value.int .u8 (sB ph n) = Value.int .u8 ((UInt8.ofNat (sB ph n).toNat).toNat : Int) := by rw [UInt8.toNat_ofNat']; congr 1; omega
  obtain ⟨F, hF⟩ : ∃ F : Int, sB ph n = F := ⟨_, rfl⟩
  have HK := mkHid (fun W => shortByte_any ph n W n1 n4)
  rw [hF] at hFv HK ⊢
  obtain ⟨F8, hF8⟩ : ∃ F8 : UInt8, UInt8.ofNat F.toNat = F8 := ⟨_, rfl⟩
  rw [hF8] at hFv ⊢
  have HF := mkHid hFv
  have HD := mkHid hD
  have HDn := mkHid hdn
  clear hrow hcs hD hdn hFv hF hFb hF8
  have HOWN : Hid (((w.alloc (.cells cs 26)).alloc (.cells #[.int .u8 F] 5)).ownsRow (w.heap.size + 1) 5 1 (.slice (some ⟨w.heap.size + 1, 0, none⟩) 1 1) 1 [.int .u8 F]) := by
    have q := own_one (w.alloc (.cells cs 26)) F
    rw [show (w.alloc (.cells cs 26)).heap.size = w.heap.size + 1 by simp] at q
    exact q
  go_enter Tryd.func19, Tryd.ntmps19
  go_wp2
  go_region_law ((first
    | (go_simp; go_at_call 36; refine (HK.out _).mono ?_; rintro e w' ⟨rfl, rfl⟩)
    | (refine step_append_bytes rfl (.tmp 16) (.tmp 18) rfl (w.heap.size + 1) i0 Tryd.underlying22 hi hz0 hz1 hz2 (.slice (some ⟨w.heap.size + 1, 0, none⟩) 1 1) 1 [.int .u8 F] (by simp [Act.eval]) HOWN.out da D.length dc D (by simp [Act.eval]) rfl HDn.out (Sl_alloc (Sl_alloc HD.out (.cells cs 26)) (.cells #[.int .u8 F] 5)) (by omega) (by simp) ?_; intro v1 w1 hown hgrow; have HO := mkHid hown; have HG := mkHid hgrow; clear hown hgrow)))
  all_goals
    go_wp2
    go_ret
    have hg : ((w.alloc (.cells cs 26)).alloc (.cells #[.int .u8 F] 5)).grownBy w1 (Value.slice (some ⟨w.heap.size + 1, 0, none⟩) 1 1).ownBlock := ⟨HG.out.os, HG.out.tape, HG.out.output, HG.out.size, HG.out.block⟩
    have hB : Below w.heap.size w w1 := (((Below.refl w.heap.size w).alloc (Nat.le_refl _) (.cells cs 26)).alloc (by simp) _).grown hg (by simp; omega) (fun k hk => by simp [Value.ownBlock] at hk; omega)
    refine ⟨v1, rfl, ?_, hB⟩
    have ho := HO.out
    rw [HF.out] at ho
    have e : (F8 :: D).length = 1 + D.length := by simp; omega
    show w1.ownsRow (w.heap.size + 1) 5 1 v1 (F8 :: D).length (bc (F8 :: D))
    rw [e]
    exact ho
end Go.Proofs.YtlllejgpmdeeiaaDoor
