/- params: which method of which value. -/
import Derived.Test.YtcppnellgkbndaaDoorMa
import Derived.Test.YtcppnellgkbndaaDoorMl
import Derived.Shelf.Abstract
namespace Go.Proofs.YtcppnellgkbndaaDoor
open Go.ChangeShapes Go.WideShapes Go.ChangeAt Go.RowKit Go.Shelf
set_option linter.unusedVariables false
set_option maxRecDepth 100000

theorem m_allowed83 (v : Value) (X : World) : (Go.method 277 83 v "caravel/params.allowed").run Tryd.prog X = .ok (75, v) X := by kernel_rfl
theorem eg75 : ∀ args w, (callFunc 75 args).run Tryd.prog w = .ok (.enter 75 args) w := enters_of Tryd.func75 (by kernel_rfl) rfl
theorem m_allowed87 (v : Value) (X : World) : (Go.method 277 87 v "caravel/params.allowed").run Tryd.prog X = .ok (79, v) X := by kernel_rfl
theorem eg79 : ∀ args w, (callFunc 79 args).run Tryd.prog w = .ok (.enter 79 args) w := enters_of Tryd.func79 (by kernel_rfl) rfl
theorem m_allowed91 (v : Value) (X : World) : (Go.method 277 91 v "caravel/params.allowed").run Tryd.prog X = .ok (84, v) X := by kernel_rfl
theorem eg84 : ∀ args w, (callFunc 84 args).run Tryd.prog w = .ok (.enter 84 args) w := enters_of Tryd.func84 (by kernel_rfl) rfl
theorem m_allowed93 (v : Value) (X : World) : (Go.method 277 93 v "caravel/params.allowed").run Tryd.prog X = .ok (88, v) X := by kernel_rfl
theorem eg88 : ∀ args w, (callFunc 88 args).run Tryd.prog w = .ok (.enter 88 args) w := enters_of Tryd.func88 (by kernel_rfl) rfl
theorem m_allowed95 (v : Value) (X : World) : (Go.method 277 95 v "caravel/params.allowed").run Tryd.prog X = .ok (92, v) X := by kernel_rfl
theorem eg92 : ∀ args w, (callFunc 92 args).run Tryd.prog w = .ok (.enter 92 args) w := enters_of Tryd.func92 (by kernel_rfl) rfl
theorem m_there83 (v : Value) (X : World) : (Go.method 277 83 v "caravel/params.there").run Tryd.prog X = .ok (78, v) X := by kernel_rfl
theorem eg78 : ∀ args w, (callFunc 78 args).run Tryd.prog w = .ok (.enter 78 args) w := enters_of Tryd.func78 (by kernel_rfl) rfl
theorem m_there87 (v : Value) (X : World) : (Go.method 277 87 v "caravel/params.there").run Tryd.prog X = .ok (82, v) X := by kernel_rfl
theorem eg82 : ∀ args w, (callFunc 82 args).run Tryd.prog w = .ok (.enter 82 args) w := enters_of Tryd.func82 (by kernel_rfl) rfl
theorem m_there91 (v : Value) (X : World) : (Go.method 277 91 v "caravel/params.there").run Tryd.prog X = .ok (87, v) X := by kernel_rfl
theorem eg87 : ∀ args w, (callFunc 87 args).run Tryd.prog w = .ok (.enter 87 args) w := enters_of Tryd.func87 (by kernel_rfl) rfl
theorem m_there93 (v : Value) (X : World) : (Go.method 277 93 v "caravel/params.there").run Tryd.prog X = .ok (91, v) X := by kernel_rfl
theorem eg91 : ∀ args w, (callFunc 91 args).run Tryd.prog w = .ok (.enter 91 args) w := enters_of Tryd.func91 (by kernel_rfl) rfl
theorem m_there95 (v : Value) (X : World) : (Go.method 277 95 v "caravel/params.there").run Tryd.prog X = .ok (94, v) X := by kernel_rfl
theorem eg94 : ∀ args w, (callFunc 94 args).run Tryd.prog w = .ok (.enter 94 args) w := enters_of Tryd.func94 (by kernel_rfl) rfl
theorem m_bytes83 (v : Value) (X : World) : (Go.method 277 83 v "caravel/params.bytes").run Tryd.prog X = .ok (76, v) X := by kernel_rfl
theorem eg76 : ∀ args w, (callFunc 76 args).run Tryd.prog w = .ok (.enter 76 args) w := enters_of Tryd.func76 (by kernel_rfl) rfl
theorem m_bytes87 (v : Value) (X : World) : (Go.method 277 87 v "caravel/params.bytes").run Tryd.prog X = .ok (80, v) X := by kernel_rfl
theorem eg80 : ∀ args w, (callFunc 80 args).run Tryd.prog w = .ok (.enter 80 args) w := enters_of Tryd.func80 (by kernel_rfl) rfl
theorem m_bytes91 (v : Value) (X : World) : (Go.method 277 91 v "caravel/params.bytes").run Tryd.prog X = .ok (85, v) X := by kernel_rfl
theorem eg85 : ∀ args w, (callFunc 85 args).run Tryd.prog w = .ok (.enter 85 args) w := enters_of Tryd.func85 (by kernel_rfl) rfl
theorem m_bytes93 (v : Value) (X : World) : (Go.method 277 93 v "caravel/params.bytes").run Tryd.prog X = .ok (89, v) X := by kernel_rfl
theorem eg89 : ∀ args w, (callFunc 89 args).run Tryd.prog w = .ok (.enter 89 args) w := enters_of Tryd.func89 (by kernel_rfl) rfl
theorem m_bytes95 (b j k : Nat) (X : World) : (Go.method 277 95 (optV b j k) "caravel/params.bytes").run Tryd.prog X = .ok (80, idV b j) X := by kernel_rfl
/-- A value's bytes, whatever lies above w. -/
def MBy (w : World) (T : TypeId) (v : Value) (bs : List UInt8) : Prop := ∃ f u, (∀ X : World, (Go.method 277 T v "caravel/params.bytes").run Tryd.prog X = .ok (f, u) X) ∧ (∀ (args : Array Value) (X : World), (Go.callFunc f args).run Tryd.prog X = .ok (.enter f args) X) ∧ ∀ X, Below w.heap.size w X → Calls Tryd.prog f #[u] X fun e w' => ∃ o c, e = .returned (.slice o bs.length c) ∧ Sl w' o bs ∧ (o = none → bs.length = 0 ∧ c = 0) ∧ Below X.heap.size X w'
theorem MBy.above {w X : World} {T : TypeId} {v : Value} {bs : List UInt8} (h : MBy w T v bs) (hb : Below w.heap.size w X) : MBy X T v bs := by
  obtain ⟨f, u, h1, h3, h2⟩ := h
  exact ⟨f, u, h1, h3, fun Y hY => h2 Y (hb.trans (hY.mono hb.size))⟩
section
variable (b j k : Nat) (w : World)
theorem mb_num_a (lo hi un x : Int) (h : w.cell? ⟨b, j, none⟩ = some (.int .i64 x)) : MB w 83 (numV b j lo hi un) "caravel/params.allowed" (decide (lo ≤ x ∧ x ≤ hi)) :=
  ⟨75, _, m_allowed83 _, eg75, fun X hb => num_allowed b j lo hi un x X (cell_bel h hb)⟩
theorem mb_num_t (lo hi un x : Int) (h : w.cell? ⟨b, j, none⟩ = some (.int .i64 x)) : MB w 83 (numV b j lo hi un) "caravel/params.there" (!(x == un)) :=
  ⟨78, _, m_there83 _, eg78, fun X hb => num_there b j lo hi un x X (cell_bel h hb)⟩
theorem mb_num_b (lo hi un x : Int) (ht : Tb w) (hx : ¬ (x < 0 ∨ 4611686018427387903 < x)) (h : w.cell? ⟨b, j, none⟩ = some (.int .i64 x)) : MBy w 83 (numV b j lo hi un) (enc (szN x) x) :=
  ⟨76, _, m_bytes83 _, eg76, fun X hb => (num_bytes b j lo hi un x X (Tb_below ht hb (Tb_pos ht)) (cell_bel h hb)).mono (by
    rintro e w' ⟨v, rfl, hres, hb'⟩
    rw [vaE_ok hx] at hres
    obtain ⟨h0, hown⟩ := res_ok hres
    obtain ⟨g, cap, rfl, hsl, _⟩ := own_sl hown rfl h0
    exact ⟨_, _, rfl, hsl, (fun h => by cases h), hb'⟩)⟩
theorem mb_id_a (o : Option Addr) (n c : Nat) (h : w.cell? ⟨b, j, none⟩ = some (.slice o n c)) : MB w 87 (idV b j) "caravel/params.allowed" (decide (n ≤ 20)) :=
  ⟨79, _, m_allowed87 _, eg79, fun X hb => id_allowed b j o n c X (cell_bel h hb)⟩
theorem mb_id_t (o : Option Addr) (n c : Nat) (h : w.cell? ⟨b, j, none⟩ = some (.slice o n c)) : MB w 87 (idV b j) "caravel/params.there" (decide (0 < n)) :=
  ⟨82, _, m_there87 _, eg82, fun X hb => id_there b j o n c X (cell_bel h hb)⟩
theorem mb_id_b (o : Option Addr) (l : List UInt8) (c : Nat) (hs : Sl w o l) (hn : o = none → l.length = 0 ∧ c = 0) (h : w.cell? ⟨b, j, none⟩ = some (.slice o l.length c)) : MBy w 87 (idV b j) l :=
  ⟨80, _, m_bytes87 _, eg80, fun X hb => (id_bytes b j o l.length c X (cell_bel h hb)).mono (by
    rintro e w' ⟨rfl, hb'⟩
    exact ⟨_, _, rfl, Sl_below (Sl_below hs hb) hb', hn, hb'⟩)⟩
theorem mb_opt_a (o : Option Addr) (n c : Nat) (x : Bool) (h : w.cell? ⟨b, j, none⟩ = some (.slice o n c)) (h2 : w.cell? ⟨b, k, none⟩ = some (.bool x)) : MB w 95 (optV b j k) "caravel/params.allowed" (decide (n ≤ 20) && (x || !decide (0 < n))) :=
  ⟨92, _, m_allowed95 _, eg92, fun X hb => opt_allowed b j k o n c x X (cell_bel h hb) (cell_bel h2 hb)⟩
theorem mb_opt_t (x : Bool) (h2 : w.cell? ⟨b, k, none⟩ = some (.bool x)) : MB w 95 (optV b j k) "caravel/params.there" x :=
  ⟨94, _, m_there95 _, eg94, fun X hb => opt_there b j k x X (cell_bel h2 hb)⟩
theorem mb_opt_b (o : Option Addr) (l : List UInt8) (c : Nat) (hs : Sl w o l) (hn : o = none → l.length = 0 ∧ c = 0) (h : w.cell? ⟨b, j, none⟩ = some (.slice o l.length c)) : MBy w 95 (optV b j k) l :=
  ⟨80, _, m_bytes95 b j k, eg80, fun X hb => (id_bytes b j o l.length c X (cell_bel h hb)).mono (by
    rintro e w' ⟨rfl, hb'⟩
    exact ⟨_, _, rfl, Sl_below (Sl_below hs hb) hb', hn, hb'⟩)⟩
theorem mb_flag_a : MB w 93 (flagV b j) "caravel/params.allowed" true :=
  ⟨88, _, m_allowed93 _, eg88, fun X hb => flag_allowed b j X⟩
theorem mb_flag_t (x : Bool) (h : w.cell? ⟨b, j, none⟩ = some (.bool x)) : MB w 93 (flagV b j) "caravel/params.there" x :=
  ⟨91, _, m_there93 _, eg91, fun X hb => flag_there b j x X (cell_bel h hb)⟩
theorem mb_flag_b : MBy w 93 (flagV b j) [] :=
  ⟨89, _, m_bytes93 _, eg89, fun X hb => (flag_bytes b j X).mono (by
    rintro e w' ⟨rfl, hb'⟩
    exact ⟨none, 0, rfl, (fun j hj => absurd hj (by simp)), (fun _ => ⟨rfl, rfl⟩), hb'⟩)⟩
theorem mb_reset_a (x : Bool) (R : List UInt8) (hR : R.length = 16) (h : w.rangeAt b j (hl R)) (h2 : w.cell? ⟨b, k, none⟩ = some (.bool x)) : MB w 91 (resetV b j k) "caravel/params.allowed" (x || (R == List.replicate 16 0)) :=
  ⟨84, _, m_allowed91 _, eg84, fun X hb => reset_allowed b j k x R hR X (range_bel h hb) (cell_bel h2 hb)⟩
theorem mb_reset_t (x : Bool) (h2 : w.cell? ⟨b, k, none⟩ = some (.bool x)) : MB w 91 (resetV b j k) "caravel/params.there" x :=
  ⟨87, _, m_there91 _, eg87, fun X hb => reset_there b j k x X (cell_bel h2 hb)⟩
theorem mb_reset_b (R : List UInt8) (hR : R.length = 16) (hs : Sl w (some ⟨b, j, none⟩) R) : MBy w 91 (resetV b j k) R :=
  ⟨85, _, m_bytes91 _, eg85, fun X hb => (reset_bytes b j k X).mono (by
    rintro e w' ⟨rfl, hb'⟩
    exact ⟨some ⟨b, j, none⟩, 16, by rw [hR], Sl_below (Sl_below hs hb) hb', (fun h => by cases h), hb'⟩)⟩
end
end Go.Proofs.YtcppnellgkbndaaDoor
