/- The walk of caravellaw01.OctetPuts. -/
import Derived.Test.YtcppnellgkbndaaDoorBehind
namespace Go.Proofs.YtcppnellgkbndaaDoor
open Go.ChangeShapes Go.WideShapes Go.ChangeAt Go.RowKit
set_option linter.unusedVariables false

def siN (v : Int) : Int := if v < 0 ∨ 4611686018427387903 < v then 0 else szN v
theorem size_any (v : Int) (w : World) (ht : Tb w) :
    Calls Tryd.prog 46 #[.int .i64 v] w fun e w' => e = .returned (.tuple #[.int .i64 (siN v), .int .i64 (vaE v)]) ∧ w' = w := by
  by_cases h : v < 0 ∨ 4611686018427387903 < v
  · rw [vaE_no h, show siN v = 0 from if_pos h]; exact size_no v w ht h
  · rw [vaE_ok h, show siN v = szN v from if_neg h]; exact size_yes v w ht (by omega) (by omega)
theorem rsize_any (v : Int) (w : World) :
    Calls Tryd.prog 38 #[.int .i64 v] w fun e w' => e = .returned (.tuple #[.int .i64 (siN v), .int .i64 (vaE v)]) ∧ w' = w := by
  by_cases h : v < 0 ∨ 4611686018427387903 < v
  · rw [vaE_no h, show siN v = 0 from if_pos h]; exact rsize_no v w h
  · rw [vaE_ok h, show siN v = szN v from if_neg h]; exact rsize_yes v w (by omega) (by omega)
theorem wrap_bounds (v : Int) : 0 ≤ IntKind.u64.wrap v ∧ IntKind.u64.wrap v < 18446744073709551616 := by rw [IntKind.wrap_u64]; omega

/-- what the law's calls need of the world -/
structure St (W : World) (ao : Option Addr) (g : Nat) (l : List UInt8) : Prop where
  tab : Tb W
  own : Sl W (some ⟨g, 0, none⟩) l
  arg : Sl W ao l
  all : Sl W (some ⟨g, 0, none⟩) (l ++ [90])
theorem St.on {W W' : World} {ao : Option Addr} {g : Nat} {l : List UInt8} (h : St W ao g l) (hb : Below W.heap.size W W') : St W' ao g l :=
  ⟨Tb_below h.tab hb (Tb_pos h.tab), Sl_below h.own hb, Sl_below h.arg hb, Sl_below h.all hb⟩
theorem Res_lt {B : Nat} {w : World} {v : Value} {E : Int} {X : List UInt8} (h : Res B w v E X) : ∀ g n c, v = .slice (some ⟨g, 0, none⟩) n c → g < w.heap.size := by
  intro g n c he
  rcases h with ⟨_, _, ho⟩ | ⟨_, hn⟩
  · exact (ho.lt g (by rw [he]; rfl)).2
  · rw [hn] at he; cases he
theorem szN_le (v : Int) : (szN v).toNat ≤ 8 := by
  unfold szN
  by_cases h1 : v < 64
  · rw [if_pos h1]; decide
  · rw [if_neg h1]
    by_cases h2 : v < 16384
    · rw [if_pos h2]; decide
    · rw [if_neg h2]
      by_cases h3 : v < 1073741824
      · rw [if_pos h3]; decide
      · rw [if_neg h3]; decide
theorem wiE_len {v n : Int} (h : wiE v n = 0) : n.toNat ≤ 8 := by
  by_cases ha : v < 0 ∨ 4611686018427387903 < v ∨ mB n = false
  · rw [wiE_arg ha] at h; cases h
  · rcases mB_cases (n := n) (fun h => ha (.inr (.inr h))) with rfl | rfl | rfl | rfl <;> decide
theorem chain4 {a b c d e : World} (h1 : Below a.heap.size a b) (h2 : Below b.heap.size b c) (h3 : Below c.heap.size c d) (h4 : Below a.heap.size d e) : Below a.heap.size a e :=
  ((h1.trans (h2.mono h1.size)).trans (h3.mono (Nat.le_trans h1.size h2.size))).trans h4

end Go.Proofs.YtcppnellgkbndaaDoor
