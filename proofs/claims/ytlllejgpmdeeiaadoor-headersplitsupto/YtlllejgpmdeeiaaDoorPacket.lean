/- What header.packetSize and header.Split answer: contracts. -/
import Derived.Test.YtlllejgpmdeeiaaDoorLook
import Derived.Test.YtlllejgpmdeeiaaDoorClone
namespace Go.Proofs.YtlllejgpmdeeiaaDoor
open Go.ChangeShapes Go.WideShapes Go.ChangeAt Go.RowKit
set_option linter.unusedVariables false

/-- how long the first packet is -/
def psz (l : List UInt8) (ids : Int) : Int := match parse l ids with
  | some p => if p.k ≤ 2 then p.at' + p.len else l.length
  | none => l.length
theorem psz_bounds {l : List UInt8} {ids : Int} (h : 0 < l.length) : 1 ≤ psz l ids ∧ psz l ids ≤ l.length := by
  unfold psz
  cases hp : parse l ids with
  | none => simp only; omega
  | some p =>
    simp only
    obtain ⟨_, _, _, hk, _⟩ := parse_range hp
    by_cases h2 : p.k ≤ 2
    · rw [if_pos h2]; have := hk h2; omega
    · rw [if_neg h2]; omega

theorem row_cell0 {W : World} {g : Nat} {k ver : Int} {d s t : Value} {len : Int} {ph : Bool} {lv : Value} {tg : List Value} (h : W.heap[g]? = some (.cells (hc k ver d s t len ph lv tg).toArray 26 (0, 0))) : W.cell? ⟨g, 0, none⟩ = some (.int .i64 k) ∧ W.cell? ⟨g, 5, none⟩ = some (.int .i64 len) := by
  constructor <;> (unfold World.cell?; rw [h]; rfl)

set_option maxRecDepth 10000 in
set_option maxHeartbeats 400000 in
theorem packet_any (ao : Option Addr) (l : List UInt8) (cap : Nat) (ids : Int) (w : World) (hs : Sl w ao l) (ht : Tb w) (hl : l.length ≤ 70368744177664) (hc' : l.length ≤ cap) (hcm : cap ≤ 9223372036854775807)
    (b off : Nat) (hao : 0 < l.length → ao = some ⟨b, off, none⟩) :
    Calls Tryd.prog 29 #[.slice ao l.length cap, .int .i64 ids] w fun e w' => e = .returned (.int .i64 (psz l ids)) ∧ Below w.heap.size w w' := by
  obtain ⟨d26, hd26⟩ := hu26
  go_enter Tryd.func29, Tryd.ntmps29
  go_wp2_with fail
  refine (look_any ao l cap ids _ hs ht (by omega) hc' hcm (fun _ => hl) b off hao).mono ?_
  clear hs ht hao
  rintro e w2 ⟨cs, a, E, rfl, hB, ⟨k, ver, d, s, t, len, ph, lv, tg, hcs, htg, hone⟩, hres⟩
  have HZ : Hid (cs.size = 24) := by rw [hcs]; exact hc_size htg
  have HONE : Hid (cs.all (·.oneCell') = true) := by rw [hcs]; show (hc k ver d s t len ph lv tg).toArray.all (·.oneCell') = true; simpa using hone
  have hW : Below w.heap.size w ((w2.alloc (.cells zr 26)).setRow w2.heap.size cs) := below_setRow (hB.alloc hB.size _) hB.size cs
  have hrow : ((w2.alloc (.cells zr 26)).setRow w2.heap.size cs).heap[w2.heap.size]? = some (.cells cs 26 (0, 0)) := setRow_heap _ _ _ _ 26 _ (heap_alloc_new w2 _)
  have HW := mkHid hW
  clear hB hone htg hW
  rcases hres with ⟨hE, hp⟩ | ⟨rfl, p, lv', hp, hcs', rfl, _⟩
  · have hb : (E != 0) = true := by simp [hE]
    have hps : Hid (psz l ids = l.length) := by unfold Hid psz; rw [hp]
    clear hp hrow hcs hE
    go_wp2_with ((refine wpList_store_row rfl 26 (.tmp 5) (.tmp 12) rfl w2.heap.size cs rfl rfl 26 zr (heap_alloc_new w2 (.cells zr 26)) (by rw [HZ.out]; exact sz26) (by rw [HZ.out]; rfl) HONE.out ?_))
    go_ret
    rw [hps.out]
    exact ⟨rfl, HW.out⟩
  · rw [hcs'] at hrow
    obtain ⟨c0, c5⟩ := row_cell0 hrow
    rw [← hcs'] at c0 c5
    obtain ⟨_, _, _, hk, _⟩ := parse_range hp
    have hps : Hid (psz l ids = if p.k ≤ 2 then p.at' + p.len else l.length) := by unfold Hid psz; rw [hp]
    obtain ⟨K, hK⟩ : ∃ K, p.k = K := ⟨_, rfl⟩
    obtain ⟨A, hA⟩ : ∃ A, p.at' = A := ⟨_, rfl⟩
    obtain ⟨L, hL⟩ : ∃ L, p.len = L := ⟨_, rfl⟩
    rw [hK, hA, hL] at hps hk
    rw [hK] at c0
    rw [hL] at c5
    rw [hA]
    have HC : Hid (∀ W3, W3 = (w2.alloc (.cells zr 26)).setRow w2.heap.size cs → W3.cell? ⟨w2.heap.size, 0, none⟩ = some (.int .i64 K) ∧ W3.cell? ⟨w2.heap.size, 5, none⟩ = some (.int .i64 L)) := fun W3 h => by rw [h]; exact ⟨c0, c5⟩
    clear c0 c5
    clear hp hrow hcs hcs' hK hA hL
    by_cases h2 : K ≤ 2
    · obtain ⟨q1, q2, q3⟩ := hk h2
      clear hk
      rw [if_pos h2] at hps
      go_wp2_with ((refine wpList_store_row rfl 26 (.tmp 5) (.tmp 12) rfl w2.heap.size cs rfl rfl 26 zr (heap_alloc_new w2 (.cells zr 26)) (by rw [HZ.out]; exact sz26) (by rw [HZ.out]; rfl) HONE.out ?_; generalize hWW : World.setRow (World.alloc w2 _) w2.heap.size cs = W3; obtain ⟨c0, c5⟩ := HC.out W3 hWW.symm; have HWW := mkHid hWW; clear hWW))
      go_ret
      rw [hps.out]
      exact ⟨rfl, by rw [← HWW.out]; exact HW.out⟩
    · rw [if_neg h2] at hps
      clear hk
      go_wp2_with ((refine wpList_store_row rfl 26 (.tmp 5) (.tmp 12) rfl w2.heap.size cs rfl rfl 26 zr (heap_alloc_new w2 (.cells zr 26)) (by rw [HZ.out]; exact sz26) (by rw [HZ.out]; rfl) HONE.out ?_; generalize hWW : World.setRow (World.alloc w2 _) w2.heap.size cs = W3; obtain ⟨c0, c5⟩ := HC.out W3 hWW.symm; have HWW := mkHid hWW; clear hWW))
      go_ret
      rw [hps.out]
      exact ⟨rfl, by rw [← HWW.out]; exact HW.out⟩
end Go.Proofs.YtlllejgpmdeeiaaDoor
