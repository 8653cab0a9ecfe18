/- OutboxOnce: the walk. -/
import Derived.Test.YtfgfomkhlhiiiaaLo
import Derived.BigQuiet
namespace Go.Proofs.YtfgfomkhlhiiiaaR
open Go.RowKit Go.Shelf Go.Lib Go.Maps
set_option linter.unusedVariables false

theorem and8 (a : Int) : ∃ F : Nat, F ≤ 255 ∧ bits .and .i64 a 255 = (F : Int) := by
  have h : (BitVec.ofInt 64 a &&& BitVec.ofInt 64 255).toNat ≤ 255 := by
    rw [BitVec.toNat_and]
    exact Nat.and_le_right
  have e : bits .and .i64 a 255 = IntKind.i64.wrap ((BitVec.ofInt 64 a &&& BitVec.ofInt 64 255).toNat : Int) := rfl
  refine ⟨_, h, ?_⟩
  rw [e, IntKind.wrap_i64]
  omega
theorem and12 (a : Int) : ∃ F : Nat, F ≤ 4095 ∧ bits .and .i64 a 4095 = (F : Int) := by
  have h : (BitVec.ofInt 64 a &&& BitVec.ofInt 64 4095).toNat ≤ 4095 := by
    rw [BitVec.toNat_and]
    exact Nat.and_le_right
  have e : bits .and .i64 a 4095 = IntKind.i64.wrap ((BitVec.ofInt 64 a &&& BitVec.ofInt 64 4095).toNat : Int) := rfl
  refine ⟨_, h, ?_⟩
  rw [e, IntKind.wrap_i64]
  omega

theorem str_at {w : World} {ad : Addr} {l : List UInt8} {m cap : Nat} (hs : Sl w ad l) (hm : l.length = m) : (convert 32 9 (.slice (some ad) m cap)).run Try.prog w = .ok (.string ⟨l.toArray⟩) w := by
  subst hm
  refine run_convert_bytes_back w 32 9 5 ad cap l Try.underlying32 Try.underlying5 Try.underlying9 fun j hj => ?_
  exact hs j _ (by simp [bs, hj])

set_option maxRecDepth 100000 in
set_option maxHeartbeats 4000000 in
theorem once_walk (ad : Addr) (T : List UInt8) (n c : Nat) (most limit : Int) (W : World) (hT : Sl W ad T) (hn : T.length = n) (h0 : 0 < n) (h1 : n ≤ 1048576) (hc : n ≤ c) :
    Calls Try.prog 5 #[.slice (some ad) n c, .int .i64 most, .int .i64 limit] W fun e w' => e = .returned (.bool true) ∧ Below W.heap.size W w' := by
  have HT : Aside _ := hT
  have HN : Aside (T.length = n) := hn
  have i1 : ¬ (1048576 : Int) < (n : Int) := by omega
  have NC : Aside _ := newOb_c 1048576 W (by omega) (by omega)
  clear hT hn
  go_enter Try.func5, Try.ntmps5
  go_wp2_with fail
  refine Calls.mono NC.out ?_
  rintro e w1 ⟨φ, b, A, A2, rfl, hb, hob, hbel, hφ⟩
  have hsl : Sl w1 ad T := fun j u hu => by
    have e := HT.out j u hu
    exact (hbel.cell (World.block_lt_of_cell? _ _ e)).trans e
  have hn := HN.out
  have hwr := Lo.write ad c hob hbel hb hφ hsl (by omega) (by omega) (by omega)
  rw [hn] at hwr
  clear hob hbel hφ hsl hn NC
  go_wp2_with fail
  refine hwr.mono ?_
  rintro e w2 ⟨o, cp, rfl, hlo⟩
  have HL : Aside (Lo W b A A2 o cp T 0 w2) := hlo
  clear hwr hlo
  obtain ⟨F, hF1, hF2⟩ := and8 most
  obtain ⟨G, hG1, hG2⟩ := and12 limit
  have hw1 : wrap64 (1 + (F : Int)) = 1 + (F : Int) := by unfold wrap64; omega
  obtain ⟨ms, hms⟩ : ∃ ms : Int, ms = 1 + (F : Int) := ⟨_, rfl⟩
  have hm1 : 0 < ms := by omega
  have hm2 : ms ≤ 256 := by omega
  go_wp2
  rw [← hms]
  clear hms hw1 hF1 hF2 hG2
  obtain ⟨mn, hmn⟩ : ∃ mn : Nat, (mn : Int) = min (G : Int) (n : Int) := ⟨(min (G : Int) (n : Int)).toNat, by omega⟩
  have hmn1 : mn ≤ n := by omega
  have hmn2 : mn ≤ G := by omega
  have HMN : Aside _ := hmn
  clear hmn
  go_loopg [10] mn (fun kx s10 wr => ∃ a : Nat, s10 = .int .i64 (a : Int) ∧ a ≤ mn ∧ mn - a ≤ kx ∧ Aside (Lo W b A A2 o cp T (a : Int) wr))
  case atStart => exact ⟨0, rfl, Nat.zero_le _, by omega, HL.out⟩
  case round =>
    obtain ⟨a, rfl, ha, hk, HLa⟩ := hrel
    have hT := HN.out
    have hmn := HMN.out
    by_cases hlt : a < mn
    · obtain ⟨q, hq⟩ : ∃ q : Nat, (q : Int) = (a : Int) + min ms ((mn : Int) - (a : Int)) := ⟨((a : Int) + min ms ((mn : Int) - (a : Int))).toNat, by omega⟩
      have q1 : a < q := by omega
      have q2 : q ≤ mn := by omega
      have q3 : (q : Int) - a ≤ ms := by omega
      have hnx := HLa.out.next ms (G : Int) (q : Int) (by omega) (by omega) hm1 hm2 (by rw [hT]; omega) (by rw [hT]; omega)
      clear hT hmn hq
      go_wp2_with fail
      refine hnx.mono ?_
      rintro e w3 ⟨g, m, cap, rfl, hm, hmc, hcells, hlo3⟩
      obtain ⟨w4, hw4⟩ : ∃ w4, w4 = w3.alloc (.cells #[.int .i64 (a : Int), .slice (some ⟨g, 0, none⟩) m cap, .bool false] 42) := ⟨_, rfl⟩
      have hl4 : Lo W b A A2 o cp T (q : Int) w4 := by rw [hw4]; exact hlo3.below ((Below.refl _ w3).alloc (Nat.le_refl _) _)
      have hb4 : Below w3.heap.size w3 w4 := by rw [hw4]; exact (Below.refl _ w3).alloc (Nat.le_refl _) _
      have hbW : Below W.heap.size W w4 := by obtain ⟨_, _, _, h3, _⟩ := hl4; exact h3
      have hT := HN.out
      have hlen : ((T.drop a).take m).length = m := by rw [List.length_take, List.length_drop]; omega
      obtain ⟨S, hS⟩ : ∃ S : ByteArray, S = ⟨((T.drop a).take m).toArray⟩ := ⟨_, rfl⟩
      have cv1 : ∀ nq, (convert 32 9 (.slice (some ⟨g, 0, none⟩) m cap)).run Try.prog (w4.drewN nq) = .ok (.string S) (w4.drewN nq) := fun nq => by
        rw [hS]
        refine str_at (fun j u hu => ?_) hlen
        have e := hcells j u (by simpa using hu)
        exact (hb4.cell (World.block_lt_of_cell? _ _ e)).trans e
      have cv2 : ∀ nq, (convert 32 9 (.slice (some (ad.add a)) m (c - a))).run Try.prog (w4.drewN nq) = .ok (.string S) (w4.drewN nq) := fun nq => by
        rw [hS]
        refine str_at (fun j u hu => ?_) hlen
        have hj : j < m := by
          have := (List.getElem?_eq_some_iff.1 hu).1
          rw [bs_len, hlen] at this
          exact this
        have e := HT.out (a + j) u (by
          rw [← hu]
          simp [bs, hj])
        rw [Addr.add_add]
        exact (hbW.cell (World.block_lt_of_cell? _ _ e)).trans e
      have hP4 : w4.heap[w3.heap.size]? = some (.cells #[.int .i64 (a : Int), .slice (some ⟨g, 0, none⟩) m cap, .bool false] 42 (0, 0)) := by rw [hw4]; exact World.alloc_heap_new w3 _
      have x0 : w4.cell? ⟨w3.heap.size, 0, none⟩ = some (.int .i64 (a : Int)) := by simp [World.cell?, hP4]
      have x1 : w4.cell? ⟨w3.heap.size, 1, none⟩ = some (.slice (some ⟨g, 0, none⟩) m cap) := by simp [World.cell?, hP4]
      have x2 : w4.cell? ⟨w3.heap.size, 2, none⟩ = some (.bool false) := by simp [World.cell?, hP4]
      have HL4 : Aside (Lo W b A A2 o cp T (q : Int) w4) := hl4
      have HW4 : Aside _ := hw4
      have y1 : ¬ m = 0 := by omega
      have y1b : ((m : Int) == 0) = false := by simp; omega
      have y1c : (m == 0) = false := by simp; omega
      have y2b : decide (ms < (m : Int)) = false := by simp; omega
      have y3b : decide ((G : Int) < (a : Int) + (m : Int)) = false := by simp; omega
      have y2 : ¬ ms < (m : Int) := by omega
      have y3 : ¬ (G : Int) < (a : Int) + (m : Int) := by omega
      have y4 : a + m ≤ c := by omega
      have y5 : ¬ c = a := by omega
      have HM : Aside ((m : Int) = (q : Int) - (a : Int)) := hm
      clear hnx hcells hlo3 hl4 hb4 hbW hT hlen hS hw4 hP4 hm
      go_wp2_with fail
      rw [← HW4.out]
      go_quiet (fail)
      go_wp2
      go_roundg (mn - q)
      case measure => omega
      case rel =>
        have hm := HM.out
        exact ⟨q, by rw [show (a : Int) + (m : Int) = (q : Int) by omega], q2, Nat.le_refl _, HL4.out.below ⟨rfl, rfl, rfl, Nat.le_refl _, fun _ _ => rfl⟩⟩
    · have hnx := HLa.out.next_none ms (G : Int) (by omega) (by omega) (by rw [hT]; omega)
      clear hT hmn
      go_wp2_with fail
      refine hnx.mono ?_
      rintro e w3 ⟨rfl, hlo3⟩
      have HL3 : Aside (Lo W b A A2 o cp T (a : Int) w3) := hlo3
      clear hnx hlo3
      have hT := HN.out
      have hmn := HMN.out
      have hl4 : Lo W b A A2 o cp T (a : Int) (w3.alloc (.cells #[.int .i64 0, .slice none 0 0, .bool false] 42)) := HL3.out.below ((Below.refl _ w3).alloc (Nat.le_refl _) _)
      have hsz := hl4.sizes (by omega) (by omega)
      rw [hT] at hsz
      have hme : min (G : Int) (n : Int) = (a : Int) := by omega
      clear hT hmn hl4
      go_wp2_with fail
      refine hsz.mono ?_
      rintro e w5 ⟨rfl, hlo5⟩
      have hT := HN.out
      have hwt := hlo5.waits (G : Int) (by omega) (by rw [hT]; omega)
      clear hsz hlo5 hT
      go_wp2_with fail
      refine hwt.mono ?_
      rintro e w6 ⟨rfl, hlo6⟩
      have hT := HN.out
      have hdn := hlo6.done (by omega) (by omega)
      clear hwt hlo6 hT
      go_wp2_with fail
      refine hdn.mono ?_
      rintro e w7 ⟨rfl, hlo7⟩
      have HB7 : Aside (Below W.heap.size W w7) := by obtain ⟨_, _, _, h3, _⟩ := hlo7; exact h3
      clear hdn hlo7
      go_wp2
      go_ret
      exact ⟨rfl, HB7.out⟩

end Go.Proofs.YtfgfomkhlhiiiaaR
