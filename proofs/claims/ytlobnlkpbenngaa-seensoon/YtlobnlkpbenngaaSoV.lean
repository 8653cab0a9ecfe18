/- SeenSoon, the walk of the law. -/
import Derived.Test.YtlobnlkpbenngaaSoW
import Derived.Deep.LoopGhost
import Derived.LoopTactic
namespace Go.Proofs.YtlobnlkpbenngaaR
open Go.RowKit Go.Shelf Go.Lib
set_option linter.unusedVariables false

set_option maxRecDepth 100000 in
set_option maxHeartbeats 4000000 in
theorem soon_walk (dly : Int) (la lb : Option Addr) (n c m d : Nat) (Z : Nat → Int) (E : Nat → Bool) (w : World) (hZ : ∀ i, i < n → ∃ ad, la = some ad ∧ w.cell? (ad.add i) = some (.int .i64 (Z i))) (hE : ∀ i, i < m → ∃ ad, lb = some ad ∧ w.cell? (ad.add i) = some (.bool (E i))) (hn : n ≤ 9223372036854775807) (hm : m ≤ 9223372036854775807) :
    Calls Try.prog 6 #[.int .i64 dly, .slice la n c, .slice lb m d] w fun e w' => e = .returned (.bool true) ∧ Below w.heap.size w w' := by
  obtain ⟨dl, hdl⟩ : ∃ dl, dly % 1048576 = dl := ⟨_, rfl⟩
  have hdl0 : 0 ≤ dl := by omega
  have hdl1 : dl ≤ 1048575 := by omega
  have e20 : bits .and .i64 dly 1048575 = dl := by rw [i64_and20, hdl]
  have HZ : Aside _ := hZ
  have HE : Aside _ := hE
  clear hdl hZ hE
  go_enter Try.func6, Try.ntmps6
  go_wp2_with fail
  refine (new_sc w.heap.size dl w (Nat.le_refl _) hdl0 (by omega)).mono ?_
  rintro e w1 ⟨s, M, G, T, rfl, hs, hu, hb, hs0⟩
  have HI : Aside (SoI w s M dl 0 (-1) w1) := ⟨G, 1, ⟨0, T, none, []⟩, ⟨dl, -1, -1, 0, 0, -1⟩, hs, hu, rfl, by simp, rfl, by simp, by simp, by simp, .inl ⟨rfl, rfl⟩, by simp, hb, hs0⟩
  clear hs hu hb hs0 e20
  go_wp2
  go_loopg [9, 10] n (fun kx s9 s10 wr => ∃ (f : Int) (i : Nat), s9 = .int .i64 f ∧ s10 = .int .i64 (i : Int) ∧ i ≤ 1000 ∧ i ≤ n ∧ n - i ≤ kx ∧ -1 ≤ f ∧ f ≤ 10000 ∧ Aside (SoI w s M dl i f wr))
  case atStart => exact ⟨-1, 0, rfl, rfl, by omega, by omega, by omega, by omega, by omega, HI.out⟩
  case round =>
    obtain ⟨f, i, rfl, rfl, hi, hin, hk, hf0, hf1, HR⟩ := hrel
    clear HI
    by_cases hlt : i < n
    · by_cases hth : i < 1000
      · obtain ⟨ad, hla, hcz⟩ := HZ.out i hlt
        subst hla
        have hbw : Below w.heap.size w wr := by obtain ⟨_, _, _, _, h⟩ := HR.out; exact h.2.2.2.2.2.2.2.2.2.2.1
        have czr : wr.cell? (ad.add i) = some (.int .i64 (Z i)) := (hbw.cell (World.block_lt_of_cell? _ _ hcz)).trans hcz
        clear hcz
        obtain ⟨nn, hnn⟩ : ∃ nn, Z i % 65536 = nn := ⟨_, rfl⟩
        have hn0 : 0 ≤ nn := by omega
        have hn1 : nn ≤ 65535 := by omega
        have e16 : bits .and .i64 (Z i) 65535 = nn := by rw [i64_and16, hnn]
        clear hnn
        by_cases hme : i < m
        · obtain ⟨ae, hlb, hce⟩ := HE.out i hme
          subst hlb
          have cer : wr.cell? (ae.add i) = some (.bool (E i)) := (hbw.cell (World.block_lt_of_cell? _ _ hce)).trans hce
          clear hce
          have htk := soon_take w s M dl i f wr nn (E i) HR.out hth hdl0 hdl1 hn0 hn1
          generalize E i = el at cer htk
          clear hbw
          cases el with
          | false =>
            go_wp2_with fail
            refine htk.mono ?_
            rintro e w2 ⟨b, rfl, hj⟩
            have hj2 : SoJ w s M dl (i + 1) f w2 := by simpa using hj
            obtain ⟨T, hT, hdue⟩ := hj2.due
            have HJ : Aside _ := hj2
            clear hj hj2 htk czr e16 cer
            cases b
            · rcases hT with ⟨rfl, rfl⟩ | ⟨t1, t2, t3, t4⟩
              · simp only [if_true, ne_eq, not_true_eq_false, decide_false] at hdue
                go_wp2_with fail
                refine hdue.mono ?_
                rintro e w3 ⟨rfl, hw⟩
                subst w3
                go_wp2
                go_roundg (n - (i + 1))
                case measure => omega
                case rel => obtain ⟨_, _, _, HH⟩ := HJ.out; exact ⟨-1, i + 1, rfl, by rw [show (i : Int) + 1 = ((i + 1 : Nat) : Int) by omega], by omega, by omega, Nat.le_refl _, by omega, by omega, HH⟩
              · rw [if_neg (by omega), decide_eq_true (by omega)] at hdue
                go_wp2_with fail
                refine hdue.mono ?_
                rintro e w3 ⟨rfl, hw⟩
                subst w3
                go_wp2
                go_roundg (n - (i + 1))
                case measure => omega
                case rel => obtain ⟨_, _, _, HH⟩ := HJ.out; exact ⟨f, i + 1, rfl, by rw [show (i : Int) + 1 = ((i + 1 : Nat) : Int) by omega], by omega, by omega, Nat.le_refl _, by omega, by omega, HH⟩
            · rcases hT with ⟨rfl, rfl⟩ | ⟨t1, t2, t3, t4⟩
              · simp only [if_true, ne_eq, not_true_eq_false, decide_false] at hdue
                go_wp2_with fail
                refine hdue.mono ?_
                rintro e w3 ⟨rfl, hw⟩
                subst w3
                go_wp2
                go_roundg (n - (i + 1))
                case measure => omega
                case rel => obtain ⟨_, _, _, HH⟩ := HJ.out; exact ⟨-1, i + 1, rfl, by rw [show (i : Int) + 1 = ((i + 1 : Nat) : Int) by omega], by omega, by omega, Nat.le_refl _, by omega, by omega, HH⟩
              · rw [if_neg (by omega), decide_eq_true (by omega)] at hdue
                go_wp2_with fail
                refine hdue.mono ?_
                rintro e w3 ⟨rfl, hw⟩
                subst w3
                go_wp2
                go_roundg (n - (i + 1))
                case measure => omega
                case rel => obtain ⟨_, _, _, HH⟩ := HJ.out; exact ⟨f, i + 1, rfl, by rw [show (i : Int) + 1 = ((i + 1 : Nat) : Int) by omega], by omega, by omega, Nat.le_refl _, by omega, by omega, HH⟩
          | true =>
            by_cases hff : f < 0
            · go_wp2_with fail
              refine htk.mono ?_
              rintro e w2 ⟨b, rfl, hj⟩
              cases b
              · have hj2 : SoJ w s M dl (i + 1) f w2 := by simpa using hj
                obtain ⟨T, hT, hdue⟩ := hj2.due
                have HJ : Aside _ := hj2
                clear hj hj2 htk czr e16 cer
                rcases hT with ⟨rfl, rfl⟩ | ⟨t1, t2, t3, t4⟩
                · simp only [if_true, ne_eq, not_true_eq_false, decide_false] at hdue
                  go_wp2_with fail
                  refine hdue.mono ?_
                  rintro e w3 ⟨rfl, hw⟩
                  subst w3
                  go_wp2
                  go_roundg (n - (i + 1))
                  case measure => omega
                  case rel => obtain ⟨_, _, _, HH⟩ := HJ.out; exact ⟨-1, i + 1, rfl, by rw [show (i : Int) + 1 = ((i + 1 : Nat) : Int) by omega], by omega, by omega, Nat.le_refl _, by omega, by omega, HH⟩
                · omega
              · have hj2 : SoJ w s M dl (i + 1) (10 * i) w2 := by simpa [hff] using hj
                obtain ⟨T, hT, hdue⟩ := hj2.due
                have HJ : Aside _ := hj2
                clear hj hj2 htk czr e16 cer
                rcases hT with ⟨t1, t2⟩ | ⟨t1, t2, t3, t4⟩
                · omega
                · rw [if_neg (by omega), decide_eq_true (by omega)] at hdue
                  go_wp2_with fail
                  refine hdue.mono ?_
                  rintro e w3 ⟨rfl, hw⟩
                  subst w3
                  go_wp2
                  go_roundg (n - (i + 1))
                  case measure => omega
                  case rel => obtain ⟨_, _, _, HH⟩ := HJ.out; exact ⟨10 * (i : Int), i + 1, rfl, by rw [show (i : Int) + 1 = ((i + 1 : Nat) : Int) by omega], by omega, by omega, Nat.le_refl _, by omega, by omega, HH⟩
            · go_wp2_with fail
              refine htk.mono ?_
              rintro e w2 ⟨b, rfl, hj⟩
              have hj2 : SoJ w s M dl (i + 1) f w2 := by
                have hnf : ¬ f < 0 := by omega
                simpa [hnf] using hj
              obtain ⟨T, hT, hdue⟩ := hj2.due
              have HJ : Aside _ := hj2
              clear hj hj2 htk czr e16 cer
              cases b
              · rcases hT with ⟨rfl, rfl⟩ | ⟨t1, t2, t3, t4⟩
                · omega
                · rw [if_neg (by omega), decide_eq_true (by omega)] at hdue
                  go_wp2_with fail
                  refine hdue.mono ?_
                  rintro e w3 ⟨rfl, hw⟩
                  subst w3
                  go_wp2
                  go_roundg (n - (i + 1))
                  case measure => omega
                  case rel => obtain ⟨_, _, _, HH⟩ := HJ.out; exact ⟨f, i + 1, rfl, by rw [show (i : Int) + 1 = ((i + 1 : Nat) : Int) by omega], by omega, by omega, Nat.le_refl _, by omega, by omega, HH⟩
              · rcases hT with ⟨rfl, rfl⟩ | ⟨t1, t2, t3, t4⟩
                · omega
                · rw [if_neg (by omega), decide_eq_true (by omega)] at hdue
                  go_wp2_with fail
                  refine hdue.mono ?_
                  rintro e w3 ⟨rfl, hw⟩
                  subst w3
                  go_wp2
                  go_roundg (n - (i + 1))
                  case measure => omega
                  case rel => obtain ⟨_, _, _, HH⟩ := HJ.out; exact ⟨f, i + 1, rfl, by rw [show (i : Int) + 1 = ((i + 1 : Nat) : Int) by omega], by omega, by omega, Nat.le_refl _, by omega, by omega, HH⟩
        · have htk := soon_take w s M dl i f wr nn false HR.out hth hdl0 hdl1 hn0 hn1
          clear hbw
          go_wp2_with fail
          refine htk.mono ?_
          rintro e w2 ⟨b, rfl, hj⟩
          have hj2 : SoJ w s M dl (i + 1) f w2 := by simpa using hj
          obtain ⟨T, hT, hdue⟩ := hj2.due
          have HJ : Aside _ := hj2
          clear hj hj2 htk czr e16
          cases b
          · rcases hT with ⟨rfl, rfl⟩ | ⟨t1, t2, t3, t4⟩
            · simp only [if_true, ne_eq, not_true_eq_false, decide_false] at hdue
              go_wp2_with fail
              refine hdue.mono ?_
              rintro e w3 ⟨rfl, hw⟩
              subst w3
              go_wp2
              go_roundg (n - (i + 1))
              case measure => omega
              case rel => obtain ⟨_, _, _, HH⟩ := HJ.out; exact ⟨-1, i + 1, rfl, by rw [show (i : Int) + 1 = ((i + 1 : Nat) : Int) by omega], by omega, by omega, Nat.le_refl _, by omega, by omega, HH⟩
            · rw [if_neg (by omega), decide_eq_true (by omega)] at hdue
              go_wp2_with fail
              refine hdue.mono ?_
              rintro e w3 ⟨rfl, hw⟩
              subst w3
              go_wp2
              go_roundg (n - (i + 1))
              case measure => omega
              case rel => obtain ⟨_, _, _, HH⟩ := HJ.out; exact ⟨f, i + 1, rfl, by rw [show (i : Int) + 1 = ((i + 1 : Nat) : Int) by omega], by omega, by omega, Nat.le_refl _, by omega, by omega, HH⟩
          · rcases hT with ⟨rfl, rfl⟩ | ⟨t1, t2, t3, t4⟩
            · simp only [if_true, ne_eq, not_true_eq_false, decide_false] at hdue
              go_wp2_with fail
              refine hdue.mono ?_
              rintro e w3 ⟨rfl, hw⟩
              subst w3
              go_wp2
              go_roundg (n - (i + 1))
              case measure => omega
              case rel => obtain ⟨_, _, _, HH⟩ := HJ.out; exact ⟨-1, i + 1, rfl, by rw [show (i : Int) + 1 = ((i + 1 : Nat) : Int) by omega], by omega, by omega, Nat.le_refl _, by omega, by omega, HH⟩
            · rw [if_neg (by omega), decide_eq_true (by omega)] at hdue
              go_wp2_with fail
              refine hdue.mono ?_
              rintro e w3 ⟨rfl, hw⟩
              subst w3
              go_wp2
              go_roundg (n - (i + 1))
              case measure => omega
              case rel => obtain ⟨_, _, _, HH⟩ := HJ.out; exact ⟨f, i + 1, rfl, by rw [show (i : Int) + 1 = ((i + 1 : Nat) : Int) by omega], by omega, by omega, Nat.le_refl _, by omega, by omega, HH⟩
      · obtain ⟨_, _, _, v, hs, _, _, _, _, _, _, _, _, _, hbw, hs0⟩ := HR.out
        have hsent := sent_sc w.heap.size s M v 1125899906842624 wr hs
        have HS : Aside (Ks w.heap.size s wr (wr.setCell ⟨s, 6, none⟩ (.int .i64 (-1)))) := Ks.set hs 6 _
        have HB : Aside _ := hbw
        clear hs hbw
        go_wp2_with fail
        refine hsent.mono ?_
        rintro e w2 ⟨⟨x, rfl⟩, hs2, hw⟩
        subst w2
        have hdue := due_sc s M _ _ hs2
        simp only [if_true, ne_eq, not_true_eq_false, decide_false] at hdue
        clear hs2 hsent
        go_wp2_with fail
        refine hdue.mono ?_
        rintro e w3 ⟨rfl, hw⟩
        subst w3
        go_wp2
        go_ret
        exact ⟨rfl, Below.trans HB.out (Ks.toBelow HS.out (Below.size HB.out) hs0)⟩
    · obtain ⟨_, _, _, v, hs, _, _, _, _, _, _, _, _, _, hbw, hs0⟩ := HR.out
      have hsent := sent_sc w.heap.size s M v 1125899906842624 wr hs
      have HS : Aside (Ks w.heap.size s wr (wr.setCell ⟨s, 6, none⟩ (.int .i64 (-1)))) := Ks.set hs 6 _
      have HB : Aside _ := hbw
      clear hs hbw
      go_wp2_with fail
      refine hsent.mono ?_
      rintro e w2 ⟨⟨x, rfl⟩, hs2, hw⟩
      subst w2
      have hdue := due_sc s M _ _ hs2
      simp only [if_true, ne_eq, not_true_eq_false, decide_false] at hdue
      clear hs2 hsent
      go_wp2_with fail
      refine hdue.mono ?_
      rintro e w3 ⟨rfl, hw⟩
      subst w3
      go_wp2
      go_ret
      exact ⟨rfl, Below.trans HB.out (Ks.toBelow HS.out (Below.size HB.out) hs0)⟩
end Go.Proofs.YtlobnlkpbenngaaR
