/- VaultNames: what is hidden, what is spied. -/
import Derived.Test.YthhoknkdmmldbaaNb
namespace Go.Proofs.Ythhoknkdmmldbaa
open Go.RowKit Go.Shelf Go.Lib
set_option linter.unusedVariables false

section
variable {W0 w w' : World} {V g cl m NB cs : Nat} {lb : List UInt8} {os : Option Addr} {T : List (Nat × Nat × ByteArray)}
theorem zs_mem {n NB i : Nat} {b : List UInt8} (hT : T.map (fun x => x.2.2) = zs n NB i) : b ∈ vs (tse T) ↔ ∃ j, j < i ∧ b = zn (NB + 16) (n + 1 + j) := by
  have e : vs (tse T) = (zs n NB i).map fun x => x.data.toList := by rw [vs_tse, ← hT]; simp
  rw [e]
  simp only [zs, List.map_map, List.mem_map, List.mem_range, Function.comp]
  constructor
  · rintro ⟨j, hj, rfl⟩; exact ⟨j, hj, by simp⟩
  · rintro ⟨j, hj, rfl⟩; exact ⟨j, hj, by simp⟩
theorem zs_far {n NB i : Nat} (hT : T.map (fun x => x.2.2) = zs n NB i) (h : n + 1 + i ≤ 64) : ∀ b ∈ vs (tse T), ∀ x ∈ wins b, n < x := by
  intro b hb x hx
  obtain ⟨j, hj, rfl⟩ := (zs_mem hT).1 hb
  have := (wins_zn _ _ (by omega) x).1 hx
  omega
theorem zs_size {n NB i : Nat} (hT : T.map (fun x => x.2.2) = zs n NB i) : T.length = i ∧ ∀ x ∈ T, x.2.2.size ≤ NB + 32 := by
  constructor
  · have := congrArg List.length hT
    simpa [zs] using this
  · intro x hx
    have h1 : x.2.2 ∈ T.map (fun x => x.2.2) := List.mem_map.2 ⟨x, hx, rfl⟩
    rw [hT] at h1
    obtain ⟨j, _, e⟩ := List.mem_map.1 h1
    rw [← e, ba_size, zn_len]
    omega
/-- The first name, seen too. -/
def wi1 (g : Nat) (T : List (Nat × Nat × ByteArray)) : List (Nat × Nat × ByteArray) := T ++ [(g, 16, ⟨(nameL 1).toArray⟩)]
theorem wi1_vs (g : Nat) (T : List (Nat × Nat × ByteArray)) : vs (tse (wi1 g T)) = vs (tse T) ++ [nameL 1] := by simp [wi1, vs_tse]
theorem wi1_yes {n NB : Nat} (hT : T.map (fun x => x.2.2) = zs n NB (n - 1)) (h2 : 2 ≤ n) (h17 : n ≤ 17) : (∃ b ∈ vs (tse (wi1 g T)), 1 ∈ wins b) ∧ ∀ j, j < n - 1 → ∃ b ∈ vs (tse (wi1 g T)), n + 1 + j ∈ wins b := by
  rw [wi1_vs]
  refine ⟨⟨nameL 1, by simp, by rw [wins_name 1 (by omega)]; simp⟩, fun j hj => ⟨zn (NB + 16) (n + 1 + j), List.mem_append.2 (.inl ((zs_mem hT).2 ⟨j, hj, rfl⟩)), (wins_zn _ _ (by omega) _).2 rfl⟩⟩
theorem wi1_tot {n NB : Nat} (hT : T.map (fun x => x.2.2) = zs n NB (n - 1)) (h17 : n ≤ 17) (hNB : NB + 16 ≤ 65536) : tot (tse (wi1 g T)) ≤ 2000000 := by
  obtain ⟨h1, h2⟩ := zs_size hT
  have := tot_tse (wi1 g T) 65600 (by
    intro x hx
    rcases List.mem_append.1 hx with hx | hx
    · have := h2 x hx; omega
    · obtain rfl := List.mem_singleton.1 hx
      show (⟨(nameL 1).toArray⟩ : ByteArray).size ≤ 65600
      rw [ba_size, nameL_len]; omega)
  have h3 : (wi1 g T).length = T.length + 1 := by simp [wi1]
  rw [h3, h1] at this
  omega
theorem tx_tot {n NB : Nat} (hT : T.map (fun x => x.2.2) = zs n NB (n - 1)) (h17 : n ≤ 17) (hNB : NB + 16 ≤ 65536) : tot (tse T) ≤ 2000000 := by
  obtain ⟨h1, h2⟩ := zs_size hT
  have := tot_tse T 65600 (fun x hx => by have := h2 x hx; omega)
  rw [h1] at this
  omega
theorem bd_l {n a : Nat} {lb : List UInt8} (h17 : n ≤ 17) (ha : a ≤ 2000000) : a + 1 + (Lt n lb (n - 1)).length * (200000 + 2 * (Lt n lb (n - 1)).length * 65537) ≤ 4398046511104 := by
  have hl : (Lt n lb (n - 1)).length ≤ 34 := by rw [Lt_len]; omega
  have := Nat.mul_le_mul hl (show 200000 + 2 * (Lt n lb (n - 1)).length * 65537 ≤ 200000 + 2 * 34 * 65537 by omega)
  omega
theorem tse_len (T : List (Nat × Nat × ByteArray)) : (tse T).length = T.length := by simp [tse]
theorem Nq.hid {S : List (Nat × Nat × ByteArray)} {ot : Option Addr} {ct : Nat} (h : Nq W0 w V g cl (m + 1) NB lb m os cs T) (hS : Tx W0.heap.size W0.heap.size w ot S.length ct S) (hm : 1 ≤ m) (h17 : m + 1 ≤ 17) (hlb : lb.length = NB) (hNB : NB + 16 ≤ 65536) (htot : tot (tse S) ≤ 2000000) (hSl : S.length ≤ 1000) :
    Calls Try.prog 24 #[.pointer (some ⟨V, 0, none⟩), .slice (some ⟨g, m * 16, none⟩) 16 16, .slice ot S.length ct] w fun e w' => ∃ b : Bool, e = .returned (.bool b) ∧ (b = true ↔ ¬ Kn (Lt (m + 1) lb m) (vs (tse S)) (m + 1)) ∧ Below w.heap.size w w' := by
  obtain ⟨G, c, M, hv⟩ := h.ag.va
  have := hidden_c W0.heap.size V G c M 16 ct (Lt (m + 1) lb m) (some ⟨g, m * 16, none⟩) ot (nameL (m + 1)) (tse S) w hv (by_row h.row (by omega)) hS.se (Lt_small (by omega)) (by rw [Lt_len]; omega) (by rw [tse_len]; omega) (bd_l (n := m + 1) h17 htot)
  rw [nameL_len, tse_len] at this
  refine this.mono ?_
  rintro e w' ⟨b, rfl, hb, hbe⟩
  refine ⟨b, rfl, hb.trans ?_, hbe⟩
  rw [wins_name (m + 1) (by omega)]
  simp only [List.mem_singleton, exists_eq_left]
  have hl : m + 1 < (Lt (m + 1) lb m).length := by rw [Lt_len]; omega
  simp [hl]
theorem Nq.spd {S : List (Nat × Nat × ByteArray)} {ot : Option Addr} {ct : Nat} (h : Nq W0 w V g cl (m + 1) NB lb m os cs T) (hS : Tx W0.heap.size W0.heap.size w ot S.length ct S) (hm : 1 ≤ m) (h17 : m + 1 ≤ 17) (hlb : lb.length = NB) (hNB : NB + 16 ≤ 65536) (htot : tot (tse S) ≤ 2000000) (hSl : S.length ≤ 1000) :
    Calls Try.prog 23 #[.pointer (some ⟨V, 0, none⟩), .slice ot S.length ct] w fun e w' => ∃ o n c R, e = .returned (.slice o n c) ∧ n = List.length R ∧ Spd (Lt (m + 1) lb m) (vs (tse S)) (m + 1 + 1 + m) R ∧ Below w.heap.size w w' := by
  obtain ⟨G, c, M, hv⟩ := h.ag.va
  have := spied_c W0.heap.size V G c M ct (Lt (m + 1) lb m) ot (tse S) w hv hS.se (Lt_small (by omega)) (by rw [Lt_len]; omega) (by rw [tse_len]; omega) (bd_l (n := m + 1) h17 htot)
  rw [tse_len] at this
  refine this.mono ?_
  rintro e w' ⟨o, n, c, R, rfl, hsd, _, hn, hb⟩
  rw [Lt_len] at hsd
  exact ⟨o, n, c, _, rfl, by simpa using hn, hsd, hb⟩
/-- Before who sees the sealed texts alone. -/
theorem Nq.hid1 (h : Nq W0 w V g cl (m + 1) NB lb m os cs T) (hT : T.map (fun x => x.2.2) = zs (m + 1) NB m) (hm : 1 ≤ m) (h17 : m + 1 ≤ 17) (hlb : lb.length = NB) (hNB : NB + 16 ≤ 65536) :
    Calls Try.prog 24 #[.pointer (some ⟨V, 0, none⟩), .slice (some ⟨g, m * 16, none⟩) 16 16, .slice os m cs] w fun e w' => e = .returned (.bool true) ∧ Below w.heap.size w w' := by
  have hl := (zs_size hT).1
  have := h.hid h.tx hm h17 hlb hNB (tx_tot (n := m + 1) hT h17 hNB) (by omega)
  rw [hl] at this
  refine this.mono ?_
  rintro e w' ⟨b, rfl, hb, hbe⟩
  have : b = true := hb.2 (kt_no (n := m + 1) (zs_far hT (by omega)) (by omega) (Nat.le_refl _) (by omega) (by omega))
  subst this
  exact ⟨rfl, hbe⟩
theorem Nq.spd1 (h : Nq W0 w V g cl (m + 1) NB lb m os cs T) (hT : T.map (fun x => x.2.2) = zs (m + 1) NB m) (hm : 1 ≤ m) (h17 : m + 1 ≤ 17) (hlb : lb.length = NB) (hNB : NB + 16 ≤ 65536) :
    Calls Try.prog 23 #[.pointer (some ⟨V, 0, none⟩), .slice os m cs] w fun e w' => (∃ o c, e = .returned (.slice o 0 c)) ∧ Below w.heap.size w w' := by
  have hl := (zs_size hT).1
  have := h.spd h.tx hm h17 hlb hNB (tx_tot (n := m + 1) hT h17 hNB) (by omega)
  rw [hl] at this
  refine this.mono ?_
  rintro e w' ⟨o, n, c, R, rfl, hn, hsd, hbe⟩
  obtain rfl := spt_no (n := m + 1) (zs_far hT (by omega)) (by omega) hsd
  simp at hn
  subst hn
  exact ⟨⟨o, c, rfl⟩, hbe⟩
/-- Before who sees the first name, too. -/
theorem Nq.hid2 {ot : Option Addr} {ct : Nat} (h : Nq W0 w V g cl (m + 1) NB lb m ot ct (wi1 g T)) (hT : T.map (fun x => x.2.2) = zs (m + 1) NB m) (hm : 1 ≤ m) (h17 : m + 1 ≤ 17) (hlb : lb.length = NB) (hNB : NB + 16 ≤ 65536) :
    Calls Try.prog 24 #[.pointer (some ⟨V, 0, none⟩), .slice (some ⟨g, m * 16, none⟩) 16 16, .slice ot (m + 1) ct] w fun e w' => e = .returned (.bool false) ∧ Below w.heap.size w w' := by
  have hl : (wi1 g T).length = m + 1 := by simp [wi1, (zs_size hT).1]
  have := h.hid h.tx hm h17 hlb hNB (wi1_tot (n := m + 1) hT h17 hNB) (by omega)
  rw [hl] at this
  refine this.mono ?_
  rintro e w' ⟨b, rfl, hb, hbe⟩
  have : b = false := by
    cases b with
    | false => rfl
    | true =>
      obtain ⟨y1, y2⟩ := wi1_yes (g := g) (n := m + 1) hT (by omega) h17
      exact absurd (kt_yes (n := m + 1) (by omega) h17 y1 y2 m (by omega)) (hb.1 rfl)
  subst this
  exact ⟨rfl, hbe⟩
theorem Nq.spd2 {ot : Option Addr} {ct : Nat} (h : Nq W0 w V g cl (m + 1) NB lb m ot ct (wi1 g T)) (hT : T.map (fun x => x.2.2) = zs (m + 1) NB m) (hm : 1 ≤ m) (h17 : m + 1 ≤ 17) (hlb : lb.length = NB) (hNB : NB + 16 ≤ 65536) :
    Calls Try.prog 23 #[.pointer (some ⟨V, 0, none⟩), .slice ot (m + 1) ct] w fun e w' => (∃ o c, e = .returned (.slice o m c)) ∧ Below w.heap.size w w' := by
  have hl : (wi1 g T).length = m + 1 := by simp [wi1, (zs_size hT).1]
  have := h.spd h.tx hm h17 hlb hNB (wi1_tot (n := m + 1) hT h17 hNB) (by omega)
  rw [hl] at this
  refine this.mono ?_
  rintro e w' ⟨o, n, c, R, rfl, hn, hsd, hbe⟩
  obtain ⟨y1, y2⟩ := wi1_yes (g := g) (n := m + 1) hT (by omega) h17
  have := spt_yes (n := m + 1) (by omega) h17 y1 y2 m (by omega) R hsd
  rw [this] at hn
  subst hn
  exact ⟨⟨o, c, rfl⟩, hbe⟩
end
end Go.Proofs.Ythhoknkdmmldbaa
