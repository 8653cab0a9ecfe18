/- VaultNames: the law's terms; rows of handles; what is known. -/
import Derived.Test.YthhoknkdmmldbaaSl
namespace Go.Proofs.Ythhoknkdmmldbaa
open Go.RowKit Go.Shelf Go.Lib
set_option linter.unusedVariables false

/-- The cells of the names 1 to k. -/
def nl (k : Nat) : List Value := (List.range k).flatMap fun i => hl (nameL (i + 1))
theorem nl_succ (k : Nat) : nl (k + 1) = nl k ++ hl (nameL (k + 1)) := by simp [nl, List.range_succ]
theorem nl_len (k : Nat) : (nl k).length = k * 16 := by
  induction k with
  | zero => rfl
  | succ k ih => rw [nl_succ, List.length_append, ih, hl_len, nameL_len]; omega
theorem nl_at {k i j : Nat} (hi : i < k) (hj : j < 16) : (nl k)[i * 16 + j]? = (hl (nameL (i + 1)))[j]? := by
  induction k with
  | zero => omega
  | succ k ih =>
    rw [nl_succ]
    by_cases e : i < k
    · rw [List.getElem?_append_left (by rw [nl_len]; omega)]; exact ih e
    · obtain rfl : i = k := by omega
      rw [List.getElem?_append_right (by rw [nl_len]; omega), nl_len, show i * 16 + j - i * 16 = j by omega]
/-- A row of handles. -/
theorem row_at {w : World} {n₀ g k c i : Nat} (h : w.ownsRow n₀ 28 16 (.slice (some ⟨g, 0, none⟩) k c) k (nl k)) (hi : i < k) : w.rangeAt g (i * 16) (hl (nameL (i + 1))) ∧ (∃ cs, w.heap[g]? = some (.cells cs 28 (0, 0))) ∧ k ≤ c ∧ c ≤ maxLen ∧ n₀ ≤ g := by
  obtain ⟨_, h | ⟨g', cap, cur, e, h1, h2, h3, h4, h5, h6⟩⟩ := h
  · cases h.1
  · injection e with e1 e2 e3
    injection e1 with e1
    injection e1 with e1
    subst e1
    subst e3
    refine ⟨fun j v hv => ?_, ⟨cur, h2⟩, h3, h4, h1⟩
    have hj : j < 16 := by have := (List.getElem?_eq_some_iff.1 hv).1; rw [hl_len, nameL_len] at this; exact this
    have e : (nl k)[i * 16 + j]? = some v := (nl_at hi hj).trans hv
    rw [← h6, List.getElem?_take_of_lt (by omega)] at e
    unfold World.cell?
    simp only [h2]
    simpa using e
theorem by_row {w : World} {n₀ g k c i : Nat} (h : w.ownsRow n₀ 28 16 (.slice (some ⟨g, 0, none⟩) k c) k (nl k)) (hi : i < k) : By n₀ w (some ⟨g, i * 16, none⟩) 16 (nameL (i + 1)) := by
  obtain ⟨h1, ⟨cs, h2⟩, _⟩ := row_at h hi
  refine ⟨fun j hj => ⟨g, i * 16, rfl, h1 j _ (hl_get hj)⟩, by rw [nameL_len]; omega, by rw [nameL_len]; omega, by omega, fun _ => ⟨g, i * 16, rfl, .inr ⟨cs, 28, _, h2, .inr rfl⟩⟩⟩
/-- The law's terms. -/
def sl6 (lb : List UInt8) (j : Nat) : Tm := ⟨6, j + 1, (j : Int), ⟨#[]⟩, ⟨(lb ++ nameL (j + 2)).toArray⟩⟩
def Ls (n : Nat) : List Tm := rt :: List.replicate n fr
def Lt (n : Nat) (lb : List UInt8) (i : Nat) : List Tm := Ls n ++ (List.range i).map (sl6 lb)
theorem Ls_len (n : Nat) : (Ls n).length = n + 1 := by simp [Ls]
theorem Ls_succ (n : Nat) : Ls n ++ [fr] = Ls (n + 1) := by simp [Ls, List.replicate_succ']
theorem Lt_len (n : Nat) (lb : List UInt8) (i : Nat) : (Lt n lb i).length = n + 1 + i := by simp [Lt, Ls_len]
theorem Lt_succ (n : Nat) (lb : List UInt8) (i : Nat) : Lt n lb i ++ [sl6 lb i] = Lt n lb (i + 1) := by simp [Lt, List.range_succ]
theorem Lt_zero (n : Nat) (lb : List UInt8) : Lt n lb 0 = Ls n := by simp [Lt]
theorem Lt_get {n i x : Nat} {lb : List UInt8} {t : Tm} (h : (Lt n lb i)[x]? = some t) : (t.kd < 2 ∧ x ≤ n) ∨ ∃ j, j < i ∧ x = n + 1 + j ∧ t = sl6 lb j := by
  unfold Lt at h
  by_cases hx : x < n + 1
  · rw [List.getElem?_append_left (by rw [Ls_len]; exact hx)] at h
    have hm := List.mem_of_getElem? h
    simp only [Ls, List.mem_cons, List.mem_replicate] at hm
    left
    rcases hm with rfl | ⟨_, rfl⟩
    · exact ⟨by simp, by omega⟩
    · exact ⟨by simp, by omega⟩
  · rw [List.getElem?_append_right (by rw [Ls_len]; omega), Ls_len] at h
    simp only [List.getElem?_map, Option.map_eq_some_iff] at h
    obtain ⟨j, hj, rfl⟩ := h
    have hl := (List.getElem?_eq_some_iff.1 hj).1
    have e := (List.getElem?_eq_some_iff.1 hj).2
    simp at hl e
    exact .inr ⟨j, by omega, by omega, rfl⟩
theorem Lt_at {n i j : Nat} {lb : List UInt8} (h : j < i) : (Lt n lb i)[n + 1 + j]? = some (sl6 lb j) := by
  unfold Lt
  rw [List.getElem?_append_right (by rw [Ls_len]; omega), Ls_len, show n + 1 + j - (n + 1) = j by omega]
  simp [h]
theorem Lt_new {n i : Nat} {lb : List UInt8} : sl6 lb i ∉ Lt n lb i := by
  intro h
  obtain ⟨x, hx⟩ := List.getElem?_of_mem h
  rcases Lt_get hx with ⟨h1, _⟩ | ⟨j, h1, _, h2⟩
  · simp [sl6] at h1
  · have := congrArg Tm.of' h2
    simp [sl6] at this
    omega
theorem Lt_small {n i : Nat} {lb : List UInt8} (h : lb.length + 16 ≤ 65536) : Small (Lt n lb i) := by
  intro x t hx h6
  rcases Lt_get hx with ⟨h1, _⟩ | ⟨j, _, _, rfl⟩
  · omega
  · simp [sl6, ba_size, nameL_len]; omega
section
variable {n m : Nat} {lb : List UInt8} {S : List (List UInt8)}
theorem kt_no (hS : ∀ b ∈ S, ∀ x ∈ wins b, n < x) {x : Nat} (h1 : 1 ≤ x) (h2 : x ≤ n) (hm : m ≤ n - 1) (hn : 1 ≤ n) : ¬ Kn (Lt n lb m) S x := by
  have key : ∀ x, Kn (Lt n lb m) S x → x = 0 ∨ n < x := by
    intro x h
    induction h with
    | root => exact .inl rfl
    | seen hb hx _ => exact .inr (hS _ hb _ hx)
    | made ht h2 h6 hd _ ih =>
      rcases Lt_get ht with ⟨h3, _⟩ | ⟨j, _, _, rfl⟩
      · omega
      · simp [sl6] at h6
    | text ht h6 _ _ _ _ _ ih =>
      rcases Lt_get ht with ⟨h3, _⟩ | ⟨j, h3, _, rfl⟩
      · omega
      · simp [sl6] at ih; omega
  intro h
  have := key x h
  omega
theorem kt_yes (hn : 2 ≤ n) (h17 : n ≤ 17) (h1 : ∃ b ∈ S, 1 ∈ wins b) (hs : ∀ j, j < n - 1 → ∃ b ∈ S, n + 1 + j ∈ wins b) : ∀ j, j < n → Kn (Lt n lb (n - 1)) S (j + 1) := by
  intro j
  induction j with
  | zero =>
    intro _
    obtain ⟨b, hb, hx⟩ := h1
    exact Kn.seen hb hx (by rw [Lt_len]; omega)
  | succ j ih =>
    intro hj
    obtain ⟨b, hb, hx⟩ := hs j (by omega)
    have hm : Kn (Lt n lb (n - 1)) S (n + 1 + j) := Kn.seen hb hx (by rw [Lt_len]; omega)
    refine Kn.text (Lt_at (show j < n - 1 by omega)) rfl hm (ih (by omega)) ?_ (by rw [Lt_len]; omega)
    simp only [sl6]
    exact wins_end lb (j + 2) (by omega)
theorem spt_yes (hn : 2 ≤ n) (h17 : n ≤ 17) (h1 : ∃ b ∈ S, 1 ∈ wins b) (hs : ∀ j, j < n - 1 → ∃ b ∈ S, n + 1 + j ∈ wins b) : ∀ i, i ≤ n - 1 → ∀ R, Spd (Lt n lb (n - 1)) S (n + 1 + i) R → R.length = i := by
  intro i
  induction i with
  | zero =>
    intro _ R h
    rw [h.none_of (fun j t hj ht => by
      rcases Lt_get ht with ⟨h3, _⟩ | ⟨j, h3, h4, rfl⟩
      · omega
      · omega)]
    rfl
  | succ i ih =>
    intro hi R h
    rw [show n + 1 + (i + 1) = n + 1 + i + 1 by omega] at h
    cases h with
    | yes hR ht h6 _ _ =>
      have := ih (by omega) _ hR
      simp [this]
    | no hR ht hno =>
      rw [Lt_at (show i < n - 1 by omega)] at ht
      injection ht with ht
      subst ht
      obtain ⟨b, hb, hx⟩ := hs i (by omega)
      exact absurd ⟨rfl, Kn.seen hb hx (by rw [Lt_len]; omega), kt_yes hn h17 h1 hs i (by omega)⟩ hno
theorem spt_no (hS : ∀ b ∈ S, ∀ x ∈ wins b, n < x) (hn : 1 ≤ n) {k : Nat} {R : List ByteArray} (h : Spd (Lt n lb (n - 1)) S k R) : R = [] := by
  refine h.none_of fun j t hj ht => ?_
  rcases Lt_get ht with ⟨h3, _⟩ | ⟨j, h3, h4, rfl⟩
  · omega
  · rintro ⟨_, _, h5⟩
    exact kt_no hS (show 1 ≤ j + 1 by omega) (by omega) (Nat.le_refl _) hn h5
end
/-- All blocks but those of one type stay. -/
def Kp (tt : Nat) (w w' : World) : Prop := ∀ (b : Nat) (ob : Obj), w.heap[b]? = some ob → (∀ cs, ob ≠ .cells cs tt (0, 0)) → w'.heap[b]? = some ob
theorem Kp.cells {tt t b : Nat} {w w' : World} {cs : Array Value} (h : Kp tt w w') (hb : w.heap[b]? = some (.cells cs t (0, 0))) (ht : t ≠ tt) : w'.heap[b]? = some (.cells cs t (0, 0)) := by
  refine h b _ hb ?_
  intro cs' e
  injection e with _ e _
  exact ht e
theorem Ag.kp {W0 w w' : World} {V tt : Nat} {L : List Tm} (h : Ag W0 w V L) (hb : Below W0.heap.size w w') (hk : Kp tt w w') (h1 : tt ≠ 45) (h2 : tt ≠ 64) : Ag W0 w' V L := by
  obtain ⟨G, c, M, hv⟩ := h.va
  obtain ⟨R, r1, r2⟩ := hv.hG
  obtain ⟨es, ck, m1, _⟩ := hv.hM
  exact ⟨h.bel.trans hb, G, c, M, hv.keep ((hk.cells hv.hV h1.symm).trans hv.hV.symm) ((hk.cells r1 h2.symm).trans r1.symm) ((hk M _ m1 (by intro cs e; cases e)).trans m1.symm)⟩
theorem kp_grown {w w' : World} {n₀ e s n : Nat} {v : Value} {xs : List Value} (h : w.ownsRow n₀ e s v n xs) (hg : w.grownBy w' v.ownBlock) : Kp e w w' ∧ (n₀ ≤ w.heap.size → Below n₀ w w') := by
  refine ⟨fun b ob hb hne => ?_, fun hn => ⟨hg.os, hg.tape, hg.output, hg.size, fun k hk => hg.block k (by omega) ?_⟩⟩
  · refine (hg.block b (Array.getElem?_eq_some_iff.1 hb).1 ?_).trans hb
    intro ee
    obtain ⟨_, h1 | ⟨g, cap, cur, rfl, h1, h2, _⟩⟩ := h
    · rw [h1.1] at ee; cases ee
    · simp [Value.ownBlock] at ee
      subst ee
      rw [h2] at hb
      injection hb with hb
      exact hne _ hb.symm
  · intro ee
    obtain ⟨_, h1 | ⟨g, cap, cur, rfl, h1, h2, _⟩⟩ := h
    · rw [h1.1] at ee; cases ee
    · simp [Value.ownBlock] at ee; omega
/-- append, and what was there before it. -/
theorem app_old {w : World} {base t ty e : TypeId} {i : TypeInfo} {z : Value} {size bytes : Nat} (ht : Try.prog.underlying t = some (.slice e)) (hi : Try.prog.info? e = some i) (hz : i.zero = some z)
    (hsize : i.size = size) (hby : i.bytes = bytes) (hzs : z.cells.size = size) (hsz : 0 < size) {o : Option Addr} {n cap : Nat} {xs : List Value} (hown : w.ownsRow base e size (.slice o n cap) n xs)
    (a : Addr) (m c : Nat) (news : List Value) (hl : news.length = m * size) (hnews : ∀ j u, news[j]? = some u → w.cell? (a.add j) = some u) (h1 : ∀ u ∈ news, u.oneCell' = true)
    (hm : 0 < m) (h63 : n + m ≤ maxLen) (hbytes : (n + m) * bytes ≤ 140737488355328) (hbase : base ≤ w.heap.size) :
    ∃ g cap' w', (Builtin.append_ #[t, t] ty #[.slice o n cap, .slice (some a) m c]).run Try.prog w = .ok (.slice (some ⟨g, 0, none⟩) (n + m) cap') w' ∧ w'.ownsRow base e size (.slice (some ⟨g, 0, none⟩) (n + m) cap') (n + m) (xs ++ news) ∧ Kp e w w' ∧ Below base w w' ∧ w'.ownsRow base e size (.slice o n cap) n xs := by
  obtain ⟨v', w', hr, h2, h3, h4, h5⟩ := run_append_own_at (P := Try.prog) w base t ty e i z size bytes ht hi hz hsize hby hzs hsz _ n xs hown a m c news hl hnews h1 h63 hbytes hbase
  obtain ⟨k1, k2⟩ := kp_grown hown h3
  have hcopy := h2
  obtain ⟨_, h | ⟨g', cap', cur', rfl, p1, p2, p3, p4, p5, p6⟩⟩ := hcopy
  · omega
  · refine ⟨g', cap', w', hr, h2, k1, k2 hbase, ?_⟩
    obtain ⟨hx, h | ⟨g, cap2, cur, e1, q1, q2, q3, q4, q5, q6⟩⟩ := hown
    · exact ⟨hx, .inl h⟩
    · injection e1 with e1 _ e2
      subst e1
      subst e2
      by_cases hroom : n + m ≤ cap
      · rw [← hsize] at hl q5 q6 hx
        have hr2 := run_append_room (P := Try.prog) w t ty e i ht hi g n cap cur q2 a m c news hl hnews h1 hroom (by rw [hl, q5, ← Nat.add_mul]; exact Nat.mul_le_mul_right _ hroom)
        rw [hr2] at hr
        injection hr with hr1 hr3
        injection hr1 with hr1 _ hr4
        injection hr1 with hr1
        injection hr1 with hr1
        subst hr1
        rw [hsize] at hx
        refine ⟨hx, .inr ⟨g, cap, cur', rfl, q1, p2, q3, q4, ?_, ?_⟩⟩
        · rw [hr4]; exact p5
        · have := congrArg (List.take (n * size)) p6
          rw [List.take_take, Nat.min_eq_left (Nat.mul_le_mul_right _ (by omega)), ← hx, List.take_left] at this
          rw [← hx]
          exact this
      · have holds : ∀ j u, xs[j]? = some u → w.cell? ((⟨g, 0, none⟩ : Addr).add j) = some u := World.ownsRow.cells (g := g) (v := .slice (some ⟨g, 0, none⟩) n cap) ⟨hx, .inr ⟨g, cap, cur, rfl, q1, q2, q3, q4, q5, q6⟩⟩ rfl
        have hr2 := run_append_grow (P := Try.prog) w t ty e i z ht hi hz ⟨g, 0, none⟩ n cap xs (by rw [hsize]; exact hx) holds a m c news (by rw [hsize]; exact hl) hnews (by omega) (by simp only [maxLen] at h63; omega) (growslice_fits (by omega) (by rw [hby]; exact hbytes))
        rw [hr2] at hr
        injection hr with _ hr3
        exact ⟨hx, .inr ⟨g, cap, cur, rfl, q1, by rw [← hr3]; exact (Below.heap_alloc w.drew _ g (Array.getElem?_eq_some_iff.1 q2).1).trans q2, q3, q4, q5, q6⟩⟩
end Go.Proofs.Ythhoknkdmmldbaa
