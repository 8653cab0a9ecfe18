/- VaultNames: what stands there while the law goes on. -/
import Derived.Test.YthhoknkdmmldbaaNa
namespace Go.Proofs.Ythhoknkdmmldbaa
open Go.RowKit Go.Shelf Go.Lib
set_option linter.unusedVariables false

theorem inf28 : ∃ i, Try.prog.info? 28 = some i ∧ i.zero = some (hv z16) ∧ i.size = 16 ∧ i.bytes = 16 := by
  have : (Try.prog.info? 28).map (fun i => (i.zero, i.size, i.bytes)) = some (some (hv z16), 16, 16) := by kernel_rfl
  cases h : Try.prog.info? 28 with
  | none => rw [h] at this; cases this
  | some i =>
    rw [h] at this
    simp only [Option.map_some, Option.some.injEq, Prod.mk.injEq] at this
    exact ⟨i, rfl, this.1, this.2.1, this.2.2⟩
theorem own_stay {w w' : World} {n₀ e s n : Nat} {v : Value} {xs : List Value} (h : w.ownsRow n₀ e s v n xs) (hk : ∀ (g : Nat) (cs : Array Value), w.heap[g]? = some (Obj.cells cs e (0, 0)) → w'.heap[g]? = some (Obj.cells cs e (0, 0))) : w'.ownsRow n₀ e s v n xs := by
  obtain ⟨h0, h | ⟨g, cap, cur, e, h1, h2, h3⟩⟩ := h
  · exact ⟨h0, .inl h⟩
  · exact ⟨h0, .inr ⟨g, cap, cur, e, h1, hk g cur h2, h3⟩⟩
/-- A vault of m fresh terms, and the names of k of them. -/
structure Nm (W0 w : World) (V m k : Nat) (o : Option Addr) (c : Nat) : Prop where
  ag : Ag W0 w V (Ls m)
  row : w.ownsRow W0.heap.size 28 16 (.slice o k c) k (nl k)
section
variable {W0 w w' : World} {V m k c : Nat} {o : Option Addr}
theorem Nm.bel (h : Nm W0 w V m k o c) (hb : Below w.heap.size w w') : Nm W0 w' V m k o c :=
  ⟨h.ag.go hb, own_stay h.row fun g cs hg => heap_bel hg hb⟩
theorem Nm.fresh (h : Nm W0 w V m k o c) (hm : m ≤ 100) : Calls Try.prog 20 #[.pointer (some ⟨V, 0, none⟩)] w fun e w' => e = .returned (hv (nameL (m + 1))) ∧ Nm W0 w' V (m + 1) k o c := by
  refine (h.ag.new (by rw [Ls_len]; omega)).mono ?_
  rintro e w' ⟨rfl, h1, h2⟩
  rw [Ls_len]
  rw [Ls_succ] at h1
  exact ⟨rfl, h1, own_stay h.row fun g cs hg => h2 g cs hg⟩
theorem Nm.push {b : Nat} (h : Nm W0 w V m k o c) (hk : k ≤ 100) (hb : w.heap[b]? = some (.cells (hl (nameL (k + 1))).toArray 28 (0, 0))) :
    ∃ g c' w', (Builtin.append_ #[33, 33] 33 #[.slice o k c, .slice (some ⟨b, 0, none⟩) 1 1]).run Try.prog w = .ok (.slice (some ⟨g, 0, none⟩) (k + 1) c') w' ∧ Nm W0 w' V m (k + 1) (some ⟨g, 0, none⟩) c' := by
  obtain ⟨i, hi, hz, hs, hby⟩ := inf28
  have hcell : ∀ j u, (hl (nameL (k + 1)))[j]? = some u → w.cell? ((⟨b, 0, none⟩ : Addr).add j) = some u := by
    intro j u hu
    rw [Addr.add_mid]
    simp only [World.cell?, hb, Nat.zero_add]
    simpa using hu
  obtain ⟨g, c', w', hr, h1, h2, h3, _⟩ := app_old (ty := 33) Try.underlying33 hi hz hs hby (by simp [Value.cells, z16_len]) (by omega) h.row ⟨b, 0, none⟩ 1 1 (hl (nameL (k + 1))) (by rw [hl_len, nameL_len]) hcell (hl_oc _) (by omega) (by unfold maxLen; omega) (by omega) h.ag.bel.size
  rw [← nl_succ] at h1
  exact ⟨g, c', w', hr, h.ag.kp h3 h2 (by decide) (by decide), h1⟩
end
/-- One more text, and those that were there. -/
theorem Tx.app2 {n₀ n₁ n c k : Nat} {o : Option Addr} {X : World} {T : List (Nat × Nat × ByteArray)} {x : Nat × Nat × ByteArray} (h : Tx n₀ n₁ X o n c T) (hx : By n₀ X (some ⟨x.1, 0, none⟩) x.2.1 x.2.2.data.toList) (hk : X.heap[k]? = some (.cells #[sv x] 38 (0, 0))) (h01 : n₀ ≤ n₁) (hn : n₁ ≤ X.heap.size) (hle : n ≤ 1000000) :
    ∃ g c' X', (Builtin.append_ #[34, 34] 34 #[.slice o n c, .slice (some ⟨k, 0, none⟩) 1 1]).run Try.prog X = .ok (.slice (some ⟨g, 0, none⟩) (n + 1) c') X' ∧ Tx n₀ n₁ X' (some ⟨g, 0, none⟩) (n + 1) c' (T ++ [x]) ∧ Tx n₀ n₁ X' o n c T ∧ Kp 38 X X' ∧ Below n₁ X X' := by
  obtain ⟨i, hi, hz, hs, hb⟩ := inf38
  have hcell : ∀ j u, [sv x][j]? = some u → X.cell? ((⟨k, 0, none⟩ : Addr).add j) = some u := by
    intro j u hu
    rw [Addr.add_mid]
    simp only [World.cell?, hk, Nat.zero_add]
    simpa using hu
  obtain ⟨g, c', X', hr, h1, h2, h3, h4⟩ := app_old (ty := 34) Try.underlying34 hi hz hs hb rfl (by omega) h.own ⟨k, 0, none⟩ 1 1 [sv x] rfl hcell (by simp [sv, Value.oneCell']) (by omega) (by unfold maxLen; omega) (by omega) hn
  have e : T.map sv ++ [sv x] = (T ++ [x]).map sv := by simp
  rw [e] at h1
  have stay : ∀ b, b < X.heap.size → (b < n₀ ∨ ∃ cs t fr, X.heap[b]? = some (.cells cs t fr) ∧ (t = 5 ∨ t = 28)) → X'.heap[b]? = X.heap[b]? := by
    intro b hbs hor
    rcases hor with h5 | ⟨cs2, t2, fr2, h5, h6⟩
    · exact h3.block b (by omega)
    · refine (h2 b _ h5 ?_).trans h5.symm
      intro cs e
      injection e with _ e _
      rw [e] at h6
      rcases h6 with h6 | h6 <;> cases h6
  refine ⟨g, c', X', hr, ⟨h1, fun y hy => ?_⟩, ⟨h4, fun y hy => (h.by' y hy).stay stay⟩, h2, h3⟩
  rcases List.mem_append.1 hy with hy | hy
  · exact (h.by' y hy).stay stay
  · obtain rfl := List.mem_singleton.1 hy
    exact hx.stay stay
/-- What is seen, of texts. -/
def tse (T : List (Nat × Nat × ByteArray)) : List (Option Addr × Nat × List UInt8) := T.map fun x => (some ⟨x.1, 0, none⟩, x.2.1, x.2.2.data.toList)
theorem Tx.se {n₀ n₁ n c : Nat} {o : Option Addr} {w : World} {T : List (Nat × Nat × ByteArray)} (h : Tx n₀ n₁ w o n c T) : Se n₀ w o (tse T) := by
  constructor
  · intro x hx
    obtain ⟨y, hy, rfl⟩ := List.mem_map.1 hx
    exact h.by' y hy
  · intro j x hx
    unfold tse at hx
    rw [List.getElem?_map] at hx
    obtain ⟨y, hy, rfl⟩ := Option.map_eq_some_iff.1 hx
    obtain ⟨h0, h1 | ⟨g, cap, cur, e, h1, h2, h3, h4, h5, h6⟩⟩ := h.own
    · rw [List.length_map, h1.2] at h0
      have := (List.getElem?_eq_some_iff.1 hy).1
      omega
    · injection e with e _ _
      have hl := (List.getElem?_eq_some_iff.1 hy).1
      rw [List.length_map] at h0
      refine ⟨g, 0, cur, e, h2, ?_⟩
      have e2 : (T.map sv)[j]? = some (sv y) := by rw [List.getElem?_map, hy]; rfl
      rw [← h6, List.getElem?_take_of_lt (by omega)] at e2
      rw [Nat.zero_add]
      have e3 : cur[j]? = some (sv y) := by simpa using e2
      rw [e3]
      rfl
theorem tot_tse (T : List (Nat × Nat × ByteArray)) (B : Nat) (h : ∀ x ∈ T, x.2.2.size ≤ B) : tot (tse T) ≤ T.length * B := by
  unfold tot tse
  induction T with
  | nil => simp
  | cons x T ih =>
    have h1 : x.2.2.data.toList.length ≤ B := h x (by simp)
    have h2 := ih fun y hy => h y (by simp [hy])
    simp only [List.map_cons, List.sum_cons, List.length_cons, Nat.add_mul, Nat.one_mul]
    omega
theorem vs_tse (T : List (Nat × Nat × ByteArray)) : vs (tse T) = T.map fun x => x.2.2.data.toList := by simp [vs, tse]
/-- The law's sealed texts. -/
def zs (n NB i : Nat) : List ByteArray := (List.range i).map fun j => ⟨(zn (NB + 16) (n + 1 + j)).toArray⟩
theorem zs_succ (n NB i : Nat) : zs n NB (i + 1) = zs n NB i ++ [⟨(zn (NB + 16) (n + 1 + i)).toArray⟩] := by simp [zs, List.range_succ]
/-- The vault with i sealed texts, the names, what is seen. -/
structure Nq (W0 w : World) (V g cl n NB : Nat) (lb : List UInt8) (i : Nat) (os : Option Addr) (cs : Nat) (T : List (Nat × Nat × ByteArray)) : Prop where
  ag : Ag W0 w V (Lt n lb i)
  row : w.ownsRow W0.heap.size 28 16 (.slice (some ⟨g, 0, none⟩) n cl) n (nl n)
  tx : Tx W0.heap.size W0.heap.size w os T.length cs T
section
variable {W0 w w' : World} {V g cl n NB i cs : Nat} {lb : List UInt8} {os : Option Addr} {T : List (Nat × Nat × ByteArray)}
theorem Nq.bel (h : Nq W0 w V g cl n NB lb i os cs T) (hb : Below w.heap.size w w') : Nq W0 w' V g cl n NB lb i os cs T :=
  ⟨h.ag.go hb, own_stay h.row fun g cs hg => heap_bel hg hb, h.tx.bel hb⟩
theorem Nq.push {gx cx k : Nat} {X : World} {l : ByteArray} (h : Nq W0 X V g cl n NB lb i os cs T) (hT : T.length ≤ 1000) (hx : By W0.heap.size X (some ⟨gx, 0, none⟩) cx l.data.toList) (hk : X.heap[k]? = some (.cells #[.slice (some ⟨gx, 0, none⟩) l.size cx] 38 (0, 0))) :
    ∃ gs c' X', (Builtin.append_ #[34, 34] 34 #[.slice os T.length cs, .slice (some ⟨k, 0, none⟩) 1 1]).run Try.prog X = .ok (.slice (some ⟨gs, 0, none⟩) (T.length + 1) c') X' ∧ Nq W0 X' V g cl n NB lb i (some ⟨gs, 0, none⟩) c' (T ++ [(gx, cx, l)]) ∧ Nq W0 X' V g cl n NB lb i os cs T := by
  obtain ⟨gs, c', X', hr, h1, h2, h3, h4⟩ := h.tx.app2 (x := (gx, cx, l)) hx hk (Nat.le_refl _) h.ag.bel.size (by omega)
  have ha := h.ag.kp h4 h3 (by decide) (by decide)
  have hr' := own_stay h.row fun g cs hg => h3.cells hg (by decide)
  exact ⟨gs, c', X', hr, ⟨ha, hr', by rw [List.length_append]; exact h1⟩, ha, hr', h2⟩
/-- Seal. -/
theorem Nq.seal {gx cx : Nat} (h : Nq W0 w V g cl n NB lb i os cs T) (hi : i + 1 < n) (hn : n ≤ 17) (hlb : lb.length = NB) (hNB : NB + 16 ≤ 65536) (hx : Sl w (some ⟨gx, 0, none⟩) (lb ++ nameL (i + 2))) :
    Calls Try.prog 18 #[.pointer (some ⟨V, 0, none⟩), hv (nameL (i + 1)), .int .i64 (i : Int), .slice none 0 0, .slice (some ⟨gx, 0, none⟩) (NB + 16) cx] w fun e w' => ∃ gz cz, e = .returned (.tuple #[.slice (some ⟨gz, 0, none⟩) (NB + 16 + 16) cz, .int .i64 0]) ∧ Nq W0 w' V g cl n NB lb (i + 1) os cs T ∧ By W0.heap.size w' (some ⟨gz, 0, none⟩) cz (zn (NB + 16) (n + 1 + i)) := by
  obtain ⟨G, c, M, hv⟩ := h.ag.va
  have hl : (lb ++ nameL (i + 2)).length = NB + 16 := by rw [List.length_append, nameL_len, hlb]
  have := seal_yes hv (by rw [Lt_len]; omega) (i + 1) (by rw [Lt_len]; omega) (i : Int) (by omega) none (some ⟨gx, 0, none⟩) 0 cx [] (lb ++ nameL (i + 2)) (fun j hj => absurd hj (by simp)) hx (by omega)
  rw [hl] at this
  refine this.mono ?_
  rintro e w' ⟨ix, gz, cz, rfl, hm, hby⟩
  obtain ⟨G', c', L', a1, a2, a3, a4, a5⟩ := hm
  rcases a5 with rfl | ⟨rfl, hix, _⟩
  · exact absurd (List.mem_of_getElem? a4) Lt_new
  · rw [Lt_len] at hix
    subst hix
    have e1 : Lt n lb i ++ [⟨6, i + 1, (i : Int), ⟨#[]⟩, ⟨(lb ++ nameL (i + 2)).toArray⟩⟩] = Lt n lb (i + 1) := Lt_succ n lb i
    have a1' : Va W0.heap.size w' V G' c' M (Lt n lb (i + 1)) := by rw [← e1]; exact a1
    obtain ⟨R, r1, _⟩ := hv.hG
    obtain ⟨es, ck, m1, _⟩ := hv.hM
    have kc : ∀ (b : Nat) cs t fr, w.heap[b]? = some (.cells cs t fr) → t ≠ 45 → t ≠ 64 → w'.heap[b]? = some (.cells cs t fr) := by
      intro b cs t fr hb h1 h2
      refine (a2.2.2.2.2 b (Array.getElem?_eq_some_iff.1 hb).1 ?_).trans hb
      rintro (rfl | rfl | rfl)
      · rw [hv.hV] at hb; injection hb with hb; injection hb with _ hb _; exact h1 hb.symm
      · rw [r1] at hb; injection hb with hb; injection hb with _ hb _; exact h2 hb.symm
      · rw [m1] at hb; cases hb
    have hbel := a2.bel hv
    refine ⟨gz, cz, rfl, ⟨⟨h.ag.bel.trans hbel, G', c', M, a1'⟩, own_stay h.row fun g cs hg => kc g cs 28 _ hg (by decide) (by decide), ⟨own_stay h.tx.own fun g cs hg => kc g cs 38 _ hg (by decide) (by decide), fun y hy => (h.tx.by' y hy).stay ?_⟩⟩, hby⟩
    intro b hb hor
    rcases hor with h1 | ⟨cs2, t, fr, h2, h3⟩
    · exact hbel.block b h1
    · refine (kc b cs2 t fr h2 ?_ ?_).trans h2.symm
      · intro e; rw [e] at h3; rcases h3 with h3 | h3 <;> cases h3
      · intro e; rw [e] at h3; rcases h3 with h3 | h3 <;> cases h3
theorem Nq.seal_big {gx np cx : Nat} (h : Nq W0 w V g cl n NB lb i os cs T) (hi : i + 1 < n) (hn : n ≤ 17) (hnp : 65536 < np) :
    Calls Try.prog 18 #[.pointer (some ⟨V, 0, none⟩), hv (nameL (i + 1)), .int .i64 (i : Int), .slice none 0 0, .slice (some ⟨gx, 0, none⟩) np cx] w fun e w' => e = .returned (.tuple #[.slice none 0 0, .int .i64 3]) ∧ Below w.heap.size w w' := by
  obtain ⟨G, c, M, hv⟩ := h.ag.va
  exact Go.Proofs.Ythhoknkdmmldbaa.seal_big hv (by rw [Lt_len]; omega) (i + 1) (by rw [Lt_len]; omega) (i : Int) (by omega) none _ 0 np 0 cx hnp
end
end Go.Proofs.Ythhoknkdmmldbaa
