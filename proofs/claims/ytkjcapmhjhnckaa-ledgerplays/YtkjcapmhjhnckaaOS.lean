/- LedgerOnce: the law's state between two acts, and two lists of packets in one. -/
import Derived.Test.YtkjcapmhjhnckaaAg
import Derived.Test.YtkjcapmhjhnckaaOpen
namespace Go.Proofs.Ytkjcapmhjhnckaa
open Go.RowKit Go.Maps Go.Shelf
set_option linter.unusedVariables false
set_option maxRecDepth 100000

theorem mem_ons {O : List (Pk × Bool)} {p : Pk} (h : p ∈ ons O) : ∃ x ∈ O, x.1 = p := by
  unfold ons at h
  obtain ⟨x, hx, rfl⟩ := List.mem_map.1 h
  exact ⟨x, (List.mem_filter.1 hx).1, rfl⟩
theorem Ls.ok.mono {L : Ls} {M M' : Nat} (h : L.ok M) (hM : M ≤ M') : L.ok M' :=
  ⟨h.fit, h.z, h.c, Nat.le_trans h.lenO hM, Nat.le_trans h.lenT hM, h.t0, h.t1, h.d0, h.d1, h.up, h.tb, h.top, h.hd⟩
theorem ssum_bound {P : List Pk} (h : ∀ p ∈ P, p.ok) : 0 ≤ ssum P ∧ ssum P ≤ 65535 * P.length := by
  induction P with
  | nil => simp [ssum]
  | cons x t ih =>
    have h1 := ih fun y hy => h y (by simp [hy])
    have h2 := h x (by simp)
    have h3 := h2.s0
    have h4 := h2.s1
    simp only [ssum, List.length_cons]
    omega
/-- The ledger and what was told, as they lie. -/
structure OnW (w : World) (A : Ad) (L : Ls) (M : Nat) (o : Option Addr) (c : Nat) (D : List Int) (X : World) : Prop where
  lg : Lg X A L
  ok : L.ok M
  bel : Below w.heap.size w X
  new : ∀ k, A.own k → w.heap.size ≤ k
  m : A.m ≤ M
  td : Nr X o c D
  to : ∀ j, Blk o j → ¬ A.own j ∧ w.heap.size ≤ j
/-- What was told, what is told now, and what is on its way. -/
structure OnF (L : Ls) (M : Nat) (D : List Int) (P : List Pk) : Prop where
  dt : ∀ d ∈ D, d ≤ top L.T
  fr : Fresh D P L.O
  pt : ∀ p ∈ P, p.n ≤ top L.T
  pk : ∀ p ∈ P, p.ok
  len : D.length + P.length + (ons L.O).length ≤ M
section
variable {w X Y : World} {A A' : Ad} {L L' : Ls} {M M' : Nat} {o : Option Addr} {c : Nat} {D : List Int} {P : List Pk}
theorem OnW.below (h : OnW w A L M o c D X) (hb : Below X.heap.size X Y) : OnW w A L M o c D Y :=
  ⟨h.lg.bel hb, h.ok, h.bel.trans (hb.mono h.bel.size), h.new, h.m, Rw.bel h.td hb, h.to⟩
theorem OnW.step (h : OnW w A L M o c D X) (hl : Lg Y A' L') (ho : L'.ok M') (hs : Stp A A' X Y) (hm : A'.m ≤ M') : OnW w A' L' M' o c D Y := by
  obtain ⟨h1, h2⟩ := hs.toBelow h.bel.size h.new
  refine ⟨hl, ho, h.bel.trans h1, h2, hm, Rw.chg h.td hs.chg fun j hj => (h.to j hj).1, fun j hj => ⟨fun hA => ?_, (h.to j hj).2⟩⟩
  rcases hs.own j hA with h3 | h3
  · exact (h.to j hj).1 h3
  · have := Rw.lt h.td hj; omega
theorem OnW.mono (h : OnW w A L M o c D X) (hM : M ≤ M') : OnW w A L M' o c D X := ⟨h.lg, h.ok.mono hM, h.bel, h.new, Nat.le_trans h.m hM, h.td, h.to⟩
/-- Another block turned. -/
theorem OnW.other (h : OnW w A L M o c D X) {g : Nat} (hc : Chg (fun k => k = g) X Y) (hg : w.heap.size ≤ g) (hA : ¬ A.own g) (ho : ¬ Blk o g) : OnW w A L M o c D Y :=
  ⟨h.lg.chg hc fun k hk e => hA (e ▸ hk), h.ok, h.bel.trans (hc.toBelow h.bel.size fun k hk e => by omega), h.new, h.m, Rw.chg h.td hc fun k hk e => ho (e ▸ hk), h.to⟩
theorem OnF.mono (h : OnF L M D P) (hM : M ≤ M') : OnF L M' D P := ⟨h.dt, h.fr, h.pt, h.pk, Nat.le_trans h.len hM⟩
/-- What a call leaves that tells P. -/
theorem OnF.tell (h : OnF L M D []) (ho : L.ok M) (hp : (ons L.O).Perm (P ++ ons L'.O)) (ht : L'.T = L.T) (hM : M ≤ M') : OnF L' M' D P := by
  have hm : ∀ p ∈ P, ∃ x ∈ L.O, x.1 = p := fun p hq => mem_ons (hp.mem_iff.2 (List.mem_append_left _ hq))
  refine ⟨by rw [ht]; exact h.dt, Fresh.of ho.fit.rise h.fr.keep hp, fun p hq => ?_, fun p hq => ?_, ?_⟩
  · obtain ⟨x, hx, rfl⟩ := hm p hq
    rw [ht]; exact ho.top x hx
  · obtain ⟨x, hx, rfl⟩ := hm p hq
    exact ho.fit.pk x hx
  · have h1 := hp.length_eq
    have h2 := h.len
    simp only [List.length_append, List.length_nil] at h1 h2
    omega
theorem OnF.sent (h : OnF L M D []) (ho : L.ok M) {p : Pk} (hp : snt L p = 0) : OnF (L.sent p) (M + 1) D [] := by
  obtain ⟨hpk, ht, _⟩ := snt_zero hp
  obtain ⟨_, _, u3, _⟩ := addT_facts ho.up ho.tb hpk.n0 hpk.n1 ht
  have e1 : ons (L.O ++ [(p, true)]) = ons L.O ++ [p] := by rw [ons_app]; simp [ons]
  have hT : top (L.sent p).T = p.n := u3
  refine ⟨fun d hd => ?_, ⟨(fun q hq => (by cases hq)), List.Pairwise.nil, (fun q hq => (by cases hq)), fun d hd he => ?_⟩, fun q hq => (by cases hq), fun q hq => (by cases hq), ?_⟩
  · rw [hT]; have := h.dt d hd; omega
  · have e2 : ons (L.sent p).O = ons L.O ++ [p] := e1
    rw [e2, List.map_append, List.mem_append] at he
    rcases he with he | he
    · exact h.fr.keep d hd he
    · simp only [List.map_cons, List.map_nil, List.mem_singleton] at he
      have := h.dt d hd
      omega
  · have e2 : ons (L.sent p).O = ons L.O ++ [p] := e1
    rw [e2, List.length_append]
    have := h.len
    simp only [List.length_cons, List.length_nil] at this ⊢
    omega
theorem OnF.done (h : OnF L M D P) : OnF L M (D ++ P.map fun p => p.n) [] := by
  refine ⟨fun d hd => ?_, ⟨(fun q hq => (by cases hq)), List.Pairwise.nil, (fun q hq => (by cases hq)), fun d hd => ?_⟩, fun q hq => (by cases hq), fun q hq => (by cases hq), ?_⟩
  · rcases List.mem_append.1 hd with hd | hd
    · exact h.dt d hd
    · obtain ⟨p, hp, rfl⟩ := List.mem_map.1 hd
      exact h.pt p hp
  · rcases List.mem_append.1 hd with hd | hd
    · exact h.fr.keep d hd
    · obtain ⟨p, hp, rfl⟩ := List.mem_map.1 hd
      exact h.fr.now p hp
  · have := h.len
    simp only [List.length_append, List.length_map, List.length_nil]
    omega
theorem tell_z (ho : L.ok M) (ho' : L'.ok M') (hp : (ons L.O).Perm (P ++ ons L'.O)) : L.z = L'.z + ssum P := by
  rw [ho.z, ho'.z, zs_ons, zs_ons, ssum_perm hp, ssum_app]
  omega
/-- One number more told. -/
theorem OnW.push (h : OnW w A L M o c D X) (d : Int) (hl : D.length ≤ 4000000000000) :
    ∃ g off c' w3, (∀ ty, (Builtin.append_ #[62, 62] ty #[.slice o D.length c, .slice (some ⟨X.heap.size, 0, none⟩) 1 1]).run Try.prog (X.alloc (.cells #[.int .i64 d] 3)) = .ok (.slice (some ⟨g, off, none⟩) (D.length + 1) c') w3) ∧
      OnW w A L M (some ⟨g, off, none⟩) c' (D ++ [d]) w3 ∧ Chg (Blk o) X w3 := by
  obtain ⟨i, hq, hz, hi, hby⟩ := info_parts info3
  have hT := heap_alloc_new X (.cells #[.int .i64 d] 3)
  have hs : Src Try.prog 1 62 (.slice (some ⟨X.heap.size, 0, none⟩) 1 1) 1 [.int .i64 d] (X.alloc (.cells #[.int .i64 d] 3)) := Src.ofSlice _ Try.underlying62 ⟨X.heap.size, 0, none⟩ _ 1 [.int .i64 d] (by simp) (fun j u hu => by
    rw [Addr.add_lit]
    simp only [World.cell?, hT, Nat.zero_add]
    rw [if_neg (by simp)]
    simpa using hu) (fun u hu => by
      simp only [List.mem_singleton] at hu
      subst hu; rfl)
  obtain ⟨g, off, c', w3, h1, h2, h3, h4, h5⟩ := Rw.append Try.underlying62 hq hz hi hby rfl (Rw.bel h.td (bel1 X _)) hs (by omega) (by omega) (by omega)
  have hc : Chg (Blk o) X w3 := ((Chg.refl (Blk o) X).alloc _).trans h3
  have hnew : Blk o g ∨ X.heap.size ≤ g := by
    rcases h4 with h4 | h4
    · exact .inl h4
    · right; rw [h4]; simp
  refine ⟨g, off, c', w3, h1, ⟨h.lg.chg hc fun k hk hb => (h.to k hb).1 hk, h.ok, h.bel.trans (hc.toBelow h.bel.size fun k hk hb => by have := (h.to k hb).2; omega), h.new, h.m, ?_, fun j hj => ?_⟩, hc⟩
  · unfold Nr
    rw [List.length_append]
    have : is (D ++ [d]) = is D ++ [.int .i64 d] := by simp [is]
    rw [this]
    exact h2
  · rw [hj.of]
    rcases hnew with h6 | h6
    · exact h.to g h6
    · exact ⟨fun hA => by have := h.lg.lt hA; omega, Nat.le_trans h.bel.size h6⟩
theorem OnW.len (h : OnW w A L M o c D X) : D.length ≤ c := (Rw.cap h.td).1
end

/-- append onto a slice that has an address, of as many as there are. -/
theorem Rw.append0 {e : TypeId} {k : Nat} {w : World} {g off n c : Nat} {xs : List Value} {t tx : TypeId} {i : TypeInfo} {z : Value} {bytes : Nat} (ht : Try.prog.underlying t = some (.slice e)) (hi : Try.prog.info? e = some i) (hz : i.zero = some z) (hsz : i.size = k) (hby : i.bytes = bytes) (hzs : z.cells.size = k)
    (h : Rw e k w (some ⟨g, off, none⟩) n c xs) {x : Value} {m : Nat} {news : List Value} (hs : Src Try.prog k tx x m news w) (hb : (n + m) * bytes ≤ 140737488355328) (hb0 : n + m ≤ 140737488355328) :
    ∃ g' off' c' w', (∀ ty, (Builtin.append_ #[t, tx] ty #[.slice (some ⟨g, off, none⟩) n c, x]).run Try.prog w = .ok (.slice (some ⟨g', off', none⟩) (n + m) c') w') ∧ Rw e k w' (some ⟨g', off', none⟩) (n + m) c' (xs ++ news) ∧ Chg (Blk (some ⟨g, off, none⟩)) w w' ∧ (g' = g ∨ g' = w.heap.size) := by
  rcases Nat.eq_zero_or_pos m with hm | hm
  · subst hsz hm
    have hnl := hs.newsLen
    have hnil : news = [] := List.length_eq_zero_iff.1 (by omega)
    subst hnil
    obtain ⟨h0, ⟨h, _⟩ | ⟨g', off', X, e1, hg, h2, h3, h4, h5⟩⟩ := h
    · cases h
    · injection e1 with e1
      injection e1 with e1 e2
      subst e1 e2
      have hle : n * i.size ≤ c * i.size := Nat.mul_le_mul_right _ h3
      have hst := run_storeCells_at (P := Try.prog) g (off + n * i.size) e [] 0 X w hg (by simp; omega) hs.one
      simp only [Nat.add_zero] at hst
      have hself : w.setRow g (X.toList.take (off + n * i.size) ++ [] ++ X.toList.drop (off + n * i.size + ([] : List Value).length)).toArray = w := by
        have : (X.toList.take (off + n * i.size) ++ [] ++ X.toList.drop (off + n * i.size + ([] : List Value).length)).toArray = X := by
          rw [List.append_nil, List.length_nil, Nat.add_zero, List.take_append_drop]
        rw [this]
        exact setRow_self w g X e (0, 0) hg
      rw [hself] at hst
      refine ⟨g, off, c, w, fun ty => ?_, ⟨by simpa using h0, .inr ⟨g, off, X, rfl, hg, h2, h3, h4, by simpa using h5⟩⟩, Chg.refl _ _, .inl rfl⟩
      rcases hs.kind with ⟨e', hk⟩ | hk <;> simp [Builtin.append_, run_underlying ht, run_underlying hk, sizeOf, typeInfo, hi, hs.len, h3, hs.cells, Addr.add_lit, hst]
  · obtain ⟨g', off', c', w', a1, a2, a3, a4, _⟩ := Rw.append ht hi hz hsz hby hzs h hs hm hb hb0
    exact ⟨g', off', c', w', a1, a2, a3, a4.imp (fun h => h.of) id⟩
theorem Pr.src {X : World} {o : Option Addr} {c : Nat} {ps : List Pk} (h : Pr X o c ps) : Src Try.prog 4 38 (.slice o ps.length c) ps.length (pks ps) X := by
  have hl := pks_len ps
  rcases h.2 with ⟨rfl, h1, rfl⟩ | ⟨g, off, Z, rfl, hg, _, _, _, h5⟩
  · have e : ps = [] := List.length_eq_zero_iff.1 h1
    subst e
    exact Src.ofNil _ Try.underlying38 _
  · refine Src.ofSlice _ Try.underlying38 ⟨g, off, none⟩ _ c (pks ps) hl (fun j u hu => ?_) (pks_ones ps)
    rw [Addr.add_lit]
    simp only [World.cell?, hg]
    exact h5 j u hu
/-- Two lists of packets in one, as append makes it of an empty one. -/
theorem two_run {X : World} {o1 : Option Addr} {c1 : Nat} {ps : List Pk} {o2 : Option Addr} {c2 : Nat} {qs : List Pk} (h1 : Pr X o1 c1 ps) (h2 : Pr X o2 c2 qs) (hb : ps.length + qs.length ≤ 4000000000000) :
    ∃ g off c' Y g2 off2 c3 Z, (Builtin.append_ #[38, 38] 38 #[.slice (some ⟨X.heap.size, 0, none⟩) 0 0, .slice o1 ps.length c1]).run Try.prog (X.alloc (.cells #[] 29)) = .ok (.slice (some ⟨g, off, none⟩) ps.length c') Y ∧
      (Builtin.append_ #[38, 38] 38 #[.slice (some ⟨g, off, none⟩) ps.length c', .slice o2 qs.length c2]).run Try.prog Y = .ok (.slice (some ⟨g2, off2, none⟩) (ps.length + qs.length) c3) Z ∧
      Below X.heap.size X Y ∧ Below X.heap.size X Z ∧ Pr Z (some ⟨g2, off2, none⟩) c3 (ps ++ qs) := by
  obtain ⟨i, hq, hz, hi, hby⟩ := info_parts info29
  have hn0 : Rw 29 4 (X.alloc (.cells #[] 29)) (some ⟨X.heap.size, 0, none⟩) 0 0 [] := by
    have := Rw.new X 29 4 0 [] (by simp) (by unfold maxLen; omega)
    exact this
  have p1 := Pr.src (h1.bel (bel1 X (.cells #[] 29)))
  obtain ⟨g, off, c', Y, a1, a2, a3, a4⟩ := Rw.append0 Try.underlying38 hq hz hi hby rfl hn0 p1 (by omega) (by omega)
  have hXY : Below X.heap.size X Y := (bel1 X (.cells #[] 29)).trans (a3.toBelow (by simp) (fun k hk hb => by have := hb.of; omega))
  have p2 := Pr.src (h2.bel hXY)
  rw [Nat.zero_add] at a1 a2
  rw [List.nil_append] at a2
  obtain ⟨g2, off2, c3, Z, b1, b2, b3, b4⟩ := Rw.append0 Try.underlying38 hq hz hi hby rfl a2 p2 (by omega) (by omega)
  have hg : X.heap.size ≤ g := by
    rcases a4 with h | h
    · omega
    · rw [h]; simp
  refine ⟨g, off, c', Y, g2, off2, c3, Z, a1 38, b1 38, hXY, hXY.trans (b3.toBelow hXY.size (fun k hk hb => by have := hb.of; omega)), ?_⟩
  unfold Pr
  rw [pks_app, List.length_append]
  exact b2
end Go.Proofs.Ytkjcapmhjhnckaa
