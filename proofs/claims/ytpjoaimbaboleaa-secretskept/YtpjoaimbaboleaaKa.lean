/- Rows that grow; what stays. -/
import Derived.Test.YtpjoaimbaboleaaPk
namespace Go.Proofs.Ytpjoaimbaboleaa
open Go.RowKit Go.Shelf Go.Lib
set_option linter.unusedVariables false

/-- All blocks but those of one type stay. -/
def Kp (tt : Nat) (w w' : World) : Prop := ∀ (b : Nat) (ob : Obj), w.heap[b]? = some ob → (∀ cs, ob ≠ .cells cs tt (0, 0)) → w'.heap[b]? = some ob
theorem Kp.cells {tt t b : Nat} {w w' : World} {cs : Array Value} (h : Kp tt w w') (hb : w.heap[b]? = some (.cells cs t (0, 0))) (ht : t ≠ tt) : w'.heap[b]? = some (.cells cs t (0, 0)) := by
  refine h b _ hb ?_
  intro cs' e
  injection e with _ e _
  exact ht e
theorem Ag.kp {W0 w w' : World} {V tt : Nat} {L : List Tm} (h : Ag W0 w V L) (hb : Below W0.heap.size w w') (hk : Kp tt w w') (h1 : tt ≠ 43) (h2 : tt ≠ 62) : Ag W0 w' V L := by
  obtain ⟨G, c, M, hv⟩ := h.va
  obtain ⟨R, r1, r2⟩ := hv.hG
  obtain ⟨es, ck, m1, _⟩ := hv.hM
  exact ⟨h.bel.trans hb, G, c, M, hv.keep ((hk.cells hv.hV h1.symm).trans hv.hV.symm) ((hk.cells r1 h2.symm).trans r1.symm) ((hk M _ m1 (by intro cs e; cases e)).trans m1.symm)⟩
theorem kp_grown {w w' : World} {n₀ e s n : Nat} {v : Value} {xs : List Value} (h : w.ownsRow n₀ e s v n xs) (hg : w.grownBy w' v.ownBlock) : Kp e w w' ∧ (n₀ ≤ w.heap.size → Below n₀ w w') := by
  refine ⟨fun b ob hb hne => ?_, fun hn => ⟨hg.os, hg.tape, hg.output, hg.size, fun k hk => hg.block k (by omega) ?_⟩⟩
  · refine (hg.block b (Array.getElem?_eq_some_iff.1 hb).1 ?_).trans hb
    intro ee
    obtain ⟨_, h1 | ⟨g, cap, cur, rfl, h1, h2, _⟩⟩ := h
    · rw [h1.1] at ee; cases ee
    · simp [Value.ownBlock] at ee
      subst ee
      rw [h2] at hb
      injection hb with hb
      exact hne _ hb.symm
  · intro ee
    obtain ⟨_, h1 | ⟨g, cap, cur, rfl, h1, h2, _⟩⟩ := h
    · rw [h1.1] at ee; cases ee
    · simp [Value.ownBlock] at ee; omega
/-- append, and what was there before it. -/
theorem app_old {w : World} {base t ty e : TypeId} {i : TypeInfo} {z : Value} {size bytes : Nat} (ht : Try.prog.underlying t = some (.slice e)) (hi : Try.prog.info? e = some i) (hz : i.zero = some z)
    (hsize : i.size = size) (hby : i.bytes = bytes) (hzs : z.cells.size = size) (hsz : 0 < size) {o : Option Addr} {n cap : Nat} {xs : List Value} (hown : w.ownsRow base e size (.slice o n cap) n xs)
    (a : Addr) (m c : Nat) (news : List Value) (hl : news.length = m * size) (hnews : ∀ j u, news[j]? = some u → w.cell? (a.add j) = some u) (h1 : ∀ u ∈ news, u.oneCell' = true)
    (hm : 0 < m) (h63 : n + m ≤ maxLen) (hbytes : (n + m) * bytes ≤ 140737488355328) (hbase : base ≤ w.heap.size) :
    ∃ g cap' w', (Builtin.append_ #[t, t] ty #[.slice o n cap, .slice (some a) m c]).run Try.prog w = .ok (.slice (some ⟨g, 0, none⟩) (n + m) cap') w' ∧ w'.ownsRow base e size (.slice (some ⟨g, 0, none⟩) (n + m) cap') (n + m) (xs ++ news) ∧ Kp e w w' ∧ Below base w w' ∧ w'.ownsRow base e size (.slice o n cap) n xs := by
  obtain ⟨v', w', hr, h2, h3, h4, h5⟩ := run_append_own_at (P := Try.prog) w base t ty e i z size bytes ht hi hz hsize hby hzs hsz _ n xs hown a m c news hl hnews h1 h63 hbytes hbase
  obtain ⟨k1, k2⟩ := kp_grown hown h3
  have hcopy := h2
  obtain ⟨_, h | ⟨g', cap', cur', rfl, p1, p2, p3, p4, p5, p6⟩⟩ := hcopy
  · omega
  · refine ⟨g', cap', w', hr, h2, k1, k2 hbase, ?_⟩
    obtain ⟨hx, h | ⟨g, cap2, cur, e1, q1, q2, q3, q4, q5, q6⟩⟩ := hown
    · exact ⟨hx, .inl h⟩
    · injection e1 with e1 _ e2
      subst e1
      subst e2
      by_cases hroom : n + m ≤ cap
      · rw [← hsize] at hl q5 q6 hx
        have hr2 := run_append_room (P := Try.prog) w t ty e i ht hi g n cap cur q2 a m c news hl hnews h1 hroom (by rw [hl, q5, ← Nat.add_mul]; exact Nat.mul_le_mul_right _ hroom)
        rw [hr2] at hr
        injection hr with hr1 hr3
        injection hr1 with hr1 _ hr4
        injection hr1 with hr1
        injection hr1 with hr1
        subst hr1
        rw [hsize] at hx
        refine ⟨hx, .inr ⟨g, cap, cur', rfl, q1, p2, q3, q4, ?_, ?_⟩⟩
        · rw [hr4]; exact p5
        · have := congrArg (List.take (n * size)) p6
          rw [List.take_take, Nat.min_eq_left (Nat.mul_le_mul_right _ (by omega)), ← hx, List.take_left] at this
          rw [← hx]
          exact this
      · have holds : ∀ j u, xs[j]? = some u → w.cell? ((⟨g, 0, none⟩ : Addr).add j) = some u := World.ownsRow.cells (g := g) (v := .slice (some ⟨g, 0, none⟩) n cap) ⟨hx, .inr ⟨g, cap, cur, rfl, q1, q2, q3, q4, q5, q6⟩⟩ rfl
        have hr2 := run_append_grow (P := Try.prog) w t ty e i z ht hi hz ⟨g, 0, none⟩ n cap xs (by rw [hsize]; exact hx) holds a m c news (by rw [hsize]; exact hl) hnews (by omega) (by simp only [maxLen] at h63; omega) (growslice_fits (by omega) (by rw [hby]; exact hbytes))
        rw [hr2] at hr
        injection hr with _ hr3
        exact ⟨hx, .inr ⟨g, cap, cur, rfl, q1, by rw [← hr3]; exact (Below.heap_alloc w.drew _ g (Array.getElem?_eq_some_iff.1 q2).1).trans q2, q3, q4, q5, q6⟩⟩
theorem own_stay {w w' : World} {n₀ e s n : Nat} {v : Value} {xs : List Value} (h : w.ownsRow n₀ e s v n xs) (hk : ∀ (g : Nat) (cs : Array Value), w.heap[g]? = some (Obj.cells cs e (0, 0)) → w'.heap[g]? = some (Obj.cells cs e (0, 0))) : w'.ownsRow n₀ e s v n xs := by
  obtain ⟨h0, h | ⟨g, cap, cur, e, h1, h2, h3⟩⟩ := h
  · exact ⟨h0, .inl h⟩
  · exact ⟨h0, .inr ⟨g, cap, cur, e, h1, hk g cur h2, h3⟩⟩
theorem fold_zip (l : List Value) : ∀ (n : Nat) (A : Array Value), n + l.length ≤ A.size → ((l.zipIdx n).foldl (fun (cs : Array Value) (x : Value × Nat) => cs.setIfInBounds x.snd x.fst) A).toList = A.toList.take n ++ l ++ A.toList.drop (n + l.length) := by
  induction l with
  | nil => intro n A h; simp
  | cons v l ih =>
    intro n A h
    simp only [List.length_cons] at h
    rw [List.zipIdx_cons, List.foldl_cons, ih (n + 1) _ (by simp; omega)]
    have e1 : (A.setIfInBounds n v).toList.take (n + 1) = A.toList.take n ++ [v] := by
      rw [Array.toList_setIfInBounds, List.take_succ_eq_append_getElem (by simp; omega), List.take_set_of_le (Nat.le_refl _)]
      simp
    have e2 : (A.setIfInBounds n v).toList.drop (n + 1 + l.length) = A.toList.drop (n + (l.length + 1)) := by
      rw [Array.toList_setIfInBounds, List.drop_set_of_lt (by omega), show n + 1 + l.length = n + (l.length + 1) by omega]
    simp only [List.length_cons]
    rw [e1, e2]
    simp
end Go.Proofs.Ytpjoaimbaboleaa
