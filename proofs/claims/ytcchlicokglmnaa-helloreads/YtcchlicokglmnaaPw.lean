/- A putter walks a message. -/
import Derived.Test.YtcchlicokglmnaaMg
namespace Go.Proofs.Ytcchlicokglmnaa
open Go.ChangeShapes Go.WideShapes Go.ChangeAt Go.RowKit Go.Lib
set_option linter.unusedVariables false

structure Ip (W0 : World) (p B : Nat) (a : St) (W : World) : Prop where
  pu : ∃ v, Pu W p B v a.1 a.2
  gr : Gr p B W0 W
  bs : B ≤ W.heap.size
structure Cx (W0 : World) (p B M : Nat) (m : Msg) : Prop where
  row : W0.heap[M]? = some (.cells m.cells.toArray 27 (0, 0))
  mp : M ≠ p
  mB : M < B
  ok : m.ok W0
  nmB : ∀ a, m.po = some a → m.protos ≠ [] → a.block < B ∧ a.block ≠ p
  paB : ∀ a, m.ao = some a → m.params ≠ [] → a.block < B ∧ a.block ≠ p
  tiB : ∀ a, m.to = some a → m.ticket ≠ [] → a.block < B ∧ a.block ≠ p
section
variable {W0 W : World} {p B M : Nat} {m : Msg} {a : St}
theorem Ip.stb : Stb (Ip W0 p B a) := fun X Y h hb => by
  obtain ⟨v, hv⟩ := h.pu
  exact ⟨⟨v, hv.below hb⟩, h.gr.trans (Gr.of_below hb), Nat.le_trans h.bs hb.size⟩
theorem Ip.on (h : Ip W0 p B a W) {X : List UInt8} {r : Bool} {e : Ending} {w' : World} (hr : PuR p B X r W e w') : e = .returned un ∧ Ip W0 p B (X, r) w' :=
  ⟨hr.1, hr.2.1, h.gr.trans hr.2.2, Nat.le_trans h.bs hr.2.2.size⟩
theorem Ip.lt (h : Ip W0 p B a W) : p < W.heap.size := by
  obtain ⟨v, hv⟩ := h.pu
  exact lt_block hv.row
theorem Cx.row' (c : Cx W0 p B M m) (h : Ip W0 p B a W) : W.heap[M]? = some (.cells m.cells.toArray 27 (0, 0)) := h.gr.heap c.row c.mp (by decide)
theorem Cx.cell (c : Cx W0 p B M m) (h : Ip W0 p B a W) {j : Nat} {v : Value} (hj : m.cells[j]? = some v) : W.cell? ⟨M, j, none⟩ = some v := by
  unfold World.cell?
  rw [c.row' h]
  simpa using hj
theorem Ip.ne (h : Ip W0 p B a W) {k t : Nat} {cs : Array Value} (hk : W.heap[k]? = some (.cells cs t (0, 0))) (ht : t ≠ 52) : k ≠ p := by
  rintro rfl
  obtain ⟨v, hv⟩ := h.pu
  rw [hv.row] at hk
  injection hk with hk
  injection hk with _ hk _
  exact ht hk.symm
theorem ip_h (c : Cx W0 p B M m) (h : Ip W0 p B a W) (hl : a.1.length ≤ 300000) (k : Nat) (L : List (Nat × List UInt8)) (hL : L.length ≤ 2) (hk : W.heap[k]? = some (.cells (L.map fun x => Value.pointer (some ⟨M, x.1, none⟩)).toArray 82 (0, 0)))
    (hs : ∀ x ∈ L, Sl W (some ⟨M, x.1, none⟩) x.2 ∧ x.2.length = 16) : Calls Try.prog 56 #[.pointer (some ⟨p, 0, none⟩), .slice (some ⟨k, 0, none⟩) L.length L.length] W fun e w' => e = .returned un ∧ Ip W0 p B (aH (L.map (·.2)) a) w' := by
  obtain ⟨v, hv⟩ := h.pu
  have := handles_c hv h.bs k (L.map fun x => (M, x.1, x.2)) (by simp; omega) (by simpa [hps, Function.comp_def] using hk) (h.ne hk (by decide)) (by
    intro x hx
    obtain ⟨y, hy, rfl⟩ := List.mem_map.1 hx
    exact ⟨(hs y hy).1, (hs y hy).2, c.mB, c.mp⟩)
  rw [List.length_map] at this
  refine this.mono ?_
  intro e w' hr
  have hh : hbs (L.map fun x => (M, x.1, x.2)) = (L.map (·.2)).flatten := by simp [hbs, List.flatMap_def, Function.comp_def]
  rw [hh] at hr
  exact h.on hr
theorem ip_n (h : Ip W0 p B a W) (hl : a.1.length ≤ 300000) (q j : Nat) (x : Int) (hq : W.cell? ⟨q, j, none⟩ = some (.int .i64 x)) (hqp : q ≠ p) (n : Nat) (hn1 : 1 ≤ n) (hn8 : n ≤ 8) (least most : Int) :
    Calls Try.prog 58 #[.pointer (some ⟨p, 0, none⟩), .pointer (some ⟨q, j, none⟩), .int .i64 n, .int .i64 least, .int .i64 most] W fun e w' => (e = .returned un ∧ Ip W0 p B (aN n x least most a) w') ∧ Gr p B W w' := by
  obtain ⟨v, hv⟩ := h.pu
  exact (number_c hv h.bs (by omega) q j x hq hqp n hn1 hn8 least most _ rfl).mono fun e w' hr => ⟨h.on hr, hr.2.2⟩
theorem ip_s (c : Cx W0 p B M m) (h : Ip W0 p B a W) (hl : a.1.length ≤ 300000) (least : Int) : Calls Try.prog 60 #[.pointer (some ⟨p, 0, none⟩), .pointer (some ⟨M, 33, none⟩), .int .i64 least] W fun e w' => e = .returned un ∧ Ip W0 p B (stp least a m.name) w' := by
  obtain ⟨v, hv⟩ := h.pu
  exact (short_c hv h.bs (by omega) M 33 m.name (c.cell h (Msg.get c.ok.ln).2.1) c.mp (.inl c.mB) least _ rfl c.ok.n63).mono fun e w' hr => h.on hr
theorem ip_l (c : Cx W0 p B M m) (h : Ip W0 p B a W) (hl : a.1.length ≤ 300000) (least most : Int) (hm : most ≤ 5000) : Calls Try.prog 57 #[.pointer (some ⟨p, 0, none⟩), .pointer (some ⟨M, 35, none⟩), .int .i64 least, .int .i64 most] W fun e w' => e = .returned un ∧ Ip W0 p B (aL m.params least most a) w' := by
  obtain ⟨v, hv⟩ := h.pu
  exact (long_c hv h.bs (by omega) M 35 m.ao m.ac m.params (c.cell h (Msg.get c.ok.ln).2.2.2.1) (h.gr.sl' c.ok.pa c.paB) c.paB c.ok.pn c.mp (.inl c.mB) least most hm _ rfl c.ok.a63).mono fun e w' hr => h.on hr
theorem ip_t (c : Cx W0 p B M m) (h : Ip W0 p B a W) (hl : a.1.length ≤ 300000) (least most : Int) (hm : most ≤ 5000) : Calls Try.prog 57 #[.pointer (some ⟨p, 0, none⟩), .pointer (some ⟨M, 36, none⟩), .int .i64 least, .int .i64 most] W fun e w' => e = .returned un ∧ Ip W0 p B (aL m.ticket least most a) w' := by
  obtain ⟨v, hv⟩ := h.pu
  exact (long_c hv h.bs (by omega) M 36 m.to m.tc m.ticket (c.cell h (Msg.get c.ok.ln).2.2.2.2.1) (h.gr.sl' c.ok.ti c.tiB) c.tiB c.ok.tn c.mp (.inl c.mB) least most hm _ rfl c.ok.t63).mono fun e w' hr => h.on hr
theorem ip_p (c : Cx W0 p B M m) (h : Ip W0 p B a W) (hl : a.1.length ≤ 300000) (count : Int) (h8 : a.2 = false → (m.protos.length : Int) = count → m.protos.length ≤ 300) : Calls Try.prog 59 #[.pointer (some ⟨p, 0, none⟩), .pointer (some ⟨M, 34, none⟩), .int .i64 count] W fun e w' => e = .returned un ∧ Ip W0 p B (aP m.protos count a) w' := by
  obtain ⟨v, hv⟩ := h.pu
  exact (protos_c hv h.bs (by omega) M 34 m.po m.pc m.protos (c.cell h (Msg.get c.ok.ln).2.2.1) c.mp (.inl c.mB) (h.gr.nms c.ok.nm c.nmB) c.nmB c.ok.p63 c.ok.s63 count h8 _ rfl).mono fun e w' hr => h.on hr
theorem ip_f (h : Ip W0 p B a W) (hl : a.1.length ≤ 300000) (k q j : Nat) (b : Bool) (hk : W.heap[k]? = some (.cells #[.pointer (some ⟨q, j, none⟩)] 84 (0, 0))) (hq : W.cell? ⟨q, j, none⟩ = some (.bool b)) : Calls Try.prog 55 #[.pointer (some ⟨p, 0, none⟩), .slice (some ⟨k, 0, none⟩) 1 1] W fun e w' => e = .returned un ∧ Ip W0 p B (aF (bitN b 1) a) w' := by
  obtain ⟨v, hv⟩ := h.pu
  exact (flags1_c hv h.bs (by omega) k q j b hk hq).mono fun e w' hr => h.on hr
theorem ip_f2 (h : Ip W0 p B a W) (hl : a.1.length ≤ 300000) (k q j q' j' : Nat) (b b' : Bool) (hk : W.heap[k]? = some (.cells #[.pointer (some ⟨q, j, none⟩), .pointer (some ⟨q', j', none⟩)] 84 (0, 0))) (hq : W.cell? ⟨q, j, none⟩ = some (.bool b)) (hq' : W.cell? ⟨q', j', none⟩ = some (.bool b')) : Calls Try.prog 55 #[.pointer (some ⟨p, 0, none⟩), .slice (some ⟨k, 0, none⟩) 2 2] W fun e w' => (e = .returned un ∧ Ip W0 p B (aF (bitN b 1 + bitN b' 2) a) w') ∧ Gr p B W w' := by
  obtain ⟨v, hv⟩ := h.pu
  exact (flags2_c hv h.bs (by omega) k q j b q' j' b' hk hq hq').mono fun e w' hr => ⟨h.on hr, hr.2.2⟩
theorem ip_m (h : Ip W0 p B a W) (ok : Bool) : Calls Try.prog 23 #[.pointer (some ⟨p, 0, none⟩), .bool ok] W fun e w' => e = .returned un ∧ Ip W0 p B (aM ok a) w' := by
  obtain ⟨v, hv⟩ := h.pu
  exact (must_c' hv ok).mono fun e w' hr => h.on ⟨hr.1, ⟨v, hr.2.1⟩, hr.2.2.1⟩
theorem kcell (c : Cx W0 p B M m) {k : Int} (hk : m.kind = k) : ∀ X, Ip W0 p B a X → X.cell? ⟨M, 0, none⟩ = some (.int .i64 k) := fun X h => by rw [← hk]; exact c.cell h (Msg.get c.ok.ln).1
theorem h16 (c : Cx W0 p B M m) (h : Ip W0 p B a W) : (Sl W (some ⟨M, 1, none⟩) m.random ∧ Sl W (some ⟨M, 17, none⟩) m.share ∧ Sl W (some ⟨M, 37, none⟩) m.binder ∧ Sl W (some ⟨M, 55, none⟩) m.mark) := Msg.hs c.ok.ln (c.row' h)
theorem pw2 (c : Cx W0 p B M m) (hk : m.kind = 2) (h : Ip W0 p B ([], false) W0) : Calls Try.prog 17 #[.iface 54 (.pointer (some ⟨p, 0, none⟩)), .pointer (some ⟨M, 0, none⟩)] W0 fun e w' => e = .returned un ∧ Ip W0 p B (bodyS m) w' := by
  have e : bodyS m = aF (bitN m.again 1) (aH [m.random, m.share] ([], false)) := by simp [bodyS, hk]
  rw [e]
  refine walk2 (ms_put p) (I0 := Ip W0 p B ([], false)) (I1 := Ip W0 p B (aH [m.random, m.share] ([], false))) Ip.stb Ip.stb (kcell c hk) (fun X k hX hk => ?_) (fun X k hX hk => ?_) W0 h
  · exact ip_h c hX (by simp) k [(1, m.random), (17, m.share)] (by simp) hk (by intro x hx; simp at hx; rcases hx with rfl | rfl; exact ⟨(h16 c hX).1, c.ok.ln.r⟩; exact ⟨(h16 c hX).2.1, c.ok.ln.s⟩)
  · exact ip_f hX (by rw [aH_len _ (by intro x hx; simp at hx; rcases hx with rfl | rfl; exact c.ok.ln.r; exact c.ok.ln.s)]; simp) k M 54 m.again hk (c.cell hX (Msg.get c.ok.ln).2.2.2.2.2.2.1)
theorem pw8 (c : Cx W0 p B M m) (hk : m.kind = 8) (h : Ip W0 p B ([], false) W0) : Calls Try.prog 17 #[.iface 54 (.pointer (some ⟨p, 0, none⟩)), .pointer (some ⟨M, 0, none⟩)] W0 fun e w' => e = .returned un ∧ Ip W0 p B (bodyS m) w' := by
  have e : bodyS m = aF (bitN m.early 1) (aL m.params 0 4096 (aP m.protos 1 ([], false))) := by simp [bodyS, hk]
  rw [e]
  have h8 : (([], false) : St).2 = false → (m.protos.length : Int) = 1 → m.protos.length ≤ 300 := fun _ h => by omega
  have l1 := aP_len m.protos 1 ([], false) h8
  have l2 := aL_len m.params 0 4096 (by decide) (aP m.protos 1 ([], false))
  simp at l1
  exact walk8 (ms_put p) (I0 := Ip W0 p B ([], false)) (I1 := Ip W0 p B (aP m.protos 1 ([], false))) (I2 := Ip W0 p B (aL m.params 0 4096 (aP m.protos 1 ([], false)))) Ip.stb Ip.stb Ip.stb (kcell c hk) (fun X hX => ip_p c hX (by simp) 1 h8) (fun X hX => ip_l c hX (by omega) 0 4096 (by decide)) (fun X k hX hk => ip_f hX (by omega) k M 53 m.early hk (c.cell hX (Msg.get c.ok.ln).2.2.2.2.2.1)) W0 h
theorem pw11 (c : Cx W0 p B M m) (hk : m.kind = 11) (h : Ip W0 p B ([], false) W0) : Calls Try.prog 17 #[.iface 54 (.pointer (some ⟨p, 0, none⟩)), .pointer (some ⟨M, 0, none⟩)] W0 fun e w' => e = .returned un ∧ Ip W0 p B (bodyS m) w' := by
  have e : bodyS m = aH [m.mark] (stp 0 ([], false) m.name) := by simp [bodyS, hk]
  rw [e]
  have l1 := aS_len 0 m.name ([], false)
  simp at l1
  exact walk11 (ms_put p) (I0 := Ip W0 p B ([], false)) (I1 := Ip W0 p B (stp 0 ([], false) m.name)) Ip.stb Ip.stb (kcell c hk) (fun X hX => ip_s c hX (by simp) 0) (fun X k hX hk => ip_h c hX (by omega) k [(55, m.mark)] (by simp) hk (by intro x hx; simp at hx; subst hx; exact ⟨(h16 c hX).2.2.2, c.ok.ln.k⟩)) W0 h
theorem pw15 (c : Cx W0 p B M m) (hk : m.kind = 15) (h : Ip W0 p B ([], false) W0) : Calls Try.prog 17 #[.iface 54 (.pointer (some ⟨p, 0, none⟩)), .pointer (some ⟨M, 0, none⟩)] W0 fun e w' => e = .returned un ∧ Ip W0 p B (bodyS m) w' := by
  have e : bodyS m = aH [m.mark] ([], false) := by simp [bodyS, hk]
  rw [e]
  exact walk15 (ms_put p) (I0 := Ip W0 p B ([], false)) Ip.stb (kcell c hk) (fun X k hX hk => ip_h c hX (by simp) k [(55, m.mark)] (by simp) hk (by intro x hx; simp at hx; subst hx; exact ⟨(h16 c hX).2.2.2, c.ok.ln.k⟩)) W0 h
theorem pw20 (c : Cx W0 p B M m) (hk : m.kind = 20) (h : Ip W0 p B ([], false) W0) : Calls Try.prog 17 #[.iface 54 (.pointer (some ⟨p, 0, none⟩)), .pointer (some ⟨M, 0, none⟩)] W0 fun e w' => e = .returned un ∧ Ip W0 p B (bodyS m) w' := by
  have e : bodyS m = aH [m.mark] ([], false) := by simp [bodyS, hk]
  rw [e]
  exact walk20 (ms_put p) (I0 := Ip W0 p B ([], false)) Ip.stb (kcell c hk) (fun X k hX hk => ip_h c hX (by simp) k [(55, m.mark)] (by simp) hk (by intro x hx; simp at hx; subst hx; exact ⟨(h16 c hX).2.2.2, c.ok.ln.k⟩)) W0 h
theorem pw4 (c : Cx W0 p B M m) (hk : m.kind = 4) (h : Ip W0 p B ([], false) W0) : Calls Try.prog 17 #[.iface 54 (.pointer (some ⟨p, 0, none⟩)), .pointer (some ⟨M, 0, none⟩)] W0 fun e w' => e = .returned un ∧ Ip W0 p B (bodyS m) w' := by
  have e : bodyS m = aF (bitN m.early 1) (aL m.ticket 1 512 (aN 4 m.life 0 4294967295 ([], false))) := by simp [bodyS, hk]
  rw [e]
  have l1 : (aN 4 m.life 0 4294967295 ([], false)).1.length = 4 := by simp [aN, be_length]
  have l2 := aL_len m.ticket 1 512 (by decide) (aN 4 m.life 0 4294967295 ([], false))
  exact walk4 (ms_put p) (I0 := Ip W0 p B ([], false)) (I1 := Ip W0 p B (aN 4 m.life 0 4294967295 ([], false))) (I2 := Ip W0 p B (aL m.ticket 1 512 (aN 4 m.life 0 4294967295 ([], false)))) Ip.stb Ip.stb Ip.stb (kcell c hk) (fun X hX => (ip_n hX (by simp) M 71 m.life (c.cell hX (Msg.get c.ok.ln).2.2.2.2.2.2.2) c.mp 4 (by decide) (by decide) 0 4294967295).mono fun e w' h => h.1) (fun X hX => ip_t c hX (by omega) 1 512 (by decide)) (fun X k hX hk => ip_f hX (by omega) k M 53 m.early hk (c.cell hX (Msg.get c.ok.ln).2.2.2.2.2.1)) W0 h
theorem pw1 (c : Cx W0 p B M m) (hk : m.kind = 1) (h : Ip W0 p B ([], false) W0) : Calls Try.prog 17 #[.iface 54 (.pointer (some ⟨p, 0, none⟩)), .pointer (some ⟨M, 0, none⟩)] W0 fun e w' => e = .returned un ∧ Ip W0 p B (bodyS m) w' := by
  obtain ⟨s1, e1⟩ : ∃ s, s = aH [m.random, m.share] ([], false) := ⟨_, rfl⟩
  obtain ⟨s2, e2⟩ : ∃ s, s = stp 0 s1 m.name := ⟨_, rfl⟩
  obtain ⟨s3, e3⟩ : ∃ s, s = aN 1 m.protos.length 1 8 s2 := ⟨_, rfl⟩
  obtain ⟨s4, e4⟩ : ∃ s, s = aP m.protos m.protos.length s3 := ⟨_, rfl⟩
  obtain ⟨s5, e5⟩ : ∃ s, s = aL m.params 0 4096 s4 := ⟨_, rfl⟩
  obtain ⟨s6, e6⟩ : ∃ s, s = aF (bitN (decide (0 < m.ticket.length)) 1 + bitN m.early 2) s5 := ⟨_, rfl⟩
  obtain ⟨s7, e7⟩ : ∃ s, s = aL m.ticket 1 512 s6 := ⟨_, rfl⟩
  have l1 : s1.1.length = 32 := by rw [e1, aH_len _ (by intro x hx; simp at hx; rcases hx with rfl | rfl; exact c.ok.ln.r; exact c.ok.ln.s)]; simp
  have l2 : s2.1.length ≤ s1.1.length + 256 := by rw [e2]; exact aS_len 0 m.name s1
  have l3 : s3.1.length = s2.1.length + 1 := by rw [e3]; simp [aN, be_length]
  have h8 : s3.2 = false → (m.protos.length : Int) = m.protos.length → m.protos.length ≤ 300 := by
    intro hf _
    rw [e3] at hf
    simp only [aN, Bool.or_eq_false_iff, Bool.not_eq_false', decide_eq_true_eq] at hf
    omega
  have l4 : s4.1.length ≤ s3.1.length + 76800 := by rw [e4]; exact aP_len _ _ _ h8
  have l5 : s5.1.length ≤ s4.1.length + 5002 := by rw [e5]; exact aL_len _ _ _ (by decide) _
  have l6 : s6.1.length = s5.1.length + 1 := by rw [e6]; simp [aF]
  have l7 : s7.1.length ≤ s6.1.length + 5002 := by rw [e7]; exact aL_len _ _ _ (by decide) _
  have eb : bodyS m = if 0 < m.ticket.length then aH [m.binder] s7 else aM (!m.early && (m.binder == z16)) s6 := by
    rw [e7, e6, e5, e4, e3, e2, e1]; simp [bodyS, hk]
  refine walk1 (I0 := Ip W0 p B ([], false)) (kcell c hk) (fun X hX => ?_) W0 h
  refine client_c (ms_put p) (I0 := Ip W0 p B ([], false)) (I1 := Ip W0 p B s1) (I2 := Ip W0 p B s2) (I3 := fun c W => c = (m.protos.length : Int) ∧ Ip W0 p B s3 W) (I4 := Ip W0 p B s4) (I5 := Ip W0 p B s5) (I6 := fun t W => t = decide (0 < m.ticket.length) ∧ Ip W0 p B s6 W) (I7 := fun W => 0 < m.ticket.length ∧ Ip W0 p B s7 W)
    (ao := m.po) (N := m.protos.length) (cp := m.pc) (to := m.to) (tn := m.ticket.length) (tc := m.tc) ?_ (fun X hX => hX.lt) (fun X hX => hX.lt) X hX
  refine ⟨Ip.stb, Ip.stb, Ip.stb, fun c X Y h hb => ⟨h.1, Ip.stb X Y h.2 hb⟩, Ip.stb, Ip.stb, fun t X Y h hb => ⟨h.1, Ip.stb X Y h.2 hb⟩, fun X Y h hb => ⟨h.1, Ip.stb X Y h.2 hb⟩, ?_, ?_, ?_, ?_, ?_, ?_, ?_, ?_, ?_, ?_, ?_, fun X hX => hX.lt⟩
  · intro X k hX hk
    rw [e1]
    exact ip_h c hX (by simp) k [(1, m.random), (17, m.share)] (by simp) hk (by intro x hx; simp at hx; rcases hx with rfl | rfl; exact ⟨(h16 c hX).1, c.ok.ln.r⟩; exact ⟨(h16 c hX).2.1, c.ok.ln.s⟩)
  · intro X hX
    rw [e2]
    exact ip_s c hX (by omega) 0
  · intro X hX
    exact c.cell hX (Msg.get c.ok.ln).2.2.1
  · intro X k hX hk hpk
    refine (ip_n hX (by omega) k 0 m.protos.length (by unfold World.cell?; rw [hk]; rfl) (by omega) 1 (by decide) (by decide) 1 8).mono ?_
    rintro e w' ⟨⟨h1, h2⟩, h3⟩
    refine ⟨h1, m.protos.length, ⟨rfl, by rw [e3]; exact h2⟩, h3.heap hk (by omega) (by decide)⟩
  · rintro X c' ⟨rfl, hX⟩
    rw [e4]
    exact ip_p c hX (by omega) _ h8
  · intro X hX
    rw [e5]
    exact ip_l c hX (by omega) 0 4096 (by decide)
  · intro X hX
    exact c.cell hX (Msg.get c.ok.ln).2.2.2.2.1
  · intro X k b hX hb hpb hk
    refine (ip_f2 hX (by omega) k b 0 M 53 _ m.early hk (by unfold World.cell?; rw [hb]; rfl) (c.cell hX (Msg.get c.ok.ln).2.2.2.2.2.1)).mono ?_
    rintro e w' ⟨⟨h1, h2⟩, h3⟩
    exact ⟨h1, _, ⟨rfl, by rw [e6]; exact h2⟩, h3.heap hb (by omega) (by decide)⟩
  · rintro X ⟨ht, hX⟩
    have hn : ¬ 0 < m.ticket.length := by simpa using ht.symm
    refine ⟨m.early, m.binder, c.ok.ln.b, c.cell hX (Msg.get c.ok.ln).2.2.2.2.2.1, (h16 c hX).2.2.1.range, ?_⟩
    rw [eb, if_neg hn]
    exact ip_m hX _
  · rintro X ⟨ht, hX⟩
    have hn : 0 < m.ticket.length := by simpa using ht.symm
    rw [e7]
    exact (ip_t c hX (by omega) 1 512 (by decide)).mono fun e w' h => ⟨h.1, hn, h.2⟩
  · rintro X k ⟨hn, hX⟩ hk
    rw [eb, if_pos hn]
    exact ip_h c hX (by omega) k [(37, m.binder)] (by simp) hk (by intro x hx; simp at hx; subst hx; exact ⟨(h16 c hX).2.2.1, c.ok.ln.b⟩)
theorem pwalk (c : Cx W0 p B M m) (hk : isK m.kind = true) (h : Ip W0 p B ([], false) W0) : Calls Try.prog 17 #[.iface 54 (.pointer (some ⟨p, 0, none⟩)), .pointer (some ⟨M, 0, none⟩)] W0 fun e w' => e = .returned un ∧ Ip W0 p B (bodyS m) w' := by
  have := of_decide_eq_true hk
  rcases this with hk | hk | hk | hk | hk | hk | hk
  · exact pw1 c hk h
  · exact pw2 c hk h
  · exact pw8 c hk h
  · exact pw11 c hk h
  · exact pw15 c hk h
  · exact pw20 c hk h
  · exact pw4 c hk h
end
end Go.Proofs.Ytcchlicokglmnaa
