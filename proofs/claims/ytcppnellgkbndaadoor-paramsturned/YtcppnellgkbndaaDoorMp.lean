/- params: Put. -/
import Derived.Test.YtcppnellgkbndaaDoorMc
namespace Go.Proofs.YtcppnellgkbndaaDoor
open Go.ChangeShapes Go.WideShapes Go.ChangeAt Go.RowKit Go.Shelf
set_option linter.unusedVariables false
set_option maxRecDepth 100000

/-- A row is said. -/
def RowB.said (s : Bool) (x : RowB) : Bool := x.r.th || (x.r.mu && (s || !x.r.sv))
def RowB.put (s : Bool) (x : RowB) : List UInt8 := if x.said s then layB x.r.n x.bs else []
/-- What rows are put as. -/
def putB (s : Bool) (L : List RowB) : List UInt8 := L.flatMap (RowB.put s)
/-- What parameters are put as. -/
def Ps.bytes (p : Ps) (s : Bool) : List UInt8 := putB s (tab 0 p)
theorem tab_put (P : Nat) (p : Ps) (s : Bool) : putB s (tab P p) = p.bytes s := rfl
theorem layB_len (n : Int) (v : List UInt8) : (layB n v).length ≤ 16 + v.length := by
  have a := szN_le n
  have b := szN_le v.length
  simp only [layB, List.length_append, enc_length]
  omega
theorem put_len (s : Bool) (x : RowB) (h : x.bs.length ≤ 20) : (x.put s).length ≤ 40 := by
  unfold RowB.put
  have := layB_len x.r.n x.bs
  split
  · omega
  · simp
theorem putB_len (s : Bool) : ∀ (L : List RowB), (∀ x ∈ L, x.bs.length ≤ 20) → (putB s L).length ≤ 40 * L.length
  | [], _ => by simp [putB]
  | x :: L, h => by
    have h1 := put_len s x (h x (by simp))
    have h2 := putB_len s L (fun y hy => h y (by simp [hy]))
    have : putB s (x :: L) = x.put s ++ putB s L := by simp [putB]
    rw [this, List.length_append, List.length_cons]
    omega
theorem putB_take (s : Bool) (L : List RowB) (k : Nat) (h : k < L.length) : putB s (L.take (k + 1)) = putB s (L.take k) ++ L[k].put s := by
  unfold putB
  rw [List.take_succ_eq_append_getElem h, List.flatMap_append]
  simp
theorem enc_le (x : Int) : (enc (szN x) x).length ≤ 20 := by
  have := szN_le x
  rw [enc_length]; omega
theorem tab_al {P : Nat} {p : Ps} {s : Bool} (h : p.bad s = false) : ∀ x ∈ tab P p, x.r.al = true := by
  intro x hx
  have h1 : ((tab P p).map (·.r)).any (Row.bad s) = false := h
  rw [List.any_eq_false] at h1
  have := h1 x.r (List.mem_map.2 ⟨x, hx, rfl⟩)
  unfold Row.bad bad at this
  revert this
  cases x.r.al <;> simp
theorem tab_bs {P : Nat} {p : Ps} (h16 : p.reset.length = 16) : ∀ x ∈ tab P p, x.r.al = true → x.bs.length ≤ 20 := by
  intro x hx ha
  simp only [tab, List.mem_cons, List.not_mem_nil, or_false] at hx
  rcases hx with rfl | rfl | rfl | rfl | rfl | rfl | rfl | rfl | rfl | rfl | rfl | rfl | rfl | rfl | rfl | rfl | rfl
  · exact of_decide_eq_true ha
  · exact enc_le _
  · show p.reset.length ≤ 20; omega
  · exact enc_le _
  · exact enc_le _
  · exact enc_le _
  · exact enc_le _
  · exact enc_le _
  · exact enc_le _
  · exact enc_le _
  · exact enc_le _
  · exact enc_le _
  · show ([] : List UInt8).length ≤ 20; simp
  · exact enc_le _
  · exact of_decide_eq_true ha
  · simp only [Bool.and_eq_true] at ha; exact of_decide_eq_true ha.1
  · exact enc_le _
theorem tab_n {P : Nat} {p : Ps} : ∀ x ∈ tab P p, 0 ≤ x.r.n ∧ x.r.n ≤ 32 := by
  intro x hx
  simp only [tab, List.mem_cons, List.not_mem_nil, or_false] at hx
  rcases hx with rfl | rfl | rfl | rfl | rfl | rfl | rfl | rfl | rfl | rfl | rfl | rfl | rfl | rfl | rfl | rfl | rfl <;> (simp only []; omega)
theorem own_sl0 {B : Nat} {w : World} {o : Option Addr} {c : Nat} {X : List UInt8} (h : w.ownsRow B 5 1 (.slice o X.length c) X.length (bc X)) : Sl w o X := by
  by_cases h0 : 0 < X.length
  · obtain ⟨g, cap, e, hs, _⟩ := own_sl h rfl h0
    simp only [Value.slice.injEq] at e
    rw [e.1]; exact hs
  · intro j hj; omega
theorem own_nil (B : Nat) (w : World) : w.ownsRow B 5 1 (.slice none 0 0) 0 (bc []) := ⟨by simp [bc], .inl ⟨rfl, rfl⟩⟩
/-- Between two rows. -/
def PutI (s : Bool) (B : Nat) (W : World) (L : List RowB) (k : Nat) (o : Option Addr) (c : Nat) (X : World) : Prop := Below W.heap.size W X ∧ X.ownsRow B 5 1 (.slice o (putB s (L.take k)).length c) (putB s (L.take k)).length (bc (putB s (L.take k)))
set_option maxHeartbeats 4000000 in
theorem put_c (p : Ps) (s : Bool) (w : World) (h : Pl w p) (ht : Tb w) (hbad : p.bad s = false) : Calls Tryd.prog 8 #[.agg p.cells.toArray, .bool s] w fun e w' => ∃ v, e = .returned (.tuple #[v, .int .i64 0]) ∧ w'.ownsRow w.heap.size 5 1 v (p.bytes s).length (bc (p.bytes s)) ∧ Below w.heap.size w w' := by
  obtain ⟨W1, hW1, hpm, hb1⟩ : ∃ W1, w.alloc (.cells p.cells.toArray 25) = W1 ∧ Pm W1 w.heap.size p ∧ Below w.heap.size w W1 := ⟨_, rfl, h.pm, bel1 w _⟩
  have hck := check_c p s W1 (h.bel hb1)
  rw [hbad, if_neg (by simp)] at hck
  have HROW : Aside (W1.heap[w.heap.size]? = some (.cells p.cells.toArray 25 (0, 0))) := hpm.row
  have HI : Aside ((Tryd.prog.info? 25).map (·.size) = some p.cells.toArray.size) := by
    show _ = _
    rw [hi25]; simp [Ps.cells, h.r16]
  have HPM : Aside (Pm W1 w.heap.size p) := hpm
  have HTB : Aside (Tb W1) := Tb_below ht hb1 (Tb_pos ht)
  have HB1 : Aside (Below w.heap.size w W1) := hb1
  have HAL : Aside (∀ x ∈ tab w.heap.size p, x.r.al = true) := tab_al hbad
  have HLN : Aside (∀ x ∈ tab w.heap.size p, x.bs.length ≤ 20) := fun x hx => tab_bs h.r16 x hx (tab_al hbad x hx)
  have HFIN : Aside (∀ (o : Option Addr) (c : Nat) (X : World), Below w.heap.size w X → X.ownsRow w.heap.size 5 1 (.slice o (putB s ((tab w.heap.size p).take 17)).length c) (putB s ((tab w.heap.size p).take 17)).length (bc (putB s ((tab w.heap.size p).take 17))) → ∃ v, Ending.returned (.tuple #[.slice o (putB s ((tab w.heap.size p).take 17)).length c, .int .i64 0]) = .returned (.tuple #[v, .int .i64 0]) ∧ X.ownsRow w.heap.size 5 1 v (p.bytes s).length (bc (p.bytes s)) ∧ Below w.heap.size w X) := fun o c X h1 h2 => ⟨_, rfl, h2, h1⟩
  clear h ht hbad hpm hb1
  generalize p.bytes s = PB at *
  obtain ⟨L, hL⟩ : ∃ L, tab w.heap.size p = L := ⟨_, rfl⟩
  have hlen : L.length = 17 := by rw [← hL]; rfl
  have HLL : Aside (L.length = 17) := hlen
  have HFS : Aside (∀ (g : Nat) (X : World), X.heap[g]? = some (.cells ((rowsV w.heap.size).flatMap fun v => v.cells.toList).toArray 58 (0, 0)) → Fs X g (L.map (·.r))) := fun g X h => by rw [← hL]; exact tab_fs p h
  have HMAY : Aside (∀ x ∈ L, x.r.may W1) := by show ∀ _, _; rw [← hL]; exact tab_may HPM.out
  have HBYT : Aside (∀ x ∈ L, MBy W1 x.r.T x.r.v x.bs) := by show ∀ _, _; rw [← hL]; exact fun x hx => tab_by HPM.out HTB.out x hx (HAL.out x hx)
  have HNN : Aside (∀ x ∈ L, 0 ≤ x.r.n ∧ x.r.n ≤ 32) := by show ∀ _, _; rw [← hL]; exact tab_n
  rw [hL] at HLN HFIN
  clear HAL hlen hL HPM
  generalize p.cells.toArray = cs at *
  go_enter Tryd.func8, Tryd.ntmps8
  go_wp2_with (first | (refine wpList_load_row rfl 25 (.tmp 2) rfl w.heap.size rfl 25 _ (0, 0) _ HROW.out hu25 rfl HI.out ?_))
  refine hck.mono ?_
  rintro e W2 ⟨rfl, hb2⟩
  have hf := fields_c w.heap.size W2
  have HB2 : Aside (Below W1.heap.size W1 W2) := hb2
  clear hck hb2 hW1
  go_wp2_with fail
  refine hf.mono ?_
  rintro e W3 ⟨g, rfl, hg, hb3⟩
  have HF3 : Aside (Fs W3 g (L.map (·.r))) := HFS.out g W3 hg
  have HB13 : Aside (Below W1.heap.size W1 W3) := bel_trans HB2.out hb3
  have HB3 : Aside (Below w.heap.size w W3) := bel_trans HB1.out HB13.out
  clear hf hg hb3 HFS HB2
  have HI0 : Aside (PutI s w.heap.size W3 L 0 none 0 W3) := ⟨Below.refl _ _, own_nil _ _⟩
  go_wp2_with fail
  go_loopg [7, 18] 17 (fun kx s7 s18 wr => ∃ (k : Nat) (o : Option Addr) (c : Nat), s18 = .int .i64 (k : Int) ∧ s7 = .slice o (putB s (L.take k)).length c ∧ k ≤ 17 ∧ 17 - k ≤ kx ∧ Aside (PutI s w.heap.size W3 L k o c wr))
  case atStart => exact ⟨0, none, 0, rfl, rfl, by omega, by omega, HI0.out⟩
  case round =>
    obtain ⟨k, o, c, rfl, rfl, hk, hgk, HIV⟩ := hrel
    obtain ⟨X0, hX0⟩ : ∃ X0, putB s (L.take k) = X0 := ⟨_, rfl⟩
    obtain ⟨XN, hXN⟩ : ∃ XN, X0.length = XN := ⟨_, rfl⟩
    have HBW : Aside (Below W3.heap.size W3 wr) := HIV.out.1
    have HOW : Aside (wr.ownsRow w.heap.size 5 1 (.slice o X0.length c) X0.length (bc X0)) := by rw [← hX0]; exact HIV.out.2
    have HX0 : Aside (putB s (L.take k) = X0) := hX0
    have HXN : Aside (X0.length = XN) := hXN
    rw [hX0, hXN]
    clear HIV hX0 hXN
    by_cases hlt : k < 17
    · have hi : k < L.length := by rw [HLL.out]; exact hlt
      have hi2 : k < (L.map (·.r)).length := by rw [List.length_map]; exact hi
      have hcs := (HF3.out.bel HBW.out) k hi2
      rw [List.getElem_map] at hcs
      have c0 : wr.cell? ⟨g, k * 4, none⟩ = some (.int .i64 L[k].r.n) := hcs.1
      have c1 : wr.cell? ⟨g, k * 4 + 1, none⟩ = some (.bool L[k].r.sv) := hcs.2.1
      have c2 : wr.cell? ⟨g, k * 4 + 2, none⟩ = some (.bool L[k].r.mu) := hcs.2.2.1
      have c3 : wr.cell? ⟨g, k * 4 + 3, none⟩ = some (.iface L[k].r.T L[k].r.v) := hcs.2.2.2
      clear hcs
      have hmem : L[k] ∈ L := List.getElem_mem hi
      obtain ⟨-, fT, uT, mT, eT, cT⟩ := HMAY.out _ hmem
      obtain ⟨fB, uB, mB, eB, cB⟩ := HBYT.out _ hmem
      have HCT : Aside (∀ X, Below W3.heap.size W3 X → Calls Tryd.prog fT #[uT] X fun e w' => e = .returned (.bool L[k].r.th) ∧ Below X.heap.size X w') := fun X hX => cT X (bel_trans HB13.out hX)
      have HBY : Aside (∀ X, Below W3.heap.size W3 X → Calls Tryd.prog fB #[uB] X fun e w' => ∃ o c, e = .returned (.slice o L[k].bs.length c) ∧ Sl w' o L[k].bs ∧ (o = none → L[k].bs.length = 0 ∧ c = 0) ∧ Below X.heap.size X w') := fun X hX => cB X (bel_trans HB13.out hX)
      have hl20 : L[k].bs.length ≤ 20 := HLN.out _ hmem
      have hXl : X0.length ≤ 40 * 17 := by
        rw [← HX0.out]
        have := putB_len s (L.take k) (fun x hx => HLN.out x (List.mem_of_mem_take hx))
        rw [List.length_take] at this
        omega
      obtain ⟨hn0, hn1⟩ := HNN.out _ hmem
      have HLY : Aside (∀ (X : World) (o7 : Option Addr) (c7 : Nat), Below W3.heap.size W3 X → Below wr.heap.size wr X → Sl X o7 L[k].bs → (o7 = none → L[k].bs.length = 0 ∧ c7 = 0) → Calls Tryd.prog 21 #[.slice o X0.length c, .int .i64 L[k].r.n, .slice o7 L[k].bs.length c7] X fun e w' => ∃ x, e = .returned x ∧ w'.ownsRow X.heap.size 5 1 x (X0 ++ layB L[k].r.n L[k].bs).length (bc (X0 ++ layB L[k].r.n L[k].bs)) ∧ 0 < (X0 ++ layB L[k].r.n L[k].bs).length ∧ Below X.heap.size X w') := fun X o7 c7 h1 h2 h3 h4 =>
        lay_c o X0 c L[k].r.n o7 L[k].bs c7 X (Tb_below (Tb_below HTB.out HB13.out (Tb_pos HTB.out)) h1 (Nat.lt_of_lt_of_le (Tb_pos HTB.out) HB13.out.size)) (Sl_below (own_sl0 HOW.out) h2) h3 h4 (by omega) (by omega) hn0 (by omega)
      have HNX : Aside (putB s (L.take (k + 1)) = X0 ++ L[k].put s) := by show _ = _; rw [putB_take s L k hi, HX0.out]
      have hput : L[k].put s = if L[k].said s then layB L[k].r.n L[k].bs else [] := rfl
      have hsd : L[k].said s = (L[k].r.th || (L[k].r.mu && (s || !L[k].r.sv))) := rfl
      have HMU : Aside (∀ X, Calls Tryd.prog 20 #[.agg (fieldA L[k].r.n L[k].r.sv L[k].r.mu (.iface L[k].r.T L[k].r.v)), .bool s] X fun e w' => e = .returned (.bool (L[k].r.mu && (s || !L[k].r.sv))) ∧ Below X.heap.size X w') := fun X => must_c _ _ _ s _ X
      have hNX := HNX.out
      rw [hput, hsd] at hNX
      have HNY : Aside (putB s (L.take (k + 1)) = X0 ++ if (L[k].r.th || (L[k].r.mu && (s || !L[k].r.sv))) = true then layB L[k].r.n L[k].bs else []) := hNX
      clear hNX HNX hput hsd hmem hi2 hn0 hn1 hl20 hXl cT cB
      generalize L[k].r.th = xth at *
      generalize (L[k].r.mu && (s || !L[k].r.sv)) = y at *
      generalize L[k].r.n = xn at *
      generalize L[k].r.sv = xsv at *
      generalize L[k].r.mu = xmu at *
      generalize L[k].r.T = xT at *
      generalize L[k].r.v = xv at *
      generalize L[k].bs = xbs at *
      obtain ⟨X1, hX1⟩ : ∃ X1, X0 ++ layB xn xbs = X1 := ⟨_, rfl⟩
      obtain ⟨XN1, hXN1⟩ : ∃ XN1, X1.length = XN1 := ⟨_, rfl⟩
      obtain ⟨BN, hBN⟩ : ∃ BN, xbs.length = BN := ⟨_, rfl⟩
      rw [hX1, hXN1, hBN, HXN.out] at HLY
      rw [hBN] at HBY
      have HXN1 : Aside (X1.length = XN1) := hXN1
      have HNY1 : Aside ((xth || y) = true → putB s (L.take (k + 1)) = X1) := fun h => by rw [HNY.out, if_pos h, hX1]
      have HNY0 : Aside ((xth || y) = false → putB s (L.take (k + 1)) = X0) := fun h => by rw [HNY.out, if_neg (by rw [h]; simp), List.append_nil]
      clear HNY hX1 hXN1 hBN
      obtain ⟨W5, hW5, hb5, hH5, d0, d1, d2, d3⟩ := field_cells xn xsv xmu (.iface xT xv) wr
      have hW5' : wr.alloc (.cells #[.int .i64 xn, .bool xsv, .bool xmu, .iface xT xv] 58) = W5 := hW5
      obtain ⟨F, hF⟩ : ∃ F, wr.heap.size = F := ⟨_, rfl⟩
      have HB5 : Aside (Below W3.heap.size W3 W5) := bel_trans HBW.out hb5
      have HBw5 : Aside (Below wr.heap.size wr W5) := hb5
      rw [hF] at hH5 d0 d1 d2 d3
      have HD : Aside (∀ X, Below W5.heap.size W5 X → X.cell? ⟨F, 0, none⟩ = some (.int .i64 xn) ∧ X.cell? ⟨F, 3, none⟩ = some (.iface xT xv) ∧ X.heap[F]? = some (.cells (fieldA xn xsv xmu (.iface xT xv)) 58 (0, 0))) := fun X hX => ⟨cell_bel d0 hX, cell_bel d3 hX, (hX.block _ (lt_block hH5)).trans hH5⟩
      have ht := HCT.out W5 HB5.out
      have HRW : Aside (∀ X, Below W3.heap.size W3 X → X.ownsRow w.heap.size 5 1 (.slice o XN c) XN (bc X0) → (xth || y) = false → PutI s w.heap.size W3 L (k + 1) o c X) := fun X h1 h2 h3 => ⟨h1, by rw [HNY0.out h3, HXN.out]; exact h2⟩
      have HOW0 : Aside (wr.ownsRow w.heap.size 5 1 (.slice o XN c) XN (bc X0)) := by have := HOW.out; rw [HXN.out] at this; exact this
      have HLEN0 : Aside ((xth || y) = false → (putB s (L.take (k + 1))).length = XN) := fun h => by rw [HNY0.out h, HXN.out]
      have HLEN1' : Aside ((xth || y) = true → (putB s (L.take (k + 1))).length = XN1) := fun h => by rw [HNY1.out h, HXN1.out]
      have HNEXT' : Aside ((xth || y) = true → ∀ (o : Option Addr) (c : Nat) (X : World), Below W3.heap.size W3 X → X.ownsRow w.heap.size 5 1 (.slice o XN1 c) XN1 (bc X1) → PutI s w.heap.size W3 L (k + 1) o c X) := fun h o c X h1 h2 => ⟨h1, by rw [HNY1.out h, HXN1.out]; exact h2⟩
      have i1 : (k : Int) < 17 := by omega
      have iw : IntKind.i64.wrap ((k : Int) + 1) = (k : Int) + 1 := wrq _ (by omega) (by omega)
      clear hW5 hb5 hH5 d0 d1 d2 HCT HOW HNY0 HNY1 HMAY HBYT HNN HLN HFIN HF3
      cases xth with
      | true =>
        have HLEN1 := HLEN1'.out rfl
        have HLEN1 : Aside ((putB s (L.take (k + 1))).length = XN1) := HLEN1
        have HNEXT : Aside (∀ (o : Option Addr) (c : Nat) (X : World), Below W3.heap.size W3 X → X.ownsRow w.heap.size 5 1 (.slice o XN1 c) XN1 (bc X1) → PutI s w.heap.size W3 L (k + 1) o c X) := HNEXT'.out rfl
        clear HLEN0 HLEN1' HNEXT' HRW HMU
        go_wp2_with fail
        refine ht.mono ?_
        rintro e W6 ⟨rfl, hb6⟩
        obtain ⟨k0, k3, -⟩ := HD.out W6 hb6
        have HB6 : Aside (Below W3.heap.size W3 W6) := bel_trans HB5.out hb6
        have hbw6 : Below wr.heap.size wr W6 := bel_trans HBw5.out hb6
        clear ht hb6 HD hF hW5' d3 c0 c1 c2 c3
        have k0d : W6.drew.cell? ⟨F, 0, none⟩ = some (.int .i64 xn) := k0
        have k3d : W6.drew.cell? ⟨F, 3, none⟩ = some (.iface xT xv) := k3
        have hby := HBY.out W6.drew HB6.out.drew
        have HBw6 : Aside (Below wr.heap.size wr W6) := hbw6
        clear k0 k3 hbw6
        go_wp2_with fail
        go_region_held3 (fun X => X.cell? ⟨F, 0, none⟩ = some (.int .i64 xn) ∧ X.cell? ⟨F, 3, none⟩ = some (.iface xT xv)) (first | exact ⟨k0d, k3d⟩ | exact ⟨cell_bel k0d HB7.out, cell_bel k3d HB7.out⟩ | exact ⟨cell_bel (cell_bel k0d HB7.out) HB8.out, cell_bel (cell_bel k3d HB7.out) HB8.out⟩) (first
          | (go_at_call 21; refine Calls.mono (HLY.out W7 o7 c7 HB67.out HBw7.out HS7.out HN7.out) ?_; rintro e W8 ⟨v8, rfl, hown8, hpos8, hb8⟩; obtain ⟨g8, c8, rfl, hsl8, hg8, hg8b, hc8⟩ := own_sl hown8 HXN1.out hpos8; have HOW8 : Aside (W8.ownsRow W7.heap.size 5 1 (.slice (some ⟨g8, 0, none⟩) XN1 c8) XN1 (bc X1)) := hown8; have HB8 : Aside (Below W7.heap.size W7 W8) := hb8; clear hown8 hpos8 hb8 hsl8 hg8 hg8b hc8)
          | (refine Calls.mono hby ?_; rintro e W7 ⟨o7, c7, rfl, hs7, hn7, hb7⟩; have HB7 : Aside (Below W6.drew.heap.size W6.drew W7) := hb7; have HB67 : Aside (Below W3.heap.size W3 W7) := bel_trans HB6.out.drew hb7; have HBw7 : Aside (Below wr.heap.size wr W7) := bel_trans HBw6.out.drew hb7; have HS7 : Aside (Sl W7 o7 xbs) := hs7; have HN7 : Aside (o7 = none → BN = 0 ∧ c7 = 0) := hn7; clear hs7 hn7 hb7 hby))
        go_wp2
        go_roundg (17 - (k + 1))
        case measure => omega
        case rel => exact ⟨k + 1, _, c8, rfl, by rw [HLEN1.out], by omega, Nat.le_refl _, HNEXT.out _ _ W8 (bel_trans HB67.out HB8.out) (own_mono HOW8.out (Nat.le_trans HB3.out.size HB67.out.size))⟩
      | false =>
        go_wp2_with fail
        refine ht.mono ?_
        rintro e W6a ⟨rfl, hb6⟩
        have HH : Aside (W6a.heap[F]? = some (.cells (fieldA xn xsv xmu (.iface xT xv)) 58 (0, 0))) := (HD.out W6a hb6).2.2
        have HB56 : Aside (Below W5.heap.size W5 W6a) := hb6
        have hmu := HMU.out W6a
        clear ht hb6 hF hW5' d3 c0 c1 c2 c3
        go_wp2_with (first | (refine wpList_load_row_g (by rfl) 58 (.tmp 9) rfl F rfl 58 _ (0, 0) _ HH.out hu58 rfl hi58 ?_))
        refine hmu.mono ?_
        rintro e W6 ⟨rfl, hb6⟩
        obtain ⟨k0, k3, -⟩ := HD.out W6 (bel_trans HB56.out hb6)
        have HB6 : Aside (Below W3.heap.size W3 W6) := bel_trans HB5.out (bel_trans HB56.out hb6)
        have hbw6 : Below wr.heap.size wr W6 := bel_trans HBw5.out (bel_trans HB56.out hb6)
        clear hmu hb6 HD HMU
        cases y with
        | true =>
          have HLEN1 : Aside ((putB s (L.take (k + 1))).length = XN1) := HLEN1'.out rfl
          have HNEXT : Aside (∀ (o : Option Addr) (c : Nat) (X : World), Below W3.heap.size W3 X → X.ownsRow w.heap.size 5 1 (.slice o XN1 c) XN1 (bc X1) → PutI s w.heap.size W3 L (k + 1) o c X) := HNEXT'.out rfl
          clear HLEN0 HLEN1' HNEXT' HRW
          have k0d : W6.drew.cell? ⟨F, 0, none⟩ = some (.int .i64 xn) := k0
          have k3d : W6.drew.cell? ⟨F, 3, none⟩ = some (.iface xT xv) := k3
          have hby := HBY.out W6.drew HB6.out.drew
          have HBw6 : Aside (Below wr.heap.size wr W6) := hbw6
          clear k0 k3 hbw6
          go_wp2_with fail
          go_region_held3 (fun X => X.cell? ⟨F, 0, none⟩ = some (.int .i64 xn) ∧ X.cell? ⟨F, 3, none⟩ = some (.iface xT xv)) (first | exact ⟨k0d, k3d⟩ | exact ⟨cell_bel k0d HB7.out, cell_bel k3d HB7.out⟩ | exact ⟨cell_bel (cell_bel k0d HB7.out) HB8.out, cell_bel (cell_bel k3d HB7.out) HB8.out⟩) (first
            | (go_at_call 21; refine Calls.mono (HLY.out W7 o7 c7 HB67.out HBw7.out HS7.out HN7.out) ?_; rintro e W8 ⟨v8, rfl, hown8, hpos8, hb8⟩; obtain ⟨g8, c8, rfl, hsl8, hg8, hg8b, hc8⟩ := own_sl hown8 HXN1.out hpos8; have HOW8 : Aside (W8.ownsRow W7.heap.size 5 1 (.slice (some ⟨g8, 0, none⟩) XN1 c8) XN1 (bc X1)) := hown8; have HB8 : Aside (Below W7.heap.size W7 W8) := hb8; clear hown8 hpos8 hb8 hsl8 hg8 hg8b hc8)
            | (refine Calls.mono hby ?_; rintro e W7 ⟨o7, c7, rfl, hs7, hn7, hb7⟩; have HB7 : Aside (Below W6.drew.heap.size W6.drew W7) := hb7; have HB67 : Aside (Below W3.heap.size W3 W7) := bel_trans HB6.out.drew hb7; have HBw7 : Aside (Below wr.heap.size wr W7) := bel_trans HBw6.out.drew hb7; have HS7 : Aside (Sl W7 o7 xbs) := hs7; have HN7 : Aside (o7 = none → BN = 0 ∧ c7 = 0) := hn7; clear hs7 hn7 hb7 hby))
          go_wp2
          go_roundg (17 - (k + 1))
          case measure => omega
          case rel => exact ⟨k + 1, _, c8, rfl, by rw [HLEN1.out], by omega, Nat.le_refl _, HNEXT.out _ _ W8 (bel_trans HB67.out HB8.out) (own_mono HOW8.out (Nat.le_trans HB3.out.size HB67.out.size))⟩
        | false =>
          have HL0 : Aside ((putB s (L.take (k + 1))).length = XN) := HLEN0.out rfl
          have HR0 : Aside (PutI s w.heap.size W3 L (k + 1) o c W6) := HRW.out W6 HB6.out (own_bel HOW0.out hbw6) rfl
          clear HLEN0 HLEN1' HNEXT' HRW hbw6
          go_wp2
          go_roundg (17 - (k + 1))
          case measure => omega
          case rel => exact ⟨k + 1, o, c, rfl, by rw [HL0.out], by omega, Nat.le_refl _, HR0.out⟩
    · obtain rfl : k = 17 := by omega
      have i1 : ¬ ((17 : Nat) : Int) < 17 := by omega
      have HF : Aside (∃ v, Ending.returned (.tuple #[.slice o XN c, .int .i64 0]) = .returned (.tuple #[v, .int .i64 0]) ∧ wr.ownsRow w.heap.size 5 1 v PB.length (bc PB) ∧ Below w.heap.size w wr) := by
        have := HFIN.out o c wr (bel_trans HB3.out HBW.out)
        rw [HX0.out] at this
        have h2 := this HOW.out
        rw [HXN.out] at h2
        exact h2
      clear HOW HFIN
      go_wp2
      go_ret2
      exact HF.out
end Go.Proofs.YtcppnellgkbndaaDoor
