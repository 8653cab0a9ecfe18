/- hello.walk and walkClient, over any parts. -/
import Derived.Test.YtcchlicokglmnaaHs
import Derived.Deep.MidRow
namespace Go.Proofs.Ytcchlicokglmnaa
open Go.ChangeShapes Go.WideShapes Go.ChangeAt Go.RowKit Go.Lib
set_option linter.unusedVariables false

/-- The methods of parts of a type. -/
structure Ms (T p fH fF fS fL fP fN fM : Nat) : Prop where
  mH : ∀ w, (Go.method 221 T (.pointer (some ⟨p, 0, none⟩)) "caravel/hello.handles").run Try.prog w = .ok (fH, .pointer (some ⟨p, 0, none⟩)) w
  mF : ∀ w, (Go.method 221 T (.pointer (some ⟨p, 0, none⟩)) "caravel/hello.flags").run Try.prog w = .ok (fF, .pointer (some ⟨p, 0, none⟩)) w
  mS : ∀ w, (Go.method 221 T (.pointer (some ⟨p, 0, none⟩)) "caravel/hello.short").run Try.prog w = .ok (fS, .pointer (some ⟨p, 0, none⟩)) w
  mL : ∀ w, (Go.method 221 T (.pointer (some ⟨p, 0, none⟩)) "caravel/hello.long").run Try.prog w = .ok (fL, .pointer (some ⟨p, 0, none⟩)) w
  mP : ∀ w, (Go.method 221 T (.pointer (some ⟨p, 0, none⟩)) "caravel/hello.protos").run Try.prog w = .ok (fP, .pointer (some ⟨p, 0, none⟩)) w
  mN : ∀ w, (Go.method 221 T (.pointer (some ⟨p, 0, none⟩)) "caravel/hello.number").run Try.prog w = .ok (fN, .pointer (some ⟨p, 0, none⟩)) w
  mM : ∀ w, (Go.method 221 T (.pointer (some ⟨p, 0, none⟩)) "caravel/hello.must").run Try.prog w = .ok (fM, .pointer (some ⟨p, 0, none⟩)) w
  nH : ∀ w, (nilAhead 221 T (.pointer (some ⟨p, 0, none⟩)) "caravel/hello.handles").run Try.prog w = .ok (some false) w
  nF : ∀ w, (nilAhead 221 T (.pointer (some ⟨p, 0, none⟩)) "caravel/hello.flags").run Try.prog w = .ok (some false) w
  nS : ∀ w, (nilAhead 221 T (.pointer (some ⟨p, 0, none⟩)) "caravel/hello.short").run Try.prog w = .ok (some false) w
  nL : ∀ w, (nilAhead 221 T (.pointer (some ⟨p, 0, none⟩)) "caravel/hello.long").run Try.prog w = .ok (some false) w
  nP : ∀ w, (nilAhead 221 T (.pointer (some ⟨p, 0, none⟩)) "caravel/hello.protos").run Try.prog w = .ok (some false) w
  nN : ∀ w, (nilAhead 221 T (.pointer (some ⟨p, 0, none⟩)) "caravel/hello.number").run Try.prog w = .ok (some false) w
  nM : ∀ w, (nilAhead 221 T (.pointer (some ⟨p, 0, none⟩)) "caravel/hello.must").run Try.prog w = .ok (some false) w
  cH : ∀ args w, (callFunc fH args).run Try.prog w = .ok (.enter fH args) w
  cF : ∀ args w, (callFunc fF args).run Try.prog w = .ok (.enter fF args) w
  cS : ∀ args w, (callFunc fS args).run Try.prog w = .ok (.enter fS args) w
  cL : ∀ args w, (callFunc fL args).run Try.prog w = .ok (.enter fL args) w
  cP : ∀ args w, (callFunc fP args).run Try.prog w = .ok (.enter fP args) w
  cN : ∀ args w, (callFunc fN args).run Try.prog w = .ok (.enter fN args) w
  cM : ∀ args w, (callFunc fM args).run Try.prog w = .ok (.enter fM args) w
theorem ms_put (p : Nat) : Ms 54 p 56 55 60 57 59 58 23 := by constructor <;> intros <;> kernel_rfl
theorem ms_read (p : Nat) : Ms 65 p 62 61 66 63 65 64 23 := by constructor <;> intros <;> kernel_rfl
/-- What holds stays, while nothing but new blocks turns. -/
def Stb (I : World → Prop) : Prop := ∀ X Y, I X → Below X.heap.size X Y → I Y
abbrev un : Value := .tuple #[]
theorem bl1 (w : World) (o : Obj) : Below w.heap.size w (w.alloc o) := (Below.refl _ w).alloc (Nat.le_refl _) o
theorem bld (w : World) : Below w.heap.size w w.drew := ⟨rfl, rfl, rfl, Nat.le_refl _, fun _ _ => rfl⟩
section
variable {T p M fH fF fS fL fP fN fM : Nat}
set_option maxRecDepth 100000 in
set_option maxHeartbeats 2000000 in
theorem walk2 (ms : Ms T p fH fF fS fL fP fN fM) {I0 I1 I2 : World → Prop} (st0 : Stb I0) (st1 : Stb I1) (hk : ∀ X, I0 X → X.cell? ⟨M, 0, none⟩ = some (.int .i64 2))
    (h1 : ∀ X k, I0 X → X.heap[k]? = some (.cells #[.pointer (some ⟨M, 1, none⟩), .pointer (some ⟨M, 17, none⟩)] 82 (0, 0)) → Calls Try.prog fH #[.pointer (some ⟨p, 0, none⟩), .slice (some ⟨k, 0, none⟩) 2 2] X fun e w' => e = .returned un ∧ I1 w')
    (h2 : ∀ X k, I1 X → X.heap[k]? = some (.cells #[.pointer (some ⟨M, 54, none⟩)] 84 (0, 0)) → Calls Try.prog fF #[.pointer (some ⟨p, 0, none⟩), .slice (some ⟨k, 0, none⟩) 1 1] X fun e w' => e = .returned un ∧ I2 w')
    (w : World) (h0 : I0 w) : Calls Try.prog 17 #[.iface T (.pointer (some ⟨p, 0, none⟩)), .pointer (some ⟨M, 0, none⟩)] w fun e w' => e = .returned un ∧ I2 w' := by
  have hmf : ∀ (fn : Fn) (first cap : Array Value) (w : World), (Instr.makeFunc fn first cap).run Try.prog w = .ok (.func fn first cap) w := fun _ _ _ _ => rfl
  obtain ⟨mH, mF, mS, mL, mP, mN, mM, nH, nF, nS, nL, nP, nN, nM, cH, cF, cS, cL, cP, cN, cM⟩ := ms
  have kc := hk w h0
  have S0 : Hid (I0 w) := h0
  have C1 : Hid _ := h1
  have C2 : Hid _ := h2
  clear h0 hk h1 h2
  go_enter Try.func17, Try.ntmps17
  go_wp2_with fail
  have S0d : Hid (I0 w.drew) := st0 _ _ S0.out (bld w)
  clear S0
  refine wp_region_held_drew (S := fun _ => True) (by kernel_rfl) trivial (fun hHeld => ?_)
  generalize w.drew = wd at *
  refine wpAnyH_take (i := 0) (v := .iface T (.pointer (some ⟨p, 0, none⟩))) rfl (by kernel_rfl) (by kernel_rfl) (by kernel_rfl) (fun _ _ _ h => h) (Or.inl ⟨by rfl, by intro w hs; go_simp⟩) hHeld ?_
  refine norm_any' (fun K hK => ?_)
  go_simp
  refine hK _ _ ?_
  clear hK K
  refine wpAnyH_take (i := 1) (v := .pointer (some ⟨M, 0, none⟩)) rfl (by kernel_rfl) (by kernel_rfl) (by kernel_rfl) (fun _ _ _ h => h) (Or.inl ⟨by rfl, by intro w hs; go_simp⟩) hHeld ?_
  refine norm_any' (fun K hK => ?_)
  go_simp
  refine hK _ _ ?_
  clear hK K
  refine wpAnyH_take (i := 2) (v := .pointer (some ⟨M, 0, none⟩)) rfl (by kernel_rfl) (by kernel_rfl) (by kernel_rfl) (fun _ _ _ h => h) (Or.inl ⟨by rfl, by intro w hs; go_simp⟩) hHeld ?_
  refine norm_any' (fun K hK => ?_)
  go_simp
  refine hK _ _ ?_
  clear hK K
  refine wpAnyH_take (i := 3) (v := .pointer (some ⟨M, 1, none⟩)) rfl (by kernel_rfl) (by kernel_rfl) (by kernel_rfl) (fun _ _ _ h => h) (Or.inl ⟨by rfl, by intro w hs; go_simp⟩) hHeld ?_
  refine norm_any' (fun K hK => ?_)
  go_simp
  refine hK _ _ ?_
  clear hK K
  refine wpAnyH_take (i := 4) (v := .pointer (some ⟨M, 0, none⟩)) rfl (by kernel_rfl) (by kernel_rfl) (by kernel_rfl) (fun _ _ _ h => h) (Or.inl ⟨by rfl, by intro w hs; go_simp⟩) hHeld ?_
  refine norm_any' (fun K hK => ?_)
  go_simp
  refine hK _ _ ?_
  clear hK K
  refine wpAnyH_take (i := 5) (v := .pointer (some ⟨M, 0, none⟩)) rfl (by kernel_rfl) (by kernel_rfl) (by kernel_rfl) (fun _ _ _ h => h) (Or.inl ⟨by rfl, by intro w hs; go_simp⟩) hHeld ?_
  refine norm_any' (fun K hK => ?_)
  go_simp
  refine hK _ _ ?_
  clear hK K
  refine wpAnyH_take (i := 6) (v := .pointer (some ⟨M, 17, none⟩)) rfl (by kernel_rfl) (by kernel_rfl) (by kernel_rfl) (fun _ _ _ h => h) (Or.inl ⟨by rfl, by intro w hs; go_simp⟩) hHeld ?_
  refine norm_any' (fun K hK => ?_)
  go_simp
  refine hK _ _ ?_
  clear hK K
  refine wpAnyH_take (i := 8) (v := .func (.method "caravel/hello.handles") #[.iface T (.pointer (some ⟨p, 0, none⟩))] #[]) rfl (by kernel_rfl) (by kernel_rfl) (by kernel_rfl) (fun _ _ _ h => h) (Or.inl ⟨by rfl, by intro w hs; go_simp⟩) hHeld ?_
  refine norm_any' (fun K hK => ?_)
  go_simp
  refine hK _ _ ?_
  clear hK K
  refine wpAnyH_take (i := 9) (v := .func (.method "caravel/hello.handles") #[.iface T (.pointer (some ⟨p, 0, none⟩))] #[]) rfl (by kernel_rfl) (by kernel_rfl) (by kernel_rfl) (fun _ _ _ h => h) (Or.inl ⟨by rfl, by intro w hs; go_simp⟩) hHeld ?_
  refine norm_any' (fun K hK => ?_)
  go_simp
  refine hK _ _ ?_
  clear hK K
  refine wpAnyH_take (i := 10) (v := .iface T (.pointer (some ⟨p, 0, none⟩))) rfl (by kernel_rfl) (by kernel_rfl) (by kernel_rfl) (fun _ _ _ h => h) (Or.inl ⟨by rfl, by intro w hs; go_simp⟩) hHeld ?_
  refine norm_any' (fun K hK => ?_)
  go_simp
  refine hK _ _ ?_
  clear hK K
  refine wpAnyH_ready (rs := [7]) (by kernel_rfl) (by simp) (AllReadyH.cons rfl (fun K hK => ?_) AllReadyH.nil)
  have S0e : Hid (I0 (wd.alloc (.cells #[.pointer (some ⟨M, 1, none⟩), .pointer (some ⟨M, 17, none⟩)] 82))) := st0 _ _ S0d.out (bl1 wd _)
  have HK1 : Hid _ := heap_alloc_new wd (.cells #[.pointer (some ⟨M, 1, none⟩), .pointer (some ⟨M, 17, none⟩)] 82)
  clear S0d
  go_simp
  refine hK.out _ _ trivial (fun hHeld => ?_)
  clear hK K
  refine norm_any' (fun K hK => ?_)
  go_simp
  refine hK _ _ ?_
  clear hK K
  generalize wd.alloc (.cells #[.pointer (some ⟨M, 1, none⟩), .pointer (some ⟨M, 17, none⟩)] 82) = we at *
  refine wpAnyH_ready (rs := [11]) (by kernel_rfl) (by simp) (AllReadyH.cons rfl (fun K hK => ?_) AllReadyH.nil)
  go_simp
  refine Calls.mono (C1.out _ _ S0e.out HK1.out) ?_
  rintro e W1 ⟨rfl, h1⟩
  have S1 : Hid (I1 W1) := h1
  clear h1
  refine hK.out _ _ trivial (fun hHeld => ?_)
  clear hK K
  refine norm_any' (fun K hK => ?_)
  go_simp
  refine hK _ _ ?_
  clear hK K
  refine wpAnyH_done (by kernel_rfl) ?_ _
  clear hHeld
  go_wp2_with fail
  have S1d : Hid (I1 W1.drew) := st1 _ _ S1.out (bld W1)
  clear S1
  refine wp_region_held_drew (S := fun _ => True) (by kernel_rfl) trivial (fun hHeld => ?_)
  generalize W1.drew = W1d at *
  refine wpAnyH_take (i := 0) (v := .iface T (.pointer (some ⟨p, 0, none⟩))) rfl (by kernel_rfl) (by kernel_rfl) (by kernel_rfl) (fun _ _ _ h => h) (Or.inl ⟨by rfl, by intro w hs; go_simp⟩) hHeld ?_
  refine norm_any' (fun K hK => ?_)
  go_simp
  refine hK _ _ ?_
  clear hK K
  refine wpAnyH_take (i := 1) (v := .pointer (some ⟨M, 0, none⟩)) rfl (by kernel_rfl) (by kernel_rfl) (by kernel_rfl) (fun _ _ _ h => h) (Or.inl ⟨by rfl, by intro w hs; go_simp⟩) hHeld ?_
  refine norm_any' (fun K hK => ?_)
  go_simp
  refine hK _ _ ?_
  clear hK K
  refine wpAnyH_take (i := 2) (v := .pointer (some ⟨M, 0, none⟩)) rfl (by kernel_rfl) (by kernel_rfl) (by kernel_rfl) (fun _ _ _ h => h) (Or.inl ⟨by rfl, by intro w hs; go_simp⟩) hHeld ?_
  refine norm_any' (fun K hK => ?_)
  go_simp
  refine hK _ _ ?_
  clear hK K
  refine wpAnyH_take (i := 3) (v := .pointer (some ⟨M, 54, none⟩)) rfl (by kernel_rfl) (by kernel_rfl) (by kernel_rfl) (fun _ _ _ h => h) (Or.inl ⟨by rfl, by intro w hs; go_simp⟩) hHeld ?_
  refine norm_any' (fun K hK => ?_)
  go_simp
  refine hK _ _ ?_
  clear hK K
  refine wpAnyH_take (i := 5) (v := .func (.method "caravel/hello.flags") #[.iface T (.pointer (some ⟨p, 0, none⟩))] #[]) rfl (by kernel_rfl) (by kernel_rfl) (by kernel_rfl) (fun _ _ _ h => h) (Or.inl ⟨by rfl, by intro w hs; go_simp⟩) hHeld ?_
  refine norm_any' (fun K hK => ?_)
  go_simp
  refine hK _ _ ?_
  clear hK K
  refine wpAnyH_take (i := 6) (v := .func (.method "caravel/hello.flags") #[.iface T (.pointer (some ⟨p, 0, none⟩))] #[]) rfl (by kernel_rfl) (by kernel_rfl) (by kernel_rfl) (fun _ _ _ h => h) (Or.inl ⟨by rfl, by intro w hs; go_simp⟩) hHeld ?_
  refine norm_any' (fun K hK => ?_)
  go_simp
  refine hK _ _ ?_
  clear hK K
  refine wpAnyH_take (i := 7) (v := .iface T (.pointer (some ⟨p, 0, none⟩))) rfl (by kernel_rfl) (by kernel_rfl) (by kernel_rfl) (fun _ _ _ h => h) (Or.inl ⟨by rfl, by intro w hs; go_simp⟩) hHeld ?_
  refine norm_any' (fun K hK => ?_)
  go_simp
  refine hK _ _ ?_
  clear hK K
  refine wpAnyH_ready (rs := [4]) (by kernel_rfl) (by simp) (AllReadyH.cons rfl (fun K hK => ?_) AllReadyH.nil)
  have S1e : Hid (I1 (W1d.alloc (.cells #[.pointer (some ⟨M, 54, none⟩)] 84))) := st1 _ _ S1d.out (bl1 W1d _)
  have HK2 : Hid _ := heap_alloc_new W1d (.cells #[.pointer (some ⟨M, 54, none⟩)] 84)
  clear S1d
  go_simp
  refine hK.out _ _ trivial (fun hHeld => ?_)
  clear hK K
  refine norm_any' (fun K hK => ?_)
  go_simp
  refine hK _ _ ?_
  clear hK K
  generalize W1d.alloc (.cells #[.pointer (some ⟨M, 54, none⟩)] 84) = W1e at *
  refine wpAnyH_ready (rs := [8]) (by kernel_rfl) (by simp) (AllReadyH.cons rfl (fun K hK => ?_) AllReadyH.nil)
  go_simp
  refine Calls.mono (C2.out _ _ S1e.out HK2.out) ?_
  rintro e W2 ⟨rfl, h2⟩
  have S2 : Hid (I2 W2) := h2
  clear h2
  refine hK.out _ _ trivial (fun hHeld => ?_)
  clear hK K
  refine norm_any' (fun K hK => ?_)
  go_simp
  refine hK _ _ ?_
  clear hK K
  refine wpAnyH_done (by kernel_rfl) ?_ _
  clear hHeld
  go_wp2_with fail
  go_end0
  exact ⟨rfl, S2.out⟩
set_option maxRecDepth 100000 in
set_option maxHeartbeats 2000000 in
theorem walk8 (ms : Ms T p fH fF fS fL fP fN fM) {I0 I1 I2 I3 : World → Prop} (st0 : Stb I0) (st1 : Stb I1) (st2 : Stb I2) (hk : ∀ X, I0 X → X.cell? ⟨M, 0, none⟩ = some (.int .i64 8))
    (h1 : ∀ X, I0 X → Calls Try.prog fP #[.pointer (some ⟨p, 0, none⟩), .pointer (some ⟨M, 34, none⟩), .int .i64 1] X fun e w' => e = .returned un ∧ I1 w')
    (h2 : ∀ X, I1 X → Calls Try.prog fL #[.pointer (some ⟨p, 0, none⟩), .pointer (some ⟨M, 35, none⟩), .int .i64 0, .int .i64 4096] X fun e w' => e = .returned un ∧ I2 w')
    (h3 : ∀ X k, I2 X → X.heap[k]? = some (.cells #[.pointer (some ⟨M, 53, none⟩)] 84 (0, 0)) → Calls Try.prog fF #[.pointer (some ⟨p, 0, none⟩), .slice (some ⟨k, 0, none⟩) 1 1] X fun e w' => e = .returned un ∧ I3 w')
    (w : World) (h0 : I0 w) : Calls Try.prog 17 #[.iface T (.pointer (some ⟨p, 0, none⟩)), .pointer (some ⟨M, 0, none⟩)] w fun e w' => e = .returned un ∧ I3 w' := by
  have hmf : ∀ (fn : Fn) (first cap : Array Value) (w : World), (Instr.makeFunc fn first cap).run Try.prog w = .ok (.func fn first cap) w := fun _ _ _ _ => rfl
  obtain ⟨mH, mF, mS, mL, mP, mN, mM, nH, nF, nS, nL, nP, nN, nM, cH, cF, cS, cL, cP, cN, cM⟩ := ms
  have kc := hk w h0
  have S0 : Hid (I0 w) := h0
  have C1 : Hid _ := h1
  have C2 : Hid _ := h2
  have C3 : Hid _ := h3
  clear h0 hk h1 h2 h3
  go_enter Try.func17, Try.ntmps17
  go_wp2_with fail
  have S0d : Hid (I0 w.drew) := st0 _ _ S0.out (bld w)
  clear S0
  refine wp_region_held_drew (S := fun _ => True) (by kernel_rfl) trivial (fun hHeld => ?_)
  generalize w.drew = wd at *
  refine wpAnyH_take (i := 0) (v := .iface T (.pointer (some ⟨p, 0, none⟩))) rfl (by kernel_rfl) (by kernel_rfl) (by kernel_rfl) (fun _ _ _ h => h) (Or.inl ⟨by rfl, by intro w hs; go_simp⟩) hHeld ?_
  refine norm_any' (fun K hK => ?_)
  go_simp
  refine hK _ _ ?_
  clear hK K
  refine wpAnyH_take (i := 1) (v := .pointer (some ⟨M, 0, none⟩)) rfl (by kernel_rfl) (by kernel_rfl) (by kernel_rfl) (fun _ _ _ h => h) (Or.inl ⟨by rfl, by intro w hs; go_simp⟩) hHeld ?_
  refine norm_any' (fun K hK => ?_)
  go_simp
  refine hK _ _ ?_
  clear hK K
  refine wpAnyH_take (i := 2) (v := .pointer (some ⟨M, 0, none⟩)) rfl (by kernel_rfl) (by kernel_rfl) (by kernel_rfl) (fun _ _ _ h => h) (Or.inl ⟨by rfl, by intro w hs; go_simp⟩) hHeld ?_
  refine norm_any' (fun K hK => ?_)
  go_simp
  refine hK _ _ ?_
  clear hK K
  refine wpAnyH_take (i := 3) (v := .pointer (some ⟨M, 34, none⟩)) rfl (by kernel_rfl) (by kernel_rfl) (by kernel_rfl) (fun _ _ _ h => h) (Or.inl ⟨by rfl, by intro w hs; go_simp⟩) hHeld ?_
  refine norm_any' (fun K hK => ?_)
  go_simp
  refine hK _ _ ?_
  clear hK K
  refine wpAnyH_take (i := 4) (v := .func (.method "caravel/hello.protos") #[.iface T (.pointer (some ⟨p, 0, none⟩))] #[]) rfl (by kernel_rfl) (by kernel_rfl) (by kernel_rfl) (fun _ _ _ h => h) (Or.inl ⟨by rfl, by intro w hs; go_simp⟩) hHeld ?_
  refine norm_any' (fun K hK => ?_)
  go_simp
  refine hK _ _ ?_
  clear hK K
  refine wpAnyH_take (i := 5) (v := .func (.method "caravel/hello.protos") #[.iface T (.pointer (some ⟨p, 0, none⟩))] #[]) rfl (by kernel_rfl) (by kernel_rfl) (by kernel_rfl) (fun _ _ _ h => h) (Or.inl ⟨by rfl, by intro w hs; go_simp⟩) hHeld ?_
  refine norm_any' (fun K hK => ?_)
  go_simp
  refine hK _ _ ?_
  clear hK K
  refine wpAnyH_take (i := 6) (v := .iface T (.pointer (some ⟨p, 0, none⟩))) rfl (by kernel_rfl) (by kernel_rfl) (by kernel_rfl) (fun _ _ _ h => h) (Or.inl ⟨by rfl, by intro w hs; go_simp⟩) hHeld ?_
  refine norm_any' (fun K hK => ?_)
  go_simp
  refine hK _ _ ?_
  clear hK K
  refine wpAnyH_ready (rs := [7]) (by kernel_rfl) (by simp) (AllReadyH.cons rfl (fun K hK => ?_) AllReadyH.nil)
  go_simp
  refine Calls.mono (C1.out _ S0d.out) ?_
  rintro e W1 ⟨rfl, h1⟩
  have S1 : Hid (I1 W1) := h1
  clear h1
  refine hK.out _ _ trivial (fun hHeld => ?_)
  clear hK K
  refine norm_any' (fun K hK => ?_)
  go_simp
  refine hK _ _ ?_
  clear hK K
  refine wpAnyH_done (by kernel_rfl) ?_ _
  clear hHeld
  go_wp2_with fail
  have S1d : Hid (I1 W1.drew) := st1 _ _ S1.out (bld W1)
  clear S1
  refine wp_region_held_drew (S := fun _ => True) (by kernel_rfl) trivial (fun hHeld => ?_)
  generalize W1.drew = W1d at *
  refine wpAnyH_take (i := 0) (v := .iface T (.pointer (some ⟨p, 0, none⟩))) rfl (by kernel_rfl) (by kernel_rfl) (by kernel_rfl) (fun _ _ _ h => h) (Or.inl ⟨by rfl, by intro w hs; go_simp⟩) hHeld ?_
  refine norm_any' (fun K hK => ?_)
  go_simp
  refine hK _ _ ?_
  clear hK K
  refine wpAnyH_take (i := 1) (v := .pointer (some ⟨M, 0, none⟩)) rfl (by kernel_rfl) (by kernel_rfl) (by kernel_rfl) (fun _ _ _ h => h) (Or.inl ⟨by rfl, by intro w hs; go_simp⟩) hHeld ?_
  refine norm_any' (fun K hK => ?_)
  go_simp
  refine hK _ _ ?_
  clear hK K
  refine wpAnyH_take (i := 2) (v := .pointer (some ⟨M, 0, none⟩)) rfl (by kernel_rfl) (by kernel_rfl) (by kernel_rfl) (fun _ _ _ h => h) (Or.inl ⟨by rfl, by intro w hs; go_simp⟩) hHeld ?_
  refine norm_any' (fun K hK => ?_)
  go_simp
  refine hK _ _ ?_
  clear hK K
  refine wpAnyH_take (i := 3) (v := .pointer (some ⟨M, 35, none⟩)) rfl (by kernel_rfl) (by kernel_rfl) (by kernel_rfl) (fun _ _ _ h => h) (Or.inl ⟨by rfl, by intro w hs; go_simp⟩) hHeld ?_
  refine norm_any' (fun K hK => ?_)
  go_simp
  refine hK _ _ ?_
  clear hK K
  refine wpAnyH_take (i := 4) (v := .func (.method "caravel/hello.long") #[.iface T (.pointer (some ⟨p, 0, none⟩))] #[]) rfl (by kernel_rfl) (by kernel_rfl) (by kernel_rfl) (fun _ _ _ h => h) (Or.inl ⟨by rfl, by intro w hs; go_simp⟩) hHeld ?_
  refine norm_any' (fun K hK => ?_)
  go_simp
  refine hK _ _ ?_
  clear hK K
  refine wpAnyH_take (i := 5) (v := .func (.method "caravel/hello.long") #[.iface T (.pointer (some ⟨p, 0, none⟩))] #[]) rfl (by kernel_rfl) (by kernel_rfl) (by kernel_rfl) (fun _ _ _ h => h) (Or.inl ⟨by rfl, by intro w hs; go_simp⟩) hHeld ?_
  refine norm_any' (fun K hK => ?_)
  go_simp
  refine hK _ _ ?_
  clear hK K
  refine wpAnyH_take (i := 6) (v := .iface T (.pointer (some ⟨p, 0, none⟩))) rfl (by kernel_rfl) (by kernel_rfl) (by kernel_rfl) (fun _ _ _ h => h) (Or.inl ⟨by rfl, by intro w hs; go_simp⟩) hHeld ?_
  refine norm_any' (fun K hK => ?_)
  go_simp
  refine hK _ _ ?_
  clear hK K
  refine wpAnyH_ready (rs := [7]) (by kernel_rfl) (by simp) (AllReadyH.cons rfl (fun K hK => ?_) AllReadyH.nil)
  go_simp
  refine Calls.mono (C2.out _ S1d.out) ?_
  rintro e W2 ⟨rfl, h2⟩
  have S2 : Hid (I2 W2) := h2
  clear h2
  refine hK.out _ _ trivial (fun hHeld => ?_)
  clear hK K
  refine norm_any' (fun K hK => ?_)
  go_simp
  refine hK _ _ ?_
  clear hK K
  refine wpAnyH_done (by kernel_rfl) ?_ _
  clear hHeld
  go_wp2_with fail
  have S2d : Hid (I2 W2.drew) := st2 _ _ S2.out (bld W2)
  clear S2
  refine wp_region_held_drew (S := fun _ => True) (by kernel_rfl) trivial (fun hHeld => ?_)
  generalize W2.drew = W2d at *
  refine wpAnyH_take (i := 0) (v := .iface T (.pointer (some ⟨p, 0, none⟩))) rfl (by kernel_rfl) (by kernel_rfl) (by kernel_rfl) (fun _ _ _ h => h) (Or.inl ⟨by rfl, by intro w hs; go_simp⟩) hHeld ?_
  refine norm_any' (fun K hK => ?_)
  go_simp
  refine hK _ _ ?_
  clear hK K
  refine wpAnyH_take (i := 1) (v := .pointer (some ⟨M, 0, none⟩)) rfl (by kernel_rfl) (by kernel_rfl) (by kernel_rfl) (fun _ _ _ h => h) (Or.inl ⟨by rfl, by intro w hs; go_simp⟩) hHeld ?_
  refine norm_any' (fun K hK => ?_)
  go_simp
  refine hK _ _ ?_
  clear hK K
  refine wpAnyH_take (i := 2) (v := .pointer (some ⟨M, 0, none⟩)) rfl (by kernel_rfl) (by kernel_rfl) (by kernel_rfl) (fun _ _ _ h => h) (Or.inl ⟨by rfl, by intro w hs; go_simp⟩) hHeld ?_
  refine norm_any' (fun K hK => ?_)
  go_simp
  refine hK _ _ ?_
  clear hK K
  refine wpAnyH_take (i := 3) (v := .pointer (some ⟨M, 53, none⟩)) rfl (by kernel_rfl) (by kernel_rfl) (by kernel_rfl) (fun _ _ _ h => h) (Or.inl ⟨by rfl, by intro w hs; go_simp⟩) hHeld ?_
  refine norm_any' (fun K hK => ?_)
  go_simp
  refine hK _ _ ?_
  clear hK K
  refine wpAnyH_take (i := 5) (v := .func (.method "caravel/hello.flags") #[.iface T (.pointer (some ⟨p, 0, none⟩))] #[]) rfl (by kernel_rfl) (by kernel_rfl) (by kernel_rfl) (fun _ _ _ h => h) (Or.inl ⟨by rfl, by intro w hs; go_simp⟩) hHeld ?_
  refine norm_any' (fun K hK => ?_)
  go_simp
  refine hK _ _ ?_
  clear hK K
  refine wpAnyH_take (i := 6) (v := .func (.method "caravel/hello.flags") #[.iface T (.pointer (some ⟨p, 0, none⟩))] #[]) rfl (by kernel_rfl) (by kernel_rfl) (by kernel_rfl) (fun _ _ _ h => h) (Or.inl ⟨by rfl, by intro w hs; go_simp⟩) hHeld ?_
  refine norm_any' (fun K hK => ?_)
  go_simp
  refine hK _ _ ?_
  clear hK K
  refine wpAnyH_take (i := 7) (v := .iface T (.pointer (some ⟨p, 0, none⟩))) rfl (by kernel_rfl) (by kernel_rfl) (by kernel_rfl) (fun _ _ _ h => h) (Or.inl ⟨by rfl, by intro w hs; go_simp⟩) hHeld ?_
  refine norm_any' (fun K hK => ?_)
  go_simp
  refine hK _ _ ?_
  clear hK K
  refine wpAnyH_ready (rs := [4]) (by kernel_rfl) (by simp) (AllReadyH.cons rfl (fun K hK => ?_) AllReadyH.nil)
  have S2e : Hid (I2 (W2d.alloc (.cells #[.pointer (some ⟨M, 53, none⟩)] 84))) := st2 _ _ S2d.out (bl1 W2d _)
  have HK5 : Hid _ := heap_alloc_new W2d (.cells #[.pointer (some ⟨M, 53, none⟩)] 84)
  clear S2d
  go_simp
  refine hK.out _ _ trivial (fun hHeld => ?_)
  clear hK K
  refine norm_any' (fun K hK => ?_)
  go_simp
  refine hK _ _ ?_
  clear hK K
  generalize W2d.alloc (.cells #[.pointer (some ⟨M, 53, none⟩)] 84) = W2e at *
  refine wpAnyH_ready (rs := [8]) (by kernel_rfl) (by simp) (AllReadyH.cons rfl (fun K hK => ?_) AllReadyH.nil)
  go_simp
  refine Calls.mono (C3.out _ _ S2e.out HK5.out) ?_
  rintro e W3 ⟨rfl, h3⟩
  have S3 : Hid (I3 W3) := h3
  clear h3
  refine hK.out _ _ trivial (fun hHeld => ?_)
  clear hK K
  refine norm_any' (fun K hK => ?_)
  go_simp
  refine hK _ _ ?_
  clear hK K
  refine wpAnyH_done (by kernel_rfl) ?_ _
  clear hHeld
  go_wp2_with fail
  go_end0
  exact ⟨rfl, S3.out⟩
set_option maxRecDepth 100000 in
set_option maxHeartbeats 2000000 in
theorem walk11 (ms : Ms T p fH fF fS fL fP fN fM) {I0 I1 I2 : World → Prop} (st0 : Stb I0) (st1 : Stb I1) (hk : ∀ X, I0 X → X.cell? ⟨M, 0, none⟩ = some (.int .i64 11))
    (h1 : ∀ X, I0 X → Calls Try.prog fS #[.pointer (some ⟨p, 0, none⟩), .pointer (some ⟨M, 33, none⟩), .int .i64 0] X fun e w' => e = .returned un ∧ I1 w')
    (h2 : ∀ X k, I1 X → X.heap[k]? = some (.cells #[.pointer (some ⟨M, 55, none⟩)] 82 (0, 0)) → Calls Try.prog fH #[.pointer (some ⟨p, 0, none⟩), .slice (some ⟨k, 0, none⟩) 1 1] X fun e w' => e = .returned un ∧ I2 w')
    (w : World) (h0 : I0 w) : Calls Try.prog 17 #[.iface T (.pointer (some ⟨p, 0, none⟩)), .pointer (some ⟨M, 0, none⟩)] w fun e w' => e = .returned un ∧ I2 w' := by
  have hmf : ∀ (fn : Fn) (first cap : Array Value) (w : World), (Instr.makeFunc fn first cap).run Try.prog w = .ok (.func fn first cap) w := fun _ _ _ _ => rfl
  obtain ⟨mH, mF, mS, mL, mP, mN, mM, nH, nF, nS, nL, nP, nN, nM, cH, cF, cS, cL, cP, cN, cM⟩ := ms
  have kc := hk w h0
  have S0 : Hid (I0 w) := h0
  have C1 : Hid _ := h1
  have C2 : Hid _ := h2
  clear h0 hk h1 h2
  go_enter Try.func17, Try.ntmps17
  go_wp2_with fail
  have S0d : Hid (I0 w.drew) := st0 _ _ S0.out (bld w)
  clear S0
  refine wp_region_held_drew (S := fun _ => True) (by kernel_rfl) trivial (fun hHeld => ?_)
  generalize w.drew = wd at *
  refine wpAnyH_take (i := 0) (v := .iface T (.pointer (some ⟨p, 0, none⟩))) rfl (by kernel_rfl) (by kernel_rfl) (by kernel_rfl) (fun _ _ _ h => h) (Or.inl ⟨by rfl, by intro w hs; go_simp⟩) hHeld ?_
  refine norm_any' (fun K hK => ?_)
  go_simp
  refine hK _ _ ?_
  clear hK K
  refine wpAnyH_take (i := 1) (v := .pointer (some ⟨M, 0, none⟩)) rfl (by kernel_rfl) (by kernel_rfl) (by kernel_rfl) (fun _ _ _ h => h) (Or.inl ⟨by rfl, by intro w hs; go_simp⟩) hHeld ?_
  refine norm_any' (fun K hK => ?_)
  go_simp
  refine hK _ _ ?_
  clear hK K
  refine wpAnyH_take (i := 2) (v := .pointer (some ⟨M, 0, none⟩)) rfl (by kernel_rfl) (by kernel_rfl) (by kernel_rfl) (fun _ _ _ h => h) (Or.inl ⟨by rfl, by intro w hs; go_simp⟩) hHeld ?_
  refine norm_any' (fun K hK => ?_)
  go_simp
  refine hK _ _ ?_
  clear hK K
  refine wpAnyH_take (i := 3) (v := .pointer (some ⟨M, 33, none⟩)) rfl (by kernel_rfl) (by kernel_rfl) (by kernel_rfl) (fun _ _ _ h => h) (Or.inl ⟨by rfl, by intro w hs; go_simp⟩) hHeld ?_
  refine norm_any' (fun K hK => ?_)
  go_simp
  refine hK _ _ ?_
  clear hK K
  refine wpAnyH_take (i := 4) (v := .func (.method "caravel/hello.short") #[.iface T (.pointer (some ⟨p, 0, none⟩))] #[]) rfl (by kernel_rfl) (by kernel_rfl) (by kernel_rfl) (fun _ _ _ h => h) (Or.inl ⟨by rfl, by intro w hs; go_simp⟩) hHeld ?_
  refine norm_any' (fun K hK => ?_)
  go_simp
  refine hK _ _ ?_
  clear hK K
  refine wpAnyH_take (i := 5) (v := .func (.method "caravel/hello.short") #[.iface T (.pointer (some ⟨p, 0, none⟩))] #[]) rfl (by kernel_rfl) (by kernel_rfl) (by kernel_rfl) (fun _ _ _ h => h) (Or.inl ⟨by rfl, by intro w hs; go_simp⟩) hHeld ?_
  refine norm_any' (fun K hK => ?_)
  go_simp
  refine hK _ _ ?_
  clear hK K
  refine wpAnyH_take (i := 6) (v := .iface T (.pointer (some ⟨p, 0, none⟩))) rfl (by kernel_rfl) (by kernel_rfl) (by kernel_rfl) (fun _ _ _ h => h) (Or.inl ⟨by rfl, by intro w hs; go_simp⟩) hHeld ?_
  refine norm_any' (fun K hK => ?_)
  go_simp
  refine hK _ _ ?_
  clear hK K
  refine wpAnyH_ready (rs := [7]) (by kernel_rfl) (by simp) (AllReadyH.cons rfl (fun K hK => ?_) AllReadyH.nil)
  go_simp
  refine Calls.mono (C1.out _ S0d.out) ?_
  rintro e W1 ⟨rfl, h1⟩
  have S1 : Hid (I1 W1) := h1
  clear h1
  refine hK.out _ _ trivial (fun hHeld => ?_)
  clear hK K
  refine norm_any' (fun K hK => ?_)
  go_simp
  refine hK _ _ ?_
  clear hK K
  refine wpAnyH_done (by kernel_rfl) ?_ _
  clear hHeld
  go_wp2_with fail
  have S1d : Hid (I1 W1.drew) := st1 _ _ S1.out (bld W1)
  clear S1
  refine wp_region_held_drew (S := fun _ => True) (by kernel_rfl) trivial (fun hHeld => ?_)
  generalize W1.drew = W1d at *
  refine wpAnyH_take (i := 0) (v := .iface T (.pointer (some ⟨p, 0, none⟩))) rfl (by kernel_rfl) (by kernel_rfl) (by kernel_rfl) (fun _ _ _ h => h) (Or.inl ⟨by rfl, by intro w hs; go_simp⟩) hHeld ?_
  refine norm_any' (fun K hK => ?_)
  go_simp
  refine hK _ _ ?_
  clear hK K
  refine wpAnyH_take (i := 1) (v := .pointer (some ⟨M, 0, none⟩)) rfl (by kernel_rfl) (by kernel_rfl) (by kernel_rfl) (fun _ _ _ h => h) (Or.inl ⟨by rfl, by intro w hs; go_simp⟩) hHeld ?_
  refine norm_any' (fun K hK => ?_)
  go_simp
  refine hK _ _ ?_
  clear hK K
  refine wpAnyH_take (i := 2) (v := .pointer (some ⟨M, 0, none⟩)) rfl (by kernel_rfl) (by kernel_rfl) (by kernel_rfl) (fun _ _ _ h => h) (Or.inl ⟨by rfl, by intro w hs; go_simp⟩) hHeld ?_
  refine norm_any' (fun K hK => ?_)
  go_simp
  refine hK _ _ ?_
  clear hK K
  refine wpAnyH_take (i := 3) (v := .pointer (some ⟨M, 55, none⟩)) rfl (by kernel_rfl) (by kernel_rfl) (by kernel_rfl) (fun _ _ _ h => h) (Or.inl ⟨by rfl, by intro w hs; go_simp⟩) hHeld ?_
  refine norm_any' (fun K hK => ?_)
  go_simp
  refine hK _ _ ?_
  clear hK K
  refine wpAnyH_take (i := 5) (v := .func (.method "caravel/hello.handles") #[.iface T (.pointer (some ⟨p, 0, none⟩))] #[]) rfl (by kernel_rfl) (by kernel_rfl) (by kernel_rfl) (fun _ _ _ h => h) (Or.inl ⟨by rfl, by intro w hs; go_simp⟩) hHeld ?_
  refine norm_any' (fun K hK => ?_)
  go_simp
  refine hK _ _ ?_
  clear hK K
  refine wpAnyH_take (i := 6) (v := .func (.method "caravel/hello.handles") #[.iface T (.pointer (some ⟨p, 0, none⟩))] #[]) rfl (by kernel_rfl) (by kernel_rfl) (by kernel_rfl) (fun _ _ _ h => h) (Or.inl ⟨by rfl, by intro w hs; go_simp⟩) hHeld ?_
  refine norm_any' (fun K hK => ?_)
  go_simp
  refine hK _ _ ?_
  clear hK K
  refine wpAnyH_take (i := 7) (v := .iface T (.pointer (some ⟨p, 0, none⟩))) rfl (by kernel_rfl) (by kernel_rfl) (by kernel_rfl) (fun _ _ _ h => h) (Or.inl ⟨by rfl, by intro w hs; go_simp⟩) hHeld ?_
  refine norm_any' (fun K hK => ?_)
  go_simp
  refine hK _ _ ?_
  clear hK K
  refine wpAnyH_ready (rs := [4]) (by kernel_rfl) (by simp) (AllReadyH.cons rfl (fun K hK => ?_) AllReadyH.nil)
  have S1e : Hid (I1 (W1d.alloc (.cells #[.pointer (some ⟨M, 55, none⟩)] 82))) := st1 _ _ S1d.out (bl1 W1d _)
  have HK7 : Hid _ := heap_alloc_new W1d (.cells #[.pointer (some ⟨M, 55, none⟩)] 82)
  clear S1d
  go_simp
  refine hK.out _ _ trivial (fun hHeld => ?_)
  clear hK K
  refine norm_any' (fun K hK => ?_)
  go_simp
  refine hK _ _ ?_
  clear hK K
  generalize W1d.alloc (.cells #[.pointer (some ⟨M, 55, none⟩)] 82) = W1e at *
  refine wpAnyH_ready (rs := [8]) (by kernel_rfl) (by simp) (AllReadyH.cons rfl (fun K hK => ?_) AllReadyH.nil)
  go_simp
  refine Calls.mono (C2.out _ _ S1e.out HK7.out) ?_
  rintro e W2 ⟨rfl, h2⟩
  have S2 : Hid (I2 W2) := h2
  clear h2
  refine hK.out _ _ trivial (fun hHeld => ?_)
  clear hK K
  refine norm_any' (fun K hK => ?_)
  go_simp
  refine hK _ _ ?_
  clear hK K
  refine wpAnyH_done (by kernel_rfl) ?_ _
  clear hHeld
  go_wp2_with fail
  go_end0
  exact ⟨rfl, S2.out⟩
set_option maxRecDepth 100000 in
set_option maxHeartbeats 2000000 in
theorem walk15 (ms : Ms T p fH fF fS fL fP fN fM) {I0 I1 : World → Prop} (st0 : Stb I0) (hk : ∀ X, I0 X → X.cell? ⟨M, 0, none⟩ = some (.int .i64 15))
    (h1 : ∀ X k, I0 X → X.heap[k]? = some (.cells #[.pointer (some ⟨M, 55, none⟩)] 82 (0, 0)) → Calls Try.prog fH #[.pointer (some ⟨p, 0, none⟩), .slice (some ⟨k, 0, none⟩) 1 1] X fun e w' => e = .returned un ∧ I1 w')
    (w : World) (h0 : I0 w) : Calls Try.prog 17 #[.iface T (.pointer (some ⟨p, 0, none⟩)), .pointer (some ⟨M, 0, none⟩)] w fun e w' => e = .returned un ∧ I1 w' := by
  have hmf : ∀ (fn : Fn) (first cap : Array Value) (w : World), (Instr.makeFunc fn first cap).run Try.prog w = .ok (.func fn first cap) w := fun _ _ _ _ => rfl
  obtain ⟨mH, mF, mS, mL, mP, mN, mM, nH, nF, nS, nL, nP, nN, nM, cH, cF, cS, cL, cP, cN, cM⟩ := ms
  have kc := hk w h0
  have S0 : Hid (I0 w) := h0
  have C1 : Hid _ := h1
  clear h0 hk h1
  go_enter Try.func17, Try.ntmps17
  go_wp2_with fail
  have S0d : Hid (I0 w.drew) := st0 _ _ S0.out (bld w)
  clear S0
  refine wp_region_held_drew (S := fun _ => True) (by kernel_rfl) trivial (fun hHeld => ?_)
  generalize w.drew = wd at *
  refine wpAnyH_take (i := 0) (v := .iface T (.pointer (some ⟨p, 0, none⟩))) rfl (by kernel_rfl) (by kernel_rfl) (by kernel_rfl) (fun _ _ _ h => h) (Or.inl ⟨by rfl, by intro w hs; go_simp⟩) hHeld ?_
  refine norm_any' (fun K hK => ?_)
  go_simp
  refine hK _ _ ?_
  clear hK K
  refine wpAnyH_take (i := 1) (v := .pointer (some ⟨M, 0, none⟩)) rfl (by kernel_rfl) (by kernel_rfl) (by kernel_rfl) (fun _ _ _ h => h) (Or.inl ⟨by rfl, by intro w hs; go_simp⟩) hHeld ?_
  refine norm_any' (fun K hK => ?_)
  go_simp
  refine hK _ _ ?_
  clear hK K
  refine wpAnyH_take (i := 2) (v := .pointer (some ⟨M, 0, none⟩)) rfl (by kernel_rfl) (by kernel_rfl) (by kernel_rfl) (fun _ _ _ h => h) (Or.inl ⟨by rfl, by intro w hs; go_simp⟩) hHeld ?_
  refine norm_any' (fun K hK => ?_)
  go_simp
  refine hK _ _ ?_
  clear hK K
  refine wpAnyH_take (i := 3) (v := .pointer (some ⟨M, 55, none⟩)) rfl (by kernel_rfl) (by kernel_rfl) (by kernel_rfl) (fun _ _ _ h => h) (Or.inl ⟨by rfl, by intro w hs; go_simp⟩) hHeld ?_
  refine norm_any' (fun K hK => ?_)
  go_simp
  refine hK _ _ ?_
  clear hK K
  refine wpAnyH_take (i := 5) (v := .func (.method "caravel/hello.handles") #[.iface T (.pointer (some ⟨p, 0, none⟩))] #[]) rfl (by kernel_rfl) (by kernel_rfl) (by kernel_rfl) (fun _ _ _ h => h) (Or.inl ⟨by rfl, by intro w hs; go_simp⟩) hHeld ?_
  refine norm_any' (fun K hK => ?_)
  go_simp
  refine hK _ _ ?_
  clear hK K
  refine wpAnyH_take (i := 6) (v := .func (.method "caravel/hello.handles") #[.iface T (.pointer (some ⟨p, 0, none⟩))] #[]) rfl (by kernel_rfl) (by kernel_rfl) (by kernel_rfl) (fun _ _ _ h => h) (Or.inl ⟨by rfl, by intro w hs; go_simp⟩) hHeld ?_
  refine norm_any' (fun K hK => ?_)
  go_simp
  refine hK _ _ ?_
  clear hK K
  refine wpAnyH_take (i := 7) (v := .iface T (.pointer (some ⟨p, 0, none⟩))) rfl (by kernel_rfl) (by kernel_rfl) (by kernel_rfl) (fun _ _ _ h => h) (Or.inl ⟨by rfl, by intro w hs; go_simp⟩) hHeld ?_
  refine norm_any' (fun K hK => ?_)
  go_simp
  refine hK _ _ ?_
  clear hK K
  refine wpAnyH_ready (rs := [4]) (by kernel_rfl) (by simp) (AllReadyH.cons rfl (fun K hK => ?_) AllReadyH.nil)
  have S0e : Hid (I0 (wd.alloc (.cells #[.pointer (some ⟨M, 55, none⟩)] 82))) := st0 _ _ S0d.out (bl1 wd _)
  have HK8 : Hid _ := heap_alloc_new wd (.cells #[.pointer (some ⟨M, 55, none⟩)] 82)
  clear S0d
  go_simp
  refine hK.out _ _ trivial (fun hHeld => ?_)
  clear hK K
  refine norm_any' (fun K hK => ?_)
  go_simp
  refine hK _ _ ?_
  clear hK K
  generalize wd.alloc (.cells #[.pointer (some ⟨M, 55, none⟩)] 82) = we at *
  refine wpAnyH_ready (rs := [8]) (by kernel_rfl) (by simp) (AllReadyH.cons rfl (fun K hK => ?_) AllReadyH.nil)
  go_simp
  refine Calls.mono (C1.out _ _ S0e.out HK8.out) ?_
  rintro e W1 ⟨rfl, h1⟩
  have S1 : Hid (I1 W1) := h1
  clear h1
  refine hK.out _ _ trivial (fun hHeld => ?_)
  clear hK K
  refine norm_any' (fun K hK => ?_)
  go_simp
  refine hK _ _ ?_
  clear hK K
  refine wpAnyH_done (by kernel_rfl) ?_ _
  clear hHeld
  go_wp2_with fail
  go_end0
  exact ⟨rfl, S1.out⟩
set_option maxRecDepth 100000 in
set_option maxHeartbeats 2000000 in
theorem walk20 (ms : Ms T p fH fF fS fL fP fN fM) {I0 I1 : World → Prop} (st0 : Stb I0) (hk : ∀ X, I0 X → X.cell? ⟨M, 0, none⟩ = some (.int .i64 20))
    (h1 : ∀ X k, I0 X → X.heap[k]? = some (.cells #[.pointer (some ⟨M, 55, none⟩)] 82 (0, 0)) → Calls Try.prog fH #[.pointer (some ⟨p, 0, none⟩), .slice (some ⟨k, 0, none⟩) 1 1] X fun e w' => e = .returned un ∧ I1 w')
    (w : World) (h0 : I0 w) : Calls Try.prog 17 #[.iface T (.pointer (some ⟨p, 0, none⟩)), .pointer (some ⟨M, 0, none⟩)] w fun e w' => e = .returned un ∧ I1 w' := by
  have hmf : ∀ (fn : Fn) (first cap : Array Value) (w : World), (Instr.makeFunc fn first cap).run Try.prog w = .ok (.func fn first cap) w := fun _ _ _ _ => rfl
  obtain ⟨mH, mF, mS, mL, mP, mN, mM, nH, nF, nS, nL, nP, nN, nM, cH, cF, cS, cL, cP, cN, cM⟩ := ms
  have kc := hk w h0
  have S0 : Hid (I0 w) := h0
  have C1 : Hid _ := h1
  clear h0 hk h1
  go_enter Try.func17, Try.ntmps17
  go_wp2_with fail
  have S0d : Hid (I0 w.drew) := st0 _ _ S0.out (bld w)
  clear S0
  refine wp_region_held_drew (S := fun _ => True) (by kernel_rfl) trivial (fun hHeld => ?_)
  generalize w.drew = wd at *
  refine wpAnyH_take (i := 0) (v := .iface T (.pointer (some ⟨p, 0, none⟩))) rfl (by kernel_rfl) (by kernel_rfl) (by kernel_rfl) (fun _ _ _ h => h) (Or.inl ⟨by rfl, by intro w hs; go_simp⟩) hHeld ?_
  refine norm_any' (fun K hK => ?_)
  go_simp
  refine hK _ _ ?_
  clear hK K
  refine wpAnyH_take (i := 1) (v := .pointer (some ⟨M, 0, none⟩)) rfl (by kernel_rfl) (by kernel_rfl) (by kernel_rfl) (fun _ _ _ h => h) (Or.inl ⟨by rfl, by intro w hs; go_simp⟩) hHeld ?_
  refine norm_any' (fun K hK => ?_)
  go_simp
  refine hK _ _ ?_
  clear hK K
  refine wpAnyH_take (i := 2) (v := .pointer (some ⟨M, 0, none⟩)) rfl (by kernel_rfl) (by kernel_rfl) (by kernel_rfl) (fun _ _ _ h => h) (Or.inl ⟨by rfl, by intro w hs; go_simp⟩) hHeld ?_
  refine norm_any' (fun K hK => ?_)
  go_simp
  refine hK _ _ ?_
  clear hK K
  refine wpAnyH_take (i := 3) (v := .pointer (some ⟨M, 55, none⟩)) rfl (by kernel_rfl) (by kernel_rfl) (by kernel_rfl) (fun _ _ _ h => h) (Or.inl ⟨by rfl, by intro w hs; go_simp⟩) hHeld ?_
  refine norm_any' (fun K hK => ?_)
  go_simp
  refine hK _ _ ?_
  clear hK K
  refine wpAnyH_take (i := 5) (v := .func (.method "caravel/hello.handles") #[.iface T (.pointer (some ⟨p, 0, none⟩))] #[]) rfl (by kernel_rfl) (by kernel_rfl) (by kernel_rfl) (fun _ _ _ h => h) (Or.inl ⟨by rfl, by intro w hs; go_simp⟩) hHeld ?_
  refine norm_any' (fun K hK => ?_)
  go_simp
  refine hK _ _ ?_
  clear hK K
  refine wpAnyH_take (i := 6) (v := .func (.method "caravel/hello.handles") #[.iface T (.pointer (some ⟨p, 0, none⟩))] #[]) rfl (by kernel_rfl) (by kernel_rfl) (by kernel_rfl) (fun _ _ _ h => h) (Or.inl ⟨by rfl, by intro w hs; go_simp⟩) hHeld ?_
  refine norm_any' (fun K hK => ?_)
  go_simp
  refine hK _ _ ?_
  clear hK K
  refine wpAnyH_take (i := 7) (v := .iface T (.pointer (some ⟨p, 0, none⟩))) rfl (by kernel_rfl) (by kernel_rfl) (by kernel_rfl) (fun _ _ _ h => h) (Or.inl ⟨by rfl, by intro w hs; go_simp⟩) hHeld ?_
  refine norm_any' (fun K hK => ?_)
  go_simp
  refine hK _ _ ?_
  clear hK K
  refine wpAnyH_ready (rs := [4]) (by kernel_rfl) (by simp) (AllReadyH.cons rfl (fun K hK => ?_) AllReadyH.nil)
  have S0e : Hid (I0 (wd.alloc (.cells #[.pointer (some ⟨M, 55, none⟩)] 82))) := st0 _ _ S0d.out (bl1 wd _)
  have HK9 : Hid _ := heap_alloc_new wd (.cells #[.pointer (some ⟨M, 55, none⟩)] 82)
  clear S0d
  go_simp
  refine hK.out _ _ trivial (fun hHeld => ?_)
  clear hK K
  refine norm_any' (fun K hK => ?_)
  go_simp
  refine hK _ _ ?_
  clear hK K
  generalize wd.alloc (.cells #[.pointer (some ⟨M, 55, none⟩)] 82) = we at *
  refine wpAnyH_ready (rs := [8]) (by kernel_rfl) (by simp) (AllReadyH.cons rfl (fun K hK => ?_) AllReadyH.nil)
  go_simp
  refine Calls.mono (C1.out _ _ S0e.out HK9.out) ?_
  rintro e W1 ⟨rfl, h1⟩
  have S1 : Hid (I1 W1) := h1
  clear h1
  refine hK.out _ _ trivial (fun hHeld => ?_)
  clear hK K
  refine norm_any' (fun K hK => ?_)
  go_simp
  refine hK _ _ ?_
  clear hK K
  refine wpAnyH_done (by kernel_rfl) ?_ _
  clear hHeld
  go_wp2_with fail
  go_end0
  exact ⟨rfl, S1.out⟩
set_option maxRecDepth 100000 in
set_option maxHeartbeats 2000000 in
theorem walk4 (ms : Ms T p fH fF fS fL fP fN fM) {I0 I1 I2 I3 : World → Prop} (st0 : Stb I0) (st1 : Stb I1) (st2 : Stb I2) (hk : ∀ X, I0 X → X.cell? ⟨M, 0, none⟩ = some (.int .i64 4))
    (h1 : ∀ X, I0 X → Calls Try.prog fN #[.pointer (some ⟨p, 0, none⟩), .pointer (some ⟨M, 71, none⟩), .int .i64 4, .int .i64 0, .int .i64 4294967295] X fun e w' => e = .returned un ∧ I1 w')
    (h2 : ∀ X, I1 X → Calls Try.prog fL #[.pointer (some ⟨p, 0, none⟩), .pointer (some ⟨M, 36, none⟩), .int .i64 1, .int .i64 512] X fun e w' => e = .returned un ∧ I2 w')
    (h3 : ∀ X k, I2 X → X.heap[k]? = some (.cells #[.pointer (some ⟨M, 53, none⟩)] 84 (0, 0)) → Calls Try.prog fF #[.pointer (some ⟨p, 0, none⟩), .slice (some ⟨k, 0, none⟩) 1 1] X fun e w' => e = .returned un ∧ I3 w')
    (w : World) (h0 : I0 w) : Calls Try.prog 17 #[.iface T (.pointer (some ⟨p, 0, none⟩)), .pointer (some ⟨M, 0, none⟩)] w fun e w' => e = .returned un ∧ I3 w' := by
  have hmf : ∀ (fn : Fn) (first cap : Array Value) (w : World), (Instr.makeFunc fn first cap).run Try.prog w = .ok (.func fn first cap) w := fun _ _ _ _ => rfl
  obtain ⟨mH, mF, mS, mL, mP, mN, mM, nH, nF, nS, nL, nP, nN, nM, cH, cF, cS, cL, cP, cN, cM⟩ := ms
  have kc := hk w h0
  have S0 : Hid (I0 w) := h0
  have C1 : Hid _ := h1
  have C2 : Hid _ := h2
  have C3 : Hid _ := h3
  clear h0 hk h1 h2 h3
  go_enter Try.func17, Try.ntmps17
  go_wp2_with fail
  have S0d : Hid (I0 w.drew) := st0 _ _ S0.out (bld w)
  clear S0
  refine wp_region_held_drew (S := fun _ => True) (by kernel_rfl) trivial (fun hHeld => ?_)
  generalize w.drew = wd at *
  refine wpAnyH_take (i := 0) (v := .iface T (.pointer (some ⟨p, 0, none⟩))) rfl (by kernel_rfl) (by kernel_rfl) (by kernel_rfl) (fun _ _ _ h => h) (Or.inl ⟨by rfl, by intro w hs; go_simp⟩) hHeld ?_
  refine norm_any' (fun K hK => ?_)
  go_simp
  refine hK _ _ ?_
  clear hK K
  refine wpAnyH_take (i := 1) (v := .pointer (some ⟨M, 0, none⟩)) rfl (by kernel_rfl) (by kernel_rfl) (by kernel_rfl) (fun _ _ _ h => h) (Or.inl ⟨by rfl, by intro w hs; go_simp⟩) hHeld ?_
  refine norm_any' (fun K hK => ?_)
  go_simp
  refine hK _ _ ?_
  clear hK K
  refine wpAnyH_take (i := 2) (v := .pointer (some ⟨M, 0, none⟩)) rfl (by kernel_rfl) (by kernel_rfl) (by kernel_rfl) (fun _ _ _ h => h) (Or.inl ⟨by rfl, by intro w hs; go_simp⟩) hHeld ?_
  refine norm_any' (fun K hK => ?_)
  go_simp
  refine hK _ _ ?_
  clear hK K
  refine wpAnyH_take (i := 3) (v := .pointer (some ⟨M, 71, none⟩)) rfl (by kernel_rfl) (by kernel_rfl) (by kernel_rfl) (fun _ _ _ h => h) (Or.inl ⟨by rfl, by intro w hs; go_simp⟩) hHeld ?_
  refine norm_any' (fun K hK => ?_)
  go_simp
  refine hK _ _ ?_
  clear hK K
  refine wpAnyH_take (i := 4) (v := .func (.method "caravel/hello.number") #[.iface T (.pointer (some ⟨p, 0, none⟩))] #[]) rfl (by kernel_rfl) (by kernel_rfl) (by kernel_rfl) (fun _ _ _ h => h) (Or.inl ⟨by rfl, by intro w hs; go_simp⟩) hHeld ?_
  refine norm_any' (fun K hK => ?_)
  go_simp
  refine hK _ _ ?_
  clear hK K
  refine wpAnyH_take (i := 5) (v := .func (.method "caravel/hello.number") #[.iface T (.pointer (some ⟨p, 0, none⟩))] #[]) rfl (by kernel_rfl) (by kernel_rfl) (by kernel_rfl) (fun _ _ _ h => h) (Or.inl ⟨by rfl, by intro w hs; go_simp⟩) hHeld ?_
  refine norm_any' (fun K hK => ?_)
  go_simp
  refine hK _ _ ?_
  clear hK K
  refine wpAnyH_take (i := 6) (v := .iface T (.pointer (some ⟨p, 0, none⟩))) rfl (by kernel_rfl) (by kernel_rfl) (by kernel_rfl) (fun _ _ _ h => h) (Or.inl ⟨by rfl, by intro w hs; go_simp⟩) hHeld ?_
  refine norm_any' (fun K hK => ?_)
  go_simp
  refine hK _ _ ?_
  clear hK K
  refine wpAnyH_ready (rs := [7]) (by kernel_rfl) (by simp) (AllReadyH.cons rfl (fun K hK => ?_) AllReadyH.nil)
  go_simp
  refine Calls.mono (C1.out _ S0d.out) ?_
  rintro e W1 ⟨rfl, h1⟩
  have S1 : Hid (I1 W1) := h1
  clear h1
  refine hK.out _ _ trivial (fun hHeld => ?_)
  clear hK K
  refine norm_any' (fun K hK => ?_)
  go_simp
  refine hK _ _ ?_
  clear hK K
  refine wpAnyH_done (by kernel_rfl) ?_ _
  clear hHeld
  go_wp2_with fail
  have S1d : Hid (I1 W1.drew) := st1 _ _ S1.out (bld W1)
  clear S1
  refine wp_region_held_drew (S := fun _ => True) (by kernel_rfl) trivial (fun hHeld => ?_)
  generalize W1.drew = W1d at *
  refine wpAnyH_take (i := 0) (v := .iface T (.pointer (some ⟨p, 0, none⟩))) rfl (by kernel_rfl) (by kernel_rfl) (by kernel_rfl) (fun _ _ _ h => h) (Or.inl ⟨by rfl, by intro w hs; go_simp⟩) hHeld ?_
  refine norm_any' (fun K hK => ?_)
  go_simp
  refine hK _ _ ?_
  clear hK K
  refine wpAnyH_take (i := 1) (v := .pointer (some ⟨M, 0, none⟩)) rfl (by kernel_rfl) (by kernel_rfl) (by kernel_rfl) (fun _ _ _ h => h) (Or.inl ⟨by rfl, by intro w hs; go_simp⟩) hHeld ?_
  refine norm_any' (fun K hK => ?_)
  go_simp
  refine hK _ _ ?_
  clear hK K
  refine wpAnyH_take (i := 2) (v := .pointer (some ⟨M, 0, none⟩)) rfl (by kernel_rfl) (by kernel_rfl) (by kernel_rfl) (fun _ _ _ h => h) (Or.inl ⟨by rfl, by intro w hs; go_simp⟩) hHeld ?_
  refine norm_any' (fun K hK => ?_)
  go_simp
  refine hK _ _ ?_
  clear hK K
  refine wpAnyH_take (i := 3) (v := .pointer (some ⟨M, 36, none⟩)) rfl (by kernel_rfl) (by kernel_rfl) (by kernel_rfl) (fun _ _ _ h => h) (Or.inl ⟨by rfl, by intro w hs; go_simp⟩) hHeld ?_
  refine norm_any' (fun K hK => ?_)
  go_simp
  refine hK _ _ ?_
  clear hK K
  refine wpAnyH_take (i := 4) (v := .func (.method "caravel/hello.long") #[.iface T (.pointer (some ⟨p, 0, none⟩))] #[]) rfl (by kernel_rfl) (by kernel_rfl) (by kernel_rfl) (fun _ _ _ h => h) (Or.inl ⟨by rfl, by intro w hs; go_simp⟩) hHeld ?_
  refine norm_any' (fun K hK => ?_)
  go_simp
  refine hK _ _ ?_
  clear hK K
  refine wpAnyH_take (i := 5) (v := .func (.method "caravel/hello.long") #[.iface T (.pointer (some ⟨p, 0, none⟩))] #[]) rfl (by kernel_rfl) (by kernel_rfl) (by kernel_rfl) (fun _ _ _ h => h) (Or.inl ⟨by rfl, by intro w hs; go_simp⟩) hHeld ?_
  refine norm_any' (fun K hK => ?_)
  go_simp
  refine hK _ _ ?_
  clear hK K
  refine wpAnyH_take (i := 6) (v := .iface T (.pointer (some ⟨p, 0, none⟩))) rfl (by kernel_rfl) (by kernel_rfl) (by kernel_rfl) (fun _ _ _ h => h) (Or.inl ⟨by rfl, by intro w hs; go_simp⟩) hHeld ?_
  refine norm_any' (fun K hK => ?_)
  go_simp
  refine hK _ _ ?_
  clear hK K
  refine wpAnyH_ready (rs := [7]) (by kernel_rfl) (by simp) (AllReadyH.cons rfl (fun K hK => ?_) AllReadyH.nil)
  go_simp
  refine Calls.mono (C2.out _ S1d.out) ?_
  rintro e W2 ⟨rfl, h2⟩
  have S2 : Hid (I2 W2) := h2
  clear h2
  refine hK.out _ _ trivial (fun hHeld => ?_)
  clear hK K
  refine norm_any' (fun K hK => ?_)
  go_simp
  refine hK _ _ ?_
  clear hK K
  refine wpAnyH_done (by kernel_rfl) ?_ _
  clear hHeld
  go_wp2_with fail
  have S2d : Hid (I2 W2.drew) := st2 _ _ S2.out (bld W2)
  clear S2
  refine wp_region_held_drew (S := fun _ => True) (by kernel_rfl) trivial (fun hHeld => ?_)
  generalize W2.drew = W2d at *
  refine wpAnyH_take (i := 0) (v := .iface T (.pointer (some ⟨p, 0, none⟩))) rfl (by kernel_rfl) (by kernel_rfl) (by kernel_rfl) (fun _ _ _ h => h) (Or.inl ⟨by rfl, by intro w hs; go_simp⟩) hHeld ?_
  refine norm_any' (fun K hK => ?_)
  go_simp
  refine hK _ _ ?_
  clear hK K
  refine wpAnyH_take (i := 1) (v := .pointer (some ⟨M, 0, none⟩)) rfl (by kernel_rfl) (by kernel_rfl) (by kernel_rfl) (fun _ _ _ h => h) (Or.inl ⟨by rfl, by intro w hs; go_simp⟩) hHeld ?_
  refine norm_any' (fun K hK => ?_)
  go_simp
  refine hK _ _ ?_
  clear hK K
  refine wpAnyH_take (i := 2) (v := .pointer (some ⟨M, 0, none⟩)) rfl (by kernel_rfl) (by kernel_rfl) (by kernel_rfl) (fun _ _ _ h => h) (Or.inl ⟨by rfl, by intro w hs; go_simp⟩) hHeld ?_
  refine norm_any' (fun K hK => ?_)
  go_simp
  refine hK _ _ ?_
  clear hK K
  refine wpAnyH_take (i := 3) (v := .pointer (some ⟨M, 53, none⟩)) rfl (by kernel_rfl) (by kernel_rfl) (by kernel_rfl) (fun _ _ _ h => h) (Or.inl ⟨by rfl, by intro w hs; go_simp⟩) hHeld ?_
  refine norm_any' (fun K hK => ?_)
  go_simp
  refine hK _ _ ?_
  clear hK K
  refine wpAnyH_take (i := 5) (v := .func (.method "caravel/hello.flags") #[.iface T (.pointer (some ⟨p, 0, none⟩))] #[]) rfl (by kernel_rfl) (by kernel_rfl) (by kernel_rfl) (fun _ _ _ h => h) (Or.inl ⟨by rfl, by intro w hs; go_simp⟩) hHeld ?_
  refine norm_any' (fun K hK => ?_)
  go_simp
  refine hK _ _ ?_
  clear hK K
  refine wpAnyH_take (i := 6) (v := .func (.method "caravel/hello.flags") #[.iface T (.pointer (some ⟨p, 0, none⟩))] #[]) rfl (by kernel_rfl) (by kernel_rfl) (by kernel_rfl) (fun _ _ _ h => h) (Or.inl ⟨by rfl, by intro w hs; go_simp⟩) hHeld ?_
  refine norm_any' (fun K hK => ?_)
  go_simp
  refine hK _ _ ?_
  clear hK K
  refine wpAnyH_take (i := 7) (v := .iface T (.pointer (some ⟨p, 0, none⟩))) rfl (by kernel_rfl) (by kernel_rfl) (by kernel_rfl) (fun _ _ _ h => h) (Or.inl ⟨by rfl, by intro w hs; go_simp⟩) hHeld ?_
  refine norm_any' (fun K hK => ?_)
  go_simp
  refine hK _ _ ?_
  clear hK K
  refine wpAnyH_ready (rs := [4]) (by kernel_rfl) (by simp) (AllReadyH.cons rfl (fun K hK => ?_) AllReadyH.nil)
  have S2e : Hid (I2 (W2d.alloc (.cells #[.pointer (some ⟨M, 53, none⟩)] 84))) := st2 _ _ S2d.out (bl1 W2d _)
  have HK12 : Hid _ := heap_alloc_new W2d (.cells #[.pointer (some ⟨M, 53, none⟩)] 84)
  clear S2d
  go_simp
  refine hK.out _ _ trivial (fun hHeld => ?_)
  clear hK K
  refine norm_any' (fun K hK => ?_)
  go_simp
  refine hK _ _ ?_
  clear hK K
  generalize W2d.alloc (.cells #[.pointer (some ⟨M, 53, none⟩)] 84) = W2e at *
  refine wpAnyH_ready (rs := [8]) (by kernel_rfl) (by simp) (AllReadyH.cons rfl (fun K hK => ?_) AllReadyH.nil)
  go_simp
  refine Calls.mono (C3.out _ _ S2e.out HK12.out) ?_
  rintro e W3 ⟨rfl, h3⟩
  have S3 : Hid (I3 W3) := h3
  clear h3
  refine hK.out _ _ trivial (fun hHeld => ?_)
  clear hK K
  refine norm_any' (fun K hK => ?_)
  go_simp
  refine hK _ _ ?_
  clear hK K
  refine wpAnyH_done (by kernel_rfl) ?_ _
  clear hHeld
  go_wp2_with fail
  go_end0
  exact ⟨rfl, S3.out⟩
set_option maxRecDepth 100000 in
set_option maxHeartbeats 2000000 in
theorem walk1 {I0 I1 : World → Prop} (hk : ∀ X, I0 X → X.cell? ⟨M, 0, none⟩ = some (.int .i64 1))
    (h1 : ∀ X, I0 X → Calls Try.prog 30 #[.iface T (.pointer (some ⟨p, 0, none⟩)), .pointer (some ⟨M, 0, none⟩)] X fun e w' => e = .returned un ∧ I1 w')
    (w : World) (h0 : I0 w) : Calls Try.prog 17 #[.iface T (.pointer (some ⟨p, 0, none⟩)), .pointer (some ⟨M, 0, none⟩)] w fun e w' => e = .returned un ∧ I1 w' := by
  have kc := hk w h0
  have C1 : Hid _ := h1 w h0
  clear h0 hk h1
  go_enter Try.func17, Try.ntmps17
  go_wp2_with fail
  refine Calls.mono C1.out ?_
  rintro e W1 ⟨rfl, h1⟩
  have S1 : Hid (I1 W1) := h1
  clear h1
  go_wp2_with fail
  go_end0
  exact ⟨rfl, S1.out⟩
end
end Go.Proofs.Ytcchlicokglmnaa
