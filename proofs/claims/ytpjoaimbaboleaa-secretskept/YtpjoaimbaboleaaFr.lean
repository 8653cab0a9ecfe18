/- secrets: from, and the closure that it tells. -/
import Derived.Test.YtpjoaimbaboleaaJn
import Derived.Test.YtpjoaimbaboleaaPk
namespace Go.Proofs.Ytpjoaimbaboleaa
open Go.RowKit Go.Shelf Go.Lib
set_option linter.unusedVariables false

/-- The closure that from tells. -/
abbrev cl (n : Nat) : Value := .func (.func 54) #[] #[.pointer (some ⟨n + 1 + 1 + 1, 0, none⟩), .pointer (some ⟨n, 0, none⟩), .pointer (some ⟨n + 1 + 1, 0, none⟩)]
/-- What it keeps: the vault, the last term's name, the error. -/
structure Cl (w : World) (n : Nat) (p : Option Addr) (H : List UInt8) (E : Int) : Prop where
  v : w.heap[n]? = some (.cells #[.pointer p] 23 (0, 0))
  last : w.heap[n + 1 + 1]? = some (.cells (hl H).toArray 29 (0, 0))
  er : w.heap[n + 1 + 1 + 1]? = some (.cells #[.int .i64 E] 45 (0, 0))
theorem Cl.bel {w w' : World} {n : Nat} {p : Option Addr} {H : List UInt8} {E : Int} (h : Cl w n p H E) (hb : Below w.heap.size w w') : Cl w' n p H E := ⟨heap_bel h.v hb, heap_bel h.last hb, heap_bel h.er hb⟩
theorem Cl.kc {w w' : World} {n : Nat} {p : Option Addr} {H : List UInt8} {E : Int} (h : Cl w n p H E) (hb : Kc w w') : Cl w' n p H E := ⟨hb _ _ _ _ h.v (by decide) (by decide), hb _ _ _ _ h.last (by decide) (by decide), hb _ _ _ _ h.er (by decide) (by decide)⟩
theorem al4 (w : World) (o1 o2 o3 o4 : Obj) : ((((w.alloc o1).alloc o2).alloc o3).alloc o4).heap[w.heap.size]? = some o1 ∧ ((((w.alloc o1).alloc o2).alloc o3).alloc o4).heap[w.heap.size + 1]? = some o2 ∧ ((((w.alloc o1).alloc o2).alloc o3).alloc o4).heap[w.heap.size + 1 + 1]? = some o3 ∧ ((((w.alloc o1).alloc o2).alloc o3).alloc o4).heap[w.heap.size + 1 + 1 + 1]? = some o4 ∧ Below w.heap.size w ((((w.alloc o1).alloc o2).alloc o3).alloc o4) :=
  ⟨nth' (nth' (nth' (new' rfl))), nth' (nth' (new' (by simp))), nth' (new' (by simp)), new' (by simp), (((bel1 w _).alloc (by simp) _).alloc (by simp; omega) _).alloc (by simp; omega) _⟩
set_option maxRecDepth 100000 in
set_option maxHeartbeats 400000 in
theorem from_c (p : Option Addr) (H : List UInt8) (hH : H.length = 16) (w : World) : Calls Try.prog 41 #[.pointer p, hv H] w fun e w' => e = .returned (cl w.heap.size) ∧ Cl w' w.heap.size p H 0 ∧ Below w.heap.size w w' := by
  obtain ⟨a1, a2, a3, a4, a5⟩ := al4 w (.cells #[.pointer p] 23) (.cells (hl H).toArray 29) (.cells (hl z16).toArray 29) (.cells #[.int .i64 0] 45)
  have X2 : Aside (((w.alloc (.cells #[.pointer p] 23)).alloc (.cells (hl H).toArray 29)).heap[w.heap.size + 1]? = some (.cells (hl H).toArray 29 (0, 0))) := new' (by simp)
  have X3 : Aside _ := a3
  obtain ⟨W, hW⟩ : ∃ W, W = (((((w.alloc (.cells #[.pointer p] 23)).alloc (.cells (hl H).toArray 29)).alloc (.cells (hl z16).toArray 29)).alloc (.cells #[.int .i64 0] 45)).setRow (w.heap.size + 1 + 1) (hl H).toArray) := ⟨_, rfl⟩
  have h4 : W.heap[w.heap.size + 1 + 1 + 1]? = some (.cells #[.int .i64 0] 45 (0, 0)) := by rw [hW]; exact (setRow_other _ _ _ _ (by omega)).trans a4
  have HF : Aside (Cl (W.setRow (w.heap.size + 1 + 1 + 1) #[.int .i64 0]) w.heap.size p H 0 ∧ Below w.heap.size w (W.setRow (w.heap.size + 1 + 1 + 1) #[.int .i64 0])) := by
    have hbW : Below w.heap.size w W := by rw [hW]; exact bel_set a5 (by omega) _
    have h1 : W.heap[w.heap.size]? = some (.cells #[.pointer p] 23 (0, 0)) := by rw [hW]; exact (setRow_other _ _ _ _ (by omega)).trans a1
    have h3 : W.heap[w.heap.size + 1 + 1]? = some (.cells (hl H).toArray 29 (0, 0)) := by rw [hW]; exact setRow_heap _ _ _ _ _ _ a3
    exact ⟨⟨(setRow_other _ _ _ _ (by omega)).trans h1, (setRow_other _ _ _ _ (by omega)).trans h3, setRow_heap _ _ _ _ _ _ h4⟩, bel_set hbW (by omega) _⟩
  have HW : Aside _ := hW
  have H4 : Aside _ := h4
  have c4 : W.cell? ⟨w.heap.size + 1 + 1 + 1, 0, none⟩ = some (.int .i64 0) := by simp [World.cell?, h4]
  have f4 : W.frozen? ⟨w.heap.size + 1 + 1 + 1, 0, none⟩ = false := by simp [World.frozen?, h4]
  clear hW h4
  clear a1 a2 a3 a4 a5
  go_enter Try.func41, Try.ntmps41
  go_wp2_with (first | (refine ld28 rfl (.tmp 3) rfl (w.heap.size + 1) rfl H X2.out hH ?_) | (refine st28 rfl (.tmp 5) (.tmp 7) rfl (w.heap.size + 1 + 1) H rfl rfl z16 X3.out hH rfl (Hid.out ?_)))
  rw [hz28]
  rw [← HW.out]
  refine mkHid ?_
  go_wp2_with fail
  go_ret
  rw [setCell_eq_setRow W _ 0 _ 45 (0, 0) _ H4.out]
  exact ⟨rfl, HF.out.1, HF.out.2⟩
/-- All but two cells of the closure stay, and what a vault has. -/
def Kf (n : Nat) (w w' : World) : Prop := ∀ (b : Nat) (cs : Array Value) (t : Nat) (fr : Nat × Nat), b ≠ n + 1 + 1 → b ≠ n + 1 + 1 + 1 → w.heap[b]? = some (Obj.cells cs t fr) → t ≠ 43 → t ≠ 62 → w'.heap[b]? = some (Obj.cells cs t fr)
theorem Kf.trans {n : Nat} {a b c : World} (h : Kf n a b) (k : Kf n b c) : Kf n a c := fun x cs t fr h1 h2 hb h3 h4 => k x cs t fr h1 h2 (h x cs t fr h1 h2 hb h3 h4) h3 h4
theorem Kf.of_kc {n : Nat} {a b : World} (h : Kc a b) : Kf n a b := fun x cs t fr _ _ hb h3 h4 => h x cs t fr hb h3 h4
theorem Kf.kc {n : Nat} {a b c : World} (h : Kc a b) (k : Kf n b c) (hn : a.heap.size ≤ n) : Kc a c := fun x cs t fr hb h3 h4 => k x cs t fr (by have := (Array.getElem?_eq_some_iff.1 hb).1; omega) (by have := (Array.getElem?_eq_some_iff.1 hb).1; omega) (h x cs t fr hb h3 h4) h3 h4
theorem Kf.set {n : Nat} {a b : World} (h : Kf n a b) {B : Nat} (hB : B = n + 1 + 1 ∨ B = n + 1 + 1 + 1 ∨ a.heap.size ≤ B) (ds : Array Value) : Kf n a (b.setRow B ds) := fun x cs t fr h1 h2 hb h3 h4 =>
  (setRow_other _ _ _ _ (by have := (Array.getElem?_eq_some_iff.1 hb).1; omega)).trans (h x cs t fr h1 h2 hb h3 h4)
/-- What is kept by boxes that are made and written. -/
structure Jk (n₀ : Nat) (J : World → Prop) : Prop where
  bel : ∀ X X', J X → Below X.heap.size X X' → J X'
  set : ∀ X B t cs ds, J X → X.heap[B]? = some (.cells cs t (0, 0)) → (t = 29 ∨ t = 45) → n₀ ≤ B → J (X.setRow B ds)
/-- How Derive answers. -/
def Dc (p : Option Addr) (J : World → Prop) (H : List UInt8) (S : ByteArray) (l : List UInt8) (H' : List UInt8) (E' : Int) (J' : World → Prop) : Prop :=
  ∀ X o c, J X → Sl X o l → Calls Try.prog 55 #[.pointer p, hv H, .string S, .slice o l.length c] X fun e w' => e = .returned (.tuple #[hv H', .int .i64 E']) ∧ J' w' ∧ Kc X w'
/-- How a step of the closure ends. -/
def NxP (n : Nat) (p : Option Addr) (J' : World → Prop) (H' : List UInt8) (E' : Int) (w : World) (e : Ending) (w' : World) : Prop := e = .returned (.tuple #[hv H', .int .i64 E']) ∧ Cl w' n p H' E' ∧ J' w' ∧ Kf n w w'
set_option maxRecDepth 100000 in
set_option maxHeartbeats 400000 in
/-- Behind an error: it is told again. -/
theorem next_err {w : World} {n : Nat} {p : Option Addr} {H : List UInt8} {E : Int} {n₀ : Nat} {J : World → Prop} (hJ : Jk n₀ J) (h : Cl w n p H E) (hH : H.length = 16) (hE : E ≠ 0) (hj : J w) (S : ByteArray) (so : Option Addr) (k c : Nat) :
    Calls Try.prog 54 #[.string S, .slice so k c, .pointer (some ⟨n + 1 + 1 + 1, 0, none⟩), .pointer (some ⟨n, 0, none⟩), .pointer (some ⟨n + 1 + 1, 0, none⟩)] w (NxP n p J H E w) := by
  have hb := bel1 w (.cells (hl z16).toArray 29)
  have h1 := h.bel hb
  have X7 : Aside _ := heap_alloc_new w (.cells (hl z16).toArray 29)
  have HL : Aside _ := h1.last
  have hce : (w.alloc (.cells (hl z16).toArray 29)).cell? ⟨n + 1 + 1 + 1, 0, none⟩ = some (.int .i64 E) := by simp [World.cell?, h1.er]
  rw [← hz28] at hce
  have q1 : (E == 0) = false := by simpa using hE
  have q2 : decide (E = 0) = false := by simpa using hE
  have HR : Aside _ := setRow_heap _ _ _ (hl H).toArray 29 (0, 0) X7.out
  have HLT : Aside (n + 1 + 1 + 1 < w.heap.size) := (Array.getElem?_eq_some_iff.1 h.er).1
  have HER : Aside _ := h1.er
  have hb2 : Below w.heap.size w (w.alloc (.cells (hl z16).toArray 29)).drew := hb.trans ((bel_drew _).mono hb.size)
  have HF : Aside (NxP n p J H E w (.returned (.tuple #[hv H, .int .i64 E])) ((w.alloc (.cells (hl z16).toArray 29)).drew.setRow w.heap.size (hl H).toArray)) :=
    ⟨rfl, h.bel (bel_set hb2 (Nat.le_refl _) _), hJ.bel _ _ hj (bel_set hb2 (Nat.le_refl _) _), Kf.of_kc (Kc.of_bel (bel_set hb2 (Nat.le_refl _) _))⟩
  clear hb hb2 h1 h hj hJ
  have mixed : Try.prog.follows Departure.mixedOrders = true := by kernel_rfl
  go_enter Try.func54, Try.ntmps54
  go_wp2_with fail
  clear hce
  rw [hz28]
  generalize hW1 : w.alloc (.cells (hl z16).toArray 29) = W1 at *
  have m29 : (Try.prog.info? 29).map (·.size) = some (hl H).length := hi28.trans (by simp [hH])
  have S3 : (W1.drew).rangeAt (n + 1 + 1) 0 (hl H) ∧ (W1.drew).cell? ⟨n + 1 + 1 + 1, 0, none⟩ = some (.int .i64 E) := ⟨range_of' (w := W1.drew) HL.out, (show W1.cell? ⟨n + 1 + 1 + 1, 0, none⟩ = _ from by have := HER.out; simp [World.cell?, this])⟩
  refine wp_region_held_drew (S := fun X => X.rangeAt (n + 1 + 1) 0 (hl H) ∧ X.cell? ⟨n + 1 + 1 + 1, 0, none⟩ = some (.int .i64 E)) (by kernel_rfl) S3 (fun hHeld => ?_)
  clear S3
  refine wpAnyH_take (i := 0) (v := hv H) rfl (by kernel_rfl) (by kernel_rfl) (by kernel_rfl) (fun _ _ _ h => h) (yieldsIf_load_mid (by rfl) 29 _ rfl (n + 1 + 1) 0 rfl (hl H) _ (fun X h => h.1) hu28 rfl m29) hHeld ?_
  refine norm_any' (fun K hK => ?_)
  go_simp
  refine hK _ _ ?_
  clear hK K
  refine wpAnyH_take (i := 1) (v := .int .i64 E) rfl (by kernel_rfl) (by kernel_rfl) (by kernel_rfl) (fun _ _ _ h => h) (Or.inl ⟨by rfl, by intro w hs; obtain ⟨_, q⟩ := hs; go_simp⟩) hHeld ?_
  refine norm_any' (fun K hK => ?_)
  go_simp
  refine hK _ _ ?_
  clear hK K
  refine wpAnyH_ready (rs := [2]) (by kernel_rfl) (by simp) (AllReadyH.cons rfl (fun K hK => ?_) AllReadyH.nil)
  rw [if_pos (by rfl)]
  refine wp_store_row 29 _ _ rfl w.heap.size (hl H).toArray (by rfl) (by rfl) 29 _ X7.out (hi28.trans (by simp [hH])) (by simp [hH, z16_len]) (hl_one H) ?_
  have hne : w.heap.size ≠ n + 1 + 1 := by have := HLT.out; omega
  have hne' : w.heap.size ≠ n + 1 + 1 + 1 := by have := HLT.out; omega
  refine hK.out _ _ ⟨range_of' ((setRow_other _ _ _ _ hne.symm).trans HL.out), by have := (setRow_other W1 w.heap.size (n + 1 + 1 + 1) (hl H).toArray hne'.symm).trans HER.out; simp only [World.cell?]; rw [show ((W1.drew).setRow w.heap.size (hl H).toArray).heap[n + 1 + 1 + 1]? = _ from this]; rfl⟩ (fun hHeld => ?_)
  clear hK K
  refine norm_any' (fun K hK => ?_)
  go_simp
  refine hK _ _ ?_
  clear hK K
  refine wpAnyH_take (i := 3) (v := .int .i64 E) rfl (by kernel_rfl) (by kernel_rfl) (by kernel_rfl) (fun _ _ _ h => h) (Or.inl ⟨by rfl, by intro w hs; go_simp⟩) hHeld ?_
  refine norm_any' (fun K hK => ?_)
  go_simp
  refine hK _ _ ?_
  clear hK K
  refine wpAnyH_done (by kernel_rfl) ?_ _
  clear hHeld
  go_wp2_with fail
  refine bodyPost_ret (v := .tuple #[hv H, .int .i64 E]) (res_h (fn := Try.f54) (p := 7) (u := 8) rfl _ _ w.heap.size H rfl (HR.out) hH) rfl ?_
  exact HF.out
set_option maxRecDepth 100000 in
set_option maxHeartbeats 1000000 in
/-- A step. -/
theorem next_c {w : World} {n : Nat} {p : Option Addr} {H H' : List UInt8} {E' : Int} {n₀ : Nat} {J J' : World → Prop} (hJ : Jk n₀ J) (hJ' : Jk n₀ J') (hn : n₀ ≤ n) (h : Cl w n p H 0) (hH : H.length = 16) (hH' : H'.length = 16) (hj : J w) (S : ByteArray) (so : Option Addr) (k c : Nat) (l : List UInt8)
    (hjn : ∀ X, Below w.heap.size w X → Calls Try.prog 56 #[.slice so k c] X (JnP l X)) (hd : Dc p J H S l H' E' J') :
    Calls Try.prog 54 #[.string S, .slice so k c, .pointer (some ⟨n + 1 + 1 + 1, 0, none⟩), .pointer (some ⟨n, 0, none⟩), .pointer (some ⟨n + 1 + 1, 0, none⟩)] w (NxP n p J' H' E' w) := by
  have hb := bel1 w (.cells (hl z16).toArray 29)
  have h1 := h.bel hb
  have lt : n + 1 + 1 + 1 < w.heap.size := (Array.getElem?_eq_some_iff.1 h.er).1
  have HLT : Aside (n + 1 + 1 + 1 < w.heap.size) := lt
  have hce : (w.alloc (.cells (hl z16).toArray 29)).cell? ⟨n + 1 + 1 + 1, 0, none⟩ = some (.int .i64 0) := by simp [World.cell?, h1.er]
  rw [← hz28] at hce
  have HDV : Aside (∀ X o c, Below (w.alloc (.cells (hl z16).toArray 29)).heap.size (w.alloc (.cells (hl z16).toArray 29)) X → Sl X o l → Calls Try.prog 55 #[.pointer p, hv H, .string S, .slice o l.length c] X fun e w' => e = .returned (.tuple #[hv H', .int .i64 E']) ∧ J' w' ∧ Kc X w') := fun X o c hX hS => hd X o c (hJ.bel _ _ (hJ.bel _ _ hj hb) hX) hS
  have HJN : Aside (∀ X, Below (w.alloc (.cells (hl z16).toArray 29)).heap.size (w.alloc (.cells (hl z16).toArray 29)) X → Calls Try.prog 56 #[.slice so k c] X (JnP l X)) := fun X hX => hjn X (hb.trans (hX.mono hb.size))
  have HC1 : Aside (∀ X, Below (w.alloc (.cells (hl z16).toArray 29)).heap.size (w.alloc (.cells (hl z16).toArray 29)) X → Cl X n p H 0 ∧ X.heap[w.heap.size]? = some (.cells (hl z16).toArray 29 (0, 0)) ∧ Kf n w X) := fun X hX => ⟨h1.bel hX, heap_bel (heap_alloc_new w _) hX, Kf.of_kc (Kc.of_bel (hb.trans (hX.mono hb.size)))⟩
  have HFN : Aside (∀ X, Cl X n p H 0 → X.heap[w.heap.size]? = some (.cells (hl z16).toArray 29 (0, 0)) → Kf n w X → J' X → NxP n p J' H' E' w (.returned (.tuple #[hv H', .int .i64 E'])) (((X.setRow (n + 1 + 1) (hl H').toArray).setRow (n + 1 + 1 + 1) #[.int .i64 E']).drew.setRow w.heap.size (hl H').toArray)) := by
    intro X c0 c7 kf jx
    have g1 := setRow_heap X (n + 1 + 1) _ (hl H').toArray _ _ c0.last
    have g2 := (setRow_other X (n + 1 + 1) (n + 1 + 1 + 1) (hl H').toArray (by omega)).trans c0.er
    have g3 := setRow_heap _ (n + 1 + 1 + 1) _ #[.int .i64 E'] _ _ g2
    have g4 := (setRow_other _ (n + 1 + 1 + 1) (n + 1 + 1) #[.int .i64 E'] (by omega)).trans g1
    have g7 := (setRow_other _ (n + 1 + 1 + 1) w.heap.size #[.int .i64 E'] (by omega)).trans ((setRow_other X (n + 1 + 1) w.heap.size (hl H').toArray (by omega)).trans c7)
    have gv := (setRow_other _ (n + 1 + 1 + 1) n #[.int .i64 E'] (by omega)).trans ((setRow_other X (n + 1 + 1) n (hl H').toArray (by omega)).trans c0.v)
    refine ⟨rfl, ⟨(setRow_other _ _ _ _ (by omega)).trans gv, (setRow_other _ _ _ _ (by omega)).trans g4, (setRow_other _ _ _ _ (by omega)).trans g3⟩, ?_, ?_⟩
    · exact hJ'.set _ _ _ _ _ (hJ'.bel _ _ (hJ'.set _ _ _ _ _ (hJ'.set _ _ _ _ _ jx c0.last (.inl rfl) (by omega)) g2 (.inr rfl) (by omega)) (bel_drew _)) g7 (.inl rfl) (by omega)
    · exact (((kf.set (.inl rfl) _).set (.inr (.inl rfl)) _).trans (Kf.of_kc (Kc.of_bel (bel_drew _)))).set (.inr (.inr (Nat.le_refl _))) _
  clear hjn hd h1 h hj hJ hJ' hb
  have q1 : decide ((0 : Int) = 0) = true := by decide
  have mixed : Try.prog.follows Departure.mixedOrders = true := by kernel_rfl
  go_enter Try.func54, Try.ntmps54
  go_wp2_with fail
  clear hce
  rw [hz28]
  generalize hW1 : w.alloc (.cells (hl z16).toArray 29) = W1 at *
  have HB1 : Aside (Below W1.heap.size W1 W1.drew) := bel_drew W1
  obtain ⟨C1, _, _⟩ := HC1.out _ HB1.out
  have S2 : W1.drew.cell? ⟨n, 0, none⟩ = some (.pointer p) := by have := C1.v; simp [World.cell?, this]
  have m29 : (Try.prog.info? 29).map (·.size) = some (hl H).length := hi28.trans (by simp [hH])
  have HSV : Aside (∀ X, Below W1.heap.size W1 X → X.cell? ⟨n, 0, none⟩ = some (.pointer p)) := fun X hX => by obtain ⟨C, _, _⟩ := HC1.out _ hX; have := C.v; simp [World.cell?, this]
  have HLA : Aside (∀ X, Below W1.heap.size W1 X → X.rangeAt (n + 1 + 1) 0 (hl H)) := fun X hX => range_of' (HC1.out _ hX).1.last
  clear C1
  refine wp_region_held_drew (S := fun X => X.cell? ⟨n, 0, none⟩ = some (.pointer p)) (by kernel_rfl) S2 (fun hHeld => ?_)
  clear S2
  refine wpAnyH_take (i := 0) (v := .pointer p) rfl (by kernel_rfl) (by kernel_rfl) (by kernel_rfl) (fun _ _ _ h => h) (Or.inl ⟨by rfl, by intro w hs; go_simp⟩) hHeld ?_
  refine norm_any' (fun K hK => ?_)
  go_simp
  refine hK _ _ ?_
  clear hK K
  refine wpAnyH_take (i := 2) (v := .string S) rfl (by kernel_rfl) (by kernel_rfl) (by kernel_rfl) (fun _ _ _ h => h) (Or.inl ⟨by rfl, by intro w hs; go_simp⟩) hHeld ?_
  refine norm_any' (fun K hK => ?_)
  go_simp
  refine hK _ _ ?_
  clear hK K
  refine wpAnyH_take (i := 3) (v := .slice so k c) rfl (by kernel_rfl) (by kernel_rfl) (by kernel_rfl) (fun _ _ _ h => h) (Or.inl ⟨by rfl, by intro w hs; go_simp⟩) hHeld ?_
  refine norm_any' (fun K hK => ?_)
  go_simp
  refine hK _ _ ?_
  clear hK K
  refine wpAnyH_ready (rs := [1, 4]) (by kernel_rfl) (by simp) (AllReadyH.cons rfl (fun K hK => ?_) (AllReadyH.cons rfl (fun K hK => ?_) AllReadyH.nil))
  · skip
    rw [if_pos (by rfl)]
    refine wp_load_mid 29 (.tmp 4) rfl (n + 1 + 1) 0 rfl (hl H) _ (HLA.out W1.drew HB1.out) hu28 rfl m29 ?_
    refine hK.out _ _ (HSV.out W1.drew HB1.out) (fun hHeld => ?_)
    clear hK K
    refine norm_any' (fun K hK => ?_)
    go_simp
    refine hK _ _ ?_
    clear hK K
    refine wpAnyH_ready (rs := [4]) (by kernel_rfl) (by simp) (AllReadyH.cons rfl (fun K hK => ?_) AllReadyH.nil)
    go_simp
    refine Calls.mono (HJN.out W1.drew HB1.out) ?_
    rintro e Z1 ⟨o1, c1, rfl, hsl, hbz⟩
    have HZ1 : Aside (Below W1.heap.size W1 Z1) := HB1.out.trans (hbz.mono HB1.out.size)
    have HSL : Aside (Sl Z1 o1 l) := hsl
    clear hbz hsl
    refine hK.out _ _ (HSV.out Z1 HZ1.out) (fun hHeld => ?_)
    clear hK K
    refine norm_any' (fun K hK => ?_)
    go_simp
    refine hK _ _ ?_
    clear hK K
    refine wpAnyH_ready (rs := [5]) (by kernel_rfl) (by simp) (AllReadyH.cons rfl (fun K hK => ?_) AllReadyH.nil)
    go_simp
    refine Calls.mono (HDV.out Z1 o1 c1 HZ1.out HSL.out) ?_
    rintro e Z2 ⟨rfl, hj2, hk2⟩
    obtain ⟨C0, C7, KF⟩ := HC1.out _ HZ1.out
    have HC0 : Aside _ := C0.kc hk2
    have HC7 : Aside _ := hk2 _ _ _ _ C7 (by decide) (by decide)
    have HKF : Aside _ := KF.trans (Kf.of_kc hk2)
    have HJ2 : Aside _ := hj2
    have HSZ : Aside (Z2.cell? ⟨n, 0, none⟩ = some (.pointer p)) := by have := HC0.out.v; show World.cell? _ _ = _; simp [World.cell?, this]
    clear hj2 hk2 C0 C7 KF
    refine hK.out _ _ HSZ.out (fun hHeld => ?_)
    clear hK K
    refine norm_any' (fun K hK => ?_)
    go_simp
    refine hK _ _ ?_
    clear hK K
    refine wpAnyH_take (i := 6) (v := .tuple #[hv H', .int .i64 E']) rfl (by kernel_rfl) (by kernel_rfl) (by kernel_rfl) (fun _ _ _ h => h) (Or.inl ⟨by rfl, by intro w hs; go_simp⟩) hHeld ?_
    refine norm_any' (fun K hK => ?_)
    go_simp
    refine hK _ _ ?_
    clear hK K
    refine wpAnyH_take (i := 7) (v := hv H') rfl (by kernel_rfl) (by kernel_rfl) (by kernel_rfl) (fun _ _ _ h => h) (Or.inl ⟨by rfl, by intro w hs; go_simp⟩) hHeld ?_
    refine norm_any' (fun K hK => ?_)
    go_simp
    refine hK _ _ ?_
    clear hK K
    refine wpAnyH_take (i := 8) (v := .int .i64 E') rfl (by kernel_rfl) (by kernel_rfl) (by kernel_rfl) (fun _ _ _ h => h) (Or.inl ⟨by rfl, by intro w hs; go_simp⟩) hHeld ?_
    refine norm_any' (fun K hK => ?_)
    go_simp
    refine hK _ _ ?_
    clear hK K
    refine wpAnyH_ready (rs := [9]) (by kernel_rfl) (by simp) (AllReadyH.cons rfl (fun K hK => ?_) AllReadyH.nil)
    rw [if_pos (by rfl)]
    refine wp_store_row 29 _ _ rfl (n + 1 + 1) (hl H').toArray (by rfl) (by rfl) 29 _ HC0.out.last (hi28.trans (by simp [hH'])) (by simp [hH, hH']) (hl_one H') ?_
    have HSY : Aside ((Z2.setRow (n + 1 + 1) (hl H').toArray).cell? ⟨n, 0, none⟩ = some (.pointer p)) := by have := (setRow_other Z2 (n + 1 + 1) n (hl H').toArray (by omega)).trans HC0.out.v; show World.cell? _ _ = _; simp only [World.cell?, this]; rfl
    have HER2 : Aside _ := (setRow_other Z2 (n + 1 + 1) (n + 1 + 1 + 1) (hl H').toArray (by omega)).trans HC0.out.er
    refine hK.out _ _ HSY.out (fun hHeld => ?_)
    clear hK K
    refine norm_any' (fun K hK => ?_)
    go_simp
    refine hK _ _ ?_
    clear hK K
    generalize hY3 : Z2.setRow (n + 1 + 1) (hl H').toArray = Y3 at *
    have ce3 : Y3.cell? ⟨n + 1 + 1 + 1, 0, none⟩ = some (.int .i64 0) := by have := HER2.out; simp [World.cell?, this]
    have cf3 : Y3.frozen? ⟨n + 1 + 1 + 1, 0, none⟩ = false := by have := HER2.out; simp [World.frozen?, this]
    refine wpAnyH_ready (rs := [10]) (by kernel_rfl) (by simp) (AllReadyH.cons rfl (fun K hK => ?_) AllReadyH.nil)
    go_simp
    rw [setCell_eq_setRow Y3 (n + 1 + 1 + 1) 0 _ 45 (0, 0) _ HER2.out]
    have esr : (#[Value.int .i64 0] : Array Value).setIfInBounds 0 (.int .i64 E') = #[.int .i64 E'] := rfl
    rw [esr]
    have HSW : Aside ((Y3.setRow (n + 1 + 1 + 1) #[.int .i64 E']).cell? ⟨n, 0, none⟩ = some (.pointer p)) := by have h0 := (setRow_other Z2 (n + 1 + 1) n (hl H').toArray (by omega)).trans HC0.out.v; rw [hY3] at h0; have := (setRow_other Y3 (n + 1 + 1 + 1) n #[.int .i64 E'] (by omega)).trans h0; show World.cell? _ _ = _; simp only [World.cell?, this]; rfl
    have HER3 : Aside _ := setRow_heap Y3 (n + 1 + 1 + 1) _ #[.int .i64 E'] 45 (0, 0) HER2.out
    have HLA3 : Aside ((Y3.setRow (n + 1 + 1 + 1) #[.int .i64 E']).heap[n + 1 + 1]? = some (.cells (hl H').toArray 29 (0, 0))) := by rw [← hY3]; exact (setRow_other _ _ _ _ (by omega)).trans (setRow_heap Z2 _ _ _ _ _ HC0.out.last)
    have HX73 : Aside ((Y3.setRow (n + 1 + 1 + 1) #[.int .i64 E']).heap[w.heap.size]? = some (.cells (hl z16).toArray 29 (0, 0))) := by rw [← hY3]; exact (setRow_other _ _ _ _ (by omega)).trans ((setRow_other _ _ _ _ (by omega)).trans HC7.out)
    have HF : Aside (NxP n p J' H' E' w (.returned (.tuple #[hv H', .int .i64 E'])) ((Y3.setRow (n + 1 + 1 + 1) #[.int .i64 E']).drew.setRow w.heap.size (hl H').toArray)) := by rw [← hY3]; exact HFN.out Z2 HC0.out HC7.out HKF.out HJ2.out
    have HR : Aside _ := setRow_heap _ w.heap.size _ (hl H').toArray 29 (0, 0) HX73.out
    refine hK.out _ _ HSW.out (fun hHeld => ?_)
    clear hK K
    refine norm_any' (fun K hK => ?_)
    go_simp
    refine hK _ _ ?_
    clear hK K
    refine wpAnyH_done (by kernel_rfl) ?_ _
    clear hHeld ce3 cf3 esr
    generalize Y3.setRow (n + 1 + 1 + 1) #[.int .i64 E'] = Y4 at *
    go_wp2_with fail
    have m29 : (Try.prog.info? 29).map (·.size) = some (hl H').length := hi28.trans (by simp [hH'])
    have S3 : (Y4.drew).rangeAt (n + 1 + 1) 0 (hl H') ∧ (Y4.drew).cell? ⟨n + 1 + 1 + 1, 0, none⟩ = some (.int .i64 E') := ⟨range_of' (w := Y4.drew) HLA3.out, (show Y4.cell? ⟨n + 1 + 1 + 1, 0, none⟩ = _ from by have := HER3.out; simp [World.cell?, this])⟩
    refine wp_region_held_drew (S := fun X => X.rangeAt (n + 1 + 1) 0 (hl H') ∧ X.cell? ⟨n + 1 + 1 + 1, 0, none⟩ = some (.int .i64 E')) (by kernel_rfl) S3 (fun hHeld => ?_)
    clear S3
    refine wpAnyH_take (i := 0) (v := hv H') rfl (by kernel_rfl) (by kernel_rfl) (by kernel_rfl) (fun _ _ _ h => h) (yieldsIf_load_mid (by rfl) 29 _ rfl (n + 1 + 1) 0 rfl (hl H') _ (fun X h => h.1) hu28 rfl m29) hHeld ?_
    refine norm_any' (fun K hK => ?_)
    go_simp
    refine hK _ _ ?_
    clear hK K
    refine wpAnyH_take (i := 1) (v := .int .i64 E') rfl (by kernel_rfl) (by kernel_rfl) (by kernel_rfl) (fun _ _ _ h => h) (Or.inl ⟨by rfl, by intro w hs; obtain ⟨_, q⟩ := hs; go_simp⟩) hHeld ?_
    refine norm_any' (fun K hK => ?_)
    go_simp
    refine hK _ _ ?_
    clear hK K
    refine wpAnyH_ready (rs := [2]) (by kernel_rfl) (by simp) (AllReadyH.cons rfl (fun K hK => ?_) AllReadyH.nil)
    rw [if_pos (by rfl)]
    refine wp_store_row 29 _ _ rfl w.heap.size (hl H').toArray (by rfl) (by rfl) 29 _ HX73.out (hi28.trans (by simp [hH'])) (by simp [hH', z16_len]) (hl_one H') ?_
    have hne : w.heap.size ≠ n + 1 + 1 := by have := HLT.out; omega
    have hne' : w.heap.size ≠ n + 1 + 1 + 1 := by have := HLT.out; omega
    refine hK.out _ _ ⟨range_of' ((setRow_other _ _ _ _ hne.symm).trans HLA3.out), by have := (setRow_other Y4 w.heap.size (n + 1 + 1 + 1) (hl H').toArray hne'.symm).trans HER3.out; simp only [World.cell?]; rw [show ((Y4.drew).setRow w.heap.size (hl H').toArray).heap[n + 1 + 1 + 1]? = _ from this]; rfl⟩ (fun hHeld => ?_)
    clear hK K
    refine norm_any' (fun K hK => ?_)
    go_simp
    refine hK _ _ ?_
    clear hK K
    refine wpAnyH_take (i := 3) (v := .int .i64 E') rfl (by kernel_rfl) (by kernel_rfl) (by kernel_rfl) (fun _ _ _ h => h) (Or.inl ⟨by rfl, by intro w hs; go_simp⟩) hHeld ?_
    refine norm_any' (fun K hK => ?_)
    go_simp
    refine hK _ _ ?_
    clear hK K
    refine wpAnyH_done (by kernel_rfl) ?_ _
    clear hHeld
    go_wp2_with fail
    refine bodyPost_ret (v := .tuple #[hv H', .int .i64 E']) (res_h (fn := Try.f54) (p := 7) (u := 8) rfl _ _ w.heap.size H' rfl (HR.out) hH') rfl ?_
    exact HF.out
  · skip
    go_simp
    refine Calls.mono (HJN.out W1.drew HB1.out) ?_
    rintro e Z1 ⟨o1, c1, rfl, hsl, hbz⟩
    have HZ1 : Aside (Below W1.heap.size W1 Z1) := HB1.out.trans (hbz.mono HB1.out.size)
    have HSL : Aside (Sl Z1 o1 l) := hsl
    clear hbz hsl
    refine hK.out _ _ (HSV.out Z1 HZ1.out) (fun hHeld => ?_)
    clear hK K
    refine norm_any' (fun K hK => ?_)
    go_simp
    refine hK _ _ ?_
    clear hK K
    refine wpAnyH_ready (rs := [1]) (by kernel_rfl) (by simp) (AllReadyH.cons rfl (fun K hK => ?_) AllReadyH.nil)
    rw [if_pos (by rfl)]
    refine wp_load_mid 29 (.tmp 4) rfl (n + 1 + 1) 0 rfl (hl H) _ (HLA.out Z1 HZ1.out) hu28 rfl m29 ?_
    refine hK.out _ _ (HSV.out Z1 HZ1.out) (fun hHeld => ?_)
    clear hK K
    refine norm_any' (fun K hK => ?_)
    go_simp
    refine hK _ _ ?_
    clear hK K
    refine wpAnyH_ready (rs := [5]) (by kernel_rfl) (by simp) (AllReadyH.cons rfl (fun K hK => ?_) AllReadyH.nil)
    go_simp
    refine Calls.mono (HDV.out Z1 o1 c1 HZ1.out HSL.out) ?_
    rintro e Z2 ⟨rfl, hj2, hk2⟩
    obtain ⟨C0, C7, KF⟩ := HC1.out _ HZ1.out
    have HC0 : Aside _ := C0.kc hk2
    have HC7 : Aside _ := hk2 _ _ _ _ C7 (by decide) (by decide)
    have HKF : Aside _ := KF.trans (Kf.of_kc hk2)
    have HJ2 : Aside _ := hj2
    have HSZ : Aside (Z2.cell? ⟨n, 0, none⟩ = some (.pointer p)) := by have := HC0.out.v; show World.cell? _ _ = _; simp [World.cell?, this]
    clear hj2 hk2 C0 C7 KF
    refine hK.out _ _ HSZ.out (fun hHeld => ?_)
    clear hK K
    refine norm_any' (fun K hK => ?_)
    go_simp
    refine hK _ _ ?_
    clear hK K
    refine wpAnyH_take (i := 6) (v := .tuple #[hv H', .int .i64 E']) rfl (by kernel_rfl) (by kernel_rfl) (by kernel_rfl) (fun _ _ _ h => h) (Or.inl ⟨by rfl, by intro w hs; go_simp⟩) hHeld ?_
    refine norm_any' (fun K hK => ?_)
    go_simp
    refine hK _ _ ?_
    clear hK K
    refine wpAnyH_take (i := 7) (v := hv H') rfl (by kernel_rfl) (by kernel_rfl) (by kernel_rfl) (fun _ _ _ h => h) (Or.inl ⟨by rfl, by intro w hs; go_simp⟩) hHeld ?_
    refine norm_any' (fun K hK => ?_)
    go_simp
    refine hK _ _ ?_
    clear hK K
    refine wpAnyH_take (i := 8) (v := .int .i64 E') rfl (by kernel_rfl) (by kernel_rfl) (by kernel_rfl) (fun _ _ _ h => h) (Or.inl ⟨by rfl, by intro w hs; go_simp⟩) hHeld ?_
    refine norm_any' (fun K hK => ?_)
    go_simp
    refine hK _ _ ?_
    clear hK K
    refine wpAnyH_ready (rs := [9]) (by kernel_rfl) (by simp) (AllReadyH.cons rfl (fun K hK => ?_) AllReadyH.nil)
    rw [if_pos (by rfl)]
    refine wp_store_row 29 _ _ rfl (n + 1 + 1) (hl H').toArray (by rfl) (by rfl) 29 _ HC0.out.last (hi28.trans (by simp [hH'])) (by simp [hH, hH']) (hl_one H') ?_
    have HSY : Aside ((Z2.setRow (n + 1 + 1) (hl H').toArray).cell? ⟨n, 0, none⟩ = some (.pointer p)) := by have := (setRow_other Z2 (n + 1 + 1) n (hl H').toArray (by omega)).trans HC0.out.v; show World.cell? _ _ = _; simp only [World.cell?, this]; rfl
    have HER2 : Aside _ := (setRow_other Z2 (n + 1 + 1) (n + 1 + 1 + 1) (hl H').toArray (by omega)).trans HC0.out.er
    refine hK.out _ _ HSY.out (fun hHeld => ?_)
    clear hK K
    refine norm_any' (fun K hK => ?_)
    go_simp
    refine hK _ _ ?_
    clear hK K
    generalize hY3 : Z2.setRow (n + 1 + 1) (hl H').toArray = Y3 at *
    have ce3 : Y3.cell? ⟨n + 1 + 1 + 1, 0, none⟩ = some (.int .i64 0) := by have := HER2.out; simp [World.cell?, this]
    have cf3 : Y3.frozen? ⟨n + 1 + 1 + 1, 0, none⟩ = false := by have := HER2.out; simp [World.frozen?, this]
    refine wpAnyH_ready (rs := [10]) (by kernel_rfl) (by simp) (AllReadyH.cons rfl (fun K hK => ?_) AllReadyH.nil)
    go_simp
    rw [setCell_eq_setRow Y3 (n + 1 + 1 + 1) 0 _ 45 (0, 0) _ HER2.out]
    have esr : (#[Value.int .i64 0] : Array Value).setIfInBounds 0 (.int .i64 E') = #[.int .i64 E'] := rfl
    rw [esr]
    have HSW : Aside ((Y3.setRow (n + 1 + 1 + 1) #[.int .i64 E']).cell? ⟨n, 0, none⟩ = some (.pointer p)) := by have h0 := (setRow_other Z2 (n + 1 + 1) n (hl H').toArray (by omega)).trans HC0.out.v; rw [hY3] at h0; have := (setRow_other Y3 (n + 1 + 1 + 1) n #[.int .i64 E'] (by omega)).trans h0; show World.cell? _ _ = _; simp only [World.cell?, this]; rfl
    have HER3 : Aside _ := setRow_heap Y3 (n + 1 + 1 + 1) _ #[.int .i64 E'] 45 (0, 0) HER2.out
    have HLA3 : Aside ((Y3.setRow (n + 1 + 1 + 1) #[.int .i64 E']).heap[n + 1 + 1]? = some (.cells (hl H').toArray 29 (0, 0))) := by rw [← hY3]; exact (setRow_other _ _ _ _ (by omega)).trans (setRow_heap Z2 _ _ _ _ _ HC0.out.last)
    have HX73 : Aside ((Y3.setRow (n + 1 + 1 + 1) #[.int .i64 E']).heap[w.heap.size]? = some (.cells (hl z16).toArray 29 (0, 0))) := by rw [← hY3]; exact (setRow_other _ _ _ _ (by omega)).trans ((setRow_other _ _ _ _ (by omega)).trans HC7.out)
    have HF : Aside (NxP n p J' H' E' w (.returned (.tuple #[hv H', .int .i64 E'])) ((Y3.setRow (n + 1 + 1 + 1) #[.int .i64 E']).drew.setRow w.heap.size (hl H').toArray)) := by rw [← hY3]; exact HFN.out Z2 HC0.out HC7.out HKF.out HJ2.out
    have HR : Aside _ := setRow_heap _ w.heap.size _ (hl H').toArray 29 (0, 0) HX73.out
    refine hK.out _ _ HSW.out (fun hHeld => ?_)
    clear hK K
    refine norm_any' (fun K hK => ?_)
    go_simp
    refine hK _ _ ?_
    clear hK K
    refine wpAnyH_done (by kernel_rfl) ?_ _
    clear hHeld ce3 cf3 esr
    generalize Y3.setRow (n + 1 + 1 + 1) #[.int .i64 E'] = Y4 at *
    go_wp2_with fail
    have m29 : (Try.prog.info? 29).map (·.size) = some (hl H').length := hi28.trans (by simp [hH'])
    have S3 : (Y4.drew).rangeAt (n + 1 + 1) 0 (hl H') ∧ (Y4.drew).cell? ⟨n + 1 + 1 + 1, 0, none⟩ = some (.int .i64 E') := ⟨range_of' (w := Y4.drew) HLA3.out, (show Y4.cell? ⟨n + 1 + 1 + 1, 0, none⟩ = _ from by have := HER3.out; simp [World.cell?, this])⟩
    refine wp_region_held_drew (S := fun X => X.rangeAt (n + 1 + 1) 0 (hl H') ∧ X.cell? ⟨n + 1 + 1 + 1, 0, none⟩ = some (.int .i64 E')) (by kernel_rfl) S3 (fun hHeld => ?_)
    clear S3
    refine wpAnyH_take (i := 0) (v := hv H') rfl (by kernel_rfl) (by kernel_rfl) (by kernel_rfl) (fun _ _ _ h => h) (yieldsIf_load_mid (by rfl) 29 _ rfl (n + 1 + 1) 0 rfl (hl H') _ (fun X h => h.1) hu28 rfl m29) hHeld ?_
    refine norm_any' (fun K hK => ?_)
    go_simp
    refine hK _ _ ?_
    clear hK K
    refine wpAnyH_take (i := 1) (v := .int .i64 E') rfl (by kernel_rfl) (by kernel_rfl) (by kernel_rfl) (fun _ _ _ h => h) (Or.inl ⟨by rfl, by intro w hs; obtain ⟨_, q⟩ := hs; go_simp⟩) hHeld ?_
    refine norm_any' (fun K hK => ?_)
    go_simp
    refine hK _ _ ?_
    clear hK K
    refine wpAnyH_ready (rs := [2]) (by kernel_rfl) (by simp) (AllReadyH.cons rfl (fun K hK => ?_) AllReadyH.nil)
    rw [if_pos (by rfl)]
    refine wp_store_row 29 _ _ rfl w.heap.size (hl H').toArray (by rfl) (by rfl) 29 _ HX73.out (hi28.trans (by simp [hH'])) (by simp [hH', z16_len]) (hl_one H') ?_
    have hne : w.heap.size ≠ n + 1 + 1 := by have := HLT.out; omega
    have hne' : w.heap.size ≠ n + 1 + 1 + 1 := by have := HLT.out; omega
    refine hK.out _ _ ⟨range_of' ((setRow_other _ _ _ _ hne.symm).trans HLA3.out), by have := (setRow_other Y4 w.heap.size (n + 1 + 1 + 1) (hl H').toArray hne'.symm).trans HER3.out; simp only [World.cell?]; rw [show ((Y4.drew).setRow w.heap.size (hl H').toArray).heap[n + 1 + 1 + 1]? = _ from this]; rfl⟩ (fun hHeld => ?_)
    clear hK K
    refine norm_any' (fun K hK => ?_)
    go_simp
    refine hK _ _ ?_
    clear hK K
    refine wpAnyH_take (i := 3) (v := .int .i64 E') rfl (by kernel_rfl) (by kernel_rfl) (by kernel_rfl) (fun _ _ _ h => h) (Or.inl ⟨by rfl, by intro w hs; go_simp⟩) hHeld ?_
    refine norm_any' (fun K hK => ?_)
    go_simp
    refine hK _ _ ?_
    clear hK K
    refine wpAnyH_done (by kernel_rfl) ?_ _
    clear hHeld
    go_wp2_with fail
    refine bodyPost_ret (v := .tuple #[hv H', .int .i64 E']) (res_h (fn := Try.f54) (p := 7) (u := 8) rfl _ _ w.heap.size H' rfl (HR.out) hH') rfl ?_
    exact HF.out
end Go.Proofs.Ytpjoaimbaboleaa
