/- vault: Public, Sign, Agree of terms that are there. -/
import Derived.Test.YthhoknkdmmldbaaNu
import Derived.Laws.BytesString
import Derived.Lib.ConvBytes
namespace Go.Proofs.Ythhoknkdmmldbaa
open Go.RowKit Go.Shelf Go.Lib
set_option linter.unusedVariables false

/-- Bytes as they lie. -/
def Sl (w : World) (la : Option Addr) (l : List UInt8) : Prop := ∀ j (h : j < l.length), ∃ b off, la = some ⟨b, off, none⟩ ∧ w.cell? ⟨b, off + j, none⟩ = some (.int .u8 (l[j].toNat : Int))
theorem Sl.bel {w w' : World} {la : Option Addr} {l : List UInt8} (h : Sl w la l) (hb : Below w.heap.size w w') : Sl w' la l := fun j hj => by
  obtain ⟨b, off, e, hc⟩ := h j hj
  exact ⟨b, off, e, cell_bel hc hb⟩
theorem load_bytes {P : Program} {w : World} {la : Addr} {l : List UInt8} (h : Sl w (some la) l) : (loadCells la l.length).run P w = .ok ((l.map (fun b => (b.toNat : Int))).map (Value.int .u8)).toArray w := by
  have hlen : ((l.map (fun b => (b.toNat : Int))).map (Value.int .u8)).length = l.length := by simp
  rw [← hlen]
  refine run_loadCells_list w la _ (fun j v hv => ?_)
  have hj : j < l.length := by have := (List.getElem?_eq_some_iff.1 hv).1; simpa using this
  obtain ⟨b, off, e, hc⟩ := h j hj
  simp only [Option.some.injEq] at e
  subst e
  rw [Addr.add_mid, hc, ← hv]
  simp [hj]
theorem foldl_bytes (l : List UInt8) (s : ByteArray) : (l.map (fun b => (b.toNat : Int))).foldl (fun r n => r.push (UInt8.ofNat n.toNat)) s = ⟨s.data ++ l.toArray⟩ := by
  induction l generalizing s with
  | nil => simp
  | cons x t ih =>
    rw [List.map_cons, List.foldl_cons, ih]
    simp [ByteArray.push]
theorem conv_bytes {w : World} {la : Option Addr} {l : List UInt8} (h : Sl w la l) (c : Nat) : (convert 38 9 (.slice la l.length c)).run Try.prog w = .ok (.string ⟨l.toArray⟩) w := by
  rw [run_convert_bytes_string w 38 9 5 la l.length c Try.underlying38 Try.underlying5 Try.underlying9]
  cases la with
  | none =>
    have : l = [] := by
      cases l with
      | nil => rfl
      | cons x t => obtain ⟨b, off, e, _⟩ := h 0 (by simp); cases e
    subst this
    rfl
  | some a =>
    rw [run_bytesToString w a l.length c (l.map (fun b => (b.toNat : Int))) (load_bytes h), foldl_bytes]
    show Result.ok (Value.string ⟨#[] ++ l.toArray⟩) w = _
    rw [Array.empty_append]
section
variable {n₀ V G c M : Nat} {L : List Tm} {w : World}
theorem Made.fin {w W1 W2 : World} {t : Tm} {i R : Nat} {cs : Array Value} (hb : Below w.heap.size w W1) (hm : Made n₀ W1 W2 V G M L t i) (lV : V < w.heap.size) (lG : G < w.heap.size) (lM : M < w.heap.size)
    (hR : W2.heap[R]? = some (.cells cs 28 (0, 0))) (hge : w.heap.size ≤ R) (ds : Array Value) : Made n₀ w (W2.setRow R ds) V G M L t i := by
  obtain ⟨G', c', L', a1, a2, a3, a4, a5⟩ := hm
  have hs := hb.size
  refine ⟨G', c', L', a1.setBox hR ds, ⟨a2.1.trans hb.os, a2.2.1.trans hb.tape, a2.2.2.1.trans hb.output, by have := a2.2.2.2.1; simp; omega, fun k hk hx => (setRow_other _ _ _ _ (by omega)).trans ((a2.2.2.2.2 k (by omega) hx).trans (hb.block k hk))⟩, ?_, a4, a5⟩
  rcases a3 with e | e
  · exact .inl e
  · exact .inr (by omega)
theorem Made.box {w W1 W2 : World} {t : Tm} {i R : Nat} {o : Obj} (hm : Made n₀ W1 W2 V G M L t i) (hR : W1.heap[R]? = some o) (h1 : R ≠ V) (h2 : R ≠ G) (h3 : R ≠ M) : W2.heap[R]? = some o := by
  obtain ⟨G', c', L', a1, a2, a3, a4, a5⟩ := hm
  exact (a2.2.2.2.2 R (Array.getElem?_eq_some_iff.1 hR).1 (by rintro (e | e | e); exact h1 e; exact h2 e; exact h3 e)).trans hR
theorem tv_pub (k : Nat) : tv ⟨3, k, 0, ⟨#[]⟩, ⟨#[]⟩⟩ = .agg #[.int .i64 3, .int .i64 (k : Int), .int .i64 0, .string ⟨#[]⟩, .string ⟨#[]⟩] := rfl
theorem tv_sig (k : Nat) (S : ByteArray) : tv ⟨5, k, 0, ⟨#[]⟩, S⟩ = .agg #[.int .i64 5, .int .i64 (k : Int), .int .i64 0, .string ⟨#[]⟩, .string S] := rfl
theorem tv_der (k : Nat) (U S : ByteArray) : tv ⟨2, k, 0, U, S⟩ = .agg #[.int .i64 2, .int .i64 (k : Int), .int .i64 0, .string U, .string S] := rfl
theorem tv_agr (a b : Nat) : tv ⟨4, a, (b : Int), ⟨#[]⟩, ⟨#[]⟩⟩ = .agg #[.int .i64 4, .int .i64 (a : Int), .int .i64 (b : Int), .string ⟨#[]⟩, .string ⟨#[]⟩] := rfl
theorem tv_sea (k : Nat) (n : Int) (U S : ByteArray) : tv ⟨6, k, n, U, S⟩ = .agg #[.int .i64 6, .int .i64 (k : Int), .int .i64 n, .string U, .string S] := rfl
set_option maxRecDepth 100000 in
set_option maxHeartbeats 1000000 in
theorem public_yes (h : Va n₀ w V G c M L) (hle : L.length ≤ 1000000) (k : Nat) (hk : k < L.length) : Calls Try.prog 15 #[.pointer (some ⟨V, 0, none⟩), hv (nameL k)] w fun e w' => ∃ i, e = .returned (.tuple #[hv (nameL i), .int .i64 0]) ∧ i ≤ L.length ∧ Made n₀ w w' V G M L ⟨3, k, 0, ⟨#[]⟩, ⟨#[]⟩⟩ i := by
  obtain ⟨b1, b2, b3, b4⟩ := box2 w (nameL k)
  have h1 := h.bel b3
  have HNB : Aside _ := number_yes h1 hle k hk
  have HMD : Aside (∀ W, Below ((w.alloc (.cells (hl (nameL k)).toArray 28)).alloc (.cells (hl z16).toArray 28)).heap.size ((w.alloc (.cells (hl (nameL k)).toArray 28)).alloc (.cells (hl z16).toArray 28)) W → Calls Try.prog 44 #[.pointer (some ⟨V, 0, none⟩), tv ⟨3, k, 0, ⟨#[]⟩, ⟨#[]⟩⟩] W fun e w' => ∃ i, e = .returned (hv (nameL i)) ∧ i ≤ L.length ∧ Made n₀ W w' V G M L ⟨3, k, 0, ⟨#[]⟩, ⟨#[]⟩⟩ i) := fun W hW => made_c n₀ V G c M L ⟨3, k, 0, ⟨#[]⟩, ⟨#[]⟩⟩ W (h1.bel hW) hle (by simp) ⟨by simp, by simp, fun _ => hk, fun h => absurd h (by simp)⟩
  rw [tv_pub] at HMD
  have lV := h.lV
  have lG := h.lG
  have lM := h.lM
  have hs := nameL_len k
  have HFN : Aside (∀ W W2 i, Below ((w.alloc (.cells (hl (nameL k)).toArray 28)).alloc (.cells (hl z16).toArray 28)).heap.size ((w.alloc (.cells (hl (nameL k)).toArray 28)).alloc (.cells (hl z16).toArray 28)) W → Made n₀ W W2 V G M L ⟨3, k, 0, ⟨#[]⟩, ⟨#[]⟩⟩ i → W2.heap[w.heap.size + 1]? = some (.cells (hl z16).toArray 28 (0, 0)) ∧ Made n₀ w (W2.setRow (w.heap.size + 1) (hl (nameL i)).toArray) V G M L ⟨3, k, 0, ⟨#[]⟩, ⟨#[]⟩⟩ i) := by
    intro W W2 i hW hm
    have hz := hm.box (w := w) (heap_bel b2 hW) (by omega) (by omega) (by omega)
    exact ⟨hz, hm.fin (b3.trans (hW.mono b3.size)) lV lG lM hz (by omega) _⟩
  clear h1 h b2 b3 b4
  generalize L.length = N at *
  generalize hPm : (fun W W2 i => Made n₀ W W2 V G M L ⟨3, k, 0, ⟨#[]⟩, ⟨#[]⟩⟩ i) = Pm at *
  have ePm : ∀ W W2 i, Made n₀ W W2 V G M L ⟨3, k, 0, ⟨#[]⟩, ⟨#[]⟩⟩ i = Pm W W2 i := fun W W2 i => by rw [← hPm]
  simp only [ePm] at HMD HFN ⊢
  clear hPm ePm
  go_enter Try.func15, Try.ntmps15
  go_wp2_with (refine ld28 rfl (.tmp 3) rfl w.heap.size rfl (nameL k) b1 hs ?_)
  rw [hz28]
  generalize (w.alloc (.cells (hl (nameL k)).toArray 28)).alloc (.cells (hl z16).toArray 28) = W1 at *
  refine Calls.mono HNB.out ?_
  rintro e W2 ⟨rfl, hb⟩
  have HB : Aside _ := hb
  have HM : Aside _ := HMD.out W2 hb
  clear HNB HMD hb
  go_wp2_with fail
  refine Calls.mono HM.out ?_
  rintro e W3 ⟨i, rfl, hi, hm⟩
  obtain ⟨hz, hm2⟩ := HFN.out W2 W3 i HB.out hm
  have HM2 : Aside _ := hm2
  have HR : Aside _ := setRow_heap W3 (w.heap.size + 1) _ (hl (nameL i)).toArray 28 (0, 0) hz
  have HI : Aside _ := hi
  clear hm hm2 hi HFN HM
  go_wp2_with (refine st28 rfl (.tmp 4) (.tmp 21) rfl (w.heap.size + 1) (nameL i) rfl rfl z16 hz (nameL_len i) rfl ?_)
  refine bodyPost_ret (v := .tuple #[hv (nameL i), .int .i64 0]) (res_h (fn := Try.f15) (p := 4) (u := 5) rfl _ _ (w.heap.size + 1) (nameL i) rfl HR.out (nameL_len i)) rfl ?_
  exact ⟨i, rfl, HI.out, HM2.out⟩
set_option maxRecDepth 100000 in
set_option maxHeartbeats 1000000 in
theorem sign_yes (h : Va n₀ w V G c M L) (hle : L.length ≤ 1000000) (k : Nat) (hk : k < L.length) (o : Option Addr) (cp : Nat) (l : List UInt8) (hS : Sl w o l) : Calls Try.prog 17 #[.pointer (some ⟨V, 0, none⟩), hv (nameL k), .slice o l.length cp] w fun e w' => ∃ i, e = .returned (.tuple #[hv (nameL i), .int .i64 0]) ∧ i ≤ L.length ∧ Made n₀ w w' V G M L ⟨5, k, 0, ⟨#[]⟩, ⟨l.toArray⟩⟩ i := by
  obtain ⟨b1, b2, b3, b4⟩ := box2 w (nameL k)
  have h1 := h.bel b3
  have HNB : Aside _ := number_yes h1 hle k hk
  have HCV : Aside (∀ W, Below ((w.alloc (.cells (hl (nameL k)).toArray 28)).alloc (.cells (hl z16).toArray 28)).heap.size ((w.alloc (.cells (hl (nameL k)).toArray 28)).alloc (.cells (hl z16).toArray 28)) W → (convert 38 9 (.slice o l.length cp)).run Try.prog W = .ok (.string ⟨l.toArray⟩) W) := fun W hW => conv_bytes ((hS.bel b3).bel hW) cp
  have HMD : Aside (∀ W, Below ((w.alloc (.cells (hl (nameL k)).toArray 28)).alloc (.cells (hl z16).toArray 28)).heap.size ((w.alloc (.cells (hl (nameL k)).toArray 28)).alloc (.cells (hl z16).toArray 28)) W → Calls Try.prog 44 #[.pointer (some ⟨V, 0, none⟩), tv ⟨5, k, 0, ⟨#[]⟩, ⟨l.toArray⟩⟩] W fun e w' => ∃ i, e = .returned (hv (nameL i)) ∧ i ≤ L.length ∧ Made n₀ W w' V G M L ⟨5, k, 0, ⟨#[]⟩, ⟨l.toArray⟩⟩ i) := fun W hW => made_c n₀ V G c M L ⟨5, k, 0, ⟨#[]⟩, ⟨l.toArray⟩⟩ W (h1.bel hW) hle (by simp) ⟨by simp, by simp, fun _ => hk, fun h => absurd h (by simp)⟩
  rw [tv_sig] at HMD
  have lV := h.lV
  have lG := h.lG
  have lM := h.lM
  have hs := nameL_len k
  have HFN : Aside (∀ W W2 i, Below ((w.alloc (.cells (hl (nameL k)).toArray 28)).alloc (.cells (hl z16).toArray 28)).heap.size ((w.alloc (.cells (hl (nameL k)).toArray 28)).alloc (.cells (hl z16).toArray 28)) W → Made n₀ W W2 V G M L ⟨5, k, 0, ⟨#[]⟩, ⟨l.toArray⟩⟩ i → W2.heap[w.heap.size + 1]? = some (.cells (hl z16).toArray 28 (0, 0)) ∧ Made n₀ w (W2.setRow (w.heap.size + 1) (hl (nameL i)).toArray) V G M L ⟨5, k, 0, ⟨#[]⟩, ⟨l.toArray⟩⟩ i) := by
    intro W W2 i hW hm
    have hz := hm.box (w := w) (heap_bel b2 hW) (by omega) (by omega) (by omega)
    exact ⟨hz, hm.fin (b3.trans (hW.mono b3.size)) lV lG lM hz (by omega) _⟩
  clear h1 h b2 b3 b4
  generalize L.length = N at *
  generalize hPm : (fun W W2 i => Made n₀ W W2 V G M L ⟨5, k, 0, ⟨#[]⟩, ⟨l.toArray⟩⟩ i) = Pm at *
  have ePm : ∀ W W2 i, Made n₀ W W2 V G M L ⟨5, k, 0, ⟨#[]⟩, ⟨l.toArray⟩⟩ i = Pm W W2 i := fun W W2 i => by rw [← hPm]
  simp only [ePm] at HMD HFN ⊢
  clear hPm ePm
  go_enter Try.func17, Try.ntmps17
  go_wp2_with (refine ld28 rfl (.tmp 4) rfl w.heap.size rfl (nameL k) b1 hs ?_)
  rw [hz28]
  generalize (w.alloc (.cells (hl (nameL k)).toArray 28)).alloc (.cells (hl z16).toArray 28) = W1 at *
  refine Calls.mono HNB.out ?_
  rintro e W2 ⟨rfl, hb⟩
  have HB : Aside _ := hb
  have HM : Aside _ := HMD.out W2 hb
  have hcv := HCV.out W2 hb
  clear HCV
  clear HNB HMD hb
  go_wp2_with fail
  refine Calls.mono HM.out ?_
  rintro e W3 ⟨i, rfl, hi, hm⟩
  obtain ⟨hz, hm2⟩ := HFN.out W2 W3 i HB.out hm
  have HM2 : Aside _ := hm2
  have HR : Aside _ := setRow_heap W3 (w.heap.size + 1) _ (hl (nameL i)).toArray 28 (0, 0) hz
  have HI : Aside _ := hi
  clear hm hm2 hi HFN HM
  go_wp2_with (refine st28 rfl (.tmp 6) (.tmp 25) rfl (w.heap.size + 1) (nameL i) rfl rfl z16 hz (nameL_len i) rfl ?_)
  refine bodyPost_ret (v := .tuple #[hv (nameL i), .int .i64 0]) (res_h (fn := Try.f17) (p := 6) (u := 7) rfl _ _ (w.heap.size + 1) (nameL i) rfl HR.out (nameL_len i)) rfl ?_
  exact ⟨i, rfl, HI.out, HM2.out⟩
theorem box3b (w : World) (H J : List UInt8) : Below w.heap.size w (((w.alloc (.cells (hl H).toArray 28)).alloc (.cells (hl J).toArray 28)).alloc (.cells (hl z16).toArray 28)) := (box3 w H J).2.2.2.1
set_option maxRecDepth 100000 in
set_option maxHeartbeats 1000000 in
theorem agree_yes (h : Va n₀ w V G c M L) (hle : L.length ≤ 1000000) (k j : Nat) (hk : k < L.length) (s : Tm) (hj : L[j]? = some s) (h3 : s.kd = 3) (a b : Nat) (hab : (a = k ∧ b = s.of' ∧ k ≤ s.of') ∨ (a = s.of' ∧ b = k ∧ s.of' < k)) :
    Calls Try.prog 16 #[.pointer (some ⟨V, 0, none⟩), hv (nameL k), hv (nameL j)] w fun e w' => ∃ i, e = .returned (.tuple #[hv (nameL i), .int .i64 0]) ∧ i ≤ L.length ∧ Made n₀ w w' V G M L ⟨4, a, (b : Int), ⟨#[]⟩, ⟨#[]⟩⟩ i := by
  obtain ⟨b1, b1', b2, b3, b4⟩ := box3 w (nameL k) (nameL j)
  have h1 := h.bel b3
  have hj0 : 0 < j := by
    rcases Nat.eq_zero_or_pos j with e | e
    · subst e
      obtain ⟨r, hr⟩ := h.root
      rw [hr] at hj
      simp at hj
      subst hj
      simp at h3
    · exact e
  have hjl := (List.getElem?_eq_some_iff.1 hj).1
  have hso : s.of' < L.length := by have := (h.good j s hj hj0).2.2.1 (by omega); omega
  have hfit : Fit ⟨4, a, (b : Int), ⟨#[]⟩, ⟨#[]⟩⟩ L.length := ⟨by simp, by simp, fun _ => (by show a < _; omega), fun _ => (by show (0 : Int) ≤ (b : Int) ∧ (b : Int) < _; omega)⟩
  have HNB : Aside _ := number_yes h1 hle k hk
  have HSO : Aside (∀ W, Below (((w.alloc (.cells (hl (nameL k)).toArray 28)).alloc (.cells (hl (nameL j)).toArray 28)).alloc (.cells (hl z16).toArray 28)).heap.size (((w.alloc (.cells (hl (nameL k)).toArray 28)).alloc (.cells (hl (nameL j)).toArray 28)).alloc (.cells (hl z16).toArray 28)) W → W.heap[w.heap.size + 1]? = some (.cells (hl (nameL j)).toArray 28 (0, 0)) ∧ Calls Try.prog 46 #[.pointer (some ⟨V, 0, none⟩), hv (nameL j)] W fun e w' => e = .returned (.tuple #[.int .i64 (s.of' : Int), .int .i64 0]) ∧ Below W.heap.size W w') := fun W hW => ⟨heap_bel b1' hW, secretOf_yes (h1.bel hW) hle j s hj h3⟩
  have HMD : Aside (∀ W, Below (((w.alloc (.cells (hl (nameL k)).toArray 28)).alloc (.cells (hl (nameL j)).toArray 28)).alloc (.cells (hl z16).toArray 28)).heap.size (((w.alloc (.cells (hl (nameL k)).toArray 28)).alloc (.cells (hl (nameL j)).toArray 28)).alloc (.cells (hl z16).toArray 28)) W → Calls Try.prog 44 #[.pointer (some ⟨V, 0, none⟩), tv ⟨4, a, (b : Int), ⟨#[]⟩, ⟨#[]⟩⟩] W fun e w' => ∃ i, e = .returned (hv (nameL i)) ∧ i ≤ L.length ∧ Made n₀ W w' V G M L ⟨4, a, (b : Int), ⟨#[]⟩, ⟨#[]⟩⟩ i) := fun W hW => made_c n₀ V G c M L _ W (h1.bel hW) hle (by simp) hfit
  rw [tv_agr] at HMD
  have lV := h.lV
  have lG := h.lG
  have lM := h.lM
  have hs := nameL_len k
  have HFN : Aside (∀ W W2 i, Below (((w.alloc (.cells (hl (nameL k)).toArray 28)).alloc (.cells (hl (nameL j)).toArray 28)).alloc (.cells (hl z16).toArray 28)).heap.size (((w.alloc (.cells (hl (nameL k)).toArray 28)).alloc (.cells (hl (nameL j)).toArray 28)).alloc (.cells (hl z16).toArray 28)) W → Made n₀ W W2 V G M L ⟨4, a, (b : Int), ⟨#[]⟩, ⟨#[]⟩⟩ i → W2.heap[w.heap.size + 1 + 1]? = some (.cells (hl z16).toArray 28 (0, 0)) ∧ Made n₀ w (W2.setRow (w.heap.size + 1 + 1) (hl (nameL i)).toArray) V G M L ⟨4, a, (b : Int), ⟨#[]⟩, ⟨#[]⟩⟩ i) := by
    intro W W2 i hW hm
    have hz := hm.box (w := w) (heap_bel b2 hW) (by omega) (by omega) (by omega)
    exact ⟨hz, hm.fin (b3.trans (hW.mono b3.size)) lV lG lM hz (by omega) _⟩
  clear h1 h b1' b2 b3 b4 hj h3 hj0 hjl
  have mm : min (k : Int) (s.of' : Int) = (a : Int) ∧ max (k : Int) (s.of' : Int) = (b : Int) := by
    rcases hab with ⟨rfl, rfl, h⟩ | ⟨rfl, rfl, h⟩
    · exact ⟨by omega, by omega⟩
    · exact ⟨by omega, by omega⟩
  obtain ⟨m1, m2⟩ := mm
  have cs : ((k : Int) ≤ (s.of' : Int) ∧ (a : Int) = (k : Int) ∧ (b : Int) = (s.of' : Int)) ∨ (¬ ((k : Int) ≤ (s.of' : Int)) ∧ (s.of' : Int) < (k : Int) ∧ (a : Int) = (s.of' : Int) ∧ (b : Int) = (k : Int)) := by omega
  clear hab hfit hk hso
  generalize L.length = N at *
  generalize hPm : (fun W W2 i => Made n₀ W W2 V G M L ⟨4, a, (b : Int), ⟨#[]⟩, ⟨#[]⟩⟩ i) = Pm at *
  have ePm : ∀ W W2 i, Made n₀ W W2 V G M L ⟨4, a, (b : Int), ⟨#[]⟩, ⟨#[]⟩⟩ i = Pm W W2 i := fun W W2 i => by rw [← hPm]
  simp only [ePm] at HMD HFN ⊢
  clear hPm ePm
  generalize (s.of' : Int) = oi at *
  go_enter Try.func16, Try.ntmps16
  go_wp2_with (refine ld28 rfl (.tmp 4) rfl w.heap.size rfl (nameL k) b1 hs ?_)
  rw [hz28]
  generalize ((w.alloc (.cells (hl (nameL k)).toArray 28)).alloc (.cells (hl (nameL j)).toArray 28)).alloc (.cells (hl z16).toArray 28) = W1 at *
  refine Calls.mono HNB.out ?_
  rintro e W2 ⟨rfl, hb⟩
  have HB : Aside _ := hb
  obtain ⟨hbx, hso⟩ := HSO.out W2 hb
  have HS2 : Aside _ := hso
  clear HNB hb HSO hso
  go_wp2_with (refine ld28 rfl (.tmp 5) rfl (w.heap.size + 1) rfl (nameL j) hbx (nameL_len j) ?_)
  refine Calls.mono HS2.out ?_
  rintro e W3 ⟨rfl, hb⟩
  have HB2 : Aside _ := HB.out.trans (hb.mono HB.out.size)
  have HM : Aside _ := HMD.out W3 HB2.out
  clear HS2 HMD hb HB hbx
  generalize (k : Int) = ki at *
  generalize (a : Int) = ai at *
  generalize (b : Int) = bi at *
  rcases cs with ⟨c1, rfl, rfl⟩ | ⟨c1, c2, rfl, rfl⟩
  all_goals
    go_wp2_with fail
    refine Calls.mono HM.out ?_
    rintro e W4 ⟨i, rfl, hi, hm⟩
    obtain ⟨hz, hm2⟩ := HFN.out W3 W4 i HB2.out hm
    have HM2 : Aside _ := hm2
    have HR : Aside _ := setRow_heap W4 (w.heap.size + 1 + 1) _ (hl (nameL i)).toArray 28 (0, 0) hz
    have HI : Aside _ := hi
    clear hm hm2 hi HFN HM
    go_wp2_with (refine st28 rfl (.tmp 6) (.tmp 39) rfl (w.heap.size + 1 + 1) (nameL i) rfl rfl z16 hz (nameL_len i) rfl ?_)
    refine bodyPost_ret (v := .tuple #[hv (nameL i), .int .i64 0]) (res_h (fn := Try.f16) (p := 6) (u := 7) rfl _ _ (w.heap.size + 1 + 1) (nameL i) rfl HR.out (nameL_len i)) rfl ?_
    exact ⟨i, rfl, HI.out, HM2.out⟩
end
end Go.Proofs.Ythhoknkdmmldbaa
