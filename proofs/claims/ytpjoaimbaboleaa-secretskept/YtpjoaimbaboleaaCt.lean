/- vault: Public, Sign, Agree of terms that are there. -/
import Derived.Test.YtpjoaimbaboleaaNu
import Derived.Laws.BytesString
import Derived.Lib.ConvBytes
namespace Go.Proofs.Ytpjoaimbaboleaa
open Go.RowKit Go.Shelf Go.Lib
set_option linter.unusedVariables false

/-- Bytes as they lie. -/
def Sl (w : World) (la : Option Addr) (l : List UInt8) : Prop := ∀ j (h : j < l.length), ∃ b off, la = some ⟨b, off, none⟩ ∧ w.cell? ⟨b, off + j, none⟩ = some (.int .u8 (l[j].toNat : Int))
theorem Sl.bel {w w' : World} {la : Option Addr} {l : List UInt8} (h : Sl w la l) (hb : Below w.heap.size w w') : Sl w' la l := fun j hj => by
  obtain ⟨b, off, e, hc⟩ := h j hj
  exact ⟨b, off, e, cell_bel hc hb⟩
theorem load_bytes {P : Program} {w : World} {la : Addr} {l : List UInt8} (h : Sl w (some la) l) : (loadCells la l.length).run P w = .ok ((l.map (fun b => (b.toNat : Int))).map (Value.int .u8)).toArray w := by
  have hlen : ((l.map (fun b => (b.toNat : Int))).map (Value.int .u8)).length = l.length := by simp
  rw [← hlen]
  refine run_loadCells_list w la _ (fun j v hv => ?_)
  have hj : j < l.length := by have := (List.getElem?_eq_some_iff.1 hv).1; simpa using this
  obtain ⟨b, off, e, hc⟩ := h j hj
  simp only [Option.some.injEq] at e
  subst e
  rw [Addr.add_mid, hc, ← hv]
  simp [hj]
theorem foldl_bytes (l : List UInt8) (s : ByteArray) : (l.map (fun b => (b.toNat : Int))).foldl (fun r n => r.push (UInt8.ofNat n.toNat)) s = ⟨s.data ++ l.toArray⟩ := by
  induction l generalizing s with
  | nil => simp
  | cons x t ih =>
    rw [List.map_cons, List.foldl_cons, ih]
    simp [ByteArray.push]
theorem conv_bytes {w : World} {la : Option Addr} {l : List UInt8} (h : Sl w la l) (c : Nat) : (convert 33 9 (.slice la l.length c)).run Try.prog w = .ok (.string ⟨l.toArray⟩) w := by
  rw [run_convert_bytes_string w 33 9 5 la l.length c Try.underlying33 Try.underlying5 Try.underlying9]
  cases la with
  | none =>
    have : l = [] := by
      cases l with
      | nil => rfl
      | cons x t => obtain ⟨b, off, e, _⟩ := h 0 (by simp); cases e
    subst this
    rfl
  | some a =>
    rw [run_bytesToString w a l.length c (l.map (fun b => (b.toNat : Int))) (load_bytes h), foldl_bytes]
    show Result.ok (Value.string ⟨#[] ++ l.toArray⟩) w = _
    rw [Array.empty_append]
section
variable {n₀ V G c M : Nat} {L : List Tm} {w : World}
theorem Made.fin {w W1 W2 : World} {t : Tm} {i R : Nat} {cs : Array Value} (hb : Below w.heap.size w W1) (hm : Made n₀ W1 W2 V G M L t i) (lV : V < w.heap.size) (lG : G < w.heap.size) (lM : M < w.heap.size)
    (hR : W2.heap[R]? = some (.cells cs 29 (0, 0))) (hge : w.heap.size ≤ R) (ds : Array Value) : Made n₀ w (W2.setRow R ds) V G M L t i := by
  obtain ⟨G', c', L', a1, a2, a3, a4, a5⟩ := hm
  have hs := hb.size
  refine ⟨G', c', L', a1.setBox hR ds, ⟨a2.1.trans hb.os, a2.2.1.trans hb.tape, a2.2.2.1.trans hb.output, by have := a2.2.2.2.1; simp; omega, fun k hk hx => (setRow_other _ _ _ _ (by omega)).trans ((a2.2.2.2.2 k (by omega) hx).trans (hb.block k hk))⟩, ?_, a4, a5⟩
  rcases a3 with e | e
  · exact .inl e
  · exact .inr (by omega)
theorem Made.box {w W1 W2 : World} {t : Tm} {i R : Nat} {o : Obj} (hm : Made n₀ W1 W2 V G M L t i) (hR : W1.heap[R]? = some o) (h1 : R ≠ V) (h2 : R ≠ G) (h3 : R ≠ M) : W2.heap[R]? = some o := by
  obtain ⟨G', c', L', a1, a2, a3, a4, a5⟩ := hm
  exact (a2.2.2.2.2 R (Array.getElem?_eq_some_iff.1 hR).1 (by rintro (e | e | e); exact h1 e; exact h2 e; exact h3 e)).trans hR
theorem tv_pub (k : Nat) : tv ⟨3, k, 0, ⟨#[]⟩, ⟨#[]⟩⟩ = .agg #[.int .i64 3, .int .i64 (k : Int), .int .i64 0, .string ⟨#[]⟩, .string ⟨#[]⟩] := rfl
theorem tv_sig (k : Nat) (S : ByteArray) : tv ⟨5, k, 0, ⟨#[]⟩, S⟩ = .agg #[.int .i64 5, .int .i64 (k : Int), .int .i64 0, .string ⟨#[]⟩, .string S] := rfl
theorem tv_der (k : Nat) (U S : ByteArray) : tv ⟨2, k, 0, U, S⟩ = .agg #[.int .i64 2, .int .i64 (k : Int), .int .i64 0, .string U, .string S] := rfl
theorem tv_agr (a b : Nat) : tv ⟨4, a, (b : Int), ⟨#[]⟩, ⟨#[]⟩⟩ = .agg #[.int .i64 4, .int .i64 (a : Int), .int .i64 (b : Int), .string ⟨#[]⟩, .string ⟨#[]⟩] := rfl
theorem tv_sea (k : Nat) (n : Int) (U S : ByteArray) : tv ⟨6, k, n, U, S⟩ = .agg #[.int .i64 6, .int .i64 (k : Int), .int .i64 n, .string U, .string S] := rfl
theorem box3b (w : World) (H J : List UInt8) : Below w.heap.size w (((w.alloc (.cells (hl H).toArray 29)).alloc (.cells (hl J).toArray 29)).alloc (.cells (hl z16).toArray 29)) := (box3 w H J).2.2.2.1
end
end Go.Proofs.Ytpjoaimbaboleaa
