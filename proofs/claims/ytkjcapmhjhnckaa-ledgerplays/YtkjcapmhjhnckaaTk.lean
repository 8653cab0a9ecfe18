/- ledger: take, trim. -/
import Derived.Test.YtkjcapmhjhnckaaLg
namespace Go.Proofs.Ytkjcapmhjhnckaa
open Go.RowKit Go.Maps
set_option linter.unusedVariables false
set_option maxRecDepth 100000

/-- A ledger with a packet taken off its way. -/
def Ls.take (L : Ls) (p : Pk) : Ls := { L with O := un (fun y => decide (y.n = p.n)) L.O, z := L.z - p.s, c := L.c - (if p.e = true then 1 else 0) }
set_option maxHeartbeats 1000000 in
theorem take_c {W : World} {A : Ad} {L : Ls} (h : Lg W A L) (p : Pk) (hp : p.ok) (hz0 : 0 ≤ L.z) (hz1 : L.z ≤ 1000000000000000000) (hc0 : 0 ≤ L.c) (hc1 : L.c ≤ 1000000000000000000) :
    Calls Try.prog 45 #[.pointer (some ⟨A.b, 0, none⟩), p.v] W fun e w' => e = .returned (.tuple #[]) ∧ Lg w' A (L.take p) ∧ Stp A A W w' := by
  obtain ⟨n, a, s, e⟩ := p
  obtain ⟨n0, n1, a0, a1, s0, s1⟩ := hp
  simp only at n0 n1 a0 a1 s0 s1
  have HB0 : Aside _ := bel1 W (.cells #[.int .i64 n, .int .i64 a, .int .i64 s, .bool e] 29)
  have HX0 : Aside _ := heap_alloc_new W (.cells #[.int .i64 n, .int .i64 a, .int .i64 s, .bool e] 29)
  have H1 : Aside (Lg (W.alloc (.cells #[.int .i64 n, .int .i64 a, .int .i64 s, .bool e] 29)) A L) := h.bel HB0.out
  have HLT : Aside (∀ k, A.own k → k < W.heap.size) := fun k hk => h.lt hk
  have hbl := h.blk
  clear h
  go_enter Try.func45, Try.ntmps45
  go_wp2_with fail
  generalize hB : W.heap.size = B at *
  generalize W.alloc (.cells #[.int .i64 n, .int .i64 a, .int .i64 s, .bool e] 29) = W0 at *
  have HX0' : Aside (W0.drew.heap[B]? = some (.cells #[.int .i64 n, .int .i64 a, .int .i64 s, .bool e] 29 (0, 0))) := HX0.out
  have H1' : Aside (Lg W0.drew A L) := Lg.bel H1.out ((Below.refl _ W0).drew)
  obtain ⟨W1, hdel, hm1, hc1'⟩ := H1'.out.mp.drop (p := ⟨n, a, s, e⟩) ⟨n0, n1, a0, a1, s0, s1⟩ 0
  obtain ⟨h2, hs2⟩ := H1'.out.map hm1 hc1' (ns_un _ _)
  have HX2 : Aside (W1.heap[B]? = some (.cells #[.int .i64 n, .int .i64 a, .int .i64 s, .bool e] 29 (0, 0))) := (hs2.keep HX0'.out (fun ho => by have := HLT.out _ ho; omega)).1
  have H2 : Aside _ := h2
  have HS2 : Aside (Stp A A W W1) := (Stp.of_below (by rw [hB]; exact HB0.out.trans ((Below.refl _ W0).drew))).trans hs2
  have c0 : W0.cell? ⟨A.b, 0, none⟩ = some (.map (some A.mb)) := H1.out.c0
  have b0 : W0.cell? ⟨B, 0, none⟩ = some (.int .i64 n) := by have := HX0.out; simp [World.cell?, this]
  clear hm1 hc1' h2 hs2
  go_region
  clear hdel c0 b0 H1 H1' HX0 HX0' HB0
  have c5 : W1.cell? ⟨A.b, 5, none⟩ = some (.int .i64 L.z) := H2.out.c5
  have f5 : W1.frozen? ⟨A.b, 5, none⟩ = false := H2.out.fz 5
  have b2 : W1.cell? ⟨B, 2, none⟩ = some (.int .i64 s) := by have := HX2.out; simp [World.cell?, this]
  obtain ⟨h3, hs3⟩ := H2.out.set (L' := { L with O := un (fun y => decide (y.n = n)) L.O, z := L.z - s }) 5 (.int .i64 (L.z - s)) (by simp [Ls.cs]) rfl rfl
  have HX3 : Aside (((W1.setCell ⟨A.b, 5, none⟩ (.int .i64 (L.z - s))).drew).heap[B]? = some (.cells #[.int .i64 n, .int .i64 a, .int .i64 s, .bool e] 29 (0, 0))) := (hs3.keep HX2.out (fun ho => by have := HLT.out _ ho; omega)).1
  have H3 : Aside (Lg (W1.setCell ⟨A.b, 5, none⟩ (.int .i64 (L.z - s))).drew A { L with O := un (fun y => decide (y.n = n)) L.O, z := L.z - s }) := h3.bel ((Below.refl _ _).drew)
  have HS3 : Aside (Stp A A W ((W1.setCell ⟨A.b, 5, none⟩ (.int .i64 (L.z - s))).drew)) := (HS2.out.trans hs3).below ((Below.refl _ _).drew)
  have i1 : IntKind.i64.wrap (L.z - s) = L.z - s := wrp _ (by omega) (by omega)
  clear h3 hs3
  go_wp2_with fail
  go_region
  clear c5 f5 b2 H2 HX2 HS2
  generalize (W1.setCell ⟨A.b, 5, none⟩ (.int .i64 (L.z - s))).drew = W3 at *
  have b3 : W3.cell? ⟨B, 3, none⟩ = some (.bool e) := by have := HX3.out; simp [World.cell?, this]
  have c6 : W3.cell? ⟨A.b, 6, none⟩ = some (.int .i64 L.c) := H3.out.c6
  have f6 : W3.frozen? ⟨A.b, 6, none⟩ = false := H3.out.fz 6
  cases e with
  | false =>
    go_wp2
    go_end0
    refine ⟨rfl, ?_, HS3.out⟩
    have := H3.out
    simpa [Ls.take] using this
  | true =>
    obtain ⟨h4, hs4⟩ := H3.out.set (L' := Ls.take L ⟨n, a, s, true⟩) 6 (.int .i64 (L.c - 1)) (by simp [Ls.cs, Ls.take]) rfl rfl
    have H4 : Aside _ := h4
    have HS4 : Aside _ := HS3.out.trans hs4
    have i2 : IntKind.i64.wrap (L.c - 1) = L.c - 1 := wrp _ (by omega) (by omega)
    clear h4 hs4
    go_wp2
    go_end0
    exact ⟨rfl, H4.out, HS4.out⟩
end Go.Proofs.Ytkjcapmhjhnckaa
