/- A message's cells, one of them turned. -/
import Derived.Test.YtcchlicokglmnaaDh
import Derived.Test.YtcchlicokglmnaaMg
namespace Go.Proofs.Ytcchlicokglmnaa
open Go.ChangeShapes Go.WideShapes Go.ChangeAt Go.RowKit Go.Lib
set_option linter.unusedVariables false

theorem set_mid (pre post : List Value) (x y : Value) (j : Nat) (h : pre.length = j) : (pre ++ ([x] ++ post)).toArray.setIfInBounds j y = (pre ++ ([y] ++ post)).toArray := by
  subst h
  simp
theorem wrC_mid (pre post : List Value) (a T : List UInt8) (j : Nat) (h : pre.length = j) (hl : T.length = a.length) : wrC (pre ++ (bc a ++ post)).toArray j T = (pre ++ (bc T ++ post)).toArray := by
  subst h
  unfold wrC
  congr 1
  have e1 : (pre ++ (bc a ++ post)).take pre.length = pre := List.take_left
  have e2 : (pre ++ (bc a ++ post)).drop (pre.length + (bc T).length) = post := by
    rw [← List.append_assoc]
    have : pre.length + (bc T).length = (pre ++ bc a).length := by rw [List.length_append, bc_length, bc_length, hl]
    rw [this]
    exact List.drop_left
  show (pre ++ (bc a ++ post)).take pre.length ++ bc T ++ (pre ++ (bc a ++ post)).drop (pre.length + (bc T).length) = _
  rw [e1, e2, List.append_assoc]
section
variable {m : Msg}
theorem Msg.random' (h : m.len) (T : List UInt8) (hT : T.length = 16) : wrC m.cells.toArray 1 T = ({ m with random := T } : Msg).cells.toArray :=
  wrC_mid [.int .i64 m.kind] _ m.random T 1 rfl (by rw [hT, h.r])
theorem Msg.share' (h : m.len) (T : List UInt8) (hT : T.length = 16) : wrC m.cells.toArray 17 T = ({ m with share := T } : Msg).cells.toArray := by
  have := wrC_mid ([.int .i64 m.kind] ++ bc m.random) ([.string m.name, .slice m.po m.protos.length m.pc, .slice m.ao m.params.length m.ac, .slice m.to m.ticket.length m.tc] ++ (bc m.binder ++ ([.bool m.early, .bool m.again] ++ (bc m.mark ++ [.int .i64 m.life])))) m.share T 17 (by simp [bc_length, h.r]) (by rw [hT, h.s])
  simpa [Msg.cells] using this
theorem Msg.binder' (h : m.len) (T : List UInt8) (hT : T.length = 16) : wrC m.cells.toArray 37 T = ({ m with binder := T } : Msg).cells.toArray := by
  have := wrC_mid ([.int .i64 m.kind] ++ (bc m.random ++ (bc m.share ++ [.string m.name, .slice m.po m.protos.length m.pc, .slice m.ao m.params.length m.ac, .slice m.to m.ticket.length m.tc]))) ([.bool m.early, .bool m.again] ++ (bc m.mark ++ [.int .i64 m.life])) m.binder T 37 (by simp [bc_length, h.r, h.s]) (by rw [hT, h.b])
  simpa [Msg.cells] using this
theorem Msg.mark' (h : m.len) (T : List UInt8) (hT : T.length = 16) : wrC m.cells.toArray 55 T = ({ m with mark := T } : Msg).cells.toArray := by
  have := wrC_mid ([.int .i64 m.kind] ++ (bc m.random ++ (bc m.share ++ ([.string m.name, .slice m.po m.protos.length m.pc, .slice m.ao m.params.length m.ac, .slice m.to m.ticket.length m.tc] ++ (bc m.binder ++ [.bool m.early, .bool m.again]))))) [.int .i64 m.life] m.mark T 55 (by simp [bc_length, h.r, h.s, h.b]) (by rw [hT, h.k])
  simpa [Msg.cells] using this
theorem Msg.name' (h : m.len) (S : ByteArray) : m.cells.toArray.setIfInBounds 33 (.string S) = ({ m with name := S } : Msg).cells.toArray := by
  have := set_mid ([.int .i64 m.kind] ++ (bc m.random ++ bc m.share)) ([.slice m.po m.protos.length m.pc, .slice m.ao m.params.length m.ac, .slice m.to m.ticket.length m.tc] ++ (bc m.binder ++ ([.bool m.early, .bool m.again] ++ (bc m.mark ++ [.int .i64 m.life])))) (.string m.name) (.string S) 33 (by simp [bc_length, h.r, h.s])
  simpa [Msg.cells] using this
theorem Msg.protos' (h : m.len) (o : Option Addr) (N : List ByteArray) (c : Nat) : m.cells.toArray.setIfInBounds 34 (.slice o N.length c) = ({ m with po := o, protos := N, pc := c } : Msg).cells.toArray := by
  have := set_mid ([.int .i64 m.kind] ++ (bc m.random ++ (bc m.share ++ [.string m.name]))) ([.slice m.ao m.params.length m.ac, .slice m.to m.ticket.length m.tc] ++ (bc m.binder ++ ([.bool m.early, .bool m.again] ++ (bc m.mark ++ [.int .i64 m.life])))) (.slice m.po m.protos.length m.pc) (.slice o N.length c) 34 (by simp [bc_length, h.r, h.s])
  simpa [Msg.cells] using this
theorem Msg.params' (h : m.len) (o : Option Addr) (N : List UInt8) (c : Nat) : m.cells.toArray.setIfInBounds 35 (.slice o N.length c) = ({ m with ao := o, params := N, ac := c } : Msg).cells.toArray := by
  have := set_mid ([.int .i64 m.kind] ++ (bc m.random ++ (bc m.share ++ [.string m.name, .slice m.po m.protos.length m.pc]))) ([.slice m.to m.ticket.length m.tc] ++ (bc m.binder ++ ([.bool m.early, .bool m.again] ++ (bc m.mark ++ [.int .i64 m.life])))) (.slice m.ao m.params.length m.ac) (.slice o N.length c) 35 (by simp [bc_length, h.r, h.s])
  simpa [Msg.cells] using this
theorem Msg.ticket' (h : m.len) (o : Option Addr) (N : List UInt8) (c : Nat) : m.cells.toArray.setIfInBounds 36 (.slice o N.length c) = ({ m with to := o, ticket := N, tc := c } : Msg).cells.toArray := by
  have := set_mid ([.int .i64 m.kind] ++ (bc m.random ++ (bc m.share ++ [.string m.name, .slice m.po m.protos.length m.pc, .slice m.ao m.params.length m.ac]))) (bc m.binder ++ ([.bool m.early, .bool m.again] ++ (bc m.mark ++ [.int .i64 m.life]))) (.slice m.to m.ticket.length m.tc) (.slice o N.length c) 36 (by simp [bc_length, h.r, h.s])
  simpa [Msg.cells] using this
theorem Msg.early' (h : m.len) (b : Bool) : m.cells.toArray.setIfInBounds 53 (.bool b) = ({ m with early := b } : Msg).cells.toArray := by
  have := set_mid ([.int .i64 m.kind] ++ (bc m.random ++ (bc m.share ++ ([.string m.name, .slice m.po m.protos.length m.pc, .slice m.ao m.params.length m.ac, .slice m.to m.ticket.length m.tc] ++ bc m.binder)))) ([.bool m.again] ++ (bc m.mark ++ [.int .i64 m.life])) (.bool m.early) (.bool b) 53 (by simp [bc_length, h.r, h.s, h.b])
  simpa [Msg.cells] using this
theorem Msg.again' (h : m.len) (b : Bool) : m.cells.toArray.setIfInBounds 54 (.bool b) = ({ m with again := b } : Msg).cells.toArray := by
  have := set_mid ([.int .i64 m.kind] ++ (bc m.random ++ (bc m.share ++ ([.string m.name, .slice m.po m.protos.length m.pc, .slice m.ao m.params.length m.ac, .slice m.to m.ticket.length m.tc] ++ (bc m.binder ++ [.bool m.early]))))) (bc m.mark ++ [.int .i64 m.life]) (.bool m.again) (.bool b) 54 (by simp [bc_length, h.r, h.s, h.b])
  simpa [Msg.cells] using this
theorem Msg.life' (h : m.len) (x : Int) : m.cells.toArray.setIfInBounds 71 (.int .i64 x) = ({ m with life := x } : Msg).cells.toArray := by
  have := set_mid ([.int .i64 m.kind] ++ (bc m.random ++ (bc m.share ++ ([.string m.name, .slice m.po m.protos.length m.pc, .slice m.ao m.params.length m.ac, .slice m.to m.ticket.length m.tc] ++ (bc m.binder ++ ([.bool m.early, .bool m.again] ++ bc m.mark)))))) [] (.int .i64 m.life) (.int .i64 x) 71 (by simp [bc_length, h.r, h.s, h.b, h.k])
  simpa [Msg.cells] using this
end
end Go.Proofs.Ytcchlicokglmnaa
