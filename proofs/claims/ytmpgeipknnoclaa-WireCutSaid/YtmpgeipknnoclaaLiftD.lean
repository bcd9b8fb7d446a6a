/-
  A Data of wire's laws among a law's arguments, opened and shut.
-/
import Derived.Test.YtmpgeipknnoclaaLiftP
import Derived.Lib.SmallJoins
namespace Go.Proofs.Ytmpgeipknnoclaa
open Go.ChangeShapes Go.WideShapes Go.ChangeAt Go.RowKit Go.Joins

theorem cellsData : Try.prog.cellsOf 24 = 4 := by kernel_rfl

section
variable {H : Type} {enc : TypeId × Value → H}

/-- A Data reads as its four values. -/
theorem data_reads (W : World) (sp : Nat → Bool) {a b : Int} {c : Bool} {s : ByteArray} (wa : (Lit.int .u64 a).wf = true) (wb : (Lit.int .i64 b).wf = true) (ws : s.size ≤ maxLen) :
    DataW.Trod enc Try.prog W 0 sp true 24 (.agg #[.int .u64 a, .int .i64 b, .bool c, .string s]) (.agg [.lit (.int .u64 a), .lit (.int .i64 b), .lit (.bool c), .lit (.string s.data.toList)]) [] :=
  shut_agg4 (y0 := (.lit (.int .u64 a), [])) (y1 := (.lit (.int .i64 b), [])) (y2 := (.lit (.bool c), [])) (y3 := (.lit (.string s.data.toList), [])) Try.underlying24 (by kernel_rfl) cellsData
    ⟨1, by simp [DataW.trod, Try.underlying22, wa]⟩ ⟨1, by simp [DataW.trod, Try.underlying3, wb]⟩ ⟨1, by simp [DataW.trod, Try.underlying4]⟩ ⟨1, by simp [DataW.trod, Try.underlying9, ws]⟩
end

end Go.Proofs.Ytmpgeipknnoclaa
