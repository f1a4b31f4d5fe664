/-
  CLOSED FACTS on the methods that errors.As and errors.Is call through an interface. No conditions.
-/
import Derived.Test.YtheiljdilbobdaaDoorAsFacts
namespace Go.Proofs.YtheiljdilbobdaaDoor
open Go.RowKit Go.Extern.Stop Go.Stop Go.Extern
theorem mKind (h : Value) (w : World) : (Go.method 231 87 (.agg #[h]) "Kind").run Tryd.prog w = .ok (58, h) w := by kernel_rfl
theorem mElem (h : Value) (w : World) : (Go.method 231 87 (.agg #[h]) "Elem").run Tryd.prog w = .ok (70, .agg #[h]) w := by kernel_rfl
theorem mImplements (h : Value) (w : World) : (Go.method 231 87 (.agg #[h]) "Implements").run Tryd.prog w = .ok (71, .agg #[h]) w := by kernel_rfl
theorem mAsg (h : Value) (w : World) : (Go.method 231 87 (.agg #[h]) "AssignableTo").run Tryd.prog w = .ok (68, .agg #[h]) w := by kernel_rfl
theorem mComparable (h : Value) (w : World) : (Go.method 231 87 (.agg #[h]) "Comparable").run Tryd.prog w = .ok (69, .agg #[h]) w := by kernel_rfl
theorem mUnF (a : Addr) (w : World) : (Go.method 231 57 (.pointer (some a)) "Unwrap").run Tryd.prog w = .ok (63, .pointer (some a)) w := by kernel_rfl
theorem mErF (a : Addr) (w : World) : (Go.method 231 57 (.pointer (some a)) "Error").run Tryd.prog w = .ok (62, .pointer (some a)) w := by kernel_rfl
theorem mErE (n : Int) (w : World) : (Go.method 231 30 (.int .i64 n) "Error").run Tryd.prog w = .ok (61, .int .i64 n) w := by kernel_rfl
end Go.Proofs.YtheiljdilbobdaaDoor
