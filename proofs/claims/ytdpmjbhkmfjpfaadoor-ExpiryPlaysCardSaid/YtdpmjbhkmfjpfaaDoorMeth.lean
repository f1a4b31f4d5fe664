/-
  CLOSED FACTS on the methods that errors.As and errors.Is call through an interface. No conditions.
-/
import Derived.Test.YtdpmjbhkmfjpfaaDoorAsFacts
namespace Go.Proofs.YtdpmjbhkmfjpfaaDoor
open Go.RowKit Go.Extern.Stop Go.Stop Go.Extern
theorem mKind (h : Value) (w : World) : (Go.method 252 101 (.agg #[h]) "Kind").run Tryd.prog w = .ok (71, h) w := by kernel_rfl
theorem mElem (h : Value) (w : World) : (Go.method 252 101 (.agg #[h]) "Elem").run Tryd.prog w = .ok (85, .agg #[h]) w := by kernel_rfl
theorem mImplements (h : Value) (w : World) : (Go.method 252 101 (.agg #[h]) "Implements").run Tryd.prog w = .ok (86, .agg #[h]) w := by kernel_rfl
theorem mAsg (h : Value) (w : World) : (Go.method 252 101 (.agg #[h]) "AssignableTo").run Tryd.prog w = .ok (83, .agg #[h]) w := by kernel_rfl
theorem mComparable (h : Value) (w : World) : (Go.method 252 101 (.agg #[h]) "Comparable").run Tryd.prog w = .ok (84, .agg #[h]) w := by kernel_rfl
theorem mUnF (a : Addr) (w : World) : (Go.method 252 61 (.pointer (some a)) "Unwrap").run Tryd.prog w = .ok (76, .pointer (some a)) w := by kernel_rfl
theorem mUnR (v : Value) (w : World) : (Go.method 252 79 v "Unwrap").run Tryd.prog w = .ok (78, v) w := by kernel_rfl
theorem mErF (a : Addr) (w : World) : (Go.method 252 61 (.pointer (some a)) "Error").run Tryd.prog w = .ok (75, .pointer (some a)) w := by kernel_rfl
theorem mErE (n : Int) (w : World) : (Go.method 252 37 (.int .i64 n) "Error").run Tryd.prog w = .ok (74, .int .i64 n) w := by kernel_rfl
end Go.Proofs.YtdpmjbhkmfjpfaaDoor
