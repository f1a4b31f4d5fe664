/-
  CLOSED FACTS on the methods that errors.As and errors.Is call through an interface. No conditions.
-/
import Derived.Test.YthhfmjdknoplkaaDoorAsFacts
namespace Go.Proofs.YthhfmjdknoplkaaDoor
open Go.RowKit Go.Extern.Stop Go.Stop Go.Extern
theorem mKind (h : Value) (w : World) : (Go.method 256 95 (.agg #[h]) "Kind").run Tryd.prog w = .ok (90, h) w := by kernel_rfl
theorem mElem (h : Value) (w : World) : (Go.method 256 95 (.agg #[h]) "Elem").run Tryd.prog w = .ok (103, .agg #[h]) w := by kernel_rfl
theorem mImplements (h : Value) (w : World) : (Go.method 256 95 (.agg #[h]) "Implements").run Tryd.prog w = .ok (104, .agg #[h]) w := by kernel_rfl
theorem mAsg (h : Value) (w : World) : (Go.method 256 95 (.agg #[h]) "AssignableTo").run Tryd.prog w = .ok (101, .agg #[h]) w := by kernel_rfl
theorem mComparable (h : Value) (w : World) : (Go.method 256 95 (.agg #[h]) "Comparable").run Tryd.prog w = .ok (102, .agg #[h]) w := by kernel_rfl
theorem mUnF (a : Addr) (w : World) : (Go.method 256 56 (.pointer (some a)) "Unwrap").run Tryd.prog w = .ok (95, .pointer (some a)) w := by kernel_rfl
theorem mErF (a : Addr) (w : World) : (Go.method 256 56 (.pointer (some a)) "Error").run Tryd.prog w = .ok (94, .pointer (some a)) w := by kernel_rfl
theorem mErE (n : Int) (w : World) : (Go.method 256 35 (.int .i64 n) "Error").run Tryd.prog w = .ok (93, .int .i64 n) w := by kernel_rfl
end Go.Proofs.YthhfmjdknoplkaaDoor
