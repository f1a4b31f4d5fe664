/-
  CLOSED FACTS on the methods that errors.As and errors.Is call through an interface. No conditions.
-/
import Derived.Test.YtceigepclemdmaaAsFacts
namespace Go.Proofs.Ytceigepclemdmaa
open Go.RowKit Go.Extern.Stop Go.Stop Go.Extern
theorem mKind (h : Value) (w : World) : (Go.method 216 73 (.agg #[h]) "Kind").run Try.prog w = .ok (53, h) w := by kernel_rfl
theorem mElem (h : Value) (w : World) : (Go.method 216 73 (.agg #[h]) "Elem").run Try.prog w = .ok (57, .agg #[h]) w := by kernel_rfl
theorem mImplements (h : Value) (w : World) : (Go.method 216 73 (.agg #[h]) "Implements").run Try.prog w = .ok (58, .agg #[h]) w := by kernel_rfl
theorem mAsg (h : Value) (w : World) : (Go.method 216 73 (.agg #[h]) "AssignableTo").run Try.prog w = .ok (55, .agg #[h]) w := by kernel_rfl
theorem mComparable (h : Value) (w : World) : (Go.method 216 73 (.agg #[h]) "Comparable").run Try.prog w = .ok (56, .agg #[h]) w := by kernel_rfl
theorem mUnF (a : Addr) (w : World) : (Go.method 216 59 (.pointer (some a)) "Unwrap").run Try.prog w = .ok (52, .pointer (some a)) w := by kernel_rfl
theorem mErF (a : Addr) (w : World) : (Go.method 216 59 (.pointer (some a)) "Error").run Try.prog w = .ok (51, .pointer (some a)) w := by kernel_rfl
theorem mErE (n : Int) (w : World) : (Go.method 216 43 (.int .i64 n) "Error").run Try.prog w = .ok (50, .int .i64 n) w := by kernel_rfl
end Go.Proofs.Ytceigepclemdmaa
