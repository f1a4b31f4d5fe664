/-
  CLOSED FACTS on the methods that errors.As and errors.Is call through an interface. No conditions.
-/
import Derived.Test.YtdpmjbhkmfjpfaaAsFacts
namespace Go.Proofs.Ytdpmjbhkmfjpfaa
open Go.RowKit Go.Extern.Stop Go.Stop Go.Extern
theorem mKind (h : Value) (w : World) : (Go.method 218 67 (.agg #[h]) "Kind").run Try.prog w = .ok (54, h) w := by kernel_rfl
theorem mElem (h : Value) (w : World) : (Go.method 218 67 (.agg #[h]) "Elem").run Try.prog w = .ok (58, .agg #[h]) w := by kernel_rfl
theorem mImplements (h : Value) (w : World) : (Go.method 218 67 (.agg #[h]) "Implements").run Try.prog w = .ok (59, .agg #[h]) w := by kernel_rfl
theorem mAsg (h : Value) (w : World) : (Go.method 218 67 (.agg #[h]) "AssignableTo").run Try.prog w = .ok (56, .agg #[h]) w := by kernel_rfl
theorem mComparable (h : Value) (w : World) : (Go.method 218 67 (.agg #[h]) "Comparable").run Try.prog w = .ok (57, .agg #[h]) w := by kernel_rfl
theorem mUnR (v : Value) (w : World) : (Go.method 218 48 v "Unwrap").run Try.prog w = .ok (53, v) w := by kernel_rfl
theorem mErE (n : Int) (w : World) : (Go.method 218 46 (.int .i64 n) "Error").run Try.prog w = .ok (51, .int .i64 n) w := by kernel_rfl
end Go.Proofs.Ytdpmjbhkmfjpfaa
