/-
  CLOSED FACTS on the methods that errors.As and errors.Is call through an interface. No conditions.
-/
import Derived.Test.YtjegeiaabkheiaaGreatDoorAsFacts
namespace Go.Proofs.YtjegeiaabkheiaaGreatDoor
open Go.RowKit Go.Extern.Stop Go.Stop Go.Extern
theorem mKind (h : Value) (w : World) : (Go.method 303 108 (.agg #[h]) "Kind").run Tryz.prog w = .ok (129, h) w := by kernel_rfl
theorem mElem (h : Value) (w : World) : (Go.method 303 108 (.agg #[h]) "Elem").run Tryz.prog w = .ok (141, .agg #[h]) w := by kernel_rfl
theorem mImplements (h : Value) (w : World) : (Go.method 303 108 (.agg #[h]) "Implements").run Tryz.prog w = .ok (142, .agg #[h]) w := by kernel_rfl
theorem mAsg (h : Value) (w : World) : (Go.method 303 108 (.agg #[h]) "AssignableTo").run Tryz.prog w = .ok (139, .agg #[h]) w := by kernel_rfl
theorem mComparable (h : Value) (w : World) : (Go.method 303 108 (.agg #[h]) "Comparable").run Tryz.prog w = .ok (140, .agg #[h]) w := by kernel_rfl
theorem mUnF (a : Addr) (w : World) : (Go.method 303 66 (.pointer (some a)) "Unwrap").run Tryz.prog w = .ok (134, .pointer (some a)) w := by kernel_rfl
theorem mErF (a : Addr) (w : World) : (Go.method 303 66 (.pointer (some a)) "Error").run Tryz.prog w = .ok (133, .pointer (some a)) w := by kernel_rfl
theorem mErE (n : Int) (w : World) : (Go.method 303 32 (.int .i64 n) "Error").run Tryz.prog w = .ok (132, .int .i64 n) w := by kernel_rfl
end Go.Proofs.YtjegeiaabkheiaaGreatDoor
