/-
  CLOSED FACTS on the methods that errors.As and errors.Is call through an interface. No conditions.
-/
import Derived.Test.YthhfmjdknoplkaaGreatDoorAsFacts
namespace Go.Proofs.YthhfmjdknoplkaaGreatDoor
open Go.RowKit Go.Extern.Stop Go.Stop Go.Extern
theorem mKind (h : Value) (w : World) : (Go.method 262 101 (.agg #[h]) "Kind").run Tryz.prog w = .ok (100, h) w := by kernel_rfl
theorem mElem (h : Value) (w : World) : (Go.method 262 101 (.agg #[h]) "Elem").run Tryz.prog w = .ok (113, .agg #[h]) w := by kernel_rfl
theorem mImplements (h : Value) (w : World) : (Go.method 262 101 (.agg #[h]) "Implements").run Tryz.prog w = .ok (114, .agg #[h]) w := by kernel_rfl
theorem mAsg (h : Value) (w : World) : (Go.method 262 101 (.agg #[h]) "AssignableTo").run Tryz.prog w = .ok (111, .agg #[h]) w := by kernel_rfl
theorem mComparable (h : Value) (w : World) : (Go.method 262 101 (.agg #[h]) "Comparable").run Tryz.prog w = .ok (112, .agg #[h]) w := by kernel_rfl
theorem mUnF (a : Addr) (w : World) : (Go.method 262 58 (.pointer (some a)) "Unwrap").run Tryz.prog w = .ok (105, .pointer (some a)) w := by kernel_rfl
theorem mErF (a : Addr) (w : World) : (Go.method 262 58 (.pointer (some a)) "Error").run Tryz.prog w = .ok (104, .pointer (some a)) w := by kernel_rfl
theorem mErE (n : Int) (w : World) : (Go.method 262 29 (.int .i64 n) "Error").run Tryz.prog w = .ok (103, .int .i64 n) w := by kernel_rfl
end Go.Proofs.YthhfmjdknoplkaaGreatDoor
