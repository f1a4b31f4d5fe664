/-
  CLOSED FACTS on the entries of internal/reflectlite that errors.As and errors.Is come to, at this program's types. No conditions.
-/
import Derived.Test.YtceigepclemdmaaProg
import Derived.WalkKit
import Derived.LaidEql
import Derived.Stop.Asserts
import Derived.RowKitTokens
namespace Go.Proofs.Ytceigepclemdmaa
open Go.RowKit Go.Extern.Stop Go.Stop Go.Extern

theorem typeOfE (v : Value) (w : World) : (ReflectliteType.typeOf #[.iface 43 v]).run Try.prog w = .ok (.iface 73 (.agg #[.pointer (some ⟨0, 43, none⟩)])) w := by kernel_rfl
theorem typeOfF (v : Value) (w : World) : (ReflectliteType.typeOf #[.iface 59 v]).run Try.prog w = .ok (.iface 73 (.agg #[.pointer (some ⟨0, 59, none⟩)])) w := by kernel_rfl
theorem noIsE (v : Value) (x : TypeId) (w : World) : (Instr.typeAssert (.iface 43 v) x 75 true).run Try.prog w = .ok (.tuple #[.nilIface, .bool false]) w := run_typeAssert_lacksB Try.underlying75 (by kernel_rfl) (by kernel_rfl) v x w
theorem noIsF (v : Value) (x : TypeId) (w : World) : (Instr.typeAssert (.iface 59 v) x 75 true).run Try.prog w = .ok (.tuple #[.nilIface, .bool false]) w := run_typeAssert_lacksB Try.underlying75 (by kernel_rfl) (by kernel_rfl) v x w
theorem noUnE (v : Value) (x : TypeId) (w : World) : (Instr.typeAssert (.iface 43 v) x 78 true).run Try.prog w = .ok (.tuple #[.nilIface, .bool false]) w := run_typeAssert_lacksB Try.underlying78 (by kernel_rfl) (by kernel_rfl) v x w
theorem hasUnF (v : Value) (x : TypeId) (w : World) : (Instr.typeAssert (.iface 59 v) x 78 true).run Try.prog w = .ok (.tuple #[.iface 59 v, .bool true]) w := run_typeAssert_hasB Try.underlying78 (by kernel_rfl) v x w
theorem noUsE (v : Value) (x : TypeId) (w : World) : (Instr.typeAssert (.iface 43 v) x 80 true).run Try.prog w = .ok (.tuple #[.nilIface, .bool false]) w := run_typeAssert_lacksB Try.underlying80 (by kernel_rfl) (by kernel_rfl) v x w
end Go.Proofs.Ytceigepclemdmaa
