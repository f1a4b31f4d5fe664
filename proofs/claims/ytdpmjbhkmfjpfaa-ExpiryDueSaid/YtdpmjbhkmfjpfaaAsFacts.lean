/-
  CLOSED FACTS on the entries of internal/reflectlite that errors.As and errors.Is come to, at this program's types. No conditions.
-/
import Derived.Test.YtdpmjbhkmfjpfaaProg
import Derived.WalkKit
import Derived.LaidEql
import Derived.Stop.Asserts
import Derived.RowKitTokens
namespace Go.Proofs.Ytdpmjbhkmfjpfaa
open Go.RowKit Go.Extern.Stop Go.Stop Go.Extern

theorem typeOfE (v : Value) (w : World) : (ReflectliteType.typeOf #[.iface 46 v]).run Try.prog w = .ok (.iface 67 (.agg #[.pointer (some ⟨0, 46, none⟩)])) w := by kernel_rfl
theorem typeOfR (v : Value) (w : World) : (ReflectliteType.typeOf #[.iface 48 v]).run Try.prog w = .ok (.iface 67 (.agg #[.pointer (some ⟨0, 48, none⟩)])) w := by kernel_rfl
theorem noIsE (v : Value) (x : TypeId) (w : World) : (Instr.typeAssert (.iface 46 v) x 69 true).run Try.prog w = .ok (.tuple #[.nilIface, .bool false]) w := run_typeAssert_lacksB Try.underlying69 (by kernel_rfl) (by kernel_rfl) v x w
theorem noIsR (v : Value) (x : TypeId) (w : World) : (Instr.typeAssert (.iface 48 v) x 69 true).run Try.prog w = .ok (.tuple #[.nilIface, .bool false]) w := run_typeAssert_lacksB Try.underlying69 (by kernel_rfl) (by kernel_rfl) v x w
theorem noUnE (v : Value) (x : TypeId) (w : World) : (Instr.typeAssert (.iface 46 v) x 72 true).run Try.prog w = .ok (.tuple #[.nilIface, .bool false]) w := run_typeAssert_lacksB Try.underlying72 (by kernel_rfl) (by kernel_rfl) v x w
theorem hasUnR (v : Value) (x : TypeId) (w : World) : (Instr.typeAssert (.iface 48 v) x 72 true).run Try.prog w = .ok (.tuple #[.iface 48 v, .bool true]) w := run_typeAssert_hasB Try.underlying72 (by kernel_rfl) v x w
theorem noUsE (v : Value) (x : TypeId) (w : World) : (Instr.typeAssert (.iface 46 v) x 74 true).run Try.prog w = .ok (.tuple #[.nilIface, .bool false]) w := run_typeAssert_lacksB Try.underlying74 (by kernel_rfl) (by kernel_rfl) v x w
end Go.Proofs.Ytdpmjbhkmfjpfaa
