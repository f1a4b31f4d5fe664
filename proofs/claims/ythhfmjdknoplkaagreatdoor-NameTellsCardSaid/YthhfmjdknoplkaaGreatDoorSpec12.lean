/-
  Names as values: labels, what may be one, what is written, what is read. No conditions.
-/
import Derived.Test.YthhfmjdknoplkaaGreatDoorSpl
import Derived.Test.YthhfmjdknoplkaaGreatDoorBat
import Derived.Test.YthhfmjdknoplkaaGreatDoorTell
namespace Go.Proofs.YthhfmjdknoplkaaGreatDoor
open Go.RowKit
set_option maxRecDepth 100000

/-- A byte of a label. -/
def sign (c : UInt8) : Prop := 33 ≤ c.toNat ∧ c.toNat ≤ 126 ∧ c.toNat ≠ 46 ∧ ¬ (65 ≤ c.toNat ∧ c.toNat ≤ 90)
instance (c : UInt8) : Decidable (sign c) := by unfold sign; infer_instance
/-- May it be a label? -/
def labOk (l : List UInt8) : Prop := (∀ c ∈ l, sign c) ∧ 1 ≤ l.length ∧ l.length ≤ 63
instance (l : List UInt8) : Decidable (labOk l) := by unfold labOk; infer_instance
/-- The labels of a text. -/
def labsN (l : List UInt8) : List (List UInt8) := if l = [] then [] else spl 46 l
def sizeL (ls : List (List UInt8)) : Nat := (ls.map fun x => 1 + x.length).sum
def rightN (l : List UInt8) : Prop := (∀ x ∈ labsN l, labOk x) ∧ 1 + sizeL (labsN l) ≤ 255
instance (l : List UInt8) : Decidable (rightN l) := by unfold rightN; infer_instance
def wireL (ls : List (List UInt8)) : List UInt8 := ls.flatMap fun x => UInt8.ofNat x.length :: x
def writeB (l : List UInt8) : List UInt8 := wireL (labsN l) ++ [0]
/-- What Write answers. -/
def writev (l : List UInt8) : List UInt8 := if rightN l then writeB l else []
def writee (l : List UInt8) : Fl := if rightN l then ⟨0, 0, false⟩ else ⟨13, 0, false⟩
def underN (a z : List UInt8) : Prop := z = [] ∨ a = z ∨ (z.length < a.length ∧ a.drop (a.length - z.length) = z ∧ a[a.length - z.length - 1]? = some 46)
instance (a z : List UInt8) : Decidable (underN a z) := by unfold underN; infer_instance
/-- Capitals made small. -/
def lowB (c : UInt8) : UInt8 := if 65 ≤ c.toNat ∧ c.toNat ≤ 90 then c + 32 else c
def lowL (l : List UInt8) : List UInt8 := l.map lowB
/-- A label behind what there is. -/
def dotted (a s : List UInt8) : List UInt8 := if a = [] then s else a ++ 46 :: s
def joinD : List (List UInt8) → List UInt8
  | [] => []
  | [x] => x
  | x :: y :: r => x ++ 46 :: joinD (y :: r)

/-! ### What is read -/
/-- How far it has come. -/
structure Rs where
  at_ : Nat
  below : Nat
  size : Nat
  name : List UInt8
  next : Option Nat
/-- What is answered. -/
structure Rd where
  name : List UInt8
  next : Nat
  f : Fl
def Rd.bad (c : Int) (a : Nat) : Rd := ⟨[], 0, ⟨c, a, true⟩⟩
def Rd.ok (name : List UInt8) (next : Nat) : Rd := ⟨name, next, ⟨0, 0, false⟩⟩
def rstep (l : List UInt8) (n : Nat) (s : Rs) : Rs ⊕ Rd :=
  if n ≤ s.at_ then .inr (.bad 3 s.at_)
  else if bat l s.at_ = 0 then .inr (.ok s.name (s.next.getD (s.at_ + 1)))
  else if bat l s.at_ ≤ 63 then
    if n < s.at_ + 1 + bat l s.at_ then .inr (.bad 3 s.at_)
    else if ¬ labOk (lowL ((l.drop (s.at_ + 1)).take (bat l s.at_))) then .inr (.bad 12 s.at_)
    else if 255 < s.size + 1 + bat l s.at_ then .inr (.bad 13 s.at_)
    else .inl ⟨s.at_ + 1 + bat l s.at_, s.below, s.size + 1 + bat l s.at_, dotted s.name (lowL ((l.drop (s.at_ + 1)).take (bat l s.at_))), s.next⟩
  else if 192 ≤ bat l s.at_ then
    if n ≤ s.at_ + 1 then .inr (.bad 3 s.at_)
    else if s.below ≤ num2 l s.at_ % 16384 then .inr (.bad 14 s.at_)
    else .inl ⟨num2 l s.at_ % 16384, num2 l s.at_ % 16384, s.size, s.name, some (s.next.getD (s.at_ + 2))⟩
  else .inr (.bad 12 s.at_)
def meas (s : Rs) : Nat := (256 - s.size) + s.below
theorem rstep_less {l : List UInt8} {n : Nat} {s s' : Rs} (h : rstep l n s = .inl s') (h5 : s.size ≤ 255) : s'.size ≤ 255 ∧ meas s' < meas s := by
  unfold rstep at h
  unfold meas
  split at h
  · cases h
  split at h
  · cases h
  split at h
  · split at h
    · cases h
    split at h
    · cases h
    split at h
    · cases h
    · cases h
      dsimp only
      omega
  · split at h
    · split at h
      · cases h
      split at h
      · cases h
      · cases h
        dsimp only
        omega
    · cases h
def rrun (l : List UInt8) (n : Nat) : Nat → Rs → Rd
  | 0, _ => .ok [] 0
  | f + 1, s => match rstep l n s with
    | .inr r => r
    | .inl s' => rrun l n f s'
theorem rrun_fuel {l : List UInt8} {n : Nat} : ∀ (f g : Nat) (s : Rs), s.size ≤ 255 → meas s < f → meas s < g → rrun l n f s = rrun l n g s
  | 0, _, _, _, h, _ => absurd h (by omega)
  | _, 0, _, _, _, h => absurd h (by omega)
  | f + 1, g + 1, s, h5, hf, hg => by
    unfold rrun
    cases h : rstep l n s with
    | inr r => rfl
    | inl s' =>
      obtain ⟨h1, h2⟩ := rstep_less h h5
      exact rrun_fuel f g s' h1 (by omega) (by omega)
/-- What is answered from there on. -/
def readS (l : List UInt8) (n : Nat) (s : Rs) : Rd := rrun l n (meas s + 1) s
theorem readS_end {l : List UInt8} {n : Nat} {s : Rs} {r : Rd} (h : rstep l n s = .inr r) : readS l n s = r := by
  unfold readS rrun
  rw [h]
theorem readS_on {l : List UInt8} {n : Nat} {s s' : Rs} (h : rstep l n s = .inl s') (h5 : s.size ≤ 255) : readS l n s = readS l n s' := by
  obtain ⟨h1, h2⟩ := rstep_less h h5
  have e : readS l n s = rrun l n (meas s) s' := by
    show rrun l n (meas s + 1) s = _
    unfold rrun
    rw [h]
    cases hm : meas s with
    | zero => omega
    | succ k => rfl
  rw [e]
  exact rrun_fuel _ _ s' h1 h2 (Nat.lt_succ_self _)
/-- What Read answers. -/
def readv (l : List UInt8) (n : Nat) (at_ : Int) : Rd := if at_ < 0 then ⟨[], 0, ⟨1, 0, false⟩⟩ else readS l n ⟨at_.toNat, at_.toNat, 1, [], none⟩
end Go.Proofs.YthhfmjdknoplkaaGreatDoor
