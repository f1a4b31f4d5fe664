/-
  
-/
import Derived.Test.YtoagfmonfgagbaaGreatDoorZ22
import Derived.Test.YtoagfmonfgagbaaGreatDoorChecked
import Derived.WalkKit
import Derived.Deep.LoopGhost
import Derived.Outline
import Derived.Lib.AppendZeros
import Derived.Lib.SliceRun
import Derived.Test.YtoagfmonfgagbaaGreatDoorZ23
import Derived.Test.YtoagfmonfgagbaaGreatDoorZ04
import Derived.BigQuiet
import Derived.Deep.QuietTactic
import Derived.Test.YtoagfmonfgagbaaGreatDoorZ01
import Derived.Test.YtoagfmonfgagbaaGreatDoorZ08
namespace Go.Proofs.YtoagfmonfgagbaaGreatDoor
open Go.RowKit
theorem info5 : (Tryz.prog.info? 5).map (fun i => (i.zero, i.size, i.bytes)) = some (some (Value.int IntKind.u8 0), 1, 1) := by kernel_rfl
end Go.Proofs.YtoagfmonfgagbaaGreatDoor

namespace Go.Proofs.YtoagfmonfgagbaaGreatDoor
open Go.RowKit
set_option maxRecDepth 100000
def sign (c : UInt8) : Prop := 33 ≤ c.toNat ∧ c.toNat ≤ 126 ∧ c.toNat ≠ 46 ∧ ¬ (65 ≤ c.toNat ∧ c.toNat ≤ 90)
instance (c : UInt8) : Decidable (sign c) := by unfold sign; infer_instance
def labOk (l : List UInt8) : Prop := (∀ c ∈ l, sign c) ∧ 1 ≤ l.length ∧ l.length ≤ 63
instance (l : List UInt8) : Decidable (labOk l) := by unfold labOk; infer_instance
def labsN (l : List UInt8) : List (List UInt8) := if l = [] then [] else spl 46 l
def sizeL (ls : List (List UInt8)) : Nat := (ls.map fun x => 1 + x.length).sum
def rightN (l : List UInt8) : Prop := (∀ x ∈ labsN l, labOk x) ∧ 1 + sizeL (labsN l) ≤ 255
instance (l : List UInt8) : Decidable (rightN l) := by unfold rightN; infer_instance
def underN (a z : List UInt8) : Prop := z = [] ∨ a = z ∨ (z.length < a.length ∧ a.drop (a.length - z.length) = z ∧ a[a.length - z.length - 1]? = some 46)
instance (a z : List UInt8) : Decidable (underN a z) := by unfold underN; infer_instance
def joinD : List (List UInt8) → List UInt8
  | [] => []
  | [x] => x
  | x :: y :: r => x ++ 46 :: joinD (y :: r)
structure Rs where
  at_ : Nat
  below : Nat
  size : Nat
  name : List UInt8
  next : Option Nat
structure Rd where
  name : List UInt8
  next : Nat
  f : Fl
def Rd.ok (name : List UInt8) (next : Nat) : Rd := ⟨name, next, ⟨0, 0, false⟩⟩
end Go.Proofs.YtoagfmonfgagbaaGreatDoor

namespace Go.Proofs.YtoagfmonfgagbaaGreatDoor
open Go.RowKit
set_option maxRecDepth 100000
theorem joinD_cons (x : List UInt8) {r : List (List UInt8)} (h : r ≠ []) : joinD (x :: r) = x ++ 46 :: joinD r := by
  cases r with
  | nil => exact absurd rfl h
  | cons y r => rfl
theorem joinD_onHead (b : UInt8) {ls : List (List UInt8)} (h : ls ≠ []) : joinD (onHead b ls) = b :: joinD ls := by
  cases ls with
  | nil => exact absurd rfl h
  | cons x r =>
    show joinD ((b :: x) :: r) = _
    cases r with
    | nil => rfl
    | cons y r => rfl
theorem joinD_splN : ∀ (l : List UInt8) (k : Nat), joinD (splN 46 l k) = l
  | l, 0 => by rw [splN_zero]; rfl
  | [], k + 1 => rfl
  | b :: r, k + 1 => by
    rw [splN_cons]
    by_cases hb : b = 46
    · rw [if_pos hb, joinD_cons _ (splN_ne 46 r k), joinD_splN r k, hb]
      rfl
    · rw [if_neg hb, joinD_onHead b (splN_ne 46 r (k + 1)), joinD_splN r (k + 1)]
theorem joinD_labsN (l : List UInt8) : joinD (labsN l) = l := by
  unfold labsN
  split
  · rename_i h; rw [h]; rfl
  · exact joinD_splN l _
theorem splN_joinD : ∀ (ls : List (List UInt8)) (k : Nat), ls ≠ [] → (∀ x ∈ ls, (46 : UInt8) ∉ x) → ls.length ≤ k + 1 → splN 46 (joinD ls) k = ls
  | [], _, h, _, _ => absurd rfl h
  | [x], k, _, hx, _ => sp_plain 46 x k (hx x (by simp))
  | x :: y :: r, 0, _, _, h => by simp at h
  | x :: y :: r, k + 1, _, hx, h => by
    rw [joinD_cons x (by simp), sp_cons 46 x _ k (hx x (by simp)), splN_joinD (y :: r) k (by simp) (fun z hz => hx z (List.mem_cons_of_mem _ hz)) (by simpa using h)]
theorem joinD_length : ∀ (ls : List (List UInt8)), ls ≠ [] → (joinD ls).length + 1 = sizeL ls
  | [], h => absurd rfl h
  | [x], _ => by simp [joinD, sizeL]; omega
  | x :: y :: r, _ => by
    have h := joinD_length (y :: r) (by simp)
    rw [joinD_cons x (by simp), List.length_append, List.length_cons]
    show _ = (1 + x.length) + sizeL (y :: r)
    omega
theorem sizeL_ge : ∀ (ls : List (List UInt8)), ls.length ≤ sizeL ls
  | [] => Nat.zero_le _
  | x :: r => by
    have h := sizeL_ge r
    show r.length + 1 ≤ (1 + x.length) + sizeL r
    omega
theorem joinD_ne {ls : List (List UInt8)} (h : ls ≠ []) (hx : ∀ x ∈ ls, x ≠ []) : joinD ls ≠ [] := by
  cases ls with
  | nil => exact absurd rfl h
  | cons x r =>
    have hx0 := hx x (by simp)
    cases r with
    | nil => exact hx0
    | cons y r => rw [joinD_cons x (by simp)]; simp
theorem labsN_joinD {ls : List (List UInt8)} (hx : ∀ x ∈ ls, (46 : UInt8) ∉ x ∧ x ≠ []) : labsN (joinD ls) = ls := by
  cases hls : ls with
  | nil => rfl
  | cons x r =>
    rw [← hls]
    have hne : ls ≠ [] := by rw [hls]; simp
    unfold labsN
    rw [if_neg (joinD_ne hne fun x h => (hx x h).2)]
    have h1 := joinD_length ls hne
    have h2 := sizeL_ge ls
    exact splN_joinD ls _ hne (fun x h => (hx x h).1) (by omega)
theorem splN_no (c : UInt8) : ∀ (l : List UInt8) (k : Nat), l.length ≤ k → ∀ x ∈ splN c l k, c ∉ x
  | [], 0, _, x, h => by rw [splN_zero] at h; obtain rfl := List.mem_singleton.1 h; simp
  | [], k + 1, _, x, h => by obtain rfl := List.mem_singleton.1 h; simp
  | b :: r, 0, h, _, _ => by simp at h
  | b :: r, k + 1, h, x, hx => by
    simp only [List.length_cons] at h
    rw [splN_cons] at hx
    by_cases hb : b = c
    · rw [if_pos hb] at hx
      rcases List.mem_cons.1 hx with rfl | hx
      · simp
      · exact splN_no c r k (by omega) x hx
    · rw [if_neg hb] at hx
      have ih := splN_no c r (k + 1) (by omega)
      cases hs : splN c r (k + 1) with
      | nil => exact absurd hs (splN_ne c r _)
      | cons y ys =>
        rw [hs] at hx ih
        rcases List.mem_cons.1 hx with rfl | hx
        · intro hm
          rcases List.mem_cons.1 hm with e | hm
          · exact hb e.symm
          · exact ih y (by simp) hm
        · exact ih x (by simp [hx])
theorem labsN_no {l : List UInt8} : ∀ x ∈ labsN l, (46 : UInt8) ∉ x := fun x hx => by
  unfold labsN at hx
  split at hx
  · cases hx
  · exact splN_no 46 l _ (Nat.le_refl _) x hx
theorem labsN_ne {l : List UInt8} (h : l ≠ []) : labsN l ≠ [] := by
  unfold labsN
  rw [if_neg h]
  exact splN_ne 46 l _
theorem sizeL_labsN {l : List UInt8} (h : l ≠ []) : sizeL (labsN l) = l.length + 1 := by
  have h1 := joinD_length (labsN l) (labsN_ne h)
  rw [joinD_labsN] at h1
  omega
theorem sizeL_append (a b : List (List UInt8)) : sizeL (a ++ b) = sizeL a + sizeL b := by simp [sizeL]
theorem labOk_ne {x : List UInt8} (h : labOk x) : x ≠ [] := fun e => by
  have := h.2.1
  rw [e] at this
  simp at this
end Go.Proofs.YtoagfmonfgagbaaGreatDoor

namespace Go.Proofs.YtoagfmonfgagbaaGreatDoor
open Go.RowKit
set_option maxRecDepth 100000
def nmTakes (out : List UInt8) (c : UInt8) : Prop := (c = 46 ∧ out ≠ [] ∧ out.getLast? ≠ some 46) ∨ sign c
instance (out : List UInt8) (c : UInt8) : Decidable (nmTakes out c) := by unfold nmTakes; infer_instance
def nmStep (out : List UInt8) (c : UInt8) : List UInt8 := if nmTakes out c then out ++ [c] else out
def nmRun : List UInt8 → List UInt8 → List UInt8
  | [], out => out
  | c :: r, out => if 60 ≤ out.length then out else nmRun r (nmStep out c)
def trimDot (out : List UInt8) : List UInt8 := if out.getLast? = some 46 then out.dropLast else out
def playN (s : List UInt8) : List UInt8 := trimDot (nmRun s [])
theorem nmRun_full {out : List UInt8} (h : 60 ≤ out.length) : ∀ s, nmRun s out = out
  | [] => rfl
  | c :: r => by unfold nmRun; rw [if_pos h]
def NmOk (out : List UInt8) : Prop := ∃ (ls : List (List UInt8)) (d : Bool), out = joinD ls ++ (if d then [46] else []) ∧ (∀ x ∈ ls, x ≠ [] ∧ ∀ c ∈ x, sign c) ∧ (d = true → ls ≠ [])
theorem joinD_snoc : ∀ (ls : List (List UInt8)) (x : List UInt8), ls ≠ [] → joinD (ls ++ [x]) = joinD ls ++ 46 :: x
  | [], _, h => absurd rfl h
  | [y], x, _ => rfl
  | y :: z :: r, x, _ => by
    show joinD (y :: ((z :: r) ++ [x])) = _
    rw [joinD_cons y (by simp), joinD_snoc (z :: r) x (by simp), joinD_cons y (by simp)]
    simp
theorem joinD_more : ∀ (ls : List (List UInt8)) (x y : List UInt8), joinD (ls ++ [x ++ y]) = joinD (ls ++ [x]) ++ y
  | [], x, y => rfl
  | z :: r, x, y => by
    show joinD (z :: (r ++ [x ++ y])) = joinD (z :: (r ++ [x])) ++ y
    rw [joinD_cons z (by simp), joinD_cons z (by simp), joinD_more r x y]
    simp
theorem sign_ne {c : UInt8} (h : sign c) : c ≠ 46 := fun e => h.2.2.1 (by rw [e]; rfl)
theorem join_last : ∀ (ls : List (List UInt8)), ls ≠ [] → (∀ x ∈ ls, x ≠ [] ∧ ∀ c ∈ x, sign c) → ∃ c, (joinD ls).getLast? = some c ∧ sign c
  | [], h, _ => absurd rfl h
  | [x], _, hx => by
    obtain ⟨h1, h2⟩ := hx x (by simp)
    refine ⟨x.getLast h1, List.getLast?_eq_some_getLast h1, h2 _ (List.getLast_mem h1)⟩
  | x :: y :: r, _, hx => by
    obtain ⟨c, hc, hs⟩ := join_last (y :: r) (by simp) (fun z hz => hx z (List.mem_cons_of_mem _ hz))
    refine ⟨c, ?_, hs⟩
    rw [joinD_cons x (by simp), List.getLast?_append, List.getLast?_cons, hc]
    rfl
theorem nmOk_step {out : List UInt8} (h : NmOk out) (c : UInt8) : NmOk (nmStep out c) := by
  unfold nmStep
  by_cases ht : nmTakes out c
  · rw [if_pos ht]
    obtain ⟨ls, d, rfl, hx, hd⟩ := h
    rcases ht with ⟨rfl, hne, hl⟩ | hs
    · cases d with
      | true => exact absurd (by simp) hl
      | false => exact ⟨ls, true, by simp, hx, fun _ e => hne (by rw [e]; rfl)⟩
    · cases d with
      | true =>
        refine ⟨ls ++ [[c]], false, ?_, fun x hm => ?_, fun h => by cases h⟩
        · rw [joinD_snoc ls [c] (hd rfl)]
          simp
        · rcases List.mem_append.1 hm with hm | hm
          · exact hx x hm
          · obtain rfl := List.mem_singleton.1 hm
            exact ⟨by simp, fun b hb => by obtain rfl := List.mem_singleton.1 hb; exact hs⟩
      | false =>
        cases hls : ls with
        | nil => exact ⟨[[c]], false, rfl, fun x hm => by
            obtain rfl := List.mem_singleton.1 hm
            exact ⟨by simp, fun b hb => by obtain rfl := List.mem_singleton.1 hb; exact hs⟩, fun h => by cases h⟩
        | cons y r =>
          rw [← hls]
          have hne : ls ≠ [] := by rw [hls]; simp
          obtain ⟨pre, z, hpz⟩ : ∃ pre z, ls = pre ++ [z] := ⟨ls.dropLast, ls.getLast hne, (List.dropLast_concat_getLast hne).symm⟩
          refine ⟨pre ++ [z ++ [c]], false, ?_, fun x hm => ?_, fun h => by cases h⟩
          · rw [joinD_more, hpz]
            simp
          · rcases List.mem_append.1 hm with hm | hm
            · exact hx x (by rw [hpz]; exact List.mem_append_left _ hm)
            · obtain rfl := List.mem_singleton.1 hm
              have hz := hx z (by rw [hpz]; simp)
              refine ⟨by simp, fun b hb => ?_⟩
              rcases List.mem_append.1 hb with hb | hb
              · exact hz.2 b hb
              · obtain rfl := List.mem_singleton.1 hb; exact hs
  · rw [if_neg ht]
    exact h
theorem nmOk_run : ∀ (s out : List UInt8), NmOk out → NmOk (nmRun s out)
  | [], out, h => h
  | c :: r, out, h => by
    unfold nmRun
    split
    · exact h
    · exact nmOk_run r _ (nmOk_step h c)
theorem nmStep_len (out : List UInt8) (c : UInt8) : (nmStep out c).length ≤ out.length + 1 := by
  unfold nmStep
  split
  · simp
  · omega
theorem nmRun_len : ∀ (s out : List UInt8), out.length ≤ 60 → (nmRun s out).length ≤ 60
  | [], out, h => h
  | c :: r, out, h => by
    unfold nmRun
    split
    · exact h
    · have := nmStep_len out c
      exact nmRun_len r _ (by omega)
theorem playN_form (s : List UInt8) : ∃ ls : List (List UInt8), playN s = joinD ls ∧ (∀ x ∈ ls, x ≠ [] ∧ ∀ c ∈ x, sign c) ∧ (joinD ls).length ≤ 60 := by
  have h60 := nmRun_len s [] (by simp)
  obtain ⟨ls, d, ho, hx, hd⟩ := nmOk_run s [] ⟨[], false, rfl, (fun x h => by cases h), (fun h => by cases h)⟩
  unfold playN trimDot
  cases d with
  | true =>
    rw [if_pos rfl] at ho
    rw [ho] at h60 ⊢
    rw [if_pos (by simp), List.dropLast_concat]
    exact ⟨ls, rfl, hx, by rw [List.length_append] at h60; omega⟩
  | false =>
    rw [if_neg (by decide), List.append_nil] at ho
    rw [ho] at h60 ⊢
    by_cases hls : ls = []
    · rw [hls]
      exact ⟨[], rfl, (fun x h => by cases h), by simp [joinD]⟩
    · obtain ⟨c, hc, hs⟩ := join_last ls hls hx
      rw [hc, if_neg (fun e => sign_ne hs (Option.some.inj e))]
      exact ⟨ls, rfl, hx, h60⟩
theorem join_labs {ls : List (List UInt8)} (hx : ∀ x ∈ ls, x ≠ [] ∧ ∀ c ∈ x, sign c) : labsN (joinD ls) = ls :=
  labsN_joinD fun x h => ⟨fun hm => (hx x h).2 46 hm |>.2.2.1 rfl, (hx x h).1⟩
theorem mem_le_join : ∀ (ls : List (List UInt8)) (x : List UInt8), x ∈ ls → x.length ≤ (joinD ls).length
  | [], _, h => by cases h
  | [y], x, h => by obtain rfl := List.mem_singleton.1 h; exact Nat.le_refl _
  | y :: z :: r, x, h => by
    rw [joinD_cons y (by simp), List.length_append, List.length_cons]
    rcases List.mem_cons.1 h with rfl | h
    · omega
    · have := mem_le_join (z :: r) x h; omega
theorem join_right {ls : List (List UInt8)} (hx : ∀ x ∈ ls, x ≠ [] ∧ ∀ c ∈ x, sign c) (h : (joinD ls).length ≤ 62) : rightN (joinD ls) := by
  unfold rightN
  rw [join_labs hx]
  refine ⟨fun x hm => ⟨(hx x hm).2, ?_, ?_⟩, ?_⟩
  · have := List.length_pos_iff.2 (hx x hm).1; omega
  · have := mem_le_join ls x hm; omega
  · cases hls : ls with
    | nil => decide
    | cons y r =>
      rw [← hls]
      have := joinD_length ls (by rw [hls]; simp)
      omega
theorem playN_right (s : List UInt8) : rightN (playN s) ∧ (playN s).length ≤ 60 := by
  obtain ⟨ls, e, hx, h⟩ := playN_form s
  rw [e]
  exact ⟨join_right hx (by omega), h⟩
end Go.Proofs.YtoagfmonfgagbaaGreatDoor

namespace Go.Proofs.YtoagfmonfgagbaaGreatDoor
open Go.RowKit
set_option maxRecDepth 100000
def longOk (n size : Nat) : Prop := size ≤ 63 ∧ n * (size + 1) + 1 ≤ 255
instance (n size : Nat) : Decidable (longOk n size) := by unfold longOk; infer_instance
end Go.Proofs.YtoagfmonfgagbaaGreatDoor
