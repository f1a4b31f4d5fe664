/-
  Names as values: labels, what may be one, what is written, what is read. No conditions.
  Package name's capital, odd; what may stand in a label. No conditions.
  Names that are written are read; labels with dots between are the name. No conditions.
  stockadeplay.Name as a value: whatever comes of a text is a name. No conditions.
  What the statements of stage 12 ask, as values: read back, in capitals, behind a pointer; chains of pointers; as long as may be; cut; under a zone. No conditions.
  What the statements of stage 12 ask, as values: as long as may be, cut anywhere, under a zone, one byte, each label. No conditions.
  Questions and records as values: what is read, what may be written, as it is written. No conditions.
  Questions and records that are written are read; cut anywhere they are none. No conditions.
  Messages as values: what is parsed, what may be written, as it is written. No conditions.
  What a message among the arguments is: its records' times are numbers of four bytes, its texts' lengths fit. No conditions.
  Which messages may not be written. No conditions.
-/
import Derived.Test.YtbikifaadpijnaaGreatDoorZ03
import Derived.Test.YtbikifaadpijnaaGreatDoorZ21
import Derived.Test.YtbikifaadpijnaaGreatDoorZ17
import Derived.Test.YtbikifaadpijnaaGreatDoorZ23
namespace Go.Proofs.YtbikifaadpijnaaGreatDoor
open Go.RowKit
set_option maxRecDepth 100000

/-- A byte of a label. -/
def sign (c : UInt8) : Prop := 33 ≤ c.toNat ∧ c.toNat ≤ 126 ∧ c.toNat ≠ 46 ∧ ¬ (65 ≤ c.toNat ∧ c.toNat ≤ 90)
instance (c : UInt8) : Decidable (sign c) := by unfold sign; infer_instance
/-- May it be a label? -/
def labOk (l : List UInt8) : Prop := (∀ c ∈ l, sign c) ∧ 1 ≤ l.length ∧ l.length ≤ 63
instance (l : List UInt8) : Decidable (labOk l) := by unfold labOk; infer_instance
/-- The labels of a text. -/
def labsN (l : List UInt8) : List (List UInt8) := if l = [] then [] else spl 46 l
def sizeL (ls : List (List UInt8)) : Nat := (ls.map fun x => 1 + x.length).sum
def rightN (l : List UInt8) : Prop := (∀ x ∈ labsN l, labOk x) ∧ 1 + sizeL (labsN l) ≤ 255
instance (l : List UInt8) : Decidable (rightN l) := by unfold rightN; infer_instance
def wireL (ls : List (List UInt8)) : List UInt8 := ls.flatMap fun x => UInt8.ofNat x.length :: x
def writeB (l : List UInt8) : List UInt8 := wireL (labsN l) ++ [0]
/-- What Write answers. -/
def writev (l : List UInt8) : List UInt8 := if rightN l then writeB l else []
def writee (l : List UInt8) : Fl := if rightN l then ⟨0, 0, false⟩ else ⟨13, 0, false⟩
def underN (a z : List UInt8) : Prop := z = [] ∨ a = z ∨ (z.length < a.length ∧ a.drop (a.length - z.length) = z ∧ a[a.length - z.length - 1]? = some 46)
instance (a z : List UInt8) : Decidable (underN a z) := by unfold underN; infer_instance
/-- Capitals made small. -/
def lowB (c : UInt8) : UInt8 := if 65 ≤ c.toNat ∧ c.toNat ≤ 90 then c + 32 else c
def lowL (l : List UInt8) : List UInt8 := l.map lowB
/-- A label behind what there is. -/
def dotted (a s : List UInt8) : List UInt8 := if a = [] then s else a ++ 46 :: s
def joinD : List (List UInt8) → List UInt8
  | [] => []
  | [x] => x
  | x :: y :: r => x ++ 46 :: joinD (y :: r)

/-! ### What is read -/
/-- How far it has come. -/
structure Rs where
  at_ : Nat
  below : Nat
  size : Nat
  name : List UInt8
  next : Option Nat
/-- What is answered. -/
structure Rd where
  name : List UInt8
  next : Nat
  f : Fl
def Rd.bad (c : Int) (a : Nat) : Rd := ⟨[], 0, ⟨c, a, true⟩⟩
def Rd.ok (name : List UInt8) (next : Nat) : Rd := ⟨name, next, ⟨0, 0, false⟩⟩
def rstep (l : List UInt8) (n : Nat) (s : Rs) : Rs ⊕ Rd :=
  if n ≤ s.at_ then .inr (.bad 3 s.at_)
  else if bat l s.at_ = 0 then .inr (.ok s.name (s.next.getD (s.at_ + 1)))
  else if bat l s.at_ ≤ 63 then
    if n < s.at_ + 1 + bat l s.at_ then .inr (.bad 3 s.at_)
    else if ¬ labOk (lowL ((l.drop (s.at_ + 1)).take (bat l s.at_))) then .inr (.bad 12 s.at_)
    else if 255 < s.size + 1 + bat l s.at_ then .inr (.bad 13 s.at_)
    else .inl ⟨s.at_ + 1 + bat l s.at_, s.below, s.size + 1 + bat l s.at_, dotted s.name (lowL ((l.drop (s.at_ + 1)).take (bat l s.at_))), s.next⟩
  else if 192 ≤ bat l s.at_ then
    if n ≤ s.at_ + 1 then .inr (.bad 3 s.at_)
    else if s.below ≤ num2 l s.at_ % 16384 then .inr (.bad 14 s.at_)
    else .inl ⟨num2 l s.at_ % 16384, num2 l s.at_ % 16384, s.size, s.name, some (s.next.getD (s.at_ + 2))⟩
  else .inr (.bad 12 s.at_)
def meas (s : Rs) : Nat := (256 - s.size) + s.below
theorem rstep_less {l : List UInt8} {n : Nat} {s s' : Rs} (h : rstep l n s = .inl s') (h5 : s.size ≤ 255) : s'.size ≤ 255 ∧ meas s' < meas s := by
  unfold rstep at h
  unfold meas
  split at h
  · cases h
  split at h
  · cases h
  split at h
  · split at h
    · cases h
    split at h
    · cases h
    split at h
    · cases h
    · cases h
      dsimp only
      omega
  · split at h
    · split at h
      · cases h
      split at h
      · cases h
      · cases h
        dsimp only
        omega
    · cases h
def rrun (l : List UInt8) (n : Nat) : Nat → Rs → Rd
  | 0, _ => .ok [] 0
  | f + 1, s => match rstep l n s with
    | .inr r => r
    | .inl s' => rrun l n f s'
theorem rrun_fuel {l : List UInt8} {n : Nat} : ∀ (f g : Nat) (s : Rs), s.size ≤ 255 → meas s < f → meas s < g → rrun l n f s = rrun l n g s
  | 0, _, _, _, h, _ => absurd h (by omega)
  | _, 0, _, _, _, h => absurd h (by omega)
  | f + 1, g + 1, s, h5, hf, hg => by
    unfold rrun
    cases h : rstep l n s with
    | inr r => rfl
    | inl s' =>
      obtain ⟨h1, h2⟩ := rstep_less h h5
      exact rrun_fuel f g s' h1 (by omega) (by omega)
/-- What is answered from there on. -/
def readS (l : List UInt8) (n : Nat) (s : Rs) : Rd := rrun l n (meas s + 1) s
theorem readS_end {l : List UInt8} {n : Nat} {s : Rs} {r : Rd} (h : rstep l n s = .inr r) : readS l n s = r := by
  unfold readS rrun
  rw [h]
theorem readS_on {l : List UInt8} {n : Nat} {s s' : Rs} (h : rstep l n s = .inl s') (h5 : s.size ≤ 255) : readS l n s = readS l n s' := by
  obtain ⟨h1, h2⟩ := rstep_less h h5
  have e : readS l n s = rrun l n (meas s) s' := by
    show rrun l n (meas s + 1) s = _
    unfold rrun
    rw [h]
    cases hm : meas s with
    | zero => omega
    | succ k => rfl
  rw [e]
  exact rrun_fuel _ _ s' h1 h2 (Nat.lt_succ_self _)
/-- What Read answers. -/
def readv (l : List UInt8) (n : Nat) (at_ : Int) : Rd := if at_ < 0 then ⟨[], 0, ⟨1, 0, false⟩⟩ else readS l n ⟨at_.toNat, at_.toNat, 1, [], none⟩
end Go.Proofs.YtbikifaadpijnaaGreatDoor

namespace Go.Proofs.YtbikifaadpijnaaGreatDoor
open Go.RowKit
set_option maxRecDepth 100000

def capB (c : UInt8) : Prop := 65 ≤ c.toNat ∧ c.toNat ≤ 90
instance (c : UInt8) : Decidable (capB c) := by unfold capB; infer_instance
theorem capital_any (c : UInt8) (w : World) : Calls Tryz.prog 139 #[.int .u8 c.toNat] w fun e w' => e = .returned (.bool (decide (capB c))) ∧ w = w' := by
  by_cases h0 : 65 ≤ c.toNat
  · have e1 : decide (capB c) = decide ((c.toNat : Int) ≤ 90) := decide_eq_decide.2 ⟨fun h => by have := h.2; omega, fun h => ⟨h0, by omega⟩⟩
    rw [e1]
    clear e1
    go_enter Tryz.func139, Tryz.ntmps139
    go_wp2
    go_ret
    exact ⟨rfl, rfl⟩
  · rw [decide_eq_false (show ¬ capB c from fun h => h0 h.1)]
    go_enter Tryz.func139, Tryz.ntmps139
    go_wp2
    go_ret
    exact ⟨rfl, rfl⟩
theorem odd_any (c : UInt8) (w : World) : Calls Tryz.prog 129 #[.int .u8 c.toNat] w fun e w' => e = .returned (.bool (decide (¬ sign c))) ∧ w = w' := by
  by_cases h0 : c.toNat < 33
  · rw [decide_eq_true (show ¬ sign c from fun h => by unfold sign at h; omega)]
    go_enter Tryz.func129, Tryz.ntmps129
    go_wp2_with fail
    go_ret
    exact ⟨rfl, rfl⟩
  · by_cases h1 : 126 < c.toNat
    · rw [decide_eq_true (show ¬ sign c from fun h => by unfold sign at h; omega)]
      go_enter Tryz.func129, Tryz.ntmps129
      go_wp2_with fail
      go_ret
      exact ⟨rfl, rfl⟩
    · by_cases h2 : c.toNat = 46
      · rw [decide_eq_true (show ¬ sign c from fun h => by unfold sign at h; omega)]
        go_enter Tryz.func129, Tryz.ntmps129
        go_wp2_with fail
        go_ret
        exact ⟨rfl, rfl⟩
      · have e : decide (¬ sign c) = (decide ((c.toNat : Int) < 33) || decide (126 < (c.toNat : Int)) || (c.toNat : Int) == 46 || decide (capB c)) := by
          rw [decide_eq_false (show ¬ (c.toNat : Int) < 33 by omega), decide_eq_false (show ¬ 126 < (c.toNat : Int) by omega), beq_eq_false_iff_ne.2 (show (c.toNat : Int) ≠ 46 by omega), Bool.false_or, Bool.false_or, Bool.false_or]
          apply decide_eq_decide.2
          unfold sign capB
          omega
        rw [e]
        have K := Lib.hid (capital_any c w)
        generalize decide (capB c) = r at K ⊢
        clear e
        go_enter Tryz.func129, Tryz.ntmps129
        go_wp2_with fail
        refine K.out.mono ?_
        rintro e w' ⟨rfl, rfl⟩
        go_wp2_with fail
        go_ret
        exact ⟨rfl, rfl⟩
end Go.Proofs.YtbikifaadpijnaaGreatDoor

namespace Go.Proofs.YtbikifaadpijnaaGreatDoor
open Go.RowKit
set_option maxRecDepth 100000

/-! ### Labels, and dots between -/
theorem joinD_cons (x : List UInt8) {r : List (List UInt8)} (h : r ≠ []) : joinD (x :: r) = x ++ 46 :: joinD r := by
  cases r with
  | nil => exact absurd rfl h
  | cons y r => rfl
theorem joinD_onHead (b : UInt8) {ls : List (List UInt8)} (h : ls ≠ []) : joinD (onHead b ls) = b :: joinD ls := by
  cases ls with
  | nil => exact absurd rfl h
  | cons x r =>
    show joinD ((b :: x) :: r) = _
    cases r with
    | nil => rfl
    | cons y r => rfl
theorem joinD_splN : ∀ (l : List UInt8) (k : Nat), joinD (splN 46 l k) = l
  | l, 0 => by rw [splN_zero]; rfl
  | [], k + 1 => rfl
  | b :: r, k + 1 => by
    rw [splN_cons]
    by_cases hb : b = 46
    · rw [if_pos hb, joinD_cons _ (splN_ne 46 r k), joinD_splN r k, hb]
      rfl
    · rw [if_neg hb, joinD_onHead b (splN_ne 46 r (k + 1)), joinD_splN r (k + 1)]
theorem joinD_labsN (l : List UInt8) : joinD (labsN l) = l := by
  unfold labsN
  split
  · rename_i h; rw [h]; rfl
  · exact joinD_splN l _
theorem splN_joinD : ∀ (ls : List (List UInt8)) (k : Nat), ls ≠ [] → (∀ x ∈ ls, (46 : UInt8) ∉ x) → ls.length ≤ k + 1 → splN 46 (joinD ls) k = ls
  | [], _, h, _, _ => absurd rfl h
  | [x], k, _, hx, _ => sp_plain 46 x k (hx x (by simp))
  | x :: y :: r, 0, _, _, h => by simp at h
  | x :: y :: r, k + 1, _, hx, h => by
    rw [joinD_cons x (by simp), sp_cons 46 x _ k (hx x (by simp)), splN_joinD (y :: r) k (by simp) (fun z hz => hx z (List.mem_cons_of_mem _ hz)) (by simpa using h)]
theorem joinD_length : ∀ (ls : List (List UInt8)), ls ≠ [] → (joinD ls).length + 1 = sizeL ls
  | [], h => absurd rfl h
  | [x], _ => by simp [joinD, sizeL]; omega
  | x :: y :: r, _ => by
    have h := joinD_length (y :: r) (by simp)
    rw [joinD_cons x (by simp), List.length_append, List.length_cons]
    show _ = (1 + x.length) + sizeL (y :: r)
    omega
theorem sizeL_ge : ∀ (ls : List (List UInt8)), ls.length ≤ sizeL ls
  | [] => Nat.zero_le _
  | x :: r => by
    have h := sizeL_ge r
    show r.length + 1 ≤ (1 + x.length) + sizeL r
    omega
theorem joinD_ne {ls : List (List UInt8)} (h : ls ≠ []) (hx : ∀ x ∈ ls, x ≠ []) : joinD ls ≠ [] := by
  cases ls with
  | nil => exact absurd rfl h
  | cons x r =>
    have hx0 := hx x (by simp)
    cases r with
    | nil => exact hx0
    | cons y r => rw [joinD_cons x (by simp)]; simp
theorem labsN_joinD {ls : List (List UInt8)} (hx : ∀ x ∈ ls, (46 : UInt8) ∉ x ∧ x ≠ []) : labsN (joinD ls) = ls := by
  cases hls : ls with
  | nil => rfl
  | cons x r =>
    rw [← hls]
    have hne : ls ≠ [] := by rw [hls]; simp
    unfold labsN
    rw [if_neg (joinD_ne hne fun x h => (hx x h).2)]
    have h1 := joinD_length ls hne
    have h2 := sizeL_ge ls
    exact splN_joinD ls _ hne (fun x h => (hx x h).1) (by omega)
theorem splN_no (c : UInt8) : ∀ (l : List UInt8) (k : Nat), l.length ≤ k → ∀ x ∈ splN c l k, c ∉ x
  | [], 0, _, x, h => by rw [splN_zero] at h; obtain rfl := List.mem_singleton.1 h; simp
  | [], k + 1, _, x, h => by obtain rfl := List.mem_singleton.1 h; simp
  | b :: r, 0, h, _, _ => by simp at h
  | b :: r, k + 1, h, x, hx => by
    simp only [List.length_cons] at h
    rw [splN_cons] at hx
    by_cases hb : b = c
    · rw [if_pos hb] at hx
      rcases List.mem_cons.1 hx with rfl | hx
      · simp
      · exact splN_no c r k (by omega) x hx
    · rw [if_neg hb] at hx
      have ih := splN_no c r (k + 1) (by omega)
      cases hs : splN c r (k + 1) with
      | nil => exact absurd hs (splN_ne c r _)
      | cons y ys =>
        rw [hs] at hx ih
        rcases List.mem_cons.1 hx with rfl | hx
        · intro hm
          rcases List.mem_cons.1 hm with e | hm
          · exact hb e.symm
          · exact ih y (by simp) hm
        · exact ih x (by simp [hx])
theorem labsN_no {l : List UInt8} : ∀ x ∈ labsN l, (46 : UInt8) ∉ x := fun x hx => by
  unfold labsN at hx
  split at hx
  · cases hx
  · exact splN_no 46 l _ (Nat.le_refl _) x hx
theorem labsN_ne {l : List UInt8} (h : l ≠ []) : labsN l ≠ [] := by
  unfold labsN
  rw [if_neg h]
  exact splN_ne 46 l _
theorem sizeL_labsN {l : List UInt8} (h : l ≠ []) : sizeL (labsN l) = l.length + 1 := by
  have h1 := joinD_length (labsN l) (labsN_ne h)
  rw [joinD_labsN] at h1
  omega
theorem wireL_length : ∀ ls : List (List UInt8), (wireL ls).length = sizeL ls
  | [] => rfl
  | x :: r => by
    show (UInt8.ofNat x.length :: x ++ wireL r).length = (1 + x.length) + sizeL r
    rw [List.length_append, List.length_cons, wireL_length r]
    omega
theorem wireL_cons (x : List UInt8) (r : List (List UInt8)) : wireL (x :: r) = UInt8.ofNat x.length :: (x ++ wireL r) := rfl
theorem wireL_append (a b : List (List UInt8)) : wireL (a ++ b) = wireL a ++ wireL b := by simp [wireL]
theorem sizeL_append (a b : List (List UInt8)) : sizeL (a ++ b) = sizeL a + sizeL b := by simp [sizeL]
theorem writeB_length (l : List UInt8) : (writeB l).length = if l = [] then 1 else l.length + 2 := by
  unfold writeB
  rw [List.length_append, wireL_length]
  split
  · rename_i h; rw [h]; rfl
  · rename_i h; rw [sizeL_labsN h]; rfl
theorem labOk_ne {x : List UInt8} (h : labOk x) : x ≠ [] := fun e => by
  have := h.2.1
  rw [e] at this
  simp at this
theorem labOk_no {x : List UInt8} (h : labOk x) : (46 : UInt8) ∉ x := fun hm => (h.1 46 hm).2.2.1 rfl
theorem lowL_length (x : List UInt8) : (lowL x).length = x.length := by simp [lowL]
theorem lowB_sign {c : UInt8} (h : sign c) : lowB c = c := by unfold lowB; rw [if_neg h.2.2.2]
theorem lowL_ok {x : List UInt8} (h : labOk x) : lowL x = x := by
  unfold lowL
  conv => rhs; rw [← List.map_id x]
  exact List.map_congr_left fun c hc => lowB_sign (h.1 c hc)
theorem foldl_dotted : ∀ (ls : List (List UInt8)) (a : List UInt8), (∀ x ∈ ls, x ≠ []) → a ≠ [] → ls.foldl dotted a = joinD (a :: ls)
  | [], a, _, _ => rfl
  | x :: r, a, hx, ha => by
    show r.foldl dotted (dotted a x) = a ++ 46 :: joinD (x :: r)
    have e : dotted a x = a ++ 46 :: x := by unfold dotted; rw [if_neg ha]
    rw [e, foldl_dotted r _ (fun z hz => hx z (List.mem_cons_of_mem _ hz)) (by simp)]
    cases r with
    | nil => rfl
    | cons y r => rw [joinD_cons _ (by simp), joinD_cons x (by simp)]; simp
theorem foldl_dotted_nil {ls : List (List UInt8)} (hx : ∀ x ∈ ls, x ≠ []) : ls.foldl dotted [] = joinD ls := by
  cases ls with
  | nil => rfl
  | cons x r =>
    show r.foldl dotted (dotted [] x) = _
    rw [show dotted [] x = x from rfl]
    exact foldl_dotted r x (fun z hz => hx z (List.mem_cons_of_mem _ hz)) (hx x (by simp))

/-! ### What is read -/
theorem bat_head {l : List UInt8} {i : Nat} {x : UInt8} {r : List UInt8} (h : l.drop i = x :: r) : bat l i = x.toNat ∧ i < l.length ∧ l.drop (i + 1) = r := by
  have h1 : l[i]? = some x := by
    have := congrArg (fun t : List UInt8 => t[0]?) h
    simpa using this
  refine ⟨bat_get h1, (List.getElem?_eq_some_iff.1 h1).1, ?_⟩
  rw [← List.drop_drop (i := 1) (j := i), h]
  rfl
theorem read_labels {l : List UInt8} {n : Nat} (hn : l.length = n) : ∀ (ys : List (List UInt8)) (at_ below size : Nat) (a : List UInt8) (next : Option Nat) (rest : List UInt8), (∀ y ∈ ys, labOk (lowL y)) → size + sizeL ys ≤ 255 → l.drop at_ = wireL ys ++ rest →
    readS l n ⟨at_, below, size, a, next⟩ = readS l n ⟨at_ + sizeL ys, below, size + sizeL ys, (ys.map lowL).foldl dotted a, next⟩
  | [], _, _, _, _, _, _, _, _, _ => rfl
  | y :: ys, at_, below, size, a, next, rest, hy, hs, hd => by
    have hy0 := hy y (by simp)
    have h1 := hy0.2.1
    have h63 := hy0.2.2
    rw [lowL_length] at h1 h63
    have hsz : sizeL (y :: ys) = 1 + y.length + sizeL ys := rfl
    rw [wireL_cons, List.cons_append, List.append_assoc] at hd
    obtain ⟨hb, hlt, hd1⟩ := bat_head hd
    have hbl : bat l at_ = y.length := by rw [hb, UInt8.toNat_ofNat']; omega
    have hd2 : l.drop (at_ + 1 + y.length) = wireL ys ++ rest := by rw [← List.drop_drop (i := y.length) (j := at_ + 1), hd1, List.drop_left' rfl]
    have htk : (l.drop (at_ + 1)).take y.length = y := by rw [hd1, List.take_left' rfl]
    have hlen : at_ + 1 + y.length ≤ n := by
      have := congrArg List.length hd1
      rw [List.length_drop, List.length_append] at this
      omega
    have hst : rstep l n ⟨at_, below, size, a, next⟩ = .inl ⟨at_ + 1 + y.length, below, size + 1 + y.length, dotted a (lowL y), next⟩ := by
      unfold rstep
      dsimp only
      rw [hbl, htk, if_neg (by omega), if_neg (by omega), if_pos (by omega), if_neg (by omega), if_neg (by simpa using hy0), if_neg (by omega)]
    rw [readS_on hst (by dsimp only; omega), read_labels hn ys (at_ + 1 + y.length) below (size + 1 + y.length) (dotted a (lowL y)) next rest (fun z hz => hy z (List.mem_cons_of_mem _ hz)) (by omega) hd2, hsz]
    rw [show at_ + 1 + y.length + sizeL ys = at_ + (1 + y.length + sizeL ys) by omega, show size + 1 + y.length + sizeL ys = size + (1 + y.length + sizeL ys) by omega]
    rfl
theorem read_end {l : List UInt8} {n : Nat} (hn : l.length = n) {at_ below size : Nat} {a : List UInt8} {next : Option Nat} {rest : List UInt8} (hd : l.drop at_ = 0 :: rest) :
    readS l n ⟨at_, below, size, a, next⟩ = .ok a (next.getD (at_ + 1)) := by
  obtain ⟨hb, hlt, _⟩ := bat_head hd
  refine readS_end ?_
  unfold rstep
  dsimp only
  rw [hb, if_neg (by omega), if_pos (show UInt8.toNat 0 = 0 from rfl)]
theorem num2_head {l : List UInt8} {i : Nat} {x y : UInt8} {r : List UInt8} (h : l.drop i = x :: y :: r) : num2 l i = x.toNat * 256 + y.toNat ∧ i + 2 ≤ l.length ∧ l.drop (i + 2) = r := by
  obtain ⟨h1, h2, h3⟩ := bat_head h
  obtain ⟨h4, h5, h6⟩ := bat_head h3
  rw [num2_bat (by omega), h1, h4]
  exact ⟨rfl, by omega, h6⟩
/-- A pointer, whose two bytes tell a place. -/
theorem read_ptr {l : List UInt8} {n : Nat} (hn : l.length = n) {at_ below size : Nat} {a : List UInt8} {next : Option Nat} {x y : UInt8} {rest : List UInt8} (h5 : size ≤ 255) (hd : l.drop at_ = x :: y :: rest) (hx : 192 ≤ x.toNat) {to : Nat} (ht : (x.toNat * 256 + y.toNat) % 16384 = to) (hto : to < below) :
    readS l n ⟨at_, below, size, a, next⟩ = readS l n ⟨to, to, size, a, some (next.getD (at_ + 2))⟩ := by
  obtain ⟨hb, hlt, _⟩ := bat_head hd
  obtain ⟨hm, h2, _⟩ := num2_head hd
  refine readS_on ?_ h5
  unfold rstep
  dsimp only
  rw [hm, ht, hb, if_neg (by omega), if_neg (by omega), if_neg (by omega), if_pos hx, if_neg (by omega), if_neg (by omega)]
theorem read_ptr_bad {l : List UInt8} {n : Nat} (hn : l.length = n) {at_ below size : Nat} {a : List UInt8} {next : Option Nat} {x y : UInt8} {rest : List UInt8} (hd : l.drop at_ = x :: y :: rest) (hx : 192 ≤ x.toNat) {to : Nat} (ht : (x.toNat * 256 + y.toNat) % 16384 = to) (hto : below ≤ to) :
    readS l n ⟨at_, below, size, a, next⟩ = .bad 14 at_ := by
  obtain ⟨hb, hlt, _⟩ := bat_head hd
  obtain ⟨hm, h2, _⟩ := num2_head hd
  refine readS_end ?_
  unfold rstep
  dsimp only
  rw [hm, ht, hb, if_neg (by omega), if_neg (by omega), if_neg (by omega), if_pos hx, if_neg (by omega), if_pos (by omega)]
/-- What is written is read, in capitals too. -/
theorem read_wire {l : List UInt8} {n : Nat} (hn : l.length = n) {ys : List (List UInt8)} {at_ : Nat} {rest : List UInt8} (hy : ∀ y ∈ ys, labOk (lowL y)) (hs : 1 + sizeL ys ≤ 255) (hd : l.drop at_ = wireL ys ++ 0 :: rest) :
    readv l n at_ = .ok (joinD (ys.map lowL)) (at_ + sizeL ys + 1) := by
  unfold readv
  rw [if_neg (by omega), Int.toNat_natCast, read_labels hn ys at_ at_ 1 [] none _ hy (by omega) hd]
  have hd2 : l.drop (at_ + sizeL ys) = 0 :: rest := by rw [← wireL_length, ← List.drop_drop, hd, List.drop_left' rfl]
  rw [read_end hn hd2, foldl_dotted_nil]
  · rfl
  · intro x hx
    obtain ⟨y, hy1, rfl⟩ := List.mem_map.1 hx
    exact labOk_ne (hy y hy1)
theorem read_written {l : List UInt8} {n : Nat} (hn : l.length = n) {s : List UInt8} (hs : rightN s) {at_ : Nat} {rest : List UInt8} (hd : l.drop at_ = writeB s ++ rest) : readv l n at_ = .ok s (at_ + (writeB s).length) := by
  unfold writeB at hd ⊢
  rw [List.append_assoc] at hd
  have hlow : (labsN s).map lowL = labsN s := by
    conv => rhs; rw [← List.map_id (labsN s)]
    exact List.map_congr_left fun x hx => lowL_ok (hs.1 x hx)
  have h := read_wire hn (ys := labsN s) (rest := rest) (fun y hy => by rw [lowL_ok (hs.1 y hy)]; exact hs.1 y hy) hs.2 hd
  rw [hlow, joinD_labsN] at h
  rw [h, List.length_append, wireL_length]
  rfl
end Go.Proofs.YtbikifaadpijnaaGreatDoor

namespace Go.Proofs.YtbikifaadpijnaaGreatDoor
open Go.RowKit
set_option maxRecDepth 100000

/-- A text as it grows: a byte that may stand there, or not. -/
def nmTakes (out : List UInt8) (c : UInt8) : Prop := (c = 46 ∧ out ≠ [] ∧ out.getLast? ≠ some 46) ∨ sign c
instance (out : List UInt8) (c : UInt8) : Decidable (nmTakes out c) := by unfold nmTakes; infer_instance
def nmStep (out : List UInt8) (c : UInt8) : List UInt8 := if nmTakes out c then out ++ [c] else out
def nmRun : List UInt8 → List UInt8 → List UInt8
  | [], out => out
  | c :: r, out => if 60 ≤ out.length then out else nmRun r (nmStep out c)
def trimDot (out : List UInt8) : List UInt8 := if out.getLast? = some 46 then out.dropLast else out
def playN (s : List UInt8) : List UInt8 := trimDot (nmRun s [])
theorem nmRun_full {out : List UInt8} (h : 60 ≤ out.length) : ∀ s, nmRun s out = out
  | [] => rfl
  | c :: r => by unfold nmRun; rw [if_pos h]

/-- Labels of signs, with dots between, and perhaps one behind. -/
def NmOk (out : List UInt8) : Prop := ∃ (ls : List (List UInt8)) (d : Bool), out = joinD ls ++ (if d then [46] else []) ∧ (∀ x ∈ ls, x ≠ [] ∧ ∀ c ∈ x, sign c) ∧ (d = true → ls ≠ [])
theorem joinD_snoc : ∀ (ls : List (List UInt8)) (x : List UInt8), ls ≠ [] → joinD (ls ++ [x]) = joinD ls ++ 46 :: x
  | [], _, h => absurd rfl h
  | [y], x, _ => rfl
  | y :: z :: r, x, _ => by
    show joinD (y :: ((z :: r) ++ [x])) = _
    rw [joinD_cons y (by simp), joinD_snoc (z :: r) x (by simp), joinD_cons y (by simp)]
    simp
theorem joinD_more : ∀ (ls : List (List UInt8)) (x y : List UInt8), joinD (ls ++ [x ++ y]) = joinD (ls ++ [x]) ++ y
  | [], x, y => rfl
  | z :: r, x, y => by
    show joinD (z :: (r ++ [x ++ y])) = joinD (z :: (r ++ [x])) ++ y
    rw [joinD_cons z (by simp), joinD_cons z (by simp), joinD_more r x y]
    simp
theorem sign_ne {c : UInt8} (h : sign c) : c ≠ 46 := fun e => h.2.2.1 (by rw [e]; rfl)
theorem join_last : ∀ (ls : List (List UInt8)), ls ≠ [] → (∀ x ∈ ls, x ≠ [] ∧ ∀ c ∈ x, sign c) → ∃ c, (joinD ls).getLast? = some c ∧ sign c
  | [], h, _ => absurd rfl h
  | [x], _, hx => by
    obtain ⟨h1, h2⟩ := hx x (by simp)
    refine ⟨x.getLast h1, List.getLast?_eq_some_getLast h1, h2 _ (List.getLast_mem h1)⟩
  | x :: y :: r, _, hx => by
    obtain ⟨c, hc, hs⟩ := join_last (y :: r) (by simp) (fun z hz => hx z (List.mem_cons_of_mem _ hz))
    refine ⟨c, ?_, hs⟩
    rw [joinD_cons x (by simp), List.getLast?_append, List.getLast?_cons, hc]
    rfl
theorem nmOk_step {out : List UInt8} (h : NmOk out) (c : UInt8) : NmOk (nmStep out c) := by
  unfold nmStep
  by_cases ht : nmTakes out c
  · rw [if_pos ht]
    obtain ⟨ls, d, rfl, hx, hd⟩ := h
    rcases ht with ⟨rfl, hne, hl⟩ | hs
    · cases d with
      | true => exact absurd (by simp) hl
      | false => exact ⟨ls, true, by simp, hx, fun _ e => hne (by rw [e]; rfl)⟩
    · cases d with
      | true =>
        refine ⟨ls ++ [[c]], false, ?_, fun x hm => ?_, fun h => by cases h⟩
        · rw [joinD_snoc ls [c] (hd rfl)]
          simp
        · rcases List.mem_append.1 hm with hm | hm
          · exact hx x hm
          · obtain rfl := List.mem_singleton.1 hm
            exact ⟨by simp, fun b hb => by obtain rfl := List.mem_singleton.1 hb; exact hs⟩
      | false =>
        cases hls : ls with
        | nil => exact ⟨[[c]], false, rfl, fun x hm => by
            obtain rfl := List.mem_singleton.1 hm
            exact ⟨by simp, fun b hb => by obtain rfl := List.mem_singleton.1 hb; exact hs⟩, fun h => by cases h⟩
        | cons y r =>
          rw [← hls]
          have hne : ls ≠ [] := by rw [hls]; simp
          obtain ⟨pre, z, hpz⟩ : ∃ pre z, ls = pre ++ [z] := ⟨ls.dropLast, ls.getLast hne, (List.dropLast_concat_getLast hne).symm⟩
          refine ⟨pre ++ [z ++ [c]], false, ?_, fun x hm => ?_, fun h => by cases h⟩
          · rw [joinD_more, hpz]
            simp
          · rcases List.mem_append.1 hm with hm | hm
            · exact hx x (by rw [hpz]; exact List.mem_append_left _ hm)
            · obtain rfl := List.mem_singleton.1 hm
              have hz := hx z (by rw [hpz]; simp)
              refine ⟨by simp, fun b hb => ?_⟩
              rcases List.mem_append.1 hb with hb | hb
              · exact hz.2 b hb
              · obtain rfl := List.mem_singleton.1 hb; exact hs
  · rw [if_neg ht]
    exact h
theorem nmOk_run : ∀ (s out : List UInt8), NmOk out → NmOk (nmRun s out)
  | [], out, h => h
  | c :: r, out, h => by
    unfold nmRun
    split
    · exact h
    · exact nmOk_run r _ (nmOk_step h c)
theorem nmStep_len (out : List UInt8) (c : UInt8) : (nmStep out c).length ≤ out.length + 1 := by
  unfold nmStep
  split
  · simp
  · omega
theorem nmRun_len : ∀ (s out : List UInt8), out.length ≤ 60 → (nmRun s out).length ≤ 60
  | [], out, h => h
  | c :: r, out, h => by
    unfold nmRun
    split
    · exact h
    · have := nmStep_len out c
      exact nmRun_len r _ (by omega)
/-- Whatever comes of it: so many labels of signs, with dots between. -/
theorem playN_form (s : List UInt8) : ∃ ls : List (List UInt8), playN s = joinD ls ∧ (∀ x ∈ ls, x ≠ [] ∧ ∀ c ∈ x, sign c) ∧ (joinD ls).length ≤ 60 := by
  have h60 := nmRun_len s [] (by simp)
  obtain ⟨ls, d, ho, hx, hd⟩ := nmOk_run s [] ⟨[], false, rfl, (fun x h => by cases h), (fun h => by cases h)⟩
  unfold playN trimDot
  cases d with
  | true =>
    rw [if_pos rfl] at ho
    rw [ho] at h60 ⊢
    rw [if_pos (by simp), List.dropLast_concat]
    exact ⟨ls, rfl, hx, by rw [List.length_append] at h60; omega⟩
  | false =>
    rw [if_neg (by decide), List.append_nil] at ho
    rw [ho] at h60 ⊢
    by_cases hls : ls = []
    · rw [hls]
      exact ⟨[], rfl, (fun x h => by cases h), by simp [joinD]⟩
    · obtain ⟨c, hc, hs⟩ := join_last ls hls hx
      rw [hc, if_neg (fun e => sign_ne hs (Option.some.inj e))]
      exact ⟨ls, rfl, hx, h60⟩
theorem join_labs {ls : List (List UInt8)} (hx : ∀ x ∈ ls, x ≠ [] ∧ ∀ c ∈ x, sign c) : labsN (joinD ls) = ls :=
  labsN_joinD fun x h => ⟨fun hm => (hx x h).2 46 hm |>.2.2.1 rfl, (hx x h).1⟩
theorem mem_le_join : ∀ (ls : List (List UInt8)) (x : List UInt8), x ∈ ls → x.length ≤ (joinD ls).length
  | [], _, h => by cases h
  | [y], x, h => by obtain rfl := List.mem_singleton.1 h; exact Nat.le_refl _
  | y :: z :: r, x, h => by
    rw [joinD_cons y (by simp), List.length_append, List.length_cons]
    rcases List.mem_cons.1 h with rfl | h
    · omega
    · have := mem_le_join (z :: r) x h; omega
/-- It is a name, of sixty bytes at most. -/
theorem join_right {ls : List (List UInt8)} (hx : ∀ x ∈ ls, x ≠ [] ∧ ∀ c ∈ x, sign c) (h : (joinD ls).length ≤ 62) : rightN (joinD ls) := by
  unfold rightN
  rw [join_labs hx]
  refine ⟨fun x hm => ⟨(hx x hm).2, ?_, ?_⟩, ?_⟩
  · have := List.length_pos_iff.2 (hx x hm).1; omega
  · have := mem_le_join ls x hm; omega
  · cases hls : ls with
    | nil => decide
    | cons y r =>
      rw [← hls]
      have := joinD_length ls (by rw [hls]; simp)
      omega
theorem playN_right (s : List UInt8) : rightN (playN s) ∧ (playN s).length ≤ 60 := by
  obtain ⟨ls, e, hx, h⟩ := playN_form s
  rw [e]
  exact ⟨join_right hx (by omega), h⟩
theorem labsN_signs {l : List UInt8} (h : rightN l) : ∀ x ∈ labsN l, x ≠ [] ∧ ∀ c ∈ x, sign c := fun x hm => ⟨labOk_ne (h.1 x hm), (h.1 x hm).1⟩
end Go.Proofs.YtbikifaadpijnaaGreatDoor

namespace Go.Proofs.YtbikifaadpijnaaGreatDoor
open Go.RowKit
set_option maxRecDepth 100000

/-! ### In capitals -/
def raiseB (u : Bool) (c : UInt8) : UInt8 := if u = true ∧ 97 ≤ c.toNat ∧ c.toNat ≤ 122 then c - 32 else c
def raised : List Bool → List UInt8 → List UInt8
  | _, [] => []
  | [], l => l
  | u :: us, c :: l => raiseB u c :: raised us l
theorem raised_nil (l : List UInt8) : raised [] l = l := by cases l <;> rfl
theorem raised_append : ∀ (us : List Bool) (a b : List UInt8), raised us (a ++ b) = raised us a ++ raised (us.drop a.length) b
  | [], a, b => by rw [raised_nil, raised_nil, List.drop_nil, raised_nil]
  | u :: us, [], b => by simp [raised]
  | u :: us, c :: a, b => by
    show raiseB u c :: raised us (a ++ b) = _
    rw [raised_append us a b]
    rfl
theorem raised_length : ∀ (us : List Bool) (l : List UInt8), (raised us l).length = l.length
  | _, [] => by simp [raised]
  | [], c :: l => rfl
  | u :: us, c :: l => by
    show (raiseB u c :: raised us l).length = _
    rw [List.length_cons, raised_length us l, List.length_cons]
theorem raiseB_low {u : Bool} {c : UInt8} (h : sign c) : lowB (raiseB u c) = c := by
  unfold raiseB
  by_cases hu : u = true ∧ 97 ≤ c.toNat ∧ c.toNat ≤ 122
  · rw [if_pos hu]
    have h1 : (c - 32).toNat = c.toNat - 32 := by rw [UInt8.toNat_sub_of_le _ _ (by rw [UInt8.le_iff_toNat_le]; show 32 ≤ _; omega)]; rfl
    unfold lowB
    rw [if_pos (by omega)]
    apply UInt8.toNat_inj.1
    rw [UInt8.toNat_add, h1]
    show (c.toNat - 32 + 32) % 256 = _
    have := c.toNat_lt
    omega
  · rw [if_neg hu]
    exact lowB_sign h
theorem raiseB_small {u : Bool} {c : UInt8} (h : c.toNat < 97) : raiseB u c = c := by
  unfold raiseB
  rw [if_neg (by omega)]
theorem raised_low : ∀ (us : List Bool) (x : List UInt8), (∀ c ∈ x, sign c) → lowL (raised us x) = x
  | _, [], _ => by simp [raised, lowL]
  | [], c :: x, h => by
    rw [raised_nil]
    unfold lowL
    conv => rhs; rw [← List.map_id (c :: x)]
    exact List.map_congr_left fun b hb => lowB_sign (h b hb)
  | u :: us, c :: x, h => by
    show lowB (raiseB u c) :: lowL (raised us x) = _
    rw [raiseB_low (h c (by simp)), raised_low us x fun b hb => h b (List.mem_cons_of_mem _ hb)]
/-- What is written, in capitals here and there: labels that are the same when made small. -/
theorem raised_wire : ∀ (ls : List (List UInt8)) (us : List Bool), (∀ x ∈ ls, labOk x) → ∃ ys : List (List UInt8), raised us (wireL ls ++ [0]) = wireL ys ++ [0] ∧ ys.map lowL = ls ∧ ∀ y ∈ ys, labOk (lowL y)
  | [], us, _ => by
    refine ⟨[], ?_, rfl, fun y h => by cases h⟩
    show raised us [0] = [0]
    cases us with
    | nil => rfl
    | cons u us => show raiseB u 0 :: raised us [] = [0]; rw [raiseB_small (by decide)]; cases us <;> rfl
  | x :: ls, us, h => by
    have hx := h x (by simp)
    have h63 := hx.2.2
    obtain ⟨ys, h1, h2, h3⟩ := raised_wire ls ((us.drop 1).drop x.length) fun z hz => h z (List.mem_cons_of_mem _ hz)
    refine ⟨raised (us.drop 1) x :: ys, ?_, ?_, fun y hy => ?_⟩
    · rw [wireL_cons, List.cons_append, List.append_assoc]
      have e : raised us (UInt8.ofNat x.length :: (x ++ (wireL ls ++ [0]))) = UInt8.ofNat x.length :: raised (us.drop 1) (x ++ (wireL ls ++ [0])) := by
        cases us with
        | nil => show _ = UInt8.ofNat x.length :: raised [] _; rw [raised_nil, raised_nil]
        | cons u us =>
          show raiseB u _ :: raised us _ = _
          rw [raiseB_small (by rw [UInt8.toNat_ofNat']; omega)]
          rfl
      rw [e, raised_append, h1, wireL_cons, raised_length]
      simp
    · show lowL (raised (us.drop 1) x) :: ys.map lowL = _
      rw [raised_low _ x hx.1, h2]
    · rcases List.mem_cons.1 hy with rfl | hy
      · rw [raised_low _ x hx.1]; exact hx
      · exact h3 y hy
/-- Read where it stands, in capitals too. -/
theorem back_read {s : List UInt8} (hs : rightN s) (us : List Bool) {ahead behind l : List UInt8} {n : Nat} (hn : l.length = n) (hl : l = ahead ++ (raised us (writeB s) ++ behind)) {at_ : Nat} (ha : ahead.length = at_) :
    readv l n at_ = .ok s (at_ + (writeB s).length) := by
  obtain ⟨ys, h1, h2, h3⟩ := raised_wire (labsN s) us hs.1
  have hd : l.drop at_ = wireL ys ++ 0 :: behind := by
    rw [hl, List.drop_left' ha]
    unfold writeB
    rw [h1, List.append_assoc]
    rfl
  have hsz : sizeL ys = sizeL (labsN s) := by
    rw [← h2]
    unfold sizeL
    rw [List.map_map]
    congr 1
    exact List.map_congr_left fun y _ => by simp [lowL]
  have h := read_wire hn h3 (by rw [hsz]; exact hs.2) hd
  rw [h2, joinD_labsN, hsz] at h
  rw [h]
  unfold writeB
  rw [List.length_append, wireL_length]
  rfl
/-- A label and a pointer to it lead there. -/
theorem back_ptr {s : List UInt8} (hs : rightN s) (h60 : s.length ≤ 60) (us : List Bool) {ahead behind l : List UInt8} {n at_ al : Nat} (hal : ahead.length = al) (h5 : al ≤ 500) {x y : UInt8} (hx : x.toNat = 192 + al / 256) (hy : y.toNat = al % 256)
    (hl : l = ahead ++ (raised us (writeB s) ++ (behind ++ [1, 122, x, y]))) (hn : l.length = n) (hat : n = at_ + 4) :
    readv l n at_ = .ok (if s = [] then [122] else 122 :: 46 :: s) n := by
  obtain ⟨ys, h1, h2, h3⟩ := raised_wire (labsN s) us hs.1
  have hwl : (raised us (writeB s)).length = (writeB s).length := raised_length _ _
  have hw1 : 1 ≤ (writeB s).length := by rw [writeB_length]; split <;> omega
  have hlen : at_ = al + (raised us (writeB s)).length + behind.length := by
    have := congrArg List.length hl
    simp only [List.length_append, List.length_cons, List.length_nil] at this
    omega
  have hd : l.drop at_ = wireL [[122]] ++ [x, y] := by
    rw [hl, ← List.append_assoc, ← List.append_assoc, List.drop_left' (by simp only [List.length_append]; omega)]
    rfl
  have hsz : sizeL ys = sizeL (labsN s) := by
    rw [← h2]
    unfold sizeL
    rw [List.map_map]
    congr 1
    exact List.map_congr_left fun y _ => by simp [lowL]
  have hsl : sizeL (labsN s) ≤ 61 := by
    by_cases he : s = []
    · rw [he]; decide
    · rw [sizeL_labsN he]; omega
  unfold readv
  rw [if_neg (by omega), Int.toNat_natCast, read_labels hn [[122]] at_ at_ 1 [] none [x, y] (fun z hz => by obtain rfl := List.mem_singleton.1 hz; decide) (by decide) hd]
  have hd2 : l.drop (at_ + sizeL [[122]]) = x :: y :: [] := by rw [← wireL_length, ← List.drop_drop, hd, List.drop_left' rfl]
  have hal2 : at_ + sizeL [[122]] = at_ + 2 := rfl
  rw [hal2] at hd2 ⊢
  rw [read_ptr hn (by decide) hd2 (by omega) (to := al) (by rw [hx, hy]; omega) (by omega)]
  have hd3 : l.drop al = wireL ys ++ 0 :: (behind ++ [1, 122, x, y]) := by
    rw [hl, List.drop_left' hal]
    unfold writeB
    rw [h1, List.append_assoc]
    rfl
  rw [read_labels hn ys al al _ _ _ _ h3 (by rw [hsz]; show 1 + 2 + _ ≤ 255; omega) hd3]
  have hd4 : l.drop (al + sizeL ys) = 0 :: (behind ++ [1, 122, x, y]) := by rw [← wireL_length, ← List.drop_drop, hd3, List.drop_left' rfl]
  rw [read_end hn hd4, h2]
  have hj : (labsN s).foldl dotted [122] = if s = [] then [122] else 122 :: 46 :: s := by
    rw [foldl_dotted _ _ (fun z hz => labOk_ne (hs.1 z hz)) (by simp)]
    by_cases he : s = []
    · rw [he]; rfl
    · rw [if_neg he, joinD_cons _ (labsN_ne he), joinD_labsN]; rfl
  rw [show List.foldl dotted [] (List.map lowL [[122]]) = [122] from rfl, hj, hat]
  rfl

/-! ### Pointers behind each other -/
def ptrTo (i : Nat) : Nat := if i = 0 then 0 else 3 + 4 * (i - 1)
def bees (i : Nat) : List (List UInt8) := List.replicate i [98] ++ [[97]]
/-- So many pointers, each to what is ahead. -/
def Chained (l : List UInt8) (n : Nat) : Prop := l.take 3 = [1, 97, 0] ∧ ∀ j, j < n → (l.drop (3 + 4 * j)).take 4 = [1, 98, 192, UInt8.ofNat (ptrTo j)]
theorem drop_of_take {l a : List UInt8} {i k : Nat} (h : (l.drop i).take k = a) : l.drop i = a ++ l.drop (i + k) := by
  rw [← h, ← List.drop_drop, List.take_append_drop]
theorem chain_read {l : List UInt8} {n m : Nat} (hn : l.length = n) (hc : Chained l m) (h40 : m ≤ 40) : ∀ (j : Nat) (below size : Nat) (a : List UInt8) (next : Option Nat), j < m → size + 2 * (j + 1) + 2 ≤ 255 → ptrTo j < below →
    readS l n ⟨3 + 4 * j, below, size, a, next⟩ = .ok ((bees (j + 1)).foldl dotted a) (next.getD (3 + 4 * j + 4))
  | j, below, size, a, next, hj, hs, hb => by
    have hp : ptrTo j ≤ 155 := by unfold ptrTo; split <;> omega
    have hd := drop_of_take (hc.2 j hj)
    have hd1 : l.drop (3 + 4 * j) = wireL [[98]] ++ (192 :: UInt8.ofNat (ptrTo j) :: l.drop (3 + 4 * j + 4)) := hd
    rw [read_labels hn [[98]] _ below size a next _ (fun z hz => by obtain rfl := List.mem_singleton.1 hz; decide) (by show size + 2 ≤ 255; omega) hd1]
    have hd2 : l.drop (3 + 4 * j + sizeL [[98]]) = 192 :: UInt8.ofNat (ptrTo j) :: l.drop (3 + 4 * j + 4) := by rw [← wireL_length, ← List.drop_drop, hd1, List.drop_left' rfl]
    have e2 : sizeL [[98]] = 2 := rfl
    rw [e2] at hd2 ⊢
    rw [read_ptr hn (by omega) hd2 (by decide) (to := ptrTo j) (by rw [UInt8.toNat_ofNat', show UInt8.toNat 192 = 192 from rfl]; omega) hb]
    have ea : List.foldl dotted a (List.map lowL [[98]]) = dotted a [98] := rfl
    rw [ea]
    cases j with
    | zero =>
      have h0 : ptrTo 0 = 0 := rfl
      rw [h0]
      have hd3 : l.drop 0 = wireL [[97]] ++ 0 :: l.drop 3 := by
        have h := (List.take_append_drop 3 l).symm
        rw [hc.1] at h
        exact h
      rw [read_labels hn [[97]] 0 0 (size + 2) _ _ _ (fun z hz => by obtain rfl := List.mem_singleton.1 hz; decide) (by show size + 2 + 2 ≤ 255; omega) hd3]
      have hd4 : l.drop (0 + sizeL [[97]]) = 0 :: l.drop 3 := by rw [← wireL_length, ← List.drop_drop, hd3, List.drop_left' rfl]
      rw [read_end hn hd4]
      rfl
    | succ k =>
      have hk : ptrTo (k + 1) = 3 + 4 * k := by unfold ptrTo; rw [if_neg (by omega)]; omega
      rw [hk]
      rw [chain_read hn hc h40 k (3 + 4 * k) (size + 2) (dotted a [98]) _ (by omega) (by omega) (by unfold ptrTo; split <;> omega)]
      rw [show bees (k + 1 + 1) = [98] :: bees (k + 1) from rfl]
      rfl
/-- The name that stands at the last one. -/
def wantC (n : Nat) : List UInt8 := joinD (bees n)
theorem wantC_zero : wantC 0 = [97] := rfl
theorem wantC_succ (n : Nat) : wantC (n + 1) = 98 :: 46 :: wantC n := by
  unfold wantC
  rw [show bees (n + 1) = [98] :: bees n from rfl, joinD_cons _ (by unfold bees; simp)]
  rfl
theorem chain_last {l : List UInt8} {n m : Nat} (hn : l.length = n) (hc : Chained l m) (h1 : 1 ≤ m) (h40 : m ≤ 40) (hl : n = 3 + 4 * m) : readv l n ((3 + 4 * (m - 1) : Nat) : Int) = .ok (wantC m) n := by
  unfold readv
  rw [if_neg (by omega), Int.toNat_natCast, chain_read hn hc h40 (m - 1) _ 1 [] none (by omega) (by omega) (by unfold ptrTo; split <;> omega)]
  rw [show m - 1 + 1 = m by omega, foldl_dotted_nil (fun x hx => by
    unfold bees at hx
    rcases List.mem_append.1 hx with hx | hx
    · obtain rfl := List.eq_of_mem_replicate hx; simp
    · obtain rfl := List.mem_singleton.1 hx; simp)]
  show Rd.ok (wantC m) (3 + 4 * (m - 1) + 4) = _
  rw [show 3 + 4 * (m - 1) + 4 = n by omega]
/-- One that does not lead back. -/
theorem chain_bad {l : List UInt8} {n last to : Nat} (hn : l.length = n) {x y : UInt8} (hd : l.drop last = [1, 98, x, y]) (hx : x.toNat = 192 + to / 256) (hy : y.toNat = to % 256) (h1 : last ≤ to) (h2 : to < 16384) : readv l n (last : Int) = .bad 14 (last + 2) := by
  unfold readv
  have hd1 : l.drop last = wireL [[98]] ++ [x, y] := hd
  rw [if_neg (by omega), Int.toNat_natCast, read_labels hn [[98]] last last 1 [] none [x, y] (fun z hz => by obtain rfl := List.mem_singleton.1 hz; decide) (by decide) hd1]
  have hd2 : l.drop (last + sizeL [[98]]) = x :: y :: [] := by rw [← wireL_length, ← List.drop_drop, hd1, List.drop_left' rfl]
  have e2 : sizeL [[98]] = 2 := rfl
  rw [e2] at hd2 ⊢
  exact read_ptr_bad hn hd2 (by omega) (to := to) (by rw [hx, hy]; omega) h1
end Go.Proofs.YtbikifaadpijnaaGreatDoor

namespace Go.Proofs.YtbikifaadpijnaaGreatDoor
open Go.RowKit
set_option maxRecDepth 100000

/-! ### Too long -/
theorem read_long {l : List UInt8} {n : Nat} (hn : l.length = n) : ∀ (ys : List (List UInt8)) (at_ below size : Nat) (a : List UInt8) (next : Option Nat) (rest : List UInt8), (∀ y ∈ ys, labOk (lowL y)) → size ≤ 255 → 255 < size + sizeL ys → l.drop at_ = wireL ys ++ rest →
    ∃ p, readS l n ⟨at_, below, size, a, next⟩ = .bad 13 p
  | [], _, _, _, _, _, _, _, h5, h, _ => absurd h (by show ¬ 255 < _ + 0; omega)
  | y :: ys, at_, below, size, a, next, rest, hy, h5, hs, hd => by
    have hy0 := hy y (by simp)
    have h1 := hy0.2.1
    have h63 := hy0.2.2
    rw [lowL_length] at h1 h63
    have hsz : sizeL (y :: ys) = 1 + y.length + sizeL ys := rfl
    rw [wireL_cons, List.cons_append, List.append_assoc] at hd
    obtain ⟨hb, hlt, hd1⟩ := bat_head hd
    have hbl : bat l at_ = y.length := by rw [hb, UInt8.toNat_ofNat']; omega
    have hd2 : l.drop (at_ + 1 + y.length) = wireL ys ++ rest := by rw [← List.drop_drop (i := y.length) (j := at_ + 1), hd1, List.drop_left' rfl]
    have htk : (l.drop (at_ + 1)).take y.length = y := by rw [hd1, List.take_left' rfl]
    have hlen : at_ + 1 + y.length ≤ n := by
      have := congrArg List.length hd1
      rw [List.length_drop, List.length_append] at this
      omega
    by_cases hbig : 255 < size + 1 + y.length
    · refine ⟨at_, readS_end ?_⟩
      unfold rstep
      dsimp only
      rw [hbl, htk, if_neg (by omega), if_neg (by omega), if_pos (by omega), if_neg (by omega), if_neg (by simpa using hy0), if_pos hbig]
    · have hst : rstep l n ⟨at_, below, size, a, next⟩ = .inl ⟨at_ + 1 + y.length, below, size + 1 + y.length, dotted a (lowL y), next⟩ := by
        unfold rstep
        dsimp only
        rw [hbl, htk, if_neg (by omega), if_neg (by omega), if_pos (by omega), if_neg (by omega), if_neg (by simpa using hy0), if_neg hbig]
      rw [readS_on hst (by dsimp only; omega)]
      exact read_long hn ys _ _ _ _ _ rest (fun z hz => hy z (List.mem_cons_of_mem _ hz)) (by omega) (by omega) hd2
/-- So many labels of so many signs. -/
def longL (n size : Nat) : List (List UInt8) := List.replicate n (List.replicate size 120)
def longOk (n size : Nat) : Prop := size ≤ 63 ∧ n * (size + 1) + 1 ≤ 255
instance (n size : Nat) : Decidable (longOk n size) := by unfold longOk; infer_instance
theorem longL_size (n size : Nat) : sizeL (longL n size) = n * (size + 1) := by
  unfold sizeL longL
  rw [List.map_replicate, List.sum_replicate_nat, List.length_replicate, Nat.add_comm 1 size]
theorem longL_mem {n size : Nat} (h1 : 1 ≤ size) : ∀ x ∈ longL n size, x ≠ [] ∧ ∀ c ∈ x, sign c := fun x hx => by
  obtain rfl := List.eq_of_mem_replicate hx
  refine ⟨fun e => ?_, fun c hc => ?_⟩
  · have := congrArg List.length e
    rw [List.length_replicate] at this
    simp at this
    omega
  · obtain rfl := List.eq_of_mem_replicate hc
    decide
theorem longL_labs {n size : Nat} (h1 : 1 ≤ size) : labsN (joinD (longL n size)) = longL n size := join_labs (longL_mem h1)
theorem longL_right {n size : Nat} (hn : 1 ≤ n) (h1 : 1 ≤ size) : rightN (joinD (longL n size)) ↔ longOk n size := by
  unfold rightN longOk
  rw [longL_labs h1, longL_size]
  constructor
  · rintro ⟨h2, h3⟩
    have := (h2 (List.replicate size 120) (by unfold longL; rw [List.mem_replicate]; exact ⟨by omega, rfl⟩)).2.2
    rw [List.length_replicate] at this
    exact ⟨this, by omega⟩
  · rintro ⟨h2, h3⟩
    refine ⟨fun x hx => ⟨(longL_mem h1 x hx).2, ?_⟩, by omega⟩
    obtain rfl := List.eq_of_mem_replicate hx
    rw [List.length_replicate]
    exact ⟨h1, h2⟩
theorem long_read {n size : Nat} (hn : 1 ≤ n) (h1 : 1 ≤ size) (h70 : size ≤ 70) {l : List UInt8} (hl : l = wireL (longL n size) ++ [0]) {m : Nat} (hm : l.length = m) :
    (longOk n size → readv l m 0 = .ok (joinD (longL n size)) m) ∧ (¬ longOk n size → ∃ c p, readv l m 0 = .bad c p ∧ (c = 12 ∨ c = 13) ∧ (size ≤ 63 → c = 13)) := by
  have hd : l.drop 0 = wireL (longL n size) ++ 0 :: [] := hl
  have hlow : ∀ y ∈ longL n size, lowL y = y := fun y hy => by
    unfold lowL
    conv => rhs; rw [← List.map_id y]
    exact List.map_congr_left fun c hc => lowB_sign ((longL_mem h1 y hy).2 c hc)
  refine ⟨fun hok => ?_, fun hno => ?_⟩
  · have hr := (longL_right hn h1).2 hok
    have h := read_written hm hr (at_ := 0) (rest := []) (by rw [List.append_nil]; unfold writeB; rw [longL_labs h1]; exact hl)
    have e : (writeB (joinD (longL n size))).length = m := by unfold writeB; rw [longL_labs h1, ← hl, hm]
    rw [e, Nat.zero_add] at h
    exact h
  · unfold readv
    rw [if_neg (by omega), Int.toNat_zero]
    by_cases h63 : size ≤ 63
    · have hlab : ∀ y ∈ longL n size, labOk (lowL y) := fun y hy => by
        rw [hlow y hy]
        refine ⟨(longL_mem h1 y hy).2, ?_⟩
        obtain rfl := List.eq_of_mem_replicate hy
        rw [List.length_replicate]
        exact ⟨h1, h63⟩
      obtain ⟨p, hp⟩ := read_long hm (longL n size) 0 0 1 [] none _ hlab (by omega) (by
        rw [longL_size]
        unfold longOk at hno
        omega) hd
      exact ⟨13, p, hp, .inr rfl, fun _ => rfl⟩
    · obtain ⟨k, rfl⟩ : ∃ k, n = k + 1 := ⟨n - 1, by omega⟩
      have hd0 : l.drop 0 = UInt8.ofNat size :: (List.replicate size 120 ++ (wireL (longL k size) ++ [0])) := by
        rw [hd]
        show wireL (List.replicate size 120 :: longL k size) ++ [0] = _
        rw [wireL_cons, List.length_replicate]
        simp
      obtain ⟨hb, hlt, _⟩ := bat_head hd0
      have hbl : bat l 0 = size := by rw [hb, UInt8.toNat_ofNat']; omega
      refine ⟨12, 0, readS_end ?_, .inl rfl, fun h => absurd h h63⟩
      unfold rstep
      dsimp only
      rw [hbl, if_neg (by omega), if_neg (by omega), if_neg (by omega), if_neg (by omega)]

/-! ### Cut anywhere -/
theorem cut_read {ls : List (List UInt8)} (hx : ∀ x ∈ ls, labOk x) (hs : 1 + sizeL ls ≤ 255) {cut at_ j : Nat} (hcut : cut < sizeL ls + 1) (hat : sizeL (ls.take j) = at_) (hle : at_ ≤ cut)
    (hend : at_ = cut ∨ ∃ x, ls[j]? = some x ∧ cut < at_ + 1 + x.length) {l : List UInt8} (hl : l = (wireL ls ++ [0]).take cut) : readv l cut 0 = .bad 3 at_ := by
  have hlen : l.length = cut := by rw [hl, List.length_take, List.length_append, wireL_length]; simp; omega
  have hsp : wireL ls ++ [0] = wireL (ls.take j) ++ (wireL (ls.drop j) ++ [0]) := by rw [← List.append_assoc, ← wireL_append, List.take_append_drop]
  have hsj : sizeL ls = at_ + sizeL (ls.drop j) := by rw [← hat, ← sizeL_append, List.take_append_drop]
  have hd : l.drop 0 = wireL (ls.take j) ++ (wireL (ls.drop j) ++ [0]).take (cut - at_) := by
    rw [List.drop_zero, hl, hsp, List.take_append, wireL_length, hat, List.take_of_length_le (by rw [wireL_length]; omega)]
  have hlow : ∀ y ∈ ls.take j, labOk (lowL y) := fun y hy => by
    have := hx y (List.mem_of_mem_take hy)
    rw [lowL_ok this]; exact this
  unfold readv
  rw [if_neg (by omega), Int.toNat_zero, read_labels hlen (ls.take j) 0 0 1 [] none _ hlow (by omega) hd, hat, Nat.zero_add]
  by_cases he : at_ = cut
  · refine readS_end ?_
    unfold rstep
    dsimp only
    rw [if_pos (by omega)]
  · rcases hend with h | ⟨x, hjx, hbig⟩
    · exact absurd h he
    · have hjl := (List.getElem?_eq_some_iff.1 hjx).1
      have hxk := hx x (List.mem_of_getElem? hjx)
      have hdj : ls.drop j = x :: ls.drop (j + 1) := by
        rw [List.drop_eq_getElem_cons hjl]
        rw [List.getElem?_eq_getElem hjl] at hjx
        rw [Option.some.inj hjx]
      obtain ⟨d, hd1⟩ : ∃ d, cut - at_ = d + 1 := ⟨cut - at_ - 1, by omega⟩
      have hd2 : l.drop at_ = UInt8.ofNat x.length :: ((x ++ wireL (ls.drop (j + 1))) ++ [0]).take d := by
        have h1 : l.drop at_ = (l.drop 0).drop (wireL (ls.take j)).length := by rw [List.drop_drop, wireL_length, hat, Nat.zero_add]
        rw [h1, hd, List.drop_left' rfl, hdj, wireL_cons, hd1]
        rfl
      obtain ⟨hb, hlt, _⟩ := bat_head hd2
      have h63 := hxk.2.2
      have h1 := hxk.2.1
      have hbl : bat l at_ = x.length := by rw [hb, UInt8.toNat_ofNat']; omega
      refine readS_end ?_
      unfold rstep
      dsimp only
      rw [hbl, if_neg (by omega), if_neg (by omega), if_pos (by omega), if_pos hbig]
/-- The length that stands at a label's place. -/
theorem wire_at {ls : List (List UInt8)} {j at_ : Nat} {x : List UInt8} (hjx : ls[j]? = some x) (hat : sizeL (ls.take j) = at_) {r : List UInt8} : (wireL ls ++ r)[at_]? = some (UInt8.ofNat x.length) ∧ sizeL (ls.take (j + 1)) = at_ + 1 + x.length := by
  have hjl := (List.getElem?_eq_some_iff.1 hjx).1
  have hdj : ls.drop j = x :: ls.drop (j + 1) := by
    rw [List.drop_eq_getElem_cons hjl]
    rw [List.getElem?_eq_getElem hjl] at hjx
    rw [Option.some.inj hjx]
  refine ⟨?_, ?_⟩
  · have e : wireL ls ++ r = wireL (ls.take j) ++ (wireL (x :: ls.drop (j + 1)) ++ r) := by rw [← hdj, ← List.append_assoc, ← wireL_append, List.take_append_drop]
    rw [e, List.getElem?_append_right (by rw [wireL_length]; omega), wireL_length, hat, Nat.sub_self, wireL_cons]
    rfl
  · rw [List.take_add_one, hjx, sizeL_append, hat]
    show at_ + (1 + x.length + 0) = _
    omega
/-- Lengths that are none. -/
theorem none_read {l : List UInt8} {n : Nat} (hn : l.length = n) {x : UInt8} {r : List UInt8} (hl : l = x :: r) (h1 : 64 ≤ x.toNat) (h2 : x.toNat < 192) : readv l n 0 = .bad 12 0 := by
  unfold readv
  have hd : l.drop 0 = x :: r := hl
  obtain ⟨hb, hlt, _⟩ := bat_head hd
  rw [if_neg (by omega), Int.toNat_zero]
  refine readS_end ?_
  unfold rstep
  dsimp only
  rw [hb, if_neg (by omega), if_neg (by omega), if_neg (by omega), if_neg (by omega)]

/-! ### Under a zone -/
theorem joinD_append : ∀ (a b : List (List UInt8)), a ≠ [] → b ≠ [] → joinD (a ++ b) = joinD a ++ 46 :: joinD b
  | [], _, h, _ => absurd rfl h
  | [x], b, _, hb => joinD_cons x hb
  | x :: y :: r, b, _, hb => by
    show joinD (x :: ((y :: r) ++ b)) = _
    rw [joinD_cons x (by simp), joinD_append (y :: r) b (by simp) hb, joinD_cons x (by simp)]
    simp
theorem under_dot (a z : List UInt8) : underN (a ++ 46 :: z) z := by
  refine .inr (.inr ⟨by simp; omega, ?_, ?_⟩)
  · rw [List.length_append, List.length_cons, show a.length + (z.length + 1) - z.length = a.length + 1 by omega, ← List.drop_drop, List.drop_left' rfl]
    rfl
  · rw [List.length_append, List.length_cons, show a.length + (z.length + 1) - z.length - 1 = a.length by omega, List.getElem?_append_right (Nat.le_refl _), Nat.sub_self]
    rfl
theorem under_labels (s : List UInt8) (k : Nat) : underN s (joinD ((labsN s).drop k)) := by
  by_cases hb : (labsN s).drop k = []
  · rw [hb]; exact .inl rfl
  · by_cases ha : (labsN s).take k = []
    · have h1 := (List.take_append_drop k (labsN s)).symm
      rw [ha, List.nil_append] at h1
      rw [← h1, joinD_labsN]
      exact .inr (.inl rfl)
    · have e : s = joinD ((labsN s).take k) ++ 46 :: joinD ((labsN s).drop k) := by
        rw [← joinD_append _ _ ha hb, List.take_append_drop, joinD_labsN]
      conv => arg 1; rw [e]
      exact under_dot _ _
theorem not_under_longer (x : UInt8) (s : List UInt8) : ¬ underN s (x :: s) := by
  rintro (h | h | ⟨h, _⟩)
  · cases h
  · have := congrArg List.length h
    simp at this
  · rw [List.length_cons] at h
    omega
theorem longer_not_under {x : UInt8} (hx : x ≠ 46) {s : List UInt8} (hs : s ≠ []) : ¬ underN (x :: s) s := by
  rintro (h | h | ⟨_, _, h⟩)
  · exact hs h
  · have := congrArg List.length h
    simp at this
  · rw [List.length_cons, show s.length + 1 - s.length - 1 = 0 by omega] at h
    exact hx (Option.some.inj h)

/-! ### One byte; dots where there may be none -/
theorem spl_sep (c : UInt8) (r : List UInt8) : spl c (c :: r) = [] :: spl c r := by
  unfold spl
  rw [List.length_cons, splN_cons, if_pos rfl]
theorem spl_oth {c x : UInt8} (h : x ≠ c) (r : List UInt8) : spl c (x :: r) = onHead x (spl c r) := by
  unfold spl
  rw [List.length_cons, splN_cons, if_neg h, splN_ge c r (r.length + 1) r.length (by omega) (Nat.le_refl _)]
theorem onHead_append (x : UInt8) {u : List (List UInt8)} (v : List (List UInt8)) (h : u ≠ []) : onHead x (u ++ v) = onHead x u ++ v := by
  cases u with
  | nil => exact absurd rfl h
  | cons y u => rfl
theorem spl_append (c : UInt8) : ∀ (a b : List UInt8), spl c (a ++ c :: b) = spl c a ++ spl c b
  | [], b => by rw [List.nil_append, spl_sep]; rfl
  | x :: a, b => by
    rw [List.cons_append]
    by_cases h : x = c
    · rw [h, spl_sep, spl_sep, spl_append c a b]; rfl
    · rw [spl_oth h, spl_oth h, spl_append c a b, onHead_append x _ (show spl c a ≠ [] from splN_ne c a _)]
theorem not_right {l : List UInt8} (h : [] ∈ labsN l) : ¬ rightN l := fun hr => labOk_ne (hr.1 _ h) rfl
theorem dot_behind (l : List UInt8) : ¬ rightN (l ++ [46]) := by
  apply not_right
  unfold labsN
  rw [if_neg (by simp), spl_append 46 l []]
  exact List.mem_append_right _ (by rw [show spl 46 ([] : List UInt8) = [[]] from rfl]; simp)
theorem dot_ahead (l : List UInt8) : ¬ rightN (46 :: l) := by
  apply not_right
  unfold labsN
  rw [if_neg (by simp), spl_sep]
  simp
theorem dots_between (a b : List UInt8) : ¬ rightN (a ++ 46 :: 46 :: b) := by
  apply not_right
  unfold labsN
  rw [if_neg (by simp), spl_append, spl_sep]
  simp
theorem right_one (c : UInt8) : rightN [c] ↔ sign c := by
  by_cases h : c = 46
  · rw [h]; decide
  · have e : labsN [c] = [[c]] := by
      unfold labsN
      rw [if_neg (by simp), spl_oth h]
      rfl
    unfold rightN
    rw [e]
    constructor
    · rintro ⟨h1, _⟩
      exact (h1 [c] (by simp)).1 c (by simp)
    · intro hs
      refine ⟨fun x hx => ?_, (show 1 + 2 ≤ 255 by decide)⟩
      obtain rfl := List.mem_singleton.1 hx
      exact ⟨fun b hb => by obtain rfl := List.mem_singleton.1 hb; exact hs, by simp, by simp⟩
theorem one_read (c : UInt8) {l : List UInt8} (hl : l = [1, c, 0]) : readv l 3 0 = if sign (lowB c) then .ok [lowB c] 3 else .bad 12 0 := by
  have hn : l.length = 3 := by rw [hl]; rfl
  have hd : l.drop 0 = wireL [[c]] ++ 0 :: [] := hl
  by_cases hs : sign (lowB c)
  · rw [if_pos hs]
    exact read_wire (at_ := 0) hn (ys := [[c]]) (rest := []) (fun y hy => by
      obtain rfl := List.mem_singleton.1 hy
      exact ⟨fun b hb => by obtain rfl := List.mem_singleton.1 hb; exact hs, by simp [lowL], by simp [lowL]⟩) (show 1 + 2 ≤ 255 by decide) hd
  · rw [if_neg hs]
    unfold readv
    rw [if_neg (by omega), Int.toNat_zero]
    refine readS_end ?_
    unfold rstep
    dsimp only
    obtain ⟨hb, _, hd1⟩ := bat_head (show l.drop 0 = 1 :: c :: 0 :: [] from hl)
    have h1 : UInt8.toNat 1 = 1 := rfl
    rw [hb, h1, hd1, if_neg (by omega), if_neg (by omega), if_pos (by omega), if_neg (by omega), if_pos]
    rintro ⟨h2, _⟩
    exact hs (h2 (lowB c) (by simp [lowL]))
theorem lowB_cap {c : UInt8} (h : 65 ≤ c.toNat ∧ c.toNat ≤ 90) : lowB c = c + 32 ∧ sign (c + 32) := by
  have e : (c + 32).toNat = c.toNat + 32 := by
    rw [UInt8.toNat_add]
    show (c.toNat + 32) % 256 = _
    omega
  refine ⟨by unfold lowB; rw [if_pos h], ?_⟩
  unfold sign
  rw [e]
  omega
theorem lowB_not {c : UInt8} (h : ¬ (65 ≤ c.toNat ∧ c.toNat ≤ 90)) : lowB c = c := by unfold lowB; rw [if_neg h]
theorem head_right {s : List UInt8} {x : UInt8} (hx : sign x) (h60 : s.length ≤ 60) (hs : ∃ ls : List (List UInt8), s = joinD ls ∧ (∀ x ∈ ls, x ≠ [] ∧ ∀ c ∈ x, sign c)) : rightN (x :: s) := by
  obtain ⟨ls, rfl, hls⟩ := hs
  cases ls with
  | nil => exact (right_one x).2 hx
  | cons y r =>
    have e : x :: joinD (y :: r) = joinD ((x :: y) :: r) := by
      cases r with
      | nil => rfl
      | cons z r => rfl
    rw [e]
    refine join_right (fun z hz => ?_) (by rw [← e, List.length_cons]; omega)
    rcases List.mem_cons.1 hz with rfl | hz
    · refine ⟨by simp, fun c hc => ?_⟩
      rcases List.mem_cons.1 hc with rfl | hc
      · exact hx
      · exact (hls y (by simp)).2 c hc
    · exact hls z (List.mem_cons_of_mem _ hz)
/-- Each label is a name by itself. -/
theorem label_right {x : List UInt8} (h : labOk x) : rightN x ∧ labsN x = [x] := by
  have e : labsN x = [x] := labsN_joinD (ls := [x]) fun y hy => by obtain rfl := List.mem_singleton.1 hy; exact ⟨labOk_no h, labOk_ne h⟩
  refine ⟨⟨fun y hy => ?_, ?_⟩, e⟩
  · rw [e] at hy
    obtain rfl := List.mem_singleton.1 hy
    exact h
  · rw [e]
    have := h.2.2
    show 1 + (1 + x.length + 0) ≤ 255
    omega
end Go.Proofs.YtbikifaadpijnaaGreatDoor

namespace Go.Proofs.YtbikifaadpijnaaGreatDoor
open Go.RowKit
set_option maxRecDepth 100000

def zero16 : List UInt8 := List.replicate 16 0
def zero12 : List UInt8 := List.replicate 12 0
/-- A question. -/
structure Qs where
  name : List UInt8
  kind : Int
  cls : Int
def Qs.zero : Qs := ⟨[], 0, 0⟩
/-- A record. -/
structure Rc where
  name : List UInt8
  kind : Int
  cls : Int
  ttl : Int
  v6 : Bool
  adr : List UInt8
  target : List UInt8
  data : List UInt8
def Rc.zero : Rc := ⟨[], 0, 0, 0, false, zero16, [], []⟩
def Rc.ok (r : Rc) : Prop := r.adr.length = 16
theorem Rc.zero_ok : Rc.zero.ok := rfl
def Rc.asks (r : Rc) : Qs := ⟨r.name, r.kind, r.cls⟩
def Qs.asRc (q : Qs) (t : Int) : Rc := ⟨q.name, q.kind, q.cls, t, false, zero16, [], []⟩
structure Rq where
  q : Qs
  next : Nat
  f : Fl
def Rq.bad (f : Fl) : Rq := ⟨.zero, 0, f⟩
structure Rr where
  r : Rc
  next : Nat
  f : Fl
def Rr.bad (f : Fl) : Rr := ⟨.zero, 0, f⟩
def fl0 : Fl := ⟨0, 0, false⟩
/-- A question, by the name that was read. -/
def readQd (l : List UInt8) (n : Nat) (d : Rd) : Rq :=
  if d.f.code ≠ 0 then .bad d.f
  else if n < d.next + 2 then .bad ⟨3, d.next, true⟩
  else if n < d.next + 4 then .bad ⟨3, d.next + 2, true⟩
  else ⟨⟨d.name, num2 l d.next, num2 l (d.next + 2)⟩, d.next + 4, fl0⟩
def readQv (l : List UInt8) (n : Nat) (at_ : Int) : Rq := readQd l n (readv l n at_)
/-- What a record bears, whose length, of two bytes, stands at that place. -/
def nameV (d : Rd) (at_ k : Nat) : List UInt8 × Fl := if d.f.code ≠ 0 then ([], d.f) else if d.next ≠ at_ + 2 + k then ([], ⟨7, at_, true⟩) else (d.name, fl0)
def dataV (l : List UInt8) (n : Nat) (r : Rc) (at_ k : Nat) : Rc × Fl :=
  if r.kind = 28 then
    if k ≠ 16 then (.zero, ⟨7, at_, true⟩) else ({ r with v6 := true, adr := (l.drop (at_ + 2)).take 16 }, fl0)
  else if r.kind = 1 then
    if k ≠ 4 then (.zero, ⟨7, at_, true⟩) else ({ r with v6 := false, adr := (l.drop (at_ + 2)).take 4 ++ zero12 }, fl0)
  else if r.kind = 5 then
    if (nameV (readv l n ((at_ : Int) + 2)) at_ k).2.code ≠ 0 then (.zero, (nameV (readv l n ((at_ : Int) + 2)) at_ k).2) else ({ r with target := (nameV (readv l n ((at_ : Int) + 2)) at_ k).1 }, fl0)
  else ({ r with data := (l.drop (at_ + 2)).take k }, fl0)
/-- A record, by the question it answers. -/
def readRq (l : List UInt8) (n : Nat) (q : Rq) : Rr :=
  if q.f.code ≠ 0 then .bad q.f
  else if n < q.next + 4 then .bad ⟨3, q.next, true⟩
  else if n < q.next + 6 + (if n < q.next + 6 then 0 else num2 l (q.next + 4)) then .bad ⟨3, q.next + 4, true⟩
  else if (dataV l n (q.q.asRc (num4 l q.next)) (q.next + 4) (num2 l (q.next + 4))).2.code ≠ 0 then .bad (dataV l n (q.q.asRc (num4 l q.next)) (q.next + 4) (num2 l (q.next + 4))).2
  else ⟨(dataV l n (q.q.asRc (num4 l q.next)) (q.next + 4) (num2 l (q.next + 4))).1, q.next + 6 + num2 l (q.next + 4), fl0⟩
def readRv (l : List UInt8) (n : Nat) (at_ : Int) : Rr := readRq l n (readQv l n at_)

/-! ### What may be written -/
def rightA (v6 : Bool) (b : List UInt8) : Prop := v6 = false → b.drop 4 = zero12
instance (v6 : Bool) (b : List UInt8) : Decidable (rightA v6 b) := by unfold rightA; infer_instance
def shortI (v : Int) : Prop := 0 ≤ v ∧ v ≤ 65535
instance (v : Int) : Decidable (shortI v) := by unfold shortI; infer_instance
def rightQ (q : Qs) : Prop := rightN q.name ∧ shortI q.kind ∧ shortI q.cls
instance (q : Qs) : Decidable (rightQ q) := by unfold rightQ; infer_instance
/-- What its type has. -/
def bareV (r : Rc) : Rc :=
  if r.kind = 28 then { Rc.zero with v6 := true, adr := r.adr }
  else if r.kind = 1 then { Rc.zero with adr := r.adr }
  else if r.kind = 5 then { Rc.zero with target := r.target }
  else { Rc.zero with data := r.data }
def alikeV (r s : Rc) : Prop := (r.v6 = s.v6 ∧ r.adr = s.adr) ∧ r.target = s.target ∧ r.data = s.data
instance (r s : Rc) : Decidable (alikeV r s) := by unfold alikeV; infer_instance
def rightR (r : Rc) : Prop := rightQ r.asks ∧ rightA r.v6 r.adr ∧ rightN r.target ∧ r.data.length ≤ 1000 ∧ alikeV r (bareV r)
instance (r : Rc) : Decidable (rightR r) := by unfold rightR; infer_instance
def widB (v6 : Bool) : Nat := if v6 then 16 else 4
def dataB (r : Rc) : List UInt8 := if r.kind = 1 ∨ r.kind = 28 then r.adr.take (widB r.v6) else if r.kind = 5 then writeB r.target else r.data
def writeQB (q : Qs) : List UInt8 := writeB q.name ++ (putn q.kind 2 ++ putn q.cls 2)
def writeRB (r : Rc) : List UInt8 := writeQB r.asks ++ (putn r.ttl 4 ++ (putn ((dataB r).length : Nat) 2 ++ dataB r))
def writeQv (q : Qs) : List UInt8 := if rightQ q then writeQB q else []
def writeQe (q : Qs) : Fl := if rightQ q then fl0 else ⟨1, 0, false⟩
def writeRv (r : Rc) : List UInt8 := if rightR r then writeRB r else []
def writeRe (r : Rc) : Fl := if rightR r then fl0 else ⟨1, 0, false⟩

/-! ### Where a name ends -/
theorem rstep_next {l : List UInt8} {n : Nat} {s : Rs} {x : List UInt8} {k : Nat} (hs : ∀ v, s.next = some v → v ≤ n) (h : rstep l n s = .inr ⟨x, k, fl0⟩) : k ≤ n := by
  unfold rstep at h
  split at h
  · cases h
  rename_i hn
  split at h
  · simp only [Rd.ok, Sum.inr.injEq, Rd.mk.injEq] at h
    obtain ⟨_, h, _⟩ := h
    cases hx : s.next with
    | none => rw [hx] at h; simp at h; omega
    | some v => rw [hx] at h; simp at h; have := hs v hx; omega
  split at h
  · split at h
    · cases h
    split at h
    · cases h
    split at h <;> cases h
  split at h
  · split at h
    · cases h
    split at h <;> cases h
  · cases h
theorem rstep_keeps {l : List UInt8} {n : Nat} {s s' : Rs} (hs : ∀ v, s.next = some v → v ≤ n) (h : rstep l n s = .inl s') : ∀ v, s'.next = some v → v ≤ n := by
  unfold rstep at h
  split at h
  · cases h
  split at h
  · cases h
  split at h
  · split at h
    · cases h
    split at h
    · cases h
    split at h
    · cases h
    · cases h
      exact hs
  split at h
  · split at h
    · cases h
    split at h
    · cases h
    · cases h
      intro v hv
      simp only [Option.some.injEq] at hv
      cases hx : s.next with
      | none => rw [hx] at hv; simp at hv; omega
      | some u => rw [hx] at hv; simp at hv; have := hs u hx; omega
  · cases h
theorem rstep_fl {l : List UInt8} {n : Nat} {s : Rs} {r : Rd} (h : rstep l n s = .inr r) (hc : r.f.code = 0) : r.f = fl0 := by
  unfold rstep at h
  repeat' split at h
  all_goals first
    | cases h
    | skip
  all_goals first
    | rfl
    | exact absurd hc (by simp [Rd.bad])
theorem rrun_next {l : List UInt8} {n : Nat} : ∀ (f : Nat) (s : Rs), meas s < f → s.size ≤ 255 → (∀ v, s.next = some v → v ≤ n) → (rrun l n f s).f.code = 0 → (rrun l n f s).next ≤ n ∧ (rrun l n f s).f = fl0
  | 0, _, h, _, _, _ => absurd h (by omega)
  | f + 1, s, hm, h5, hs, hc => by
    unfold rrun at hc ⊢
    cases h : rstep l n s with
    | inr r =>
      rw [h] at hc
      have hf := rstep_fl h hc
      obtain ⟨x, k, g⟩ := r
      simp only at hf
      subst hf
      exact ⟨rstep_next hs h, rfl⟩
    | inl s' =>
      rw [h] at hc
      obtain ⟨h1, h2⟩ := rstep_less h h5
      exact rrun_next f s' (by omega) h1 (rstep_keeps hs h) hc
theorem readv_next {l : List UInt8} {n : Nat} {at_ : Int} (h : (readv l n at_).f.code = 0) : (readv l n at_).next ≤ n ∧ (readv l n at_).f = fl0 := by
  unfold readv at h ⊢
  split at h
  · exact absurd h (by simp)
  · rename_i hn
    rw [if_neg hn]
    unfold readS at h ⊢
    exact rrun_next _ _ (Nat.lt_succ_self _) (by simp) (fun v hv => by cases hv) h
end Go.Proofs.YtbikifaadpijnaaGreatDoor

namespace Go.Proofs.YtbikifaadpijnaaGreatDoor
open Go.RowKit
set_option maxRecDepth 100000

theorem be_putn2 {v : Int} (h : shortI v) : ((be (putn v 2) : Nat) : Int) = v := by
  unfold shortI at h
  have h1 : (UInt8.ofNat ((v / 256) % 256).toNat).toNat = ((v / 256) % 256).toNat := by simp only [UInt8.toNat_ofNat']; omega
  have h2 : (UInt8.ofNat (v % 256).toNat).toNat = (v % 256).toNat := by simp only [UInt8.toNat_ofNat']; omega
  have e : putn v 2 = [UInt8.ofNat ((v / 256) % 256).toNat, UInt8.ofNat (v % 256).toNat] := by simp [putn]
  rw [e]
  simp only [be, List.foldl_cons, List.foldl_nil, h1, h2]
  omega
theorem be_putn4 {v : Int} (h0 : 0 ≤ v) (h : v < 4294967296) : ((be (putn v 4) : Nat) : Int) = v := by
  have h1 : (UInt8.ofNat ((v / 16777216) % 256).toNat).toNat = ((v / 16777216) % 256).toNat := by simp only [UInt8.toNat_ofNat']; omega
  have h2 : (UInt8.ofNat ((v / 65536) % 256).toNat).toNat = ((v / 65536) % 256).toNat := by simp only [UInt8.toNat_ofNat']; omega
  have h3 : (UInt8.ofNat ((v / 256) % 256).toNat).toNat = ((v / 256) % 256).toNat := by simp only [UInt8.toNat_ofNat']; omega
  have h4 : (UInt8.ofNat (v % 256).toNat).toNat = (v % 256).toNat := by simp only [UInt8.toNat_ofNat']; omega
  have e : putn v 4 = [UInt8.ofNat ((v / 16777216) % 256).toNat, UInt8.ofNat ((v / 65536) % 256).toNat, UInt8.ofNat ((v / 256) % 256).toNat, UInt8.ofNat (v % 256).toNat] := by simp [putn]
  rw [e]
  simp only [be, List.foldl_cons, List.foldl_nil, h1, h2, h3, h4]
  omega
theorem num2_put {l : List UInt8} {i : Nat} {v : Int} {r : List UInt8} (hd : l.drop i = putn v 2 ++ r) (h : shortI v) : ((num2 l i : Nat) : Int) = v := by
  unfold num2
  rw [hd, List.take_left' (putn_length _ _)]
  exact be_putn2 h
theorem num4_put {l : List UInt8} {i : Nat} {v : Int} {r : List UInt8} (hd : l.drop i = putn v 4 ++ r) (h0 : 0 ≤ v) (h : v < 4294967296) : ((num4 l i : Nat) : Int) = v := by
  unfold num4
  rw [hd, List.take_left' (putn_length _ _)]
  exact be_putn4 h0 h
/-- Behind something. -/
theorem drop_on {l a r : List UInt8} {i k : Nat} (hd : l.drop i = a ++ r) (ha : a.length = k) : l.drop (i + k) = r := by
  rw [← List.drop_drop, hd, List.drop_left' ha]
theorem room {l a r : List UInt8} {i n : Nat} (hn : l.length = n) (hd : l.drop i = a ++ r) (h1 : i ≤ n) : i + a.length + r.length = n := by
  have := congrArg List.length hd
  rw [List.length_drop, List.length_append] at this
  omega

/-! ### Questions -/
theorem writeQB_length (q : Qs) : (writeQB q).length = (writeB q.name).length + 4 := by
  unfold writeQB
  simp only [List.length_append, putn_length]
theorem back_q {l : List UInt8} {n : Nat} (hn : l.length = n) {q : Qs} (hq : rightQ q) {at_ : Nat} {rest : List UInt8} (hat : at_ ≤ n) (hd : l.drop at_ = writeQB q ++ rest) : readQv l n at_ = ⟨q, at_ + (writeQB q).length, fl0⟩ := by
  have hd0 := hd
  unfold writeQB at hd
  rw [List.append_assoc, List.append_assoc] at hd
  have hl := room hn hd0 hat
  rw [writeQB_length] at hl ⊢
  unfold readQv
  rw [read_written hn hq.1 hd]
  have h1 := drop_on hd rfl
  have h2 := drop_on h1 (putn_length _ _)
  have n1 := num2_put h1 hq.2.1
  have n2 := num2_put h2 hq.2.2
  unfold readQd Rd.ok
  dsimp only
  rw [if_neg (by decide), if_neg (by omega), if_neg (by omega), n1, n2, Nat.add_assoc]
/-- A question that is cut behind its name. -/
theorem cut_q {l : List UInt8} {n : Nat} (hn : l.length = n) {q : Qs} (hq : rightQ q) {at_ : Nat} {rest : List UInt8} (hat : at_ ≤ n) (hd : l.drop at_ = writeB q.name ++ rest) (hr : rest.length < 4) : (readQv l n at_).f.code = 3 := by
  have hl := room hn hd hat
  unfold readQv
  rw [read_written hn hq.1 hd]
  unfold readQd Rd.ok
  dsimp only
  rw [if_neg (by decide)]
  by_cases h : n < at_ + (writeB q.name).length + 2
  · rw [if_pos h]; rfl
  · rw [if_neg h, if_pos (by omega)]; rfl

/-- A name that is cut. -/
theorem read_short {l : List UInt8} {n : Nat} (hn : l.length = n) : ∀ (ys : List (List UInt8)) (at_ below size : Nat) (a : List UInt8) (next : Option Nat) (k : Nat), (∀ y ∈ ys, labOk y) → size + sizeL ys ≤ 255 → at_ + k = n → l.drop at_ = (wireL ys ++ [0]).take k → k < sizeL ys + 1 →
    (readS l n ⟨at_, below, size, a, next⟩).f.code = 3
  | ys, at_, below, size, a, next, 0, _, _, hk, _, _ => by
    rw [readS_end (r := .bad 3 at_) (by unfold rstep; dsimp only; rw [if_pos (by omega)])]
    rfl
  | [], _, _, _, _, _, k + 1, _, _, _, _, h => by
    exact absurd h (by simp [sizeL])
  | y :: ys, at_, below, size, a, next, k + 1, hy, hs, hk, hd, hlt => by
    have hy0 := hy y (by simp)
    have h1 := hy0.2.1
    have h63 := hy0.2.2
    have hsz : sizeL (y :: ys) = 1 + y.length + sizeL ys := rfl
    have hd0 : l.drop at_ = UInt8.ofNat y.length :: ((y ++ (wireL ys ++ [0])).take k) := by
      rw [hd, wireL_cons, List.cons_append, List.take_succ_cons, List.append_assoc]
    obtain ⟨hb, hlt0, hd1⟩ := bat_head hd0
    have hbl : bat l at_ = y.length := by rw [hb, UInt8.toNat_ofNat']; omega
    by_cases hy2 : n < at_ + 1 + y.length
    · rw [readS_end (r := .bad 3 at_) (by unfold rstep; dsimp only; rw [hbl, if_neg (by omega), if_neg (by omega), if_pos (by omega), if_pos hy2])]
      rfl
    · rw [List.take_append, List.take_of_length_le (by omega)] at hd1
      have hd2 : l.drop (at_ + 1 + y.length) = (wireL ys ++ [0]).take (k - y.length) := by rw [← List.drop_drop (i := y.length) (j := at_ + 1), hd1, List.drop_left' rfl]
      have htk : (l.drop (at_ + 1)).take y.length = y := by rw [hd1, List.take_left' rfl]
      have hst : rstep l n ⟨at_, below, size, a, next⟩ = .inl ⟨at_ + 1 + y.length, below, size + 1 + y.length, dotted a y, next⟩ := by
        unfold rstep
        dsimp only
        rw [hbl, htk, lowL_ok hy0, if_neg (by omega), if_neg (by omega), if_pos (by omega), if_neg (by omega), if_neg (by simpa using hy0), if_neg (by omega)]
      rw [readS_on hst (by dsimp only; omega)]
      exact read_short hn ys (at_ + 1 + y.length) below (size + 1 + y.length) (dotted a y) next (k - y.length) (fun z hz => hy z (List.mem_cons_of_mem _ hz)) (by omega) (by omega) hd2 (by omega)
theorem cut_name {l : List UInt8} {n : Nat} (hn : l.length = n) {s : List UInt8} (hs : rightN s) {at_ k : Nat} (hk : at_ + k = n) (hd : l.drop at_ = (writeB s).take k) (h : k < (writeB s).length) : (readv l n at_).f.code = 3 := by
  unfold readv
  rw [if_neg (by omega), Int.toNat_natCast]
  unfold writeB at hd h
  rw [List.length_append, wireL_length] at h
  exact read_short hn (labsN s) at_ at_ 1 [] none k hs.1 hs.2 hk hd h

/-! ### Records -/
theorem alike_cases {r : Rc} (h : rightR r) : (r.kind = 28 ∧ r.v6 = true ∧ r.target = [] ∧ r.data = []) ∨ (r.kind = 1 ∧ r.v6 = false ∧ r.target = [] ∧ r.data = []) ∨ (r.kind = 5 ∧ r.v6 = false ∧ r.adr = zero16 ∧ r.data = []) ∨ (r.kind ≠ 28 ∧ r.kind ≠ 1 ∧ r.kind ≠ 5 ∧ r.v6 = false ∧ r.adr = zero16 ∧ r.target = []) := by
  obtain ⟨_, _, _, _, h⟩ := h
  unfold alikeV bareV at h
  by_cases h28 : r.kind = 28
  · rw [if_pos h28] at h
    exact .inl ⟨h28, h.1.1, h.2.1, h.2.2⟩
  rw [if_neg h28] at h
  by_cases h1 : r.kind = 1
  · rw [if_pos h1] at h
    exact .inr (.inl ⟨h1, h.1.1, h.2.1, h.2.2⟩)
  rw [if_neg h1] at h
  by_cases h5 : r.kind = 5
  · rw [if_pos h5] at h
    exact .inr (.inr (.inl ⟨h5, h.1.1, h.1.2, h.2.2⟩))
  rw [if_neg h5] at h
  exact .inr (.inr (.inr ⟨h28, h1, h5, h.1.1, h.1.2, h.2.1⟩))
theorem right_zeros {a : List UInt8} (h : rightA false a) : a.take 4 ++ zero12 = a := by
  rw [← h rfl, List.take_append_drop]
/-- What a record bears, as it is written, is read. -/
theorem data_back {l : List UInt8} {n : Nat} (hn : l.length = n) {r : Rc} (hr : rightR r) (hk : r.ok) {at_ : Nat} {rest : List UInt8} (hd : l.drop (at_ + 2) = dataB r ++ rest) : dataV l n (r.asks.asRc r.ttl) at_ (dataB r).length = (r, fl0) := by
  have htk : (l.drop (at_ + 2)).take (dataB r).length = dataB r := by rw [hd, List.take_left' rfl]
  have hc := alike_cases hr
  obtain ⟨name, kind, cls, ttl, v6, adr, target, data⟩ := r
  unfold Rc.ok at hk
  dsimp only at hc hk
  rcases hc with ⟨rfl, rfl, rfl, rfl⟩ | ⟨rfl, rfl, rfl, rfl⟩ | ⟨rfl, rfl, rfl, rfl⟩ | ⟨h28, h1, h5, rfl, rfl, rfl⟩
  · have e : dataB ⟨name, 28, cls, ttl, true, adr, [], []⟩ = adr := by
      show adr.take 16 = adr
      exact List.take_of_length_le (by omega)
    rw [e] at htk ⊢
    unfold dataV Rc.asks Qs.asRc
    dsimp only
    rw [if_pos rfl, if_neg (by omega), ← hk, htk]
  · have e : dataB ⟨name, 1, cls, ttl, false, adr, [], []⟩ = adr.take 4 := rfl
    have e4 : (adr.take 4).length = 4 := by rw [List.length_take]; omega
    rw [e, e4] at htk
    rw [e]
    unfold dataV Rc.asks Qs.asRc
    dsimp only
    rw [if_neg (by decide), if_pos rfl, if_neg (by omega), htk, right_zeros hr.2.1]
  · have e : dataB ⟨name, 5, cls, ttl, false, zero16, target, []⟩ = writeB target := rfl
    rw [e] at hd ⊢
    have hrd := read_written hn hr.2.2.1 hd
    have hn5 : nameV (readv l n ((at_ : Int) + 2)) at_ (writeB target).length = (target, fl0) := by
      rw [show ((at_ : Int) + 2) = ((at_ + 2 : Nat) : Int) by omega, hrd]
      unfold nameV Rd.ok
      dsimp only
      rw [if_neg (by decide), if_neg (by omega)]
    unfold dataV Rc.asks Qs.asRc
    dsimp only
    rw [if_neg (by decide), if_neg (by decide), if_pos rfl, hn5]
    rfl
  · have e : dataB ⟨name, kind, cls, ttl, false, zero16, [], data⟩ = data := by
      unfold dataB
      dsimp only
      rw [if_neg (by omega), if_neg h5]
    rw [e] at htk ⊢
    unfold dataV Rc.asks Qs.asRc
    dsimp only
    rw [if_neg h28, if_neg h1, if_neg h5, htk]
theorem dataB_le {r : Rc} (hr : rightR r) : (dataB r).length ≤ 1000 := by
  unfold dataB
  split
  · rw [List.length_take]
    unfold widB
    split <;> omega
  · split
    · have h2 := hr.2.2.1.2
      unfold writeB
      rw [List.length_append, wireL_length]
      simp only [List.length_cons, List.length_nil]
      omega
    · exact hr.2.2.2.1
theorem writeRB_length (r : Rc) : (writeRB r).length = (writeQB r.asks).length + 6 + (dataB r).length := by
  unfold writeRB
  simp only [List.length_append, putn_length]
  omega
theorem back_r {l : List UInt8} {n : Nat} (hn : l.length = n) {r : Rc} (hr : rightR r) (hk : r.ok) (t0 : 0 ≤ r.ttl) (t1 : r.ttl < 4294967296) {at_ : Nat} {rest : List UInt8} (hat : at_ ≤ n) (hd : l.drop at_ = writeRB r ++ rest) : readRv l n at_ = ⟨r, at_ + (writeRB r).length, fl0⟩ := by
  have hl := room hn hd hat
  rw [writeRB_length] at hl ⊢
  unfold writeRB at hd
  rw [List.append_assoc, List.append_assoc, List.append_assoc] at hd
  unfold readRv
  rw [back_q hn (q := r.asks) hr.1 hat hd]
  have h1 := drop_on hd rfl
  have h2 := drop_on h1 (putn_length _ _)
  have h3 := drop_on h2 (putn_length _ _)
  have n1 := num4_put h1 t0 t1
  have n2 := num2_put h2 (show shortI ((dataB r).length : Nat) by have := dataB_le hr; unfold shortI; omega)
  have n2' : num2 l (at_ + (writeQB r.asks).length + 4) = (dataB r).length := by omega
  have hdat := data_back hn hr hk (at_ := at_ + (writeQB r.asks).length + 4) h3
  unfold readRq
  dsimp only
  rw [n1, n2', hdat]
  dsimp only
  rw [if_neg (by decide), if_neg (by omega), if_neg (by rw [if_neg (by omega)]; omega), if_neg (by decide), show at_ + (writeQB r.asks).length + 6 + (dataB r).length = at_ + ((writeQB r.asks).length + 6 + (dataB r).length) by omega]
/-- A record that is cut. -/
theorem cut_r {l : List UInt8} {n : Nat} (hn : l.length = n) {r : Rc} (hr : rightR r) {at_ k : Nat} (hat : at_ ≤ n) (hd : l.drop at_ = (writeRB r).take k) (h2 : k < (writeRB r).length) : (readRv l n at_).f.code = 3 := by
  have hkl : at_ + k = n := by
    have := congrArg List.length hd
    rw [List.length_drop, List.length_take] at this
    omega
  rw [writeRB_length, writeQB_length, show r.asks.name = r.name from rfl] at h2
  have hw : writeRB r = writeB r.name ++ ((putn r.kind 2 ++ putn r.cls 2) ++ (putn r.ttl 4 ++ (putn ((dataB r).length : Nat) 2 ++ dataB r))) := by
    unfold writeRB writeQB Rc.asks
    rw [List.append_assoc]
  by_cases h1 : k < (writeB r.name).length
  · have hdn : l.drop at_ = (writeB r.name).take k := by
      rw [hd, hw, List.take_append_of_le_length (by omega)]
    have hq := cut_name hn hr.1.1 hkl hdn h1
    have hq2 : readQv l n at_ = .bad (readv l n at_).f := by
      unfold readQv readQd
      rw [if_pos (by rw [show (readv l n (at_ : Int)).f.code = 3 from hq]; decide)]
    unfold readRv readRq
    rw [hq2, if_pos (by show (readv l n at_).f.code ≠ 0; rw [hq]; decide)]
    exact hq
  replace h1 : (writeB r.name).length ≤ k := by omega
  by_cases h4 : k < (writeB r.name).length + 4
  · have hd1 : l.drop at_ = writeB r.asks.name ++ ((putn r.kind 2 ++ putn r.cls 2) ++ (putn r.ttl 4 ++ (putn ((dataB r).length : Nat) 2 ++ dataB r))).take (k - (writeB r.name).length) := by
      rw [hd, hw, List.take_append, List.take_of_length_le h1]
      rfl
    have hq := cut_q hn (q := r.asks) hr.1 hat hd1 (by rw [List.length_take]; omega)
    unfold readRv readRq
    rw [if_pos (by rw [hq]; decide)]
    exact hq
  · have hd2 : l.drop at_ = writeQB r.asks ++ (putn r.ttl 4 ++ (putn ((dataB r).length : Nat) 2 ++ dataB r)).take (k - ((writeB r.name).length + 4)) := by
      rw [hd]
      unfold writeRB
      rw [List.take_append, writeQB_length, List.take_of_length_le (by rw [writeQB_length]; show (writeB r.name).length + 4 ≤ k; omega)]
      rfl
    unfold readRv
    rw [back_q hn (q := r.asks) hr.1 hat hd2, writeQB_length]
    show (readRq l n ⟨r.asks, at_ + ((writeB r.name).length + 4), fl0⟩).f.code = 3
    unfold readRq
    dsimp only
    rw [if_neg (by decide)]
    by_cases h8 : n < at_ + ((writeB r.name).length + 4) + 4
    · rw [if_pos h8]; rfl
    rw [if_neg h8]
    by_cases h10 : n < at_ + ((writeB r.name).length + 4) + 6
    · rw [if_pos h10, if_pos (by omega)]; rfl
    rw [if_neg h10]
    have e1 := drop_on hd2 (writeQB_length r.asks)
    rw [List.take_append, List.take_of_length_le (by rw [putn_length]; omega), putn_length] at e1
    have e2 := drop_on e1 (putn_length _ _)
    rw [List.take_append, List.take_of_length_le (by rw [putn_length]; omega), putn_length] at e2
    have n2 := num2_put e2 (show shortI ((dataB r).length : Nat) by have := dataB_le hr; unfold shortI; omega)
    have n2' : num2 l (at_ + ((writeB r.name).length + 4) + 4) = (dataB r).length := by
      have e3 : (r.asks.name) = r.name := rfl
      rw [e3] at n2
      omega
    rw [n2', if_pos (by omega)]
    rfl
end Go.Proofs.YtbikifaadpijnaaGreatDoor

namespace Go.Proofs.YtbikifaadpijnaaGreatDoor
open Go.RowKit
set_option maxRecDepth 100000

/-- A slice's head. -/
structure Sl where
  A : Option Addr
  n : Nat
  c : Nat
def Sl.zero : Sl := ⟨none, 0, 0⟩
def Sl.v (s : Sl) : Value := .slice s.A s.n s.c
/-- A message, but for what its lists hold. -/
structure Mh where
  id : Int
  reply : Bool
  opcode : Int
  code : Int
  flags : Int
def Mh.zero : Mh := ⟨0, false, 0, 0, 0⟩
/-- A message. -/
structure Ms where
  h : Mh
  qs : List Qs
  an : List Rc
  au : List Rc
  ex : List Rc
def Ms.zero : Ms := ⟨.zero, [], [], [], []⟩

/-! ### What is parsed -/
/-- So many things, from a place on. -/
structure Ls (α : Type) where
  xs : List α
  next : Nat
  f : Fl
def Ls.bad {α : Type} (f : Fl) : Ls α := ⟨[], 0, f⟩
def listV {α : Type} (rd : Nat → α × Nat × Fl) : Nat → Nat → Ls α
  | 0, p => ⟨[], p, fl0⟩
  | k + 1, p =>
    if (rd p).2.2.code ≠ 0 then .bad (rd p).2.2
    else if (listV rd k (rd p).2.1).f.code ≠ 0 then .bad (listV rd k (rd p).2.1).f
    else ⟨(rd p).1 :: (listV rd k (rd p).2.1).xs, (listV rd k (rd p).2.1).next, fl0⟩
def rdQ (l : List UInt8) (n : Nat) (p : Nat) : Qs × Nat × Fl := ((readQv l n (p : Int)).q, (readQv l n (p : Int)).next, (readQv l n (p : Int)).f)
def rdR (l : List UInt8) (n : Nat) (p : Nat) : Rc × Nat × Fl := ((readRv l n (p : Int)).r, (readRv l n (p : Int)).next, (readRv l n (p : Int)).f)
/-- What was read ahead of it, and it. -/
def Ls.behind {α : Type} (acc : List α) (t : Ls α) : Ls α := if t.f.code ≠ 0 then .bad t.f else ⟨acc ++ t.xs, t.next, fl0⟩
theorem listV_end {α : Type} (rd : Nat → α × Nat × Fl) (p : Nat) (acc : List α) : (listV rd 0 p).behind acc = ⟨acc, p, fl0⟩ := by
  unfold Ls.behind listV
  rw [if_neg (by simp [fl0]), List.append_nil]
theorem listV_bad {α : Type} {rd : Nat → α × Nat × Fl} {p : Nat} (k : Nat) (acc : List α) (h : (rd p).2.2.code ≠ 0) : (listV rd (k + 1) p).behind acc = .bad (rd p).2.2 := by
  unfold listV
  rw [if_pos h]
  unfold Ls.behind Ls.bad
  rw [if_pos h]
theorem listV_on {α : Type} {rd : Nat → α × Nat × Fl} {p : Nat} (k : Nat) (acc : List α) (h : (rd p).2.2.code = 0) : (listV rd (k + 1) p).behind acc = (listV rd k (rd p).2.1).behind (acc ++ [(rd p).1]) := by
  have h' : ¬ (rd p).2.2.code ≠ 0 := fun e => e h
  rw [listV, if_neg h']
  unfold Ls.behind
  by_cases hc : (listV rd k (rd p).2.1).f.code ≠ 0
  · rw [if_pos hc, if_pos hc]
    unfold Ls.bad
    dsimp only
    rw [if_pos hc]
  · rw [if_neg hc, if_neg hc]
    rw [if_neg (by simp [fl0])]
    simp
theorem listV_self {α : Type} (rd : Nat → α × Nat × Fl) : ∀ (k p : Nat), (listV rd k p).behind [] = listV rd k p
  | 0, p => by rw [listV_end]; rfl
  | k + 1, p => by
    unfold Ls.behind
    rw [listV]
    by_cases h : (rd p).2.2.code ≠ 0
    · rw [if_pos h]
      unfold Ls.bad
      dsimp only
      rw [if_pos h]
    rw [if_neg h]
    by_cases hc : (listV rd k (rd p).2.1).f.code ≠ 0
    · rw [if_pos hc]
      unfold Ls.bad
      dsimp only
      rw [if_pos hc]
    · rw [if_neg hc, if_neg (by simp [fl0]), List.nil_append]
/-- The head's numbers. -/
def hdN (l : List UInt8) (i : Nat) : Nat := num2 l (2 * i)
/-- A message's head, by its bits. -/
def begunV (id bits : Nat) : Mh := ⟨id, decide (bits / 32768 = 1), (bits / 2048 % 16 : Nat), (bits % 16 : Nat), (bits / 16 % 128 : Nat)⟩
/-- The message, and the place behind it. -/
structure Mw where
  m : Ms
  next : Nat
  f : Fl
def Mw.bad (f : Fl) : Mw := ⟨.zero, 0, f⟩
def wholeR (l : List UInt8) (n : Nat) (h : Nat → Nat) (q : Ls Qs) : Mw :=
  if q.f.code ≠ 0 then .bad q.f
  else if (listV (rdR l n) (h 3) q.next).f.code ≠ 0 then .bad (listV (rdR l n) (h 3) q.next).f
  else if (listV (rdR l n) (h 4) (listV (rdR l n) (h 3) q.next).next).f.code ≠ 0 then .bad (listV (rdR l n) (h 4) (listV (rdR l n) (h 3) q.next).next).f
  else if (listV (rdR l n) (h 5) (listV (rdR l n) (h 4) (listV (rdR l n) (h 3) q.next).next).next).f.code ≠ 0 then .bad (listV (rdR l n) (h 5) (listV (rdR l n) (h 4) (listV (rdR l n) (h 3) q.next).next).next).f
  else ⟨⟨begunV (h 0) (h 1), q.xs, (listV (rdR l n) (h 3) q.next).xs, (listV (rdR l n) (h 4) (listV (rdR l n) (h 3) q.next).next).xs, (listV (rdR l n) (h 5) (listV (rdR l n) (h 4) (listV (rdR l n) (h 3) q.next).next).next).xs⟩, (listV (rdR l n) (h 5) (listV (rdR l n) (h 4) (listV (rdR l n) (h 3) q.next).next).next).next, fl0⟩
def wholeV (l : List UInt8) (n : Nat) (h : Nat → Nat) : Mw := wholeR l n h (listV (rdQ l n) (h 2) 12)
/-- What is parsed. -/
def parseW (n : Nat) (x : Mw) : Ms × Fl := if x.f.code ≠ 0 then (.zero, x.f) else if x.next ≠ n then (.zero, ⟨7, x.next, true⟩) else (x.m, fl0)
def parseM (l : List UInt8) (n : Nat) : Ms × Fl :=
  if 4000 < n then (.zero, ⟨4, 0, false⟩)
  else if n < 12 then (.zero, ⟨3, 0, true⟩)
  else if 64 < hdN l 2 + hdN l 3 + hdN l 4 + hdN l 5 then (.zero, ⟨4, 4, true⟩)
  else parseW n (wholeV l n (hdN l))

/-! ### What may be written -/
def rightH (h : Mh) : Prop := (0 ≤ h.id ∧ h.id ≤ 65535) ∧ (0 ≤ h.opcode ∧ h.opcode ≤ 15) ∧ (0 ≤ h.flags ∧ h.flags ≤ 127) ∧ (0 ≤ h.code ∧ h.code ≤ 15)
instance (h : Mh) : Decidable (rightH h) := by unfold rightH; infer_instance
def bitsV (h : Mh) : Int := h.opcode * 2048 + h.flags * 16 + h.code + (if h.reply then 32768 else 0)
def recs (m : Ms) : List Rc := m.an ++ (m.au ++ m.ex)
def countM (m : Ms) : Nat := m.qs.length + (recs m).length
def rightM (m : Ms) : Prop := (rightH m.h ∧ countM m ≤ 64) ∧ (∀ q ∈ m.qs, rightQ q) ∧ ∀ r ∈ recs m, rightR r
instance (m : Ms) : Decidable (rightM m) := by unfold rightM; infer_instance
def headL (m : Ms) : List UInt8 := putn m.h.id 2 ++ (putn (bitsV m.h) 2 ++ (putn (m.qs.length : Nat) 2 ++ (putn (m.an.length : Nat) 2 ++ (putn (m.au.length : Nat) 2 ++ putn (m.ex.length : Nat) 2))))
def qsB (qs : List Qs) : List UInt8 := (qs.map writeQB).flatten
def rsB (rs : List Rc) : List UInt8 := (rs.map writeRB).flatten
def msgB (m : Ms) : List UInt8 := headL m ++ (qsB m.qs ++ rsB (recs m))
def writeMv (m : Ms) : List UInt8 := if rightM m ∧ (msgB m).length ≤ 4000 then msgB m else []
def writeMe (m : Ms) : Fl := if rightM m then (if (msgB m).length ≤ 4000 then fl0 else ⟨4, 0, false⟩) else ⟨1, 0, false⟩
end Go.Proofs.YtbikifaadpijnaaGreatDoor

namespace Go.Proofs.YtbikifaadpijnaaGreatDoor
open Go.RowKit
set_option maxRecDepth 100000

/-- Records as arguments: their times are numbers of four bytes, their texts' lengths fit. -/
def Rec1 (r : Rc) : Prop := (0 ≤ r.ttl ∧ r.ttl < 4294967296) ∧ r.name.length ≤ 9223372036854775807 ∧ r.target.length ≤ 9223372036854775807
/-- A message among the arguments. -/
structure ArgM (m : Ms) : Prop where
  qs : ∀ q ∈ m.qs, q.name.length ≤ 9223372036854775807
  an : ∀ r ∈ m.an, Rec1 r
  au : ∀ r ∈ m.au, Rec1 r
  ex : ∀ r ∈ m.ex, Rec1 r
end Go.Proofs.YtbikifaadpijnaaGreatDoor

namespace Go.Proofs.YtbikifaadpijnaaGreatDoor
open Go.RowKit
set_option maxRecDepth 100000

theorem wr_no {m : Ms} (h : ¬ rightM m) : writeMe m = ⟨1, 0, false⟩ ∧ writeMv m = [] := by
  unfold writeMe writeMv
  rw [if_neg h, if_neg (fun hh => h hh.1)]
  exact ⟨rfl, rfl⟩
theorem wr_h {m : Ms} (h : ¬ rightH m.h) : writeMe m = ⟨1, 0, false⟩ ∧ writeMv m = [] := wr_no fun hr => h hr.1.1
theorem wr_q {m : Ms} {q : Qs} (hq : q ∈ m.qs) (h : ¬ rightQ q) : writeMe m = ⟨1, 0, false⟩ ∧ writeMv m = [] := wr_no fun hr => h (hr.2.1 q hq)
theorem wr_r {m : Ms} {r : Rc} (hq : r ∈ recs m) (h : ¬ rightR r) : writeMe m = ⟨1, 0, false⟩ ∧ writeMv m = [] := wr_no fun hr => h (hr.2.2 r hq)
end Go.Proofs.YtbikifaadpijnaaGreatDoor
