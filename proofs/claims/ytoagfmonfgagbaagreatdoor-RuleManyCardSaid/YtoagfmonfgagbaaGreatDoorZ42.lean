/-
  Names as values: labels, what may be one, what is written, what is read. No conditions.
  Names that are written are read; labels with dots between are the name. No conditions.
  stockadeplay.Name as a value: whatever comes of a text is a name. No conditions.
  What the statements of stage 12 ask, as values: as long as may be, cut anywhere, under a zone, one byte, each label. No conditions.
-/
import Derived.Test.YtoagfmonfgagbaaGreatDoorZ03
import Derived.Test.YtoagfmonfgagbaaGreatDoorZ41
import Derived.Test.YtoagfmonfgagbaaGreatDoorZ09
namespace Go.Proofs.YtoagfmonfgagbaaGreatDoor
open Go.RowKit
set_option maxRecDepth 100000

/-- A byte of a label. -/
def sign (c : UInt8) : Prop := 33 ≤ c.toNat ∧ c.toNat ≤ 126 ∧ c.toNat ≠ 46 ∧ ¬ (65 ≤ c.toNat ∧ c.toNat ≤ 90)
instance (c : UInt8) : Decidable (sign c) := by unfold sign; infer_instance
/-- May it be a label? -/
def labOk (l : List UInt8) : Prop := (∀ c ∈ l, sign c) ∧ 1 ≤ l.length ∧ l.length ≤ 63
instance (l : List UInt8) : Decidable (labOk l) := by unfold labOk; infer_instance
/-- The labels of a text. -/
def labsN (l : List UInt8) : List (List UInt8) := if l = [] then [] else spl 46 l
def sizeL (ls : List (List UInt8)) : Nat := (ls.map fun x => 1 + x.length).sum
def rightN (l : List UInt8) : Prop := (∀ x ∈ labsN l, labOk x) ∧ 1 + sizeL (labsN l) ≤ 255
instance (l : List UInt8) : Decidable (rightN l) := by unfold rightN; infer_instance
def wireL (ls : List (List UInt8)) : List UInt8 := ls.flatMap fun x => UInt8.ofNat x.length :: x
def writeB (l : List UInt8) : List UInt8 := wireL (labsN l) ++ [0]
/-- What Write answers. -/
def writev (l : List UInt8) : List UInt8 := if rightN l then writeB l else []
def writee (l : List UInt8) : Fl := if rightN l then ⟨0, 0, false⟩ else ⟨13, 0, false⟩
def underN (a z : List UInt8) : Prop := z = [] ∨ a = z ∨ (z.length < a.length ∧ a.drop (a.length - z.length) = z ∧ a[a.length - z.length - 1]? = some 46)
instance (a z : List UInt8) : Decidable (underN a z) := by unfold underN; infer_instance
/-- Capitals made small. -/
def lowB (c : UInt8) : UInt8 := if 65 ≤ c.toNat ∧ c.toNat ≤ 90 then c + 32 else c
def lowL (l : List UInt8) : List UInt8 := l.map lowB
/-- A label behind what there is. -/
def dotted (a s : List UInt8) : List UInt8 := if a = [] then s else a ++ 46 :: s
def joinD : List (List UInt8) → List UInt8
  | [] => []
  | [x] => x
  | x :: y :: r => x ++ 46 :: joinD (y :: r)

/-! ### What is read -/
/-- How far it has come. -/
structure Rs where
  at_ : Nat
  below : Nat
  size : Nat
  name : List UInt8
  next : Option Nat
/-- What is answered. -/
structure Rd where
  name : List UInt8
  next : Nat
  f : Fl
def Rd.bad (c : Int) (a : Nat) : Rd := ⟨[], 0, ⟨c, a, true⟩⟩
def Rd.ok (name : List UInt8) (next : Nat) : Rd := ⟨name, next, ⟨0, 0, false⟩⟩
def rstep (l : List UInt8) (n : Nat) (s : Rs) : Rs ⊕ Rd :=
  if n ≤ s.at_ then .inr (.bad 3 s.at_)
  else if bat l s.at_ = 0 then .inr (.ok s.name (s.next.getD (s.at_ + 1)))
  else if bat l s.at_ ≤ 63 then
    if n < s.at_ + 1 + bat l s.at_ then .inr (.bad 3 s.at_)
    else if ¬ labOk (lowL ((l.drop (s.at_ + 1)).take (bat l s.at_))) then .inr (.bad 12 s.at_)
    else if 255 < s.size + 1 + bat l s.at_ then .inr (.bad 13 s.at_)
    else .inl ⟨s.at_ + 1 + bat l s.at_, s.below, s.size + 1 + bat l s.at_, dotted s.name (lowL ((l.drop (s.at_ + 1)).take (bat l s.at_))), s.next⟩
  else if 192 ≤ bat l s.at_ then
    if n ≤ s.at_ + 1 then .inr (.bad 3 s.at_)
    else if s.below ≤ num2 l s.at_ % 16384 then .inr (.bad 14 s.at_)
    else .inl ⟨num2 l s.at_ % 16384, num2 l s.at_ % 16384, s.size, s.name, some (s.next.getD (s.at_ + 2))⟩
  else .inr (.bad 12 s.at_)
def meas (s : Rs) : Nat := (256 - s.size) + s.below
theorem rstep_less {l : List UInt8} {n : Nat} {s s' : Rs} (h : rstep l n s = .inl s') (h5 : s.size ≤ 255) : s'.size ≤ 255 ∧ meas s' < meas s := by
  unfold rstep at h
  unfold meas
  split at h
  · cases h
  split at h
  · cases h
  split at h
  · split at h
    · cases h
    split at h
    · cases h
    split at h
    · cases h
    · cases h
      dsimp only
      omega
  · split at h
    · split at h
      · cases h
      split at h
      · cases h
      · cases h
        dsimp only
        omega
    · cases h
def rrun (l : List UInt8) (n : Nat) : Nat → Rs → Rd
  | 0, _ => .ok [] 0
  | f + 1, s => match rstep l n s with
    | .inr r => r
    | .inl s' => rrun l n f s'
theorem rrun_fuel {l : List UInt8} {n : Nat} : ∀ (f g : Nat) (s : Rs), s.size ≤ 255 → meas s < f → meas s < g → rrun l n f s = rrun l n g s
  | 0, _, _, _, h, _ => absurd h (by omega)
  | _, 0, _, _, _, h => absurd h (by omega)
  | f + 1, g + 1, s, h5, hf, hg => by
    unfold rrun
    cases h : rstep l n s with
    | inr r => rfl
    | inl s' =>
      obtain ⟨h1, h2⟩ := rstep_less h h5
      exact rrun_fuel f g s' h1 (by omega) (by omega)
/-- What is answered from there on. -/
def readS (l : List UInt8) (n : Nat) (s : Rs) : Rd := rrun l n (meas s + 1) s
theorem readS_end {l : List UInt8} {n : Nat} {s : Rs} {r : Rd} (h : rstep l n s = .inr r) : readS l n s = r := by
  unfold readS rrun
  rw [h]
theorem readS_on {l : List UInt8} {n : Nat} {s s' : Rs} (h : rstep l n s = .inl s') (h5 : s.size ≤ 255) : readS l n s = readS l n s' := by
  obtain ⟨h1, h2⟩ := rstep_less h h5
  have e : readS l n s = rrun l n (meas s) s' := by
    show rrun l n (meas s + 1) s = _
    unfold rrun
    rw [h]
    cases hm : meas s with
    | zero => omega
    | succ k => rfl
  rw [e]
  exact rrun_fuel _ _ s' h1 h2 (Nat.lt_succ_self _)
/-- What Read answers. -/
def readv (l : List UInt8) (n : Nat) (at_ : Int) : Rd := if at_ < 0 then ⟨[], 0, ⟨1, 0, false⟩⟩ else readS l n ⟨at_.toNat, at_.toNat, 1, [], none⟩
end Go.Proofs.YtoagfmonfgagbaaGreatDoor

namespace Go.Proofs.YtoagfmonfgagbaaGreatDoor
open Go.RowKit
set_option maxRecDepth 100000

/-! ### Labels, and dots between -/
theorem joinD_cons (x : List UInt8) {r : List (List UInt8)} (h : r ≠ []) : joinD (x :: r) = x ++ 46 :: joinD r := by
  cases r with
  | nil => exact absurd rfl h
  | cons y r => rfl
theorem joinD_onHead (b : UInt8) {ls : List (List UInt8)} (h : ls ≠ []) : joinD (onHead b ls) = b :: joinD ls := by
  cases ls with
  | nil => exact absurd rfl h
  | cons x r =>
    show joinD ((b :: x) :: r) = _
    cases r with
    | nil => rfl
    | cons y r => rfl
theorem joinD_splN : ∀ (l : List UInt8) (k : Nat), joinD (splN 46 l k) = l
  | l, 0 => by rw [splN_zero]; rfl
  | [], k + 1 => rfl
  | b :: r, k + 1 => by
    rw [splN_cons]
    by_cases hb : b = 46
    · rw [if_pos hb, joinD_cons _ (splN_ne 46 r k), joinD_splN r k, hb]
      rfl
    · rw [if_neg hb, joinD_onHead b (splN_ne 46 r (k + 1)), joinD_splN r (k + 1)]
theorem joinD_labsN (l : List UInt8) : joinD (labsN l) = l := by
  unfold labsN
  split
  · rename_i h; rw [h]; rfl
  · exact joinD_splN l _
theorem splN_joinD : ∀ (ls : List (List UInt8)) (k : Nat), ls ≠ [] → (∀ x ∈ ls, (46 : UInt8) ∉ x) → ls.length ≤ k + 1 → splN 46 (joinD ls) k = ls
  | [], _, h, _, _ => absurd rfl h
  | [x], k, _, hx, _ => sp_plain 46 x k (hx x (by simp))
  | x :: y :: r, 0, _, _, h => by simp at h
  | x :: y :: r, k + 1, _, hx, h => by
    rw [joinD_cons x (by simp), sp_cons 46 x _ k (hx x (by simp)), splN_joinD (y :: r) k (by simp) (fun z hz => hx z (List.mem_cons_of_mem _ hz)) (by simpa using h)]
theorem joinD_length : ∀ (ls : List (List UInt8)), ls ≠ [] → (joinD ls).length + 1 = sizeL ls
  | [], h => absurd rfl h
  | [x], _ => by simp [joinD, sizeL]; omega
  | x :: y :: r, _ => by
    have h := joinD_length (y :: r) (by simp)
    rw [joinD_cons x (by simp), List.length_append, List.length_cons]
    show _ = (1 + x.length) + sizeL (y :: r)
    omega
theorem sizeL_ge : ∀ (ls : List (List UInt8)), ls.length ≤ sizeL ls
  | [] => Nat.zero_le _
  | x :: r => by
    have h := sizeL_ge r
    show r.length + 1 ≤ (1 + x.length) + sizeL r
    omega
theorem joinD_ne {ls : List (List UInt8)} (h : ls ≠ []) (hx : ∀ x ∈ ls, x ≠ []) : joinD ls ≠ [] := by
  cases ls with
  | nil => exact absurd rfl h
  | cons x r =>
    have hx0 := hx x (by simp)
    cases r with
    | nil => exact hx0
    | cons y r => rw [joinD_cons x (by simp)]; simp
theorem labsN_joinD {ls : List (List UInt8)} (hx : ∀ x ∈ ls, (46 : UInt8) ∉ x ∧ x ≠ []) : labsN (joinD ls) = ls := by
  cases hls : ls with
  | nil => rfl
  | cons x r =>
    rw [← hls]
    have hne : ls ≠ [] := by rw [hls]; simp
    unfold labsN
    rw [if_neg (joinD_ne hne fun x h => (hx x h).2)]
    have h1 := joinD_length ls hne
    have h2 := sizeL_ge ls
    exact splN_joinD ls _ hne (fun x h => (hx x h).1) (by omega)
theorem splN_no (c : UInt8) : ∀ (l : List UInt8) (k : Nat), l.length ≤ k → ∀ x ∈ splN c l k, c ∉ x
  | [], 0, _, x, h => by rw [splN_zero] at h; obtain rfl := List.mem_singleton.1 h; simp
  | [], k + 1, _, x, h => by obtain rfl := List.mem_singleton.1 h; simp
  | b :: r, 0, h, _, _ => by simp at h
  | b :: r, k + 1, h, x, hx => by
    simp only [List.length_cons] at h
    rw [splN_cons] at hx
    by_cases hb : b = c
    · rw [if_pos hb] at hx
      rcases List.mem_cons.1 hx with rfl | hx
      · simp
      · exact splN_no c r k (by omega) x hx
    · rw [if_neg hb] at hx
      have ih := splN_no c r (k + 1) (by omega)
      cases hs : splN c r (k + 1) with
      | nil => exact absurd hs (splN_ne c r _)
      | cons y ys =>
        rw [hs] at hx ih
        rcases List.mem_cons.1 hx with rfl | hx
        · intro hm
          rcases List.mem_cons.1 hm with e | hm
          · exact hb e.symm
          · exact ih y (by simp) hm
        · exact ih x (by simp [hx])
theorem labsN_no {l : List UInt8} : ∀ x ∈ labsN l, (46 : UInt8) ∉ x := fun x hx => by
  unfold labsN at hx
  split at hx
  · cases hx
  · exact splN_no 46 l _ (Nat.le_refl _) x hx
theorem labsN_ne {l : List UInt8} (h : l ≠ []) : labsN l ≠ [] := by
  unfold labsN
  rw [if_neg h]
  exact splN_ne 46 l _
theorem sizeL_labsN {l : List UInt8} (h : l ≠ []) : sizeL (labsN l) = l.length + 1 := by
  have h1 := joinD_length (labsN l) (labsN_ne h)
  rw [joinD_labsN] at h1
  omega
theorem wireL_length : ∀ ls : List (List UInt8), (wireL ls).length = sizeL ls
  | [] => rfl
  | x :: r => by
    show (UInt8.ofNat x.length :: x ++ wireL r).length = (1 + x.length) + sizeL r
    rw [List.length_append, List.length_cons, wireL_length r]
    omega
theorem wireL_cons (x : List UInt8) (r : List (List UInt8)) : wireL (x :: r) = UInt8.ofNat x.length :: (x ++ wireL r) := rfl
theorem wireL_append (a b : List (List UInt8)) : wireL (a ++ b) = wireL a ++ wireL b := by simp [wireL]
theorem sizeL_append (a b : List (List UInt8)) : sizeL (a ++ b) = sizeL a + sizeL b := by simp [sizeL]
theorem writeB_length (l : List UInt8) : (writeB l).length = if l = [] then 1 else l.length + 2 := by
  unfold writeB
  rw [List.length_append, wireL_length]
  split
  · rename_i h; rw [h]; rfl
  · rename_i h; rw [sizeL_labsN h]; rfl
theorem labOk_ne {x : List UInt8} (h : labOk x) : x ≠ [] := fun e => by
  have := h.2.1
  rw [e] at this
  simp at this
theorem labOk_no {x : List UInt8} (h : labOk x) : (46 : UInt8) ∉ x := fun hm => (h.1 46 hm).2.2.1 rfl
theorem lowL_length (x : List UInt8) : (lowL x).length = x.length := by simp [lowL]
theorem lowB_sign {c : UInt8} (h : sign c) : lowB c = c := by unfold lowB; rw [if_neg h.2.2.2]
theorem lowL_ok {x : List UInt8} (h : labOk x) : lowL x = x := by
  unfold lowL
  conv => rhs; rw [← List.map_id x]
  exact List.map_congr_left fun c hc => lowB_sign (h.1 c hc)
theorem foldl_dotted : ∀ (ls : List (List UInt8)) (a : List UInt8), (∀ x ∈ ls, x ≠ []) → a ≠ [] → ls.foldl dotted a = joinD (a :: ls)
  | [], a, _, _ => rfl
  | x :: r, a, hx, ha => by
    show r.foldl dotted (dotted a x) = a ++ 46 :: joinD (x :: r)
    have e : dotted a x = a ++ 46 :: x := by unfold dotted; rw [if_neg ha]
    rw [e, foldl_dotted r _ (fun z hz => hx z (List.mem_cons_of_mem _ hz)) (by simp)]
    cases r with
    | nil => rfl
    | cons y r => rw [joinD_cons _ (by simp), joinD_cons x (by simp)]; simp
theorem foldl_dotted_nil {ls : List (List UInt8)} (hx : ∀ x ∈ ls, x ≠ []) : ls.foldl dotted [] = joinD ls := by
  cases ls with
  | nil => rfl
  | cons x r =>
    show r.foldl dotted (dotted [] x) = _
    rw [show dotted [] x = x from rfl]
    exact foldl_dotted r x (fun z hz => hx z (List.mem_cons_of_mem _ hz)) (hx x (by simp))

/-! ### What is read -/
theorem bat_head {l : List UInt8} {i : Nat} {x : UInt8} {r : List UInt8} (h : l.drop i = x :: r) : bat l i = x.toNat ∧ i < l.length ∧ l.drop (i + 1) = r := by
  have h1 : l[i]? = some x := by
    have := congrArg (fun t : List UInt8 => t[0]?) h
    simpa using this
  refine ⟨bat_get h1, (List.getElem?_eq_some_iff.1 h1).1, ?_⟩
  rw [← List.drop_drop (i := 1) (j := i), h]
  rfl
theorem read_labels {l : List UInt8} {n : Nat} (hn : l.length = n) : ∀ (ys : List (List UInt8)) (at_ below size : Nat) (a : List UInt8) (next : Option Nat) (rest : List UInt8), (∀ y ∈ ys, labOk (lowL y)) → size + sizeL ys ≤ 255 → l.drop at_ = wireL ys ++ rest →
    readS l n ⟨at_, below, size, a, next⟩ = readS l n ⟨at_ + sizeL ys, below, size + sizeL ys, (ys.map lowL).foldl dotted a, next⟩
  | [], _, _, _, _, _, _, _, _, _ => rfl
  | y :: ys, at_, below, size, a, next, rest, hy, hs, hd => by
    have hy0 := hy y (by simp)
    have h1 := hy0.2.1
    have h63 := hy0.2.2
    rw [lowL_length] at h1 h63
    have hsz : sizeL (y :: ys) = 1 + y.length + sizeL ys := rfl
    rw [wireL_cons, List.cons_append, List.append_assoc] at hd
    obtain ⟨hb, hlt, hd1⟩ := bat_head hd
    have hbl : bat l at_ = y.length := by rw [hb, UInt8.toNat_ofNat']; omega
    have hd2 : l.drop (at_ + 1 + y.length) = wireL ys ++ rest := by rw [← List.drop_drop (i := y.length) (j := at_ + 1), hd1, List.drop_left' rfl]
    have htk : (l.drop (at_ + 1)).take y.length = y := by rw [hd1, List.take_left' rfl]
    have hlen : at_ + 1 + y.length ≤ n := by
      have := congrArg List.length hd1
      rw [List.length_drop, List.length_append] at this
      omega
    have hst : rstep l n ⟨at_, below, size, a, next⟩ = .inl ⟨at_ + 1 + y.length, below, size + 1 + y.length, dotted a (lowL y), next⟩ := by
      unfold rstep
      dsimp only
      rw [hbl, htk, if_neg (by omega), if_neg (by omega), if_pos (by omega), if_neg (by omega), if_neg (by simpa using hy0), if_neg (by omega)]
    rw [readS_on hst (by dsimp only; omega), read_labels hn ys (at_ + 1 + y.length) below (size + 1 + y.length) (dotted a (lowL y)) next rest (fun z hz => hy z (List.mem_cons_of_mem _ hz)) (by omega) hd2, hsz]
    rw [show at_ + 1 + y.length + sizeL ys = at_ + (1 + y.length + sizeL ys) by omega, show size + 1 + y.length + sizeL ys = size + (1 + y.length + sizeL ys) by omega]
    rfl
theorem read_end {l : List UInt8} {n : Nat} (hn : l.length = n) {at_ below size : Nat} {a : List UInt8} {next : Option Nat} {rest : List UInt8} (hd : l.drop at_ = 0 :: rest) :
    readS l n ⟨at_, below, size, a, next⟩ = .ok a (next.getD (at_ + 1)) := by
  obtain ⟨hb, hlt, _⟩ := bat_head hd
  refine readS_end ?_
  unfold rstep
  dsimp only
  rw [hb, if_neg (by omega), if_pos (show UInt8.toNat 0 = 0 from rfl)]
theorem num2_head {l : List UInt8} {i : Nat} {x y : UInt8} {r : List UInt8} (h : l.drop i = x :: y :: r) : num2 l i = x.toNat * 256 + y.toNat ∧ i + 2 ≤ l.length ∧ l.drop (i + 2) = r := by
  obtain ⟨h1, h2, h3⟩ := bat_head h
  obtain ⟨h4, h5, h6⟩ := bat_head h3
  rw [num2_bat (by omega), h1, h4]
  exact ⟨rfl, by omega, h6⟩
/-- A pointer, whose two bytes tell a place. -/
theorem read_ptr {l : List UInt8} {n : Nat} (hn : l.length = n) {at_ below size : Nat} {a : List UInt8} {next : Option Nat} {x y : UInt8} {rest : List UInt8} (h5 : size ≤ 255) (hd : l.drop at_ = x :: y :: rest) (hx : 192 ≤ x.toNat) {to : Nat} (ht : (x.toNat * 256 + y.toNat) % 16384 = to) (hto : to < below) :
    readS l n ⟨at_, below, size, a, next⟩ = readS l n ⟨to, to, size, a, some (next.getD (at_ + 2))⟩ := by
  obtain ⟨hb, hlt, _⟩ := bat_head hd
  obtain ⟨hm, h2, _⟩ := num2_head hd
  refine readS_on ?_ h5
  unfold rstep
  dsimp only
  rw [hm, ht, hb, if_neg (by omega), if_neg (by omega), if_neg (by omega), if_pos hx, if_neg (by omega), if_neg (by omega)]
theorem read_ptr_bad {l : List UInt8} {n : Nat} (hn : l.length = n) {at_ below size : Nat} {a : List UInt8} {next : Option Nat} {x y : UInt8} {rest : List UInt8} (hd : l.drop at_ = x :: y :: rest) (hx : 192 ≤ x.toNat) {to : Nat} (ht : (x.toNat * 256 + y.toNat) % 16384 = to) (hto : below ≤ to) :
    readS l n ⟨at_, below, size, a, next⟩ = .bad 14 at_ := by
  obtain ⟨hb, hlt, _⟩ := bat_head hd
  obtain ⟨hm, h2, _⟩ := num2_head hd
  refine readS_end ?_
  unfold rstep
  dsimp only
  rw [hm, ht, hb, if_neg (by omega), if_neg (by omega), if_neg (by omega), if_pos hx, if_neg (by omega), if_pos (by omega)]
/-- What is written is read, in capitals too. -/
theorem read_wire {l : List UInt8} {n : Nat} (hn : l.length = n) {ys : List (List UInt8)} {at_ : Nat} {rest : List UInt8} (hy : ∀ y ∈ ys, labOk (lowL y)) (hs : 1 + sizeL ys ≤ 255) (hd : l.drop at_ = wireL ys ++ 0 :: rest) :
    readv l n at_ = .ok (joinD (ys.map lowL)) (at_ + sizeL ys + 1) := by
  unfold readv
  rw [if_neg (by omega), Int.toNat_natCast, read_labels hn ys at_ at_ 1 [] none _ hy (by omega) hd]
  have hd2 : l.drop (at_ + sizeL ys) = 0 :: rest := by rw [← wireL_length, ← List.drop_drop, hd, List.drop_left' rfl]
  rw [read_end hn hd2, foldl_dotted_nil]
  · rfl
  · intro x hx
    obtain ⟨y, hy1, rfl⟩ := List.mem_map.1 hx
    exact labOk_ne (hy y hy1)
theorem read_written {l : List UInt8} {n : Nat} (hn : l.length = n) {s : List UInt8} (hs : rightN s) {at_ : Nat} {rest : List UInt8} (hd : l.drop at_ = writeB s ++ rest) : readv l n at_ = .ok s (at_ + (writeB s).length) := by
  unfold writeB at hd ⊢
  rw [List.append_assoc] at hd
  have hlow : (labsN s).map lowL = labsN s := by
    conv => rhs; rw [← List.map_id (labsN s)]
    exact List.map_congr_left fun x hx => lowL_ok (hs.1 x hx)
  have h := read_wire hn (ys := labsN s) (rest := rest) (fun y hy => by rw [lowL_ok (hs.1 y hy)]; exact hs.1 y hy) hs.2 hd
  rw [hlow, joinD_labsN] at h
  rw [h, List.length_append, wireL_length]
  rfl
end Go.Proofs.YtoagfmonfgagbaaGreatDoor

namespace Go.Proofs.YtoagfmonfgagbaaGreatDoor
open Go.RowKit
set_option maxRecDepth 100000

/-- A text as it grows: a byte that may stand there, or not. -/
def nmTakes (out : List UInt8) (c : UInt8) : Prop := (c = 46 ∧ out ≠ [] ∧ out.getLast? ≠ some 46) ∨ sign c
instance (out : List UInt8) (c : UInt8) : Decidable (nmTakes out c) := by unfold nmTakes; infer_instance
def nmStep (out : List UInt8) (c : UInt8) : List UInt8 := if nmTakes out c then out ++ [c] else out
def nmRun : List UInt8 → List UInt8 → List UInt8
  | [], out => out
  | c :: r, out => if 60 ≤ out.length then out else nmRun r (nmStep out c)
def trimDot (out : List UInt8) : List UInt8 := if out.getLast? = some 46 then out.dropLast else out
def playN (s : List UInt8) : List UInt8 := trimDot (nmRun s [])
theorem nmRun_full {out : List UInt8} (h : 60 ≤ out.length) : ∀ s, nmRun s out = out
  | [] => rfl
  | c :: r => by unfold nmRun; rw [if_pos h]

/-- Labels of signs, with dots between, and perhaps one behind. -/
def NmOk (out : List UInt8) : Prop := ∃ (ls : List (List UInt8)) (d : Bool), out = joinD ls ++ (if d then [46] else []) ∧ (∀ x ∈ ls, x ≠ [] ∧ ∀ c ∈ x, sign c) ∧ (d = true → ls ≠ [])
theorem joinD_snoc : ∀ (ls : List (List UInt8)) (x : List UInt8), ls ≠ [] → joinD (ls ++ [x]) = joinD ls ++ 46 :: x
  | [], _, h => absurd rfl h
  | [y], x, _ => rfl
  | y :: z :: r, x, _ => by
    show joinD (y :: ((z :: r) ++ [x])) = _
    rw [joinD_cons y (by simp), joinD_snoc (z :: r) x (by simp), joinD_cons y (by simp)]
    simp
theorem joinD_more : ∀ (ls : List (List UInt8)) (x y : List UInt8), joinD (ls ++ [x ++ y]) = joinD (ls ++ [x]) ++ y
  | [], x, y => rfl
  | z :: r, x, y => by
    show joinD (z :: (r ++ [x ++ y])) = joinD (z :: (r ++ [x])) ++ y
    rw [joinD_cons z (by simp), joinD_cons z (by simp), joinD_more r x y]
    simp
theorem sign_ne {c : UInt8} (h : sign c) : c ≠ 46 := fun e => h.2.2.1 (by rw [e]; rfl)
theorem join_last : ∀ (ls : List (List UInt8)), ls ≠ [] → (∀ x ∈ ls, x ≠ [] ∧ ∀ c ∈ x, sign c) → ∃ c, (joinD ls).getLast? = some c ∧ sign c
  | [], h, _ => absurd rfl h
  | [x], _, hx => by
    obtain ⟨h1, h2⟩ := hx x (by simp)
    refine ⟨x.getLast h1, List.getLast?_eq_some_getLast h1, h2 _ (List.getLast_mem h1)⟩
  | x :: y :: r, _, hx => by
    obtain ⟨c, hc, hs⟩ := join_last (y :: r) (by simp) (fun z hz => hx z (List.mem_cons_of_mem _ hz))
    refine ⟨c, ?_, hs⟩
    rw [joinD_cons x (by simp), List.getLast?_append, List.getLast?_cons, hc]
    rfl
theorem nmOk_step {out : List UInt8} (h : NmOk out) (c : UInt8) : NmOk (nmStep out c) := by
  unfold nmStep
  by_cases ht : nmTakes out c
  · rw [if_pos ht]
    obtain ⟨ls, d, rfl, hx, hd⟩ := h
    rcases ht with ⟨rfl, hne, hl⟩ | hs
    · cases d with
      | true => exact absurd (by simp) hl
      | false => exact ⟨ls, true, by simp, hx, fun _ e => hne (by rw [e]; rfl)⟩
    · cases d with
      | true =>
        refine ⟨ls ++ [[c]], false, ?_, fun x hm => ?_, fun h => by cases h⟩
        · rw [joinD_snoc ls [c] (hd rfl)]
          simp
        · rcases List.mem_append.1 hm with hm | hm
          · exact hx x hm
          · obtain rfl := List.mem_singleton.1 hm
            exact ⟨by simp, fun b hb => by obtain rfl := List.mem_singleton.1 hb; exact hs⟩
      | false =>
        cases hls : ls with
        | nil => exact ⟨[[c]], false, rfl, fun x hm => by
            obtain rfl := List.mem_singleton.1 hm
            exact ⟨by simp, fun b hb => by obtain rfl := List.mem_singleton.1 hb; exact hs⟩, fun h => by cases h⟩
        | cons y r =>
          rw [← hls]
          have hne : ls ≠ [] := by rw [hls]; simp
          obtain ⟨pre, z, hpz⟩ : ∃ pre z, ls = pre ++ [z] := ⟨ls.dropLast, ls.getLast hne, (List.dropLast_concat_getLast hne).symm⟩
          refine ⟨pre ++ [z ++ [c]], false, ?_, fun x hm => ?_, fun h => by cases h⟩
          · rw [joinD_more, hpz]
            simp
          · rcases List.mem_append.1 hm with hm | hm
            · exact hx x (by rw [hpz]; exact List.mem_append_left _ hm)
            · obtain rfl := List.mem_singleton.1 hm
              have hz := hx z (by rw [hpz]; simp)
              refine ⟨by simp, fun b hb => ?_⟩
              rcases List.mem_append.1 hb with hb | hb
              · exact hz.2 b hb
              · obtain rfl := List.mem_singleton.1 hb; exact hs
  · rw [if_neg ht]
    exact h
theorem nmOk_run : ∀ (s out : List UInt8), NmOk out → NmOk (nmRun s out)
  | [], out, h => h
  | c :: r, out, h => by
    unfold nmRun
    split
    · exact h
    · exact nmOk_run r _ (nmOk_step h c)
theorem nmStep_len (out : List UInt8) (c : UInt8) : (nmStep out c).length ≤ out.length + 1 := by
  unfold nmStep
  split
  · simp
  · omega
theorem nmRun_len : ∀ (s out : List UInt8), out.length ≤ 60 → (nmRun s out).length ≤ 60
  | [], out, h => h
  | c :: r, out, h => by
    unfold nmRun
    split
    · exact h
    · have := nmStep_len out c
      exact nmRun_len r _ (by omega)
/-- Whatever comes of it: so many labels of signs, with dots between. -/
theorem playN_form (s : List UInt8) : ∃ ls : List (List UInt8), playN s = joinD ls ∧ (∀ x ∈ ls, x ≠ [] ∧ ∀ c ∈ x, sign c) ∧ (joinD ls).length ≤ 60 := by
  have h60 := nmRun_len s [] (by simp)
  obtain ⟨ls, d, ho, hx, hd⟩ := nmOk_run s [] ⟨[], false, rfl, (fun x h => by cases h), (fun h => by cases h)⟩
  unfold playN trimDot
  cases d with
  | true =>
    rw [if_pos rfl] at ho
    rw [ho] at h60 ⊢
    rw [if_pos (by simp), List.dropLast_concat]
    exact ⟨ls, rfl, hx, by rw [List.length_append] at h60; omega⟩
  | false =>
    rw [if_neg (by decide), List.append_nil] at ho
    rw [ho] at h60 ⊢
    by_cases hls : ls = []
    · rw [hls]
      exact ⟨[], rfl, (fun x h => by cases h), by simp [joinD]⟩
    · obtain ⟨c, hc, hs⟩ := join_last ls hls hx
      rw [hc, if_neg (fun e => sign_ne hs (Option.some.inj e))]
      exact ⟨ls, rfl, hx, h60⟩
theorem join_labs {ls : List (List UInt8)} (hx : ∀ x ∈ ls, x ≠ [] ∧ ∀ c ∈ x, sign c) : labsN (joinD ls) = ls :=
  labsN_joinD fun x h => ⟨fun hm => (hx x h).2 46 hm |>.2.2.1 rfl, (hx x h).1⟩
theorem mem_le_join : ∀ (ls : List (List UInt8)) (x : List UInt8), x ∈ ls → x.length ≤ (joinD ls).length
  | [], _, h => by cases h
  | [y], x, h => by obtain rfl := List.mem_singleton.1 h; exact Nat.le_refl _
  | y :: z :: r, x, h => by
    rw [joinD_cons y (by simp), List.length_append, List.length_cons]
    rcases List.mem_cons.1 h with rfl | h
    · omega
    · have := mem_le_join (z :: r) x h; omega
/-- It is a name, of sixty bytes at most. -/
theorem join_right {ls : List (List UInt8)} (hx : ∀ x ∈ ls, x ≠ [] ∧ ∀ c ∈ x, sign c) (h : (joinD ls).length ≤ 62) : rightN (joinD ls) := by
  unfold rightN
  rw [join_labs hx]
  refine ⟨fun x hm => ⟨(hx x hm).2, ?_, ?_⟩, ?_⟩
  · have := List.length_pos_iff.2 (hx x hm).1; omega
  · have := mem_le_join ls x hm; omega
  · cases hls : ls with
    | nil => decide
    | cons y r =>
      rw [← hls]
      have := joinD_length ls (by rw [hls]; simp)
      omega
theorem playN_right (s : List UInt8) : rightN (playN s) ∧ (playN s).length ≤ 60 := by
  obtain ⟨ls, e, hx, h⟩ := playN_form s
  rw [e]
  exact ⟨join_right hx (by omega), h⟩
theorem labsN_signs {l : List UInt8} (h : rightN l) : ∀ x ∈ labsN l, x ≠ [] ∧ ∀ c ∈ x, sign c := fun x hm => ⟨labOk_ne (h.1 x hm), (h.1 x hm).1⟩
end Go.Proofs.YtoagfmonfgagbaaGreatDoor

namespace Go.Proofs.YtoagfmonfgagbaaGreatDoor
open Go.RowKit
set_option maxRecDepth 100000

/-! ### Too long -/
theorem read_long {l : List UInt8} {n : Nat} (hn : l.length = n) : ∀ (ys : List (List UInt8)) (at_ below size : Nat) (a : List UInt8) (next : Option Nat) (rest : List UInt8), (∀ y ∈ ys, labOk (lowL y)) → size ≤ 255 → 255 < size + sizeL ys → l.drop at_ = wireL ys ++ rest →
    ∃ p, readS l n ⟨at_, below, size, a, next⟩ = .bad 13 p
  | [], _, _, _, _, _, _, _, h5, h, _ => absurd h (by show ¬ 255 < _ + 0; omega)
  | y :: ys, at_, below, size, a, next, rest, hy, h5, hs, hd => by
    have hy0 := hy y (by simp)
    have h1 := hy0.2.1
    have h63 := hy0.2.2
    rw [lowL_length] at h1 h63
    have hsz : sizeL (y :: ys) = 1 + y.length + sizeL ys := rfl
    rw [wireL_cons, List.cons_append, List.append_assoc] at hd
    obtain ⟨hb, hlt, hd1⟩ := bat_head hd
    have hbl : bat l at_ = y.length := by rw [hb, UInt8.toNat_ofNat']; omega
    have hd2 : l.drop (at_ + 1 + y.length) = wireL ys ++ rest := by rw [← List.drop_drop (i := y.length) (j := at_ + 1), hd1, List.drop_left' rfl]
    have htk : (l.drop (at_ + 1)).take y.length = y := by rw [hd1, List.take_left' rfl]
    have hlen : at_ + 1 + y.length ≤ n := by
      have := congrArg List.length hd1
      rw [List.length_drop, List.length_append] at this
      omega
    by_cases hbig : 255 < size + 1 + y.length
    · refine ⟨at_, readS_end ?_⟩
      unfold rstep
      dsimp only
      rw [hbl, htk, if_neg (by omega), if_neg (by omega), if_pos (by omega), if_neg (by omega), if_neg (by simpa using hy0), if_pos hbig]
    · have hst : rstep l n ⟨at_, below, size, a, next⟩ = .inl ⟨at_ + 1 + y.length, below, size + 1 + y.length, dotted a (lowL y), next⟩ := by
        unfold rstep
        dsimp only
        rw [hbl, htk, if_neg (by omega), if_neg (by omega), if_pos (by omega), if_neg (by omega), if_neg (by simpa using hy0), if_neg hbig]
      rw [readS_on hst (by dsimp only; omega)]
      exact read_long hn ys _ _ _ _ _ rest (fun z hz => hy z (List.mem_cons_of_mem _ hz)) (by omega) (by omega) hd2
/-- So many labels of so many signs. -/
def longL (n size : Nat) : List (List UInt8) := List.replicate n (List.replicate size 120)
def longOk (n size : Nat) : Prop := size ≤ 63 ∧ n * (size + 1) + 1 ≤ 255
instance (n size : Nat) : Decidable (longOk n size) := by unfold longOk; infer_instance
theorem longL_size (n size : Nat) : sizeL (longL n size) = n * (size + 1) := by
  unfold sizeL longL
  rw [List.map_replicate, List.sum_replicate_nat, List.length_replicate, Nat.add_comm 1 size]
theorem longL_mem {n size : Nat} (h1 : 1 ≤ size) : ∀ x ∈ longL n size, x ≠ [] ∧ ∀ c ∈ x, sign c := fun x hx => by
  obtain rfl := List.eq_of_mem_replicate hx
  refine ⟨fun e => ?_, fun c hc => ?_⟩
  · have := congrArg List.length e
    rw [List.length_replicate] at this
    simp at this
    omega
  · obtain rfl := List.eq_of_mem_replicate hc
    decide
theorem longL_labs {n size : Nat} (h1 : 1 ≤ size) : labsN (joinD (longL n size)) = longL n size := join_labs (longL_mem h1)
theorem longL_right {n size : Nat} (hn : 1 ≤ n) (h1 : 1 ≤ size) : rightN (joinD (longL n size)) ↔ longOk n size := by
  unfold rightN longOk
  rw [longL_labs h1, longL_size]
  constructor
  · rintro ⟨h2, h3⟩
    have := (h2 (List.replicate size 120) (by unfold longL; rw [List.mem_replicate]; exact ⟨by omega, rfl⟩)).2.2
    rw [List.length_replicate] at this
    exact ⟨this, by omega⟩
  · rintro ⟨h2, h3⟩
    refine ⟨fun x hx => ⟨(longL_mem h1 x hx).2, ?_⟩, by omega⟩
    obtain rfl := List.eq_of_mem_replicate hx
    rw [List.length_replicate]
    exact ⟨h1, h2⟩
theorem long_read {n size : Nat} (hn : 1 ≤ n) (h1 : 1 ≤ size) (h70 : size ≤ 70) {l : List UInt8} (hl : l = wireL (longL n size) ++ [0]) {m : Nat} (hm : l.length = m) :
    (longOk n size → readv l m 0 = .ok (joinD (longL n size)) m) ∧ (¬ longOk n size → ∃ c p, readv l m 0 = .bad c p ∧ (c = 12 ∨ c = 13) ∧ (size ≤ 63 → c = 13)) := by
  have hd : l.drop 0 = wireL (longL n size) ++ 0 :: [] := hl
  have hlow : ∀ y ∈ longL n size, lowL y = y := fun y hy => by
    unfold lowL
    conv => rhs; rw [← List.map_id y]
    exact List.map_congr_left fun c hc => lowB_sign ((longL_mem h1 y hy).2 c hc)
  refine ⟨fun hok => ?_, fun hno => ?_⟩
  · have hr := (longL_right hn h1).2 hok
    have h := read_written hm hr (at_ := 0) (rest := []) (by rw [List.append_nil]; unfold writeB; rw [longL_labs h1]; exact hl)
    have e : (writeB (joinD (longL n size))).length = m := by unfold writeB; rw [longL_labs h1, ← hl, hm]
    rw [e, Nat.zero_add] at h
    exact h
  · unfold readv
    rw [if_neg (by omega), Int.toNat_zero]
    by_cases h63 : size ≤ 63
    · have hlab : ∀ y ∈ longL n size, labOk (lowL y) := fun y hy => by
        rw [hlow y hy]
        refine ⟨(longL_mem h1 y hy).2, ?_⟩
        obtain rfl := List.eq_of_mem_replicate hy
        rw [List.length_replicate]
        exact ⟨h1, h63⟩
      obtain ⟨p, hp⟩ := read_long hm (longL n size) 0 0 1 [] none _ hlab (by omega) (by
        rw [longL_size]
        unfold longOk at hno
        omega) hd
      exact ⟨13, p, hp, .inr rfl, fun _ => rfl⟩
    · obtain ⟨k, rfl⟩ : ∃ k, n = k + 1 := ⟨n - 1, by omega⟩
      have hd0 : l.drop 0 = UInt8.ofNat size :: (List.replicate size 120 ++ (wireL (longL k size) ++ [0])) := by
        rw [hd]
        show wireL (List.replicate size 120 :: longL k size) ++ [0] = _
        rw [wireL_cons, List.length_replicate]
        simp
      obtain ⟨hb, hlt, _⟩ := bat_head hd0
      have hbl : bat l 0 = size := by rw [hb, UInt8.toNat_ofNat']; omega
      refine ⟨12, 0, readS_end ?_, .inl rfl, fun h => absurd h h63⟩
      unfold rstep
      dsimp only
      rw [hbl, if_neg (by omega), if_neg (by omega), if_neg (by omega), if_neg (by omega)]

/-! ### Cut anywhere -/
theorem cut_read {ls : List (List UInt8)} (hx : ∀ x ∈ ls, labOk x) (hs : 1 + sizeL ls ≤ 255) {cut at_ j : Nat} (hcut : cut < sizeL ls + 1) (hat : sizeL (ls.take j) = at_) (hle : at_ ≤ cut)
    (hend : at_ = cut ∨ ∃ x, ls[j]? = some x ∧ cut < at_ + 1 + x.length) {l : List UInt8} (hl : l = (wireL ls ++ [0]).take cut) : readv l cut 0 = .bad 3 at_ := by
  have hlen : l.length = cut := by rw [hl, List.length_take, List.length_append, wireL_length]; simp; omega
  have hsp : wireL ls ++ [0] = wireL (ls.take j) ++ (wireL (ls.drop j) ++ [0]) := by rw [← List.append_assoc, ← wireL_append, List.take_append_drop]
  have hsj : sizeL ls = at_ + sizeL (ls.drop j) := by rw [← hat, ← sizeL_append, List.take_append_drop]
  have hd : l.drop 0 = wireL (ls.take j) ++ (wireL (ls.drop j) ++ [0]).take (cut - at_) := by
    rw [List.drop_zero, hl, hsp, List.take_append, wireL_length, hat, List.take_of_length_le (by rw [wireL_length]; omega)]
  have hlow : ∀ y ∈ ls.take j, labOk (lowL y) := fun y hy => by
    have := hx y (List.mem_of_mem_take hy)
    rw [lowL_ok this]; exact this
  unfold readv
  rw [if_neg (by omega), Int.toNat_zero, read_labels hlen (ls.take j) 0 0 1 [] none _ hlow (by omega) hd, hat, Nat.zero_add]
  by_cases he : at_ = cut
  · refine readS_end ?_
    unfold rstep
    dsimp only
    rw [if_pos (by omega)]
  · rcases hend with h | ⟨x, hjx, hbig⟩
    · exact absurd h he
    · have hjl := (List.getElem?_eq_some_iff.1 hjx).1
      have hxk := hx x (List.mem_of_getElem? hjx)
      have hdj : ls.drop j = x :: ls.drop (j + 1) := by
        rw [List.drop_eq_getElem_cons hjl]
        rw [List.getElem?_eq_getElem hjl] at hjx
        rw [Option.some.inj hjx]
      obtain ⟨d, hd1⟩ : ∃ d, cut - at_ = d + 1 := ⟨cut - at_ - 1, by omega⟩
      have hd2 : l.drop at_ = UInt8.ofNat x.length :: ((x ++ wireL (ls.drop (j + 1))) ++ [0]).take d := by
        have h1 : l.drop at_ = (l.drop 0).drop (wireL (ls.take j)).length := by rw [List.drop_drop, wireL_length, hat, Nat.zero_add]
        rw [h1, hd, List.drop_left' rfl, hdj, wireL_cons, hd1]
        rfl
      obtain ⟨hb, hlt, _⟩ := bat_head hd2
      have h63 := hxk.2.2
      have h1 := hxk.2.1
      have hbl : bat l at_ = x.length := by rw [hb, UInt8.toNat_ofNat']; omega
      refine readS_end ?_
      unfold rstep
      dsimp only
      rw [hbl, if_neg (by omega), if_neg (by omega), if_pos (by omega), if_pos hbig]
/-- The length that stands at a label's place. -/
theorem wire_at {ls : List (List UInt8)} {j at_ : Nat} {x : List UInt8} (hjx : ls[j]? = some x) (hat : sizeL (ls.take j) = at_) {r : List UInt8} : (wireL ls ++ r)[at_]? = some (UInt8.ofNat x.length) ∧ sizeL (ls.take (j + 1)) = at_ + 1 + x.length := by
  have hjl := (List.getElem?_eq_some_iff.1 hjx).1
  have hdj : ls.drop j = x :: ls.drop (j + 1) := by
    rw [List.drop_eq_getElem_cons hjl]
    rw [List.getElem?_eq_getElem hjl] at hjx
    rw [Option.some.inj hjx]
  refine ⟨?_, ?_⟩
  · have e : wireL ls ++ r = wireL (ls.take j) ++ (wireL (x :: ls.drop (j + 1)) ++ r) := by rw [← hdj, ← List.append_assoc, ← wireL_append, List.take_append_drop]
    rw [e, List.getElem?_append_right (by rw [wireL_length]; omega), wireL_length, hat, Nat.sub_self, wireL_cons]
    rfl
  · rw [List.take_add_one, hjx, sizeL_append, hat]
    show at_ + (1 + x.length + 0) = _
    omega
/-- Lengths that are none. -/
theorem none_read {l : List UInt8} {n : Nat} (hn : l.length = n) {x : UInt8} {r : List UInt8} (hl : l = x :: r) (h1 : 64 ≤ x.toNat) (h2 : x.toNat < 192) : readv l n 0 = .bad 12 0 := by
  unfold readv
  have hd : l.drop 0 = x :: r := hl
  obtain ⟨hb, hlt, _⟩ := bat_head hd
  rw [if_neg (by omega), Int.toNat_zero]
  refine readS_end ?_
  unfold rstep
  dsimp only
  rw [hb, if_neg (by omega), if_neg (by omega), if_neg (by omega), if_neg (by omega)]

/-! ### Under a zone -/
theorem joinD_append : ∀ (a b : List (List UInt8)), a ≠ [] → b ≠ [] → joinD (a ++ b) = joinD a ++ 46 :: joinD b
  | [], _, h, _ => absurd rfl h
  | [x], b, _, hb => joinD_cons x hb
  | x :: y :: r, b, _, hb => by
    show joinD (x :: ((y :: r) ++ b)) = _
    rw [joinD_cons x (by simp), joinD_append (y :: r) b (by simp) hb, joinD_cons x (by simp)]
    simp
theorem under_dot (a z : List UInt8) : underN (a ++ 46 :: z) z := by
  refine .inr (.inr ⟨by simp; omega, ?_, ?_⟩)
  · rw [List.length_append, List.length_cons, show a.length + (z.length + 1) - z.length = a.length + 1 by omega, ← List.drop_drop, List.drop_left' rfl]
    rfl
  · rw [List.length_append, List.length_cons, show a.length + (z.length + 1) - z.length - 1 = a.length by omega, List.getElem?_append_right (Nat.le_refl _), Nat.sub_self]
    rfl
theorem under_labels (s : List UInt8) (k : Nat) : underN s (joinD ((labsN s).drop k)) := by
  by_cases hb : (labsN s).drop k = []
  · rw [hb]; exact .inl rfl
  · by_cases ha : (labsN s).take k = []
    · have h1 := (List.take_append_drop k (labsN s)).symm
      rw [ha, List.nil_append] at h1
      rw [← h1, joinD_labsN]
      exact .inr (.inl rfl)
    · have e : s = joinD ((labsN s).take k) ++ 46 :: joinD ((labsN s).drop k) := by
        rw [← joinD_append _ _ ha hb, List.take_append_drop, joinD_labsN]
      conv => arg 1; rw [e]
      exact under_dot _ _
theorem not_under_longer (x : UInt8) (s : List UInt8) : ¬ underN s (x :: s) := by
  rintro (h | h | ⟨h, _⟩)
  · cases h
  · have := congrArg List.length h
    simp at this
  · rw [List.length_cons] at h
    omega
theorem longer_not_under {x : UInt8} (hx : x ≠ 46) {s : List UInt8} (hs : s ≠ []) : ¬ underN (x :: s) s := by
  rintro (h | h | ⟨_, _, h⟩)
  · exact hs h
  · have := congrArg List.length h
    simp at this
  · rw [List.length_cons, show s.length + 1 - s.length - 1 = 0 by omega] at h
    exact hx (Option.some.inj h)

/-! ### One byte; dots where there may be none -/
theorem spl_sep (c : UInt8) (r : List UInt8) : spl c (c :: r) = [] :: spl c r := by
  unfold spl
  rw [List.length_cons, splN_cons, if_pos rfl]
theorem spl_oth {c x : UInt8} (h : x ≠ c) (r : List UInt8) : spl c (x :: r) = onHead x (spl c r) := by
  unfold spl
  rw [List.length_cons, splN_cons, if_neg h, splN_ge c r (r.length + 1) r.length (by omega) (Nat.le_refl _)]
theorem onHead_append (x : UInt8) {u : List (List UInt8)} (v : List (List UInt8)) (h : u ≠ []) : onHead x (u ++ v) = onHead x u ++ v := by
  cases u with
  | nil => exact absurd rfl h
  | cons y u => rfl
theorem spl_append (c : UInt8) : ∀ (a b : List UInt8), spl c (a ++ c :: b) = spl c a ++ spl c b
  | [], b => by rw [List.nil_append, spl_sep]; rfl
  | x :: a, b => by
    rw [List.cons_append]
    by_cases h : x = c
    · rw [h, spl_sep, spl_sep, spl_append c a b]; rfl
    · rw [spl_oth h, spl_oth h, spl_append c a b, onHead_append x _ (show spl c a ≠ [] from splN_ne c a _)]
theorem not_right {l : List UInt8} (h : [] ∈ labsN l) : ¬ rightN l := fun hr => labOk_ne (hr.1 _ h) rfl
theorem dot_behind (l : List UInt8) : ¬ rightN (l ++ [46]) := by
  apply not_right
  unfold labsN
  rw [if_neg (by simp), spl_append 46 l []]
  exact List.mem_append_right _ (by rw [show spl 46 ([] : List UInt8) = [[]] from rfl]; simp)
theorem dot_ahead (l : List UInt8) : ¬ rightN (46 :: l) := by
  apply not_right
  unfold labsN
  rw [if_neg (by simp), spl_sep]
  simp
theorem dots_between (a b : List UInt8) : ¬ rightN (a ++ 46 :: 46 :: b) := by
  apply not_right
  unfold labsN
  rw [if_neg (by simp), spl_append, spl_sep]
  simp
theorem right_one (c : UInt8) : rightN [c] ↔ sign c := by
  by_cases h : c = 46
  · rw [h]; decide
  · have e : labsN [c] = [[c]] := by
      unfold labsN
      rw [if_neg (by simp), spl_oth h]
      rfl
    unfold rightN
    rw [e]
    constructor
    · rintro ⟨h1, _⟩
      exact (h1 [c] (by simp)).1 c (by simp)
    · intro hs
      refine ⟨fun x hx => ?_, (show 1 + 2 ≤ 255 by decide)⟩
      obtain rfl := List.mem_singleton.1 hx
      exact ⟨fun b hb => by obtain rfl := List.mem_singleton.1 hb; exact hs, by simp, by simp⟩
theorem one_read (c : UInt8) {l : List UInt8} (hl : l = [1, c, 0]) : readv l 3 0 = if sign (lowB c) then .ok [lowB c] 3 else .bad 12 0 := by
  have hn : l.length = 3 := by rw [hl]; rfl
  have hd : l.drop 0 = wireL [[c]] ++ 0 :: [] := hl
  by_cases hs : sign (lowB c)
  · rw [if_pos hs]
    exact read_wire (at_ := 0) hn (ys := [[c]]) (rest := []) (fun y hy => by
      obtain rfl := List.mem_singleton.1 hy
      exact ⟨fun b hb => by obtain rfl := List.mem_singleton.1 hb; exact hs, by simp [lowL], by simp [lowL]⟩) (show 1 + 2 ≤ 255 by decide) hd
  · rw [if_neg hs]
    unfold readv
    rw [if_neg (by omega), Int.toNat_zero]
    refine readS_end ?_
    unfold rstep
    dsimp only
    obtain ⟨hb, _, hd1⟩ := bat_head (show l.drop 0 = 1 :: c :: 0 :: [] from hl)
    have h1 : UInt8.toNat 1 = 1 := rfl
    rw [hb, h1, hd1, if_neg (by omega), if_neg (by omega), if_pos (by omega), if_neg (by omega), if_pos]
    rintro ⟨h2, _⟩
    exact hs (h2 (lowB c) (by simp [lowL]))
theorem lowB_cap {c : UInt8} (h : 65 ≤ c.toNat ∧ c.toNat ≤ 90) : lowB c = c + 32 ∧ sign (c + 32) := by
  have e : (c + 32).toNat = c.toNat + 32 := by
    rw [UInt8.toNat_add]
    show (c.toNat + 32) % 256 = _
    omega
  refine ⟨by unfold lowB; rw [if_pos h], ?_⟩
  unfold sign
  rw [e]
  omega
theorem lowB_not {c : UInt8} (h : ¬ (65 ≤ c.toNat ∧ c.toNat ≤ 90)) : lowB c = c := by unfold lowB; rw [if_neg h]
theorem head_right {s : List UInt8} {x : UInt8} (hx : sign x) (h60 : s.length ≤ 60) (hs : ∃ ls : List (List UInt8), s = joinD ls ∧ (∀ x ∈ ls, x ≠ [] ∧ ∀ c ∈ x, sign c)) : rightN (x :: s) := by
  obtain ⟨ls, rfl, hls⟩ := hs
  cases ls with
  | nil => exact (right_one x).2 hx
  | cons y r =>
    have e : x :: joinD (y :: r) = joinD ((x :: y) :: r) := by
      cases r with
      | nil => rfl
      | cons z r => rfl
    rw [e]
    refine join_right (fun z hz => ?_) (by rw [← e, List.length_cons]; omega)
    rcases List.mem_cons.1 hz with rfl | hz
    · refine ⟨by simp, fun c hc => ?_⟩
      rcases List.mem_cons.1 hc with rfl | hc
      · exact hx
      · exact (hls y (by simp)).2 c hc
    · exact hls z (List.mem_cons_of_mem _ hz)
/-- Each label is a name by itself. -/
theorem label_right {x : List UInt8} (h : labOk x) : rightN x ∧ labsN x = [x] := by
  have e : labsN x = [x] := labsN_joinD (ls := [x]) fun y hy => by obtain rfl := List.mem_singleton.1 hy; exact ⟨labOk_no h, labOk_ne h⟩
  refine ⟨⟨fun y hy => ?_, ?_⟩, e⟩
  · rw [e] at hy
    obtain rfl := List.mem_singleton.1 hy
    exact h
  · rw [e]
    have := h.2.2
    show 1 + (1 + x.length + 0) ≤ 255
    omega
end Go.Proofs.YtoagfmonfgagbaaGreatDoor
