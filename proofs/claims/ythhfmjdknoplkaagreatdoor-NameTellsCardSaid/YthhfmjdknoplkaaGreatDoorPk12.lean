/-
  Names that are written are read; labels with dots between are the name. No conditions.
-/
import Derived.Test.YthhfmjdknoplkaaGreatDoorSpec12
namespace Go.Proofs.YthhfmjdknoplkaaGreatDoor
open Go.RowKit
set_option maxRecDepth 100000

/-! ### Labels, and dots between -/
theorem joinD_cons (x : List UInt8) {r : List (List UInt8)} (h : r ≠ []) : joinD (x :: r) = x ++ 46 :: joinD r := by
  cases r with
  | nil => exact absurd rfl h
  | cons y r => rfl
theorem joinD_onHead (b : UInt8) {ls : List (List UInt8)} (h : ls ≠ []) : joinD (onHead b ls) = b :: joinD ls := by
  cases ls with
  | nil => exact absurd rfl h
  | cons x r =>
    show joinD ((b :: x) :: r) = _
    cases r with
    | nil => rfl
    | cons y r => rfl
theorem joinD_splN : ∀ (l : List UInt8) (k : Nat), joinD (splN 46 l k) = l
  | l, 0 => by rw [splN_zero]; rfl
  | [], k + 1 => rfl
  | b :: r, k + 1 => by
    rw [splN_cons]
    by_cases hb : b = 46
    · rw [if_pos hb, joinD_cons _ (splN_ne 46 r k), joinD_splN r k, hb]
      rfl
    · rw [if_neg hb, joinD_onHead b (splN_ne 46 r (k + 1)), joinD_splN r (k + 1)]
theorem joinD_labsN (l : List UInt8) : joinD (labsN l) = l := by
  unfold labsN
  split
  · rename_i h; rw [h]; rfl
  · exact joinD_splN l _
theorem splN_joinD : ∀ (ls : List (List UInt8)) (k : Nat), ls ≠ [] → (∀ x ∈ ls, (46 : UInt8) ∉ x) → ls.length ≤ k + 1 → splN 46 (joinD ls) k = ls
  | [], _, h, _, _ => absurd rfl h
  | [x], k, _, hx, _ => sp_plain 46 x k (hx x (by simp))
  | x :: y :: r, 0, _, _, h => by simp at h
  | x :: y :: r, k + 1, _, hx, h => by
    rw [joinD_cons x (by simp), sp_cons 46 x _ k (hx x (by simp)), splN_joinD (y :: r) k (by simp) (fun z hz => hx z (List.mem_cons_of_mem _ hz)) (by simpa using h)]
theorem joinD_length : ∀ (ls : List (List UInt8)), ls ≠ [] → (joinD ls).length + 1 = sizeL ls
  | [], h => absurd rfl h
  | [x], _ => by simp [joinD, sizeL]; omega
  | x :: y :: r, _ => by
    have h := joinD_length (y :: r) (by simp)
    rw [joinD_cons x (by simp), List.length_append, List.length_cons]
    show _ = (1 + x.length) + sizeL (y :: r)
    omega
theorem sizeL_ge : ∀ (ls : List (List UInt8)), ls.length ≤ sizeL ls
  | [] => Nat.zero_le _
  | x :: r => by
    have h := sizeL_ge r
    show r.length + 1 ≤ (1 + x.length) + sizeL r
    omega
theorem joinD_ne {ls : List (List UInt8)} (h : ls ≠ []) (hx : ∀ x ∈ ls, x ≠ []) : joinD ls ≠ [] := by
  cases ls with
  | nil => exact absurd rfl h
  | cons x r =>
    have hx0 := hx x (by simp)
    cases r with
    | nil => exact hx0
    | cons y r => rw [joinD_cons x (by simp)]; simp
theorem labsN_joinD {ls : List (List UInt8)} (hx : ∀ x ∈ ls, (46 : UInt8) ∉ x ∧ x ≠ []) : labsN (joinD ls) = ls := by
  cases hls : ls with
  | nil => rfl
  | cons x r =>
    rw [← hls]
    have hne : ls ≠ [] := by rw [hls]; simp
    unfold labsN
    rw [if_neg (joinD_ne hne fun x h => (hx x h).2)]
    have h1 := joinD_length ls hne
    have h2 := sizeL_ge ls
    exact splN_joinD ls _ hne (fun x h => (hx x h).1) (by omega)
theorem splN_no (c : UInt8) : ∀ (l : List UInt8) (k : Nat), l.length ≤ k → ∀ x ∈ splN c l k, c ∉ x
  | [], 0, _, x, h => by rw [splN_zero] at h; obtain rfl := List.mem_singleton.1 h; simp
  | [], k + 1, _, x, h => by obtain rfl := List.mem_singleton.1 h; simp
  | b :: r, 0, h, _, _ => by simp at h
  | b :: r, k + 1, h, x, hx => by
    simp only [List.length_cons] at h
    rw [splN_cons] at hx
    by_cases hb : b = c
    · rw [if_pos hb] at hx
      rcases List.mem_cons.1 hx with rfl | hx
      · simp
      · exact splN_no c r k (by omega) x hx
    · rw [if_neg hb] at hx
      have ih := splN_no c r (k + 1) (by omega)
      cases hs : splN c r (k + 1) with
      | nil => exact absurd hs (splN_ne c r _)
      | cons y ys =>
        rw [hs] at hx ih
        rcases List.mem_cons.1 hx with rfl | hx
        · intro hm
          rcases List.mem_cons.1 hm with e | hm
          · exact hb e.symm
          · exact ih y (by simp) hm
        · exact ih x (by simp [hx])
theorem labsN_no {l : List UInt8} : ∀ x ∈ labsN l, (46 : UInt8) ∉ x := fun x hx => by
  unfold labsN at hx
  split at hx
  · cases hx
  · exact splN_no 46 l _ (Nat.le_refl _) x hx
theorem labsN_ne {l : List UInt8} (h : l ≠ []) : labsN l ≠ [] := by
  unfold labsN
  rw [if_neg h]
  exact splN_ne 46 l _
theorem sizeL_labsN {l : List UInt8} (h : l ≠ []) : sizeL (labsN l) = l.length + 1 := by
  have h1 := joinD_length (labsN l) (labsN_ne h)
  rw [joinD_labsN] at h1
  omega
theorem wireL_length : ∀ ls : List (List UInt8), (wireL ls).length = sizeL ls
  | [] => rfl
  | x :: r => by
    show (UInt8.ofNat x.length :: x ++ wireL r).length = (1 + x.length) + sizeL r
    rw [List.length_append, List.length_cons, wireL_length r]
    omega
theorem wireL_cons (x : List UInt8) (r : List (List UInt8)) : wireL (x :: r) = UInt8.ofNat x.length :: (x ++ wireL r) := rfl
theorem wireL_append (a b : List (List UInt8)) : wireL (a ++ b) = wireL a ++ wireL b := by simp [wireL]
theorem sizeL_append (a b : List (List UInt8)) : sizeL (a ++ b) = sizeL a + sizeL b := by simp [sizeL]
theorem writeB_length (l : List UInt8) : (writeB l).length = if l = [] then 1 else l.length + 2 := by
  unfold writeB
  rw [List.length_append, wireL_length]
  split
  · rename_i h; rw [h]; rfl
  · rename_i h; rw [sizeL_labsN h]; rfl
theorem labOk_ne {x : List UInt8} (h : labOk x) : x ≠ [] := fun e => by
  have := h.2.1
  rw [e] at this
  simp at this
theorem labOk_no {x : List UInt8} (h : labOk x) : (46 : UInt8) ∉ x := fun hm => (h.1 46 hm).2.2.1 rfl
theorem lowL_length (x : List UInt8) : (lowL x).length = x.length := by simp [lowL]
theorem lowB_sign {c : UInt8} (h : sign c) : lowB c = c := by unfold lowB; rw [if_neg h.2.2.2]
theorem lowL_ok {x : List UInt8} (h : labOk x) : lowL x = x := by
  unfold lowL
  conv => rhs; rw [← List.map_id x]
  exact List.map_congr_left fun c hc => lowB_sign (h.1 c hc)
theorem foldl_dotted : ∀ (ls : List (List UInt8)) (a : List UInt8), (∀ x ∈ ls, x ≠ []) → a ≠ [] → ls.foldl dotted a = joinD (a :: ls)
  | [], a, _, _ => rfl
  | x :: r, a, hx, ha => by
    show r.foldl dotted (dotted a x) = a ++ 46 :: joinD (x :: r)
    have e : dotted a x = a ++ 46 :: x := by unfold dotted; rw [if_neg ha]
    rw [e, foldl_dotted r _ (fun z hz => hx z (List.mem_cons_of_mem _ hz)) (by simp)]
    cases r with
    | nil => rfl
    | cons y r => rw [joinD_cons _ (by simp), joinD_cons x (by simp)]; simp
theorem foldl_dotted_nil {ls : List (List UInt8)} (hx : ∀ x ∈ ls, x ≠ []) : ls.foldl dotted [] = joinD ls := by
  cases ls with
  | nil => rfl
  | cons x r =>
    show r.foldl dotted (dotted [] x) = _
    rw [show dotted [] x = x from rfl]
    exact foldl_dotted r x (fun z hz => hx z (List.mem_cons_of_mem _ hz)) (hx x (by simp))

/-! ### What is read -/
theorem bat_head {l : List UInt8} {i : Nat} {x : UInt8} {r : List UInt8} (h : l.drop i = x :: r) : bat l i = x.toNat ∧ i < l.length ∧ l.drop (i + 1) = r := by
  have h1 : l[i]? = some x := by
    have := congrArg (fun t : List UInt8 => t[0]?) h
    simpa using this
  refine ⟨bat_get h1, (List.getElem?_eq_some_iff.1 h1).1, ?_⟩
  rw [← List.drop_drop (i := 1) (j := i), h]
  rfl
theorem read_labels {l : List UInt8} {n : Nat} (hn : l.length = n) : ∀ (ys : List (List UInt8)) (at_ below size : Nat) (a : List UInt8) (next : Option Nat) (rest : List UInt8), (∀ y ∈ ys, labOk (lowL y)) → size + sizeL ys ≤ 255 → l.drop at_ = wireL ys ++ rest →
    readS l n ⟨at_, below, size, a, next⟩ = readS l n ⟨at_ + sizeL ys, below, size + sizeL ys, (ys.map lowL).foldl dotted a, next⟩
  | [], _, _, _, _, _, _, _, _, _ => rfl
  | y :: ys, at_, below, size, a, next, rest, hy, hs, hd => by
    have hy0 := hy y (by simp)
    have h1 := hy0.2.1
    have h63 := hy0.2.2
    rw [lowL_length] at h1 h63
    have hsz : sizeL (y :: ys) = 1 + y.length + sizeL ys := rfl
    rw [wireL_cons, List.cons_append, List.append_assoc] at hd
    obtain ⟨hb, hlt, hd1⟩ := bat_head hd
    have hbl : bat l at_ = y.length := by rw [hb, UInt8.toNat_ofNat']; omega
    have hd2 : l.drop (at_ + 1 + y.length) = wireL ys ++ rest := by rw [← List.drop_drop (i := y.length) (j := at_ + 1), hd1, List.drop_left' rfl]
    have htk : (l.drop (at_ + 1)).take y.length = y := by rw [hd1, List.take_left' rfl]
    have hlen : at_ + 1 + y.length ≤ n := by
      have := congrArg List.length hd1
      rw [List.length_drop, List.length_append] at this
      omega
    have hst : rstep l n ⟨at_, below, size, a, next⟩ = .inl ⟨at_ + 1 + y.length, below, size + 1 + y.length, dotted a (lowL y), next⟩ := by
      unfold rstep
      dsimp only
      rw [hbl, htk, if_neg (by omega), if_neg (by omega), if_pos (by omega), if_neg (by omega), if_neg (by simpa using hy0), if_neg (by omega)]
    rw [readS_on hst (by dsimp only; omega), read_labels hn ys (at_ + 1 + y.length) below (size + 1 + y.length) (dotted a (lowL y)) next rest (fun z hz => hy z (List.mem_cons_of_mem _ hz)) (by omega) hd2, hsz]
    rw [show at_ + 1 + y.length + sizeL ys = at_ + (1 + y.length + sizeL ys) by omega, show size + 1 + y.length + sizeL ys = size + (1 + y.length + sizeL ys) by omega]
    rfl
theorem read_end {l : List UInt8} {n : Nat} (hn : l.length = n) {at_ below size : Nat} {a : List UInt8} {next : Option Nat} {rest : List UInt8} (hd : l.drop at_ = 0 :: rest) :
    readS l n ⟨at_, below, size, a, next⟩ = .ok a (next.getD (at_ + 1)) := by
  obtain ⟨hb, hlt, _⟩ := bat_head hd
  refine readS_end ?_
  unfold rstep
  dsimp only
  rw [hb, if_neg (by omega), if_pos (show UInt8.toNat 0 = 0 from rfl)]
theorem num2_head {l : List UInt8} {i : Nat} {x y : UInt8} {r : List UInt8} (h : l.drop i = x :: y :: r) : num2 l i = x.toNat * 256 + y.toNat ∧ i + 2 ≤ l.length ∧ l.drop (i + 2) = r := by
  obtain ⟨h1, h2, h3⟩ := bat_head h
  obtain ⟨h4, h5, h6⟩ := bat_head h3
  rw [num2_bat (by omega), h1, h4]
  exact ⟨rfl, by omega, h6⟩
/-- A pointer, whose two bytes tell a place. -/
theorem read_ptr {l : List UInt8} {n : Nat} (hn : l.length = n) {at_ below size : Nat} {a : List UInt8} {next : Option Nat} {x y : UInt8} {rest : List UInt8} (h5 : size ≤ 255) (hd : l.drop at_ = x :: y :: rest) (hx : 192 ≤ x.toNat) {to : Nat} (ht : (x.toNat * 256 + y.toNat) % 16384 = to) (hto : to < below) :
    readS l n ⟨at_, below, size, a, next⟩ = readS l n ⟨to, to, size, a, some (next.getD (at_ + 2))⟩ := by
  obtain ⟨hb, hlt, _⟩ := bat_head hd
  obtain ⟨hm, h2, _⟩ := num2_head hd
  refine readS_on ?_ h5
  unfold rstep
  dsimp only
  rw [hm, ht, hb, if_neg (by omega), if_neg (by omega), if_neg (by omega), if_pos hx, if_neg (by omega), if_neg (by omega)]
theorem read_ptr_bad {l : List UInt8} {n : Nat} (hn : l.length = n) {at_ below size : Nat} {a : List UInt8} {next : Option Nat} {x y : UInt8} {rest : List UInt8} (hd : l.drop at_ = x :: y :: rest) (hx : 192 ≤ x.toNat) {to : Nat} (ht : (x.toNat * 256 + y.toNat) % 16384 = to) (hto : below ≤ to) :
    readS l n ⟨at_, below, size, a, next⟩ = .bad 14 at_ := by
  obtain ⟨hb, hlt, _⟩ := bat_head hd
  obtain ⟨hm, h2, _⟩ := num2_head hd
  refine readS_end ?_
  unfold rstep
  dsimp only
  rw [hm, ht, hb, if_neg (by omega), if_neg (by omega), if_neg (by omega), if_pos hx, if_neg (by omega), if_pos (by omega)]
/-- What is written is read, in capitals too. -/
theorem read_wire {l : List UInt8} {n : Nat} (hn : l.length = n) {ys : List (List UInt8)} {at_ : Nat} {rest : List UInt8} (hy : ∀ y ∈ ys, labOk (lowL y)) (hs : 1 + sizeL ys ≤ 255) (hd : l.drop at_ = wireL ys ++ 0 :: rest) :
    readv l n at_ = .ok (joinD (ys.map lowL)) (at_ + sizeL ys + 1) := by
  unfold readv
  rw [if_neg (by omega), Int.toNat_natCast, read_labels hn ys at_ at_ 1 [] none _ hy (by omega) hd]
  have hd2 : l.drop (at_ + sizeL ys) = 0 :: rest := by rw [← wireL_length, ← List.drop_drop, hd, List.drop_left' rfl]
  rw [read_end hn hd2, foldl_dotted_nil]
  · rfl
  · intro x hx
    obtain ⟨y, hy1, rfl⟩ := List.mem_map.1 hx
    exact labOk_ne (hy y hy1)
theorem read_written {l : List UInt8} {n : Nat} (hn : l.length = n) {s : List UInt8} (hs : rightN s) {at_ : Nat} {rest : List UInt8} (hd : l.drop at_ = writeB s ++ rest) : readv l n at_ = .ok s (at_ + (writeB s).length) := by
  unfold writeB at hd ⊢
  rw [List.append_assoc] at hd
  have hlow : (labsN s).map lowL = labsN s := by
    conv => rhs; rw [← List.map_id (labsN s)]
    exact List.map_congr_left fun x hx => lowL_ok (hs.1 x hx)
  have h := read_wire hn (ys := labsN s) (rest := rest) (fun y hy => by rw [lowL_ok (hs.1 y hy)]; exact hs.1 y hy) hs.2 hd
  rw [hlow, joinD_labsN] at h
  rw [h, List.length_append, wireL_length]
  rfl
end Go.Proofs.YthhfmjdknoplkaaGreatDoor
