/-
  A line of names, each of which leads to the next one, in whatever order its records stand: what is found, and what round it. No conditions.
-/
import Derived.Test.YtjbdaeiefckkcaaHe15
namespace Go.Proofs.Ytjbdaeiefckkcaa
open Go.RowKit
set_option maxRecDepth 100000

/-- The i-th name. -/
def nm (i : Nat) : ByteArray := if i < 10 then ⟨#[110, UInt8.ofNat (48 + i)]⟩ else ⟨#[110, UInt8.ofNat (48 + i / 10), UInt8.ofNat (48 + i % 10)]⟩
theorem nm_inj : ∀ i < 21, ∀ j < 21, nm i = nm j → i = j := by decide +kernel
def ttlS (ttl : Int) (i : Nat) : Int := ttl / 2 + i
def stepR (ttl : Int) (i : Nat) : Rk := cnr (nm i) (nm (i + 1)) (ttlS ttl i)
def lineL (n : Nat) (ttl : Int) : List Rk := (List.range (n - 1)).map (stepR ttl) ++ [arr (nm (n - 1)) 7 ttl]
theorem find_unique {p : Rk → Bool} {r : Rk} : ∀ {xs : List Rk}, r ∈ xs → p r = true → (∀ x ∈ xs, p x = true → x = r) → xs.find? p = some r
  | [], h, _, _ => by cases h
  | a :: t, h, hp, hu => by
    cases ha : p a with
    | true =>
      simp only [List.find?, ha]
      rw [hu a (List.mem_cons_self ..) ha]
    | false =>
      simp only [List.find?, ha]
      rcases List.mem_cons.1 h with rfl | h
      · rw [hp] at ha; cases ha
      · exact find_unique h hp (fun x hx => hu x (List.mem_cons_of_mem _ hx))
theorem line_mem {n : Nat} {ttl : Int} {x : Rk} (h : x ∈ lineL n ttl) : (∃ i, i + 1 < n ∧ x = stepR ttl i) ∨ x = arr (nm (n - 1)) 7 ttl := by
  unfold lineL at h
  rcases List.mem_append.1 h with h | h
  · obtain ⟨i, hi, rfl⟩ := List.mem_map.1 h
    exact .inl ⟨i, by have := List.mem_range.1 hi; omega, rfl⟩
  · exact .inr (List.mem_singleton.1 h)
theorem leads_step (ttl : Int) (i : Nat) (s : ByteArray) : leads (stepR ttl i) s = decide (nm i = s) := by
  unfold leads stepR cnr
  simp
theorem leads_arr (f : ByteArray) (d : UInt8) (ttl : Int) (s : ByteArray) : leads (arr f d ttl) s = false := by
  unfold leads arr
  simp
theorem says_step (ttl : Int) (i : Nat) (s : ByteArray) : says (stepR ttl i) s = false := by
  unfold says stepR cnr
  simp
theorem says_arr (f : ByteArray) (d : UInt8) (ttl : Int) (s : ByteArray) : says (arr f d ttl) s = decide (f = s) := by
  unfold says arr
  simp
section
variable {n : Nat} {ttl : Int} {xs : List Rk}
theorem find_step (hp : xs.Perm (lineL n ttl)) (hn : n ≤ 20) {i : Nat} (hi : i + 1 < n) : xs.find? (fun x => leads x (nm i)) = some (stepR ttl i) := by
  refine find_unique (hp.mem_iff.2 ?_) (by rw [leads_step]; exact decide_eq_true rfl) (fun x hx hl => ?_)
  · unfold lineL
    exact List.mem_append_left _ (List.mem_map.2 ⟨i, List.mem_range.2 (by omega), rfl⟩)
  · rcases line_mem (hp.mem_iff.1 hx) with ⟨j, hj, rfl⟩ | rfl
    · rw [leads_step] at hl
      rw [nm_inj j (by omega) i (by omega) (of_decide_eq_true hl)]
    · rw [leads_arr] at hl; cases hl
theorem find_end (hp : xs.Perm (lineL n ttl)) (hn : n ≤ 20) (h1 : 1 ≤ n) : xs.find? (fun x => leads x (nm (n - 1))) = none := by
  rw [List.find?_eq_none]
  intro x hx
  rcases line_mem (hp.mem_iff.1 hx) with ⟨j, hj, rfl⟩ | rfl
  · rw [leads_step]
    intro h
    have := nm_inj j (by omega) (n - 1) (by omega) (of_decide_eq_true h)
    omega
  · rw [leads_arr]; decide
end
/-- The names up to i. -/
def nms (i : Nat) : List ByteArray := (List.range (i + 1)).map nm
theorem nms_len (i : Nat) : (nms i).length = i + 1 := by simp [nms]
theorem nms_next (i : Nat) : nms i ++ [nm (i + 1)] = nms (i + 1) := by
  unfold nms
  rw [List.range_succ (n := i + 1), List.map_append]
  rfl
theorem nms_not {i : Nat} (h : i < 20) : inb (nm (i + 1)) (nms i) = false := by
  unfold inb nms
  rw [List.any_eq_false]
  intro x hx
  obtain ⟨j, hj, rfl⟩ := List.mem_map.1 hx
  have hj := List.mem_range.1 hj
  intro h2
  have := nm_inj (i + 1) (by omega) j (by omega) (of_decide_eq_true h2)
  omega
theorem nms_in {i j : Nat} (h : j ≤ i) : inb (nm j) (nms i) = true := by
  unfold inb nms
  exact List.any_eq_true.2 ⟨nm j, List.mem_map.2 ⟨j, List.mem_range.2 (by omega), rfl⟩, decide_eq_true rfl⟩
/-- The least Ttl up to name i. -/
def lfi (ttl : Int) (i : Nat) : Int := if i = 0 then 4294967295 else ttl / 2
theorem lfi_next {ttl : Int} (h0 : 0 ≤ ttl) (h1 : ttl < 4294967296) (i : Nat) : min (lfi ttl i) (ttlS ttl i) = lfi ttl (i + 1) := by
  unfold lfi ttlS
  rw [if_neg (show ¬ i + 1 = 0 by omega)]
  split
  · rename_i h
    subst h
    omega
  · omega
theorem way_line {n : Nat} {ttl : Int} {ys : List Rk} (h0 : 0 ≤ ttl) (h1 : ttl < 4294967296) (hn : n ≤ 20) (hs : ∀ i, i + 1 < n → ys.find? (fun x => leads x (nm i)) = some (stepR ttl i)) : ∀ (d i : Nat), i + d + 1 = n → i ≤ 15 → wayv ys (16 - i) (nms i) (lfi ttl i) (nm i) = if n ≤ 16 then wayv ys (17 - n) (nms (n - 1)) (lfi ttl (n - 1)) (nm (n - 1)) else none
  | 0, i, h, hi => by
    rw [if_pos (by omega), show n - 1 = i by omega, show 17 - n = 16 - i by omega]
  | d + 1, i, h, hi => by
    have hf := hs i (by omega)
    rw [show 16 - i = (15 - i) + 1 by omega]
    by_cases h15 : i = 15
    · rw [wayv_no hf (.inr (by rw [nms_len]; omega)), if_neg (by omega)]
    · rw [wayv_on hf (nms_not (by omega)) (by rw [nms_len]; omega)]
      have e1 : (stepR ttl i).target = nm (i + 1) := rfl
      have e2 : (stepR ttl i).ttl = ttlS ttl i := rfl
      rw [e1, e2, nms_next, lfi_next h0 h1]
      have := way_line h0 h1 hn hs d (i + 1) (by omega) (by omega)
      rw [show 16 - (i + 1) = 15 - i by omega] at this
      exact this
theorem fold_stays {s : ByteArray} {left : Int} {a : Rk} : ∀ (xs : List Rk), (∀ x ∈ xs, says x s = true → x = a) → xs.foldl (fstep s left) [⟨a.v6, a.adr, min left a.ttl⟩] = [⟨a.v6, a.adr, min left a.ttl⟩]
  | [], _ => rfl
  | x :: t, h => by
    rw [List.foldl_cons]
    have e : fstep s left [⟨a.v6, a.adr, min left a.ttl⟩] x = [⟨a.v6, a.adr, min left a.ttl⟩] := by
      cases hx : says x s with
      | false => exact fstep_no (.inl hx)
      | true =>
        have := h x (List.mem_cons_self ..) hx
        subst this
        exact fstep_no (.inr (by simp [hasv, sameAd]))
    rw [e]
    exact fold_stays t (fun x hx => h x (List.mem_cons_of_mem _ hx))
theorem found_one {s : ByteArray} {left : Int} {a : Rk} (hs : says a s = true) : ∀ (xs : List Rk), a ∈ xs → (∀ x ∈ xs, says x s = true → x = a) → foundv xs s left = [⟨a.v6, a.adr, min left a.ttl⟩]
  | [], h, _ => by cases h
  | x :: t, h, hu => by
    unfold foundv
    rw [List.foldl_cons]
    cases hx : says x s with
    | true =>
      have := hu x (List.mem_cons_self ..) hx
      subst this
      rw [fstep_yes hx (by simp [hasv])]
      exact fold_stays t (fun y hy => hu y (List.mem_cons_of_mem _ hy))
    | false =>
      rw [fstep_no (.inl hx)]
      rcases List.mem_cons.1 h with rfl | h
      · rw [hs] at hx; cases hx
      · exact found_one hs t h (fun y hy => hu y (List.mem_cons_of_mem _ hy))
/-- What is found along a line, in whatever order its records stand. -/
theorem follow_line {n : Nat} {ttl : Int} {xs : List Rk} (h0 : 0 ≤ ttl) (h1 : ttl < 4294967296) (hn : n ≤ 20) (h1n : 1 ≤ n) (hp : xs.Perm (lineL n ttl)) :
    followv xs (nm 0) = if n ≤ 16 then ([⟨false, v4B 8 8 8 7, if n = 1 then ttl else ttl / 2⟩], nms (n - 1)) else ([], []) := by
  have hw := way_line h0 h1 hn (fun i hi => find_step hp hn hi) (n - 1) 0 (by omega) (by omega)
  have e0 : wayv xs (16 - 0) (nms 0) (lfi ttl 0) (nm 0) = wayv xs 16 [nm 0] 4294967295 (nm 0) := rfl
  rw [e0] at hw
  unfold followv
  rw [hw]
  by_cases h16 : n ≤ 16
  · rw [if_pos h16, if_pos h16, show 17 - n = (16 - n) + 1 by omega, wayv_end (find_end hp hn h1n)]
    dsimp only
    have hl : (nms (n - 1)).getLastD (nm 0) = nm (n - 1) := by
      rw [List.getLastD_eq_getLast?, List.getLast?_eq_getElem?, nms_len]
      unfold nms
      rw [List.getElem?_map, List.getElem?_range (by omega)]
      rfl
    have hm : arr (nm (n - 1)) 7 ttl ∈ xs := hp.mem_iff.2 (by unfold lineL; exact List.mem_append_right _ (List.mem_singleton.2 rfl))
    rw [hl, found_one (a := arr (nm (n - 1)) 7 ttl) (by rw [says_arr]; exact decide_eq_true rfl) xs hm (fun x hx hs => by
      rcases line_mem (hp.mem_iff.1 hx) with ⟨j, hj, rfl⟩ | rfl
      · rw [says_step] at hs; cases hs
      · rfl)]
    have e : min (lfi ttl (n - 1)) (arr (nm (n - 1)) 7 ttl).ttl = if n = 1 then ttl else ttl / 2 := by
      show min (lfi ttl (n - 1)) ttl = _
      unfold lfi
      by_cases h : n = 1
      · rw [if_pos h, if_pos (by omega)]; omega
      · rw [if_neg h, if_neg (by omega)]; omega
    rw [e]
    rfl
  · rw [if_neg h16, if_neg h16]
/-- With one more record that leads back nothing is found. -/
theorem follow_round {n : Nat} {ttl : Int} {xs : List Rk} (h0 : 0 ≤ ttl) (h1 : ttl < 4294967296) (hn : n ≤ 20) (h1n : 1 ≤ n) (hp : xs.Perm (lineL n ttl)) {q : Nat} (hq : q < n) (t : Int) :
    followv (xs ++ [cnr (nm (n - 1)) (nm q) t]) (nm 0) = ([], []) := by
  have hw := way_line (ys := xs ++ [cnr (nm (n - 1)) (nm q) t]) h0 h1 hn (fun i hi => by rw [List.find?_append, find_step hp hn hi]; rfl) (n - 1) 0 (by omega) (by omega)
  have e0 : wayv (xs ++ [cnr (nm (n - 1)) (nm q) t]) (16 - 0) (nms 0) (lfi ttl 0) (nm 0) = wayv (xs ++ [cnr (nm (n - 1)) (nm q) t]) 16 [nm 0] 4294967295 (nm 0) := rfl
  rw [e0] at hw
  unfold followv
  rw [hw]
  by_cases h16 : n ≤ 16
  · rw [if_pos h16, show 17 - n = (16 - n) + 1 by omega]
    have hf : (xs ++ [cnr (nm (n - 1)) (nm q) t]).find? (fun x => leads x (nm (n - 1))) = some (cnr (nm (n - 1)) (nm q) t) := by
      rw [List.find?_append, find_end hp hn h1n]
      have : leads (cnr (nm (n - 1)) (nm q) t) (nm (n - 1)) = true := by unfold leads cnr; simp
      simp [this]
    rw [wayv_no hf (.inl (nms_in (by omega)))]
  · rw [if_neg h16]
end Go.Proofs.Ytjbdaeiefckkcaa
