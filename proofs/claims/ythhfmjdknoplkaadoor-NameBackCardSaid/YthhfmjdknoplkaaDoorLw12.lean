/-
  What the statements of stage 12 ask, as values: read back, in capitals, behind a pointer; chains of pointers; as long as may be; cut; under a zone. No conditions.
-/
import Derived.Test.YthhfmjdknoplkaaDoorNm12
namespace Go.Proofs.YthhfmjdknoplkaaDoor
open Go.RowKit
set_option maxRecDepth 100000

/-! ### In capitals -/
def raiseB (u : Bool) (c : UInt8) : UInt8 := if u = true ∧ 97 ≤ c.toNat ∧ c.toNat ≤ 122 then c - 32 else c
def raised : List Bool → List UInt8 → List UInt8
  | _, [] => []
  | [], l => l
  | u :: us, c :: l => raiseB u c :: raised us l
theorem raised_nil (l : List UInt8) : raised [] l = l := by cases l <;> rfl
theorem raised_append : ∀ (us : List Bool) (a b : List UInt8), raised us (a ++ b) = raised us a ++ raised (us.drop a.length) b
  | [], a, b => by rw [raised_nil, raised_nil, List.drop_nil, raised_nil]
  | u :: us, [], b => by simp [raised]
  | u :: us, c :: a, b => by
    show raiseB u c :: raised us (a ++ b) = _
    rw [raised_append us a b]
    rfl
theorem raised_length : ∀ (us : List Bool) (l : List UInt8), (raised us l).length = l.length
  | _, [] => by simp [raised]
  | [], c :: l => rfl
  | u :: us, c :: l => by
    show (raiseB u c :: raised us l).length = _
    rw [List.length_cons, raised_length us l, List.length_cons]
theorem raiseB_low {u : Bool} {c : UInt8} (h : sign c) : lowB (raiseB u c) = c := by
  unfold raiseB
  by_cases hu : u = true ∧ 97 ≤ c.toNat ∧ c.toNat ≤ 122
  · rw [if_pos hu]
    have h1 : (c - 32).toNat = c.toNat - 32 := by rw [UInt8.toNat_sub_of_le _ _ (by rw [UInt8.le_iff_toNat_le]; show 32 ≤ _; omega)]; rfl
    unfold lowB
    rw [if_pos (by omega)]
    apply UInt8.toNat_inj.1
    rw [UInt8.toNat_add, h1]
    show (c.toNat - 32 + 32) % 256 = _
    have := c.toNat_lt
    omega
  · rw [if_neg hu]
    exact lowB_sign h
theorem raiseB_small {u : Bool} {c : UInt8} (h : c.toNat < 97) : raiseB u c = c := by
  unfold raiseB
  rw [if_neg (by omega)]
theorem raised_low : ∀ (us : List Bool) (x : List UInt8), (∀ c ∈ x, sign c) → lowL (raised us x) = x
  | _, [], _ => by simp [raised, lowL]
  | [], c :: x, h => by
    rw [raised_nil]
    unfold lowL
    conv => rhs; rw [← List.map_id (c :: x)]
    exact List.map_congr_left fun b hb => lowB_sign (h b hb)
  | u :: us, c :: x, h => by
    show lowB (raiseB u c) :: lowL (raised us x) = _
    rw [raiseB_low (h c (by simp)), raised_low us x fun b hb => h b (List.mem_cons_of_mem _ hb)]
/-- What is written, in capitals here and there: labels that are the same when made small. -/
theorem raised_wire : ∀ (ls : List (List UInt8)) (us : List Bool), (∀ x ∈ ls, labOk x) → ∃ ys : List (List UInt8), raised us (wireL ls ++ [0]) = wireL ys ++ [0] ∧ ys.map lowL = ls ∧ ∀ y ∈ ys, labOk (lowL y)
  | [], us, _ => by
    refine ⟨[], ?_, rfl, fun y h => by cases h⟩
    show raised us [0] = [0]
    cases us with
    | nil => rfl
    | cons u us => show raiseB u 0 :: raised us [] = [0]; rw [raiseB_small (by decide)]; cases us <;> rfl
  | x :: ls, us, h => by
    have hx := h x (by simp)
    have h63 := hx.2.2
    obtain ⟨ys, h1, h2, h3⟩ := raised_wire ls ((us.drop 1).drop x.length) fun z hz => h z (List.mem_cons_of_mem _ hz)
    refine ⟨raised (us.drop 1) x :: ys, ?_, ?_, fun y hy => ?_⟩
    · rw [wireL_cons, List.cons_append, List.append_assoc]
      have e : raised us (UInt8.ofNat x.length :: (x ++ (wireL ls ++ [0]))) = UInt8.ofNat x.length :: raised (us.drop 1) (x ++ (wireL ls ++ [0])) := by
        cases us with
        | nil => show _ = UInt8.ofNat x.length :: raised [] _; rw [raised_nil, raised_nil]
        | cons u us =>
          show raiseB u _ :: raised us _ = _
          rw [raiseB_small (by rw [UInt8.toNat_ofNat']; omega)]
          rfl
      rw [e, raised_append, h1, wireL_cons, raised_length]
      simp
    · show lowL (raised (us.drop 1) x) :: ys.map lowL = _
      rw [raised_low _ x hx.1, h2]
    · rcases List.mem_cons.1 hy with rfl | hy
      · rw [raised_low _ x hx.1]; exact hx
      · exact h3 y hy
/-- Read where it stands, in capitals too. -/
theorem back_read {s : List UInt8} (hs : rightN s) (us : List Bool) {ahead behind l : List UInt8} {n : Nat} (hn : l.length = n) (hl : l = ahead ++ (raised us (writeB s) ++ behind)) {at_ : Nat} (ha : ahead.length = at_) :
    readv l n at_ = .ok s (at_ + (writeB s).length) := by
  obtain ⟨ys, h1, h2, h3⟩ := raised_wire (labsN s) us hs.1
  have hd : l.drop at_ = wireL ys ++ 0 :: behind := by
    rw [hl, List.drop_left' ha]
    unfold writeB
    rw [h1, List.append_assoc]
    rfl
  have hsz : sizeL ys = sizeL (labsN s) := by
    rw [← h2]
    unfold sizeL
    rw [List.map_map]
    congr 1
    exact List.map_congr_left fun y _ => by simp [lowL]
  have h := read_wire hn h3 (by rw [hsz]; exact hs.2) hd
  rw [h2, joinD_labsN, hsz] at h
  rw [h]
  unfold writeB
  rw [List.length_append, wireL_length]
  rfl
/-- A label and a pointer to it lead there. -/
theorem back_ptr {s : List UInt8} (hs : rightN s) (h60 : s.length ≤ 60) (us : List Bool) {ahead behind l : List UInt8} {n at_ al : Nat} (hal : ahead.length = al) (h5 : al ≤ 500) {x y : UInt8} (hx : x.toNat = 192 + al / 256) (hy : y.toNat = al % 256)
    (hl : l = ahead ++ (raised us (writeB s) ++ (behind ++ [1, 122, x, y]))) (hn : l.length = n) (hat : n = at_ + 4) :
    readv l n at_ = .ok (if s = [] then [122] else 122 :: 46 :: s) n := by
  obtain ⟨ys, h1, h2, h3⟩ := raised_wire (labsN s) us hs.1
  have hwl : (raised us (writeB s)).length = (writeB s).length := raised_length _ _
  have hw1 : 1 ≤ (writeB s).length := by rw [writeB_length]; split <;> omega
  have hlen : at_ = al + (raised us (writeB s)).length + behind.length := by
    have := congrArg List.length hl
    simp only [List.length_append, List.length_cons, List.length_nil] at this
    omega
  have hd : l.drop at_ = wireL [[122]] ++ [x, y] := by
    rw [hl, ← List.append_assoc, ← List.append_assoc, List.drop_left' (by simp only [List.length_append]; omega)]
    rfl
  have hsz : sizeL ys = sizeL (labsN s) := by
    rw [← h2]
    unfold sizeL
    rw [List.map_map]
    congr 1
    exact List.map_congr_left fun y _ => by simp [lowL]
  have hsl : sizeL (labsN s) ≤ 61 := by
    by_cases he : s = []
    · rw [he]; decide
    · rw [sizeL_labsN he]; omega
  unfold readv
  rw [if_neg (by omega), Int.toNat_natCast, read_labels hn [[122]] at_ at_ 1 [] none [x, y] (fun z hz => by obtain rfl := List.mem_singleton.1 hz; decide) (by decide) hd]
  have hd2 : l.drop (at_ + sizeL [[122]]) = x :: y :: [] := by rw [← wireL_length, ← List.drop_drop, hd, List.drop_left' rfl]
  have hal2 : at_ + sizeL [[122]] = at_ + 2 := rfl
  rw [hal2] at hd2 ⊢
  rw [read_ptr hn (by decide) hd2 (by omega) (to := al) (by rw [hx, hy]; omega) (by omega)]
  have hd3 : l.drop al = wireL ys ++ 0 :: (behind ++ [1, 122, x, y]) := by
    rw [hl, List.drop_left' hal]
    unfold writeB
    rw [h1, List.append_assoc]
    rfl
  rw [read_labels hn ys al al _ _ _ _ h3 (by rw [hsz]; show 1 + 2 + _ ≤ 255; omega) hd3]
  have hd4 : l.drop (al + sizeL ys) = 0 :: (behind ++ [1, 122, x, y]) := by rw [← wireL_length, ← List.drop_drop, hd3, List.drop_left' rfl]
  rw [read_end hn hd4, h2]
  have hj : (labsN s).foldl dotted [122] = if s = [] then [122] else 122 :: 46 :: s := by
    rw [foldl_dotted _ _ (fun z hz => labOk_ne (hs.1 z hz)) (by simp)]
    by_cases he : s = []
    · rw [he]; rfl
    · rw [if_neg he, joinD_cons _ (labsN_ne he), joinD_labsN]; rfl
  rw [show List.foldl dotted [] (List.map lowL [[122]]) = [122] from rfl, hj, hat]
  rfl

/-! ### Pointers behind each other -/
def ptrTo (i : Nat) : Nat := if i = 0 then 0 else 3 + 4 * (i - 1)
def bees (i : Nat) : List (List UInt8) := List.replicate i [98] ++ [[97]]
/-- So many pointers, each to what is ahead. -/
def Chained (l : List UInt8) (n : Nat) : Prop := l.take 3 = [1, 97, 0] ∧ ∀ j, j < n → (l.drop (3 + 4 * j)).take 4 = [1, 98, 192, UInt8.ofNat (ptrTo j)]
theorem drop_of_take {l a : List UInt8} {i k : Nat} (h : (l.drop i).take k = a) : l.drop i = a ++ l.drop (i + k) := by
  rw [← h, ← List.drop_drop, List.take_append_drop]
theorem chain_read {l : List UInt8} {n m : Nat} (hn : l.length = n) (hc : Chained l m) (h40 : m ≤ 40) : ∀ (j : Nat) (below size : Nat) (a : List UInt8) (next : Option Nat), j < m → size + 2 * (j + 1) + 2 ≤ 255 → ptrTo j < below →
    readS l n ⟨3 + 4 * j, below, size, a, next⟩ = .ok ((bees (j + 1)).foldl dotted a) (next.getD (3 + 4 * j + 4))
  | j, below, size, a, next, hj, hs, hb => by
    have hp : ptrTo j ≤ 155 := by unfold ptrTo; split <;> omega
    have hd := drop_of_take (hc.2 j hj)
    have hd1 : l.drop (3 + 4 * j) = wireL [[98]] ++ (192 :: UInt8.ofNat (ptrTo j) :: l.drop (3 + 4 * j + 4)) := hd
    rw [read_labels hn [[98]] _ below size a next _ (fun z hz => by obtain rfl := List.mem_singleton.1 hz; decide) (by show size + 2 ≤ 255; omega) hd1]
    have hd2 : l.drop (3 + 4 * j + sizeL [[98]]) = 192 :: UInt8.ofNat (ptrTo j) :: l.drop (3 + 4 * j + 4) := by rw [← wireL_length, ← List.drop_drop, hd1, List.drop_left' rfl]
    have e2 : sizeL [[98]] = 2 := rfl
    rw [e2] at hd2 ⊢
    rw [read_ptr hn (by omega) hd2 (by decide) (to := ptrTo j) (by rw [UInt8.toNat_ofNat', show UInt8.toNat 192 = 192 from rfl]; omega) hb]
    have ea : List.foldl dotted a (List.map lowL [[98]]) = dotted a [98] := rfl
    rw [ea]
    cases j with
    | zero =>
      have h0 : ptrTo 0 = 0 := rfl
      rw [h0]
      have hd3 : l.drop 0 = wireL [[97]] ++ 0 :: l.drop 3 := by
        have h := (List.take_append_drop 3 l).symm
        rw [hc.1] at h
        exact h
      rw [read_labels hn [[97]] 0 0 (size + 2) _ _ _ (fun z hz => by obtain rfl := List.mem_singleton.1 hz; decide) (by show size + 2 + 2 ≤ 255; omega) hd3]
      have hd4 : l.drop (0 + sizeL [[97]]) = 0 :: l.drop 3 := by rw [← wireL_length, ← List.drop_drop, hd3, List.drop_left' rfl]
      rw [read_end hn hd4]
      rfl
    | succ k =>
      have hk : ptrTo (k + 1) = 3 + 4 * k := by unfold ptrTo; rw [if_neg (by omega)]; omega
      rw [hk]
      rw [chain_read hn hc h40 k (3 + 4 * k) (size + 2) (dotted a [98]) _ (by omega) (by omega) (by unfold ptrTo; split <;> omega)]
      rw [show bees (k + 1 + 1) = [98] :: bees (k + 1) from rfl]
      rfl
/-- The name that stands at the last one. -/
def wantC (n : Nat) : List UInt8 := joinD (bees n)
theorem wantC_zero : wantC 0 = [97] := rfl
theorem wantC_succ (n : Nat) : wantC (n + 1) = 98 :: 46 :: wantC n := by
  unfold wantC
  rw [show bees (n + 1) = [98] :: bees n from rfl, joinD_cons _ (by unfold bees; simp)]
  rfl
theorem chain_last {l : List UInt8} {n m : Nat} (hn : l.length = n) (hc : Chained l m) (h1 : 1 ≤ m) (h40 : m ≤ 40) (hl : n = 3 + 4 * m) : readv l n ((3 + 4 * (m - 1) : Nat) : Int) = .ok (wantC m) n := by
  unfold readv
  rw [if_neg (by omega), Int.toNat_natCast, chain_read hn hc h40 (m - 1) _ 1 [] none (by omega) (by omega) (by unfold ptrTo; split <;> omega)]
  rw [show m - 1 + 1 = m by omega, foldl_dotted_nil (fun x hx => by
    unfold bees at hx
    rcases List.mem_append.1 hx with hx | hx
    · obtain rfl := List.eq_of_mem_replicate hx; simp
    · obtain rfl := List.mem_singleton.1 hx; simp)]
  show Rd.ok (wantC m) (3 + 4 * (m - 1) + 4) = _
  rw [show 3 + 4 * (m - 1) + 4 = n by omega]
/-- One that does not lead back. -/
theorem chain_bad {l : List UInt8} {n last to : Nat} (hn : l.length = n) {x y : UInt8} (hd : l.drop last = [1, 98, x, y]) (hx : x.toNat = 192 + to / 256) (hy : y.toNat = to % 256) (h1 : last ≤ to) (h2 : to < 16384) : readv l n (last : Int) = .bad 14 (last + 2) := by
  unfold readv
  have hd1 : l.drop last = wireL [[98]] ++ [x, y] := hd
  rw [if_neg (by omega), Int.toNat_natCast, read_labels hn [[98]] last last 1 [] none [x, y] (fun z hz => by obtain rfl := List.mem_singleton.1 hz; decide) (by decide) hd1]
  have hd2 : l.drop (last + sizeL [[98]]) = x :: y :: [] := by rw [← wireL_length, ← List.drop_drop, hd1, List.drop_left' rfl]
  have e2 : sizeL [[98]] = 2 := rfl
  rw [e2] at hd2 ⊢
  exact read_ptr_bad hn hd2 (by omega) (to := to) (by rw [hx, hy]; omega) h1
end Go.Proofs.YthhfmjdknoplkaaDoor
