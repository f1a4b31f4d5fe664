/-
  Questions and records that are written are read; cut anywhere they are none. No conditions.
  Messages as values: what is parsed, what may be written, as it is written. No conditions.
  Messages as values: what is written is parsed as it was, whatever stands behind it. No conditions.
  Messages as values: what is cut is told as wrong. No conditions.
  What is read as a name, a question, a record may be written. No conditions.
-/
import Derived.Test.YtbikifaadpijnaaGreatDoorZ24
namespace Go.Proofs.YtbikifaadpijnaaGreatDoor
open Go.RowKit
set_option maxRecDepth 100000

theorem be_putn2 {v : Int} (h : shortI v) : ((be (putn v 2) : Nat) : Int) = v := by
  unfold shortI at h
  have h1 : (UInt8.ofNat ((v / 256) % 256).toNat).toNat = ((v / 256) % 256).toNat := by simp only [UInt8.toNat_ofNat']; omega
  have h2 : (UInt8.ofNat (v % 256).toNat).toNat = (v % 256).toNat := by simp only [UInt8.toNat_ofNat']; omega
  have e : putn v 2 = [UInt8.ofNat ((v / 256) % 256).toNat, UInt8.ofNat (v % 256).toNat] := by simp [putn]
  rw [e]
  simp only [be, List.foldl_cons, List.foldl_nil, h1, h2]
  omega
theorem be_putn4 {v : Int} (h0 : 0 ≤ v) (h : v < 4294967296) : ((be (putn v 4) : Nat) : Int) = v := by
  have h1 : (UInt8.ofNat ((v / 16777216) % 256).toNat).toNat = ((v / 16777216) % 256).toNat := by simp only [UInt8.toNat_ofNat']; omega
  have h2 : (UInt8.ofNat ((v / 65536) % 256).toNat).toNat = ((v / 65536) % 256).toNat := by simp only [UInt8.toNat_ofNat']; omega
  have h3 : (UInt8.ofNat ((v / 256) % 256).toNat).toNat = ((v / 256) % 256).toNat := by simp only [UInt8.toNat_ofNat']; omega
  have h4 : (UInt8.ofNat (v % 256).toNat).toNat = (v % 256).toNat := by simp only [UInt8.toNat_ofNat']; omega
  have e : putn v 4 = [UInt8.ofNat ((v / 16777216) % 256).toNat, UInt8.ofNat ((v / 65536) % 256).toNat, UInt8.ofNat ((v / 256) % 256).toNat, UInt8.ofNat (v % 256).toNat] := by simp [putn]
  rw [e]
  simp only [be, List.foldl_cons, List.foldl_nil, h1, h2, h3, h4]
  omega
theorem num2_put {l : List UInt8} {i : Nat} {v : Int} {r : List UInt8} (hd : l.drop i = putn v 2 ++ r) (h : shortI v) : ((num2 l i : Nat) : Int) = v := by
  unfold num2
  rw [hd, List.take_left' (putn_length _ _)]
  exact be_putn2 h
theorem num4_put {l : List UInt8} {i : Nat} {v : Int} {r : List UInt8} (hd : l.drop i = putn v 4 ++ r) (h0 : 0 ≤ v) (h : v < 4294967296) : ((num4 l i : Nat) : Int) = v := by
  unfold num4
  rw [hd, List.take_left' (putn_length _ _)]
  exact be_putn4 h0 h
/-- Behind something. -/
theorem drop_on {l a r : List UInt8} {i k : Nat} (hd : l.drop i = a ++ r) (ha : a.length = k) : l.drop (i + k) = r := by
  rw [← List.drop_drop, hd, List.drop_left' ha]
theorem room {l a r : List UInt8} {i n : Nat} (hn : l.length = n) (hd : l.drop i = a ++ r) (h1 : i ≤ n) : i + a.length + r.length = n := by
  have := congrArg List.length hd
  rw [List.length_drop, List.length_append] at this
  omega

/-! ### Questions -/
theorem writeQB_length (q : Qs) : (writeQB q).length = (writeB q.name).length + 4 := by
  unfold writeQB
  simp only [List.length_append, putn_length]
theorem back_q {l : List UInt8} {n : Nat} (hn : l.length = n) {q : Qs} (hq : rightQ q) {at_ : Nat} {rest : List UInt8} (hat : at_ ≤ n) (hd : l.drop at_ = writeQB q ++ rest) : readQv l n at_ = ⟨q, at_ + (writeQB q).length, fl0⟩ := by
  have hd0 := hd
  unfold writeQB at hd
  rw [List.append_assoc, List.append_assoc] at hd
  have hl := room hn hd0 hat
  rw [writeQB_length] at hl ⊢
  unfold readQv
  rw [read_written hn hq.1 hd]
  have h1 := drop_on hd rfl
  have h2 := drop_on h1 (putn_length _ _)
  have n1 := num2_put h1 hq.2.1
  have n2 := num2_put h2 hq.2.2
  unfold readQd Rd.ok
  dsimp only
  rw [if_neg (by decide), if_neg (by omega), if_neg (by omega), n1, n2, Nat.add_assoc]
/-- A question that is cut behind its name. -/
theorem cut_q {l : List UInt8} {n : Nat} (hn : l.length = n) {q : Qs} (hq : rightQ q) {at_ : Nat} {rest : List UInt8} (hat : at_ ≤ n) (hd : l.drop at_ = writeB q.name ++ rest) (hr : rest.length < 4) : (readQv l n at_).f.code = 3 := by
  have hl := room hn hd hat
  unfold readQv
  rw [read_written hn hq.1 hd]
  unfold readQd Rd.ok
  dsimp only
  rw [if_neg (by decide)]
  by_cases h : n < at_ + (writeB q.name).length + 2
  · rw [if_pos h]; rfl
  · rw [if_neg h, if_pos (by omega)]; rfl

/-- A name that is cut. -/
theorem read_short {l : List UInt8} {n : Nat} (hn : l.length = n) : ∀ (ys : List (List UInt8)) (at_ below size : Nat) (a : List UInt8) (next : Option Nat) (k : Nat), (∀ y ∈ ys, labOk y) → size + sizeL ys ≤ 255 → at_ + k = n → l.drop at_ = (wireL ys ++ [0]).take k → k < sizeL ys + 1 →
    (readS l n ⟨at_, below, size, a, next⟩).f.code = 3
  | ys, at_, below, size, a, next, 0, _, _, hk, _, _ => by
    rw [readS_end (r := .bad 3 at_) (by unfold rstep; dsimp only; rw [if_pos (by omega)])]
    rfl
  | [], _, _, _, _, _, k + 1, _, _, _, _, h => by
    exact absurd h (by simp [sizeL])
  | y :: ys, at_, below, size, a, next, k + 1, hy, hs, hk, hd, hlt => by
    have hy0 := hy y (by simp)
    have h1 := hy0.2.1
    have h63 := hy0.2.2
    have hsz : sizeL (y :: ys) = 1 + y.length + sizeL ys := rfl
    have hd0 : l.drop at_ = UInt8.ofNat y.length :: ((y ++ (wireL ys ++ [0])).take k) := by
      rw [hd, wireL_cons, List.cons_append, List.take_succ_cons, List.append_assoc]
    obtain ⟨hb, hlt0, hd1⟩ := bat_head hd0
    have hbl : bat l at_ = y.length := by rw [hb, UInt8.toNat_ofNat']; omega
    by_cases hy2 : n < at_ + 1 + y.length
    · rw [readS_end (r := .bad 3 at_) (by unfold rstep; dsimp only; rw [hbl, if_neg (by omega), if_neg (by omega), if_pos (by omega), if_pos hy2])]
      rfl
    · rw [List.take_append, List.take_of_length_le (by omega)] at hd1
      have hd2 : l.drop (at_ + 1 + y.length) = (wireL ys ++ [0]).take (k - y.length) := by rw [← List.drop_drop (i := y.length) (j := at_ + 1), hd1, List.drop_left' rfl]
      have htk : (l.drop (at_ + 1)).take y.length = y := by rw [hd1, List.take_left' rfl]
      have hst : rstep l n ⟨at_, below, size, a, next⟩ = .inl ⟨at_ + 1 + y.length, below, size + 1 + y.length, dotted a y, next⟩ := by
        unfold rstep
        dsimp only
        rw [hbl, htk, lowL_ok hy0, if_neg (by omega), if_neg (by omega), if_pos (by omega), if_neg (by omega), if_neg (by simpa using hy0), if_neg (by omega)]
      rw [readS_on hst (by dsimp only; omega)]
      exact read_short hn ys (at_ + 1 + y.length) below (size + 1 + y.length) (dotted a y) next (k - y.length) (fun z hz => hy z (List.mem_cons_of_mem _ hz)) (by omega) (by omega) hd2 (by omega)
theorem cut_name {l : List UInt8} {n : Nat} (hn : l.length = n) {s : List UInt8} (hs : rightN s) {at_ k : Nat} (hk : at_ + k = n) (hd : l.drop at_ = (writeB s).take k) (h : k < (writeB s).length) : (readv l n at_).f.code = 3 := by
  unfold readv
  rw [if_neg (by omega), Int.toNat_natCast]
  unfold writeB at hd h
  rw [List.length_append, wireL_length] at h
  exact read_short hn (labsN s) at_ at_ 1 [] none k hs.1 hs.2 hk hd h

/-! ### Records -/
theorem alike_cases {r : Rc} (h : rightR r) : (r.kind = 28 ∧ r.v6 = true ∧ r.target = [] ∧ r.data = []) ∨ (r.kind = 1 ∧ r.v6 = false ∧ r.target = [] ∧ r.data = []) ∨ (r.kind = 5 ∧ r.v6 = false ∧ r.adr = zero16 ∧ r.data = []) ∨ (r.kind ≠ 28 ∧ r.kind ≠ 1 ∧ r.kind ≠ 5 ∧ r.v6 = false ∧ r.adr = zero16 ∧ r.target = []) := by
  obtain ⟨_, _, _, _, h⟩ := h
  unfold alikeV bareV at h
  by_cases h28 : r.kind = 28
  · rw [if_pos h28] at h
    exact .inl ⟨h28, h.1.1, h.2.1, h.2.2⟩
  rw [if_neg h28] at h
  by_cases h1 : r.kind = 1
  · rw [if_pos h1] at h
    exact .inr (.inl ⟨h1, h.1.1, h.2.1, h.2.2⟩)
  rw [if_neg h1] at h
  by_cases h5 : r.kind = 5
  · rw [if_pos h5] at h
    exact .inr (.inr (.inl ⟨h5, h.1.1, h.1.2, h.2.2⟩))
  rw [if_neg h5] at h
  exact .inr (.inr (.inr ⟨h28, h1, h5, h.1.1, h.1.2, h.2.1⟩))
theorem right_zeros {a : List UInt8} (h : rightA false a) : a.take 4 ++ zero12 = a := by
  rw [← h rfl, List.take_append_drop]
/-- What a record bears, as it is written, is read. -/
theorem data_back {l : List UInt8} {n : Nat} (hn : l.length = n) {r : Rc} (hr : rightR r) (hk : r.ok) {at_ : Nat} {rest : List UInt8} (hd : l.drop (at_ + 2) = dataB r ++ rest) : dataV l n (r.asks.asRc r.ttl) at_ (dataB r).length = (r, fl0) := by
  have htk : (l.drop (at_ + 2)).take (dataB r).length = dataB r := by rw [hd, List.take_left' rfl]
  have hc := alike_cases hr
  obtain ⟨name, kind, cls, ttl, v6, adr, target, data⟩ := r
  unfold Rc.ok at hk
  dsimp only at hc hk
  rcases hc with ⟨rfl, rfl, rfl, rfl⟩ | ⟨rfl, rfl, rfl, rfl⟩ | ⟨rfl, rfl, rfl, rfl⟩ | ⟨h28, h1, h5, rfl, rfl, rfl⟩
  · have e : dataB ⟨name, 28, cls, ttl, true, adr, [], []⟩ = adr := by
      show adr.take 16 = adr
      exact List.take_of_length_le (by omega)
    rw [e] at htk ⊢
    unfold dataV Rc.asks Qs.asRc
    dsimp only
    rw [if_pos rfl, if_neg (by omega), ← hk, htk]
  · have e : dataB ⟨name, 1, cls, ttl, false, adr, [], []⟩ = adr.take 4 := rfl
    have e4 : (adr.take 4).length = 4 := by rw [List.length_take]; omega
    rw [e, e4] at htk
    rw [e]
    unfold dataV Rc.asks Qs.asRc
    dsimp only
    rw [if_neg (by decide), if_pos rfl, if_neg (by omega), htk, right_zeros hr.2.1]
  · have e : dataB ⟨name, 5, cls, ttl, false, zero16, target, []⟩ = writeB target := rfl
    rw [e] at hd ⊢
    have hrd := read_written hn hr.2.2.1 hd
    have hn5 : nameV (readv l n ((at_ : Int) + 2)) at_ (writeB target).length = (target, fl0) := by
      rw [show ((at_ : Int) + 2) = ((at_ + 2 : Nat) : Int) by omega, hrd]
      unfold nameV Rd.ok
      dsimp only
      rw [if_neg (by decide), if_neg (by omega)]
    unfold dataV Rc.asks Qs.asRc
    dsimp only
    rw [if_neg (by decide), if_neg (by decide), if_pos rfl, hn5]
    rfl
  · have e : dataB ⟨name, kind, cls, ttl, false, zero16, [], data⟩ = data := by
      unfold dataB
      dsimp only
      rw [if_neg (by omega), if_neg h5]
    rw [e] at htk ⊢
    unfold dataV Rc.asks Qs.asRc
    dsimp only
    rw [if_neg h28, if_neg h1, if_neg h5, htk]
theorem dataB_le {r : Rc} (hr : rightR r) : (dataB r).length ≤ 1000 := by
  unfold dataB
  split
  · rw [List.length_take]
    unfold widB
    split <;> omega
  · split
    · have h2 := hr.2.2.1.2
      unfold writeB
      rw [List.length_append, wireL_length]
      simp only [List.length_cons, List.length_nil]
      omega
    · exact hr.2.2.2.1
theorem writeRB_length (r : Rc) : (writeRB r).length = (writeQB r.asks).length + 6 + (dataB r).length := by
  unfold writeRB
  simp only [List.length_append, putn_length]
  omega
theorem back_r {l : List UInt8} {n : Nat} (hn : l.length = n) {r : Rc} (hr : rightR r) (hk : r.ok) (t0 : 0 ≤ r.ttl) (t1 : r.ttl < 4294967296) {at_ : Nat} {rest : List UInt8} (hat : at_ ≤ n) (hd : l.drop at_ = writeRB r ++ rest) : readRv l n at_ = ⟨r, at_ + (writeRB r).length, fl0⟩ := by
  have hl := room hn hd hat
  rw [writeRB_length] at hl ⊢
  unfold writeRB at hd
  rw [List.append_assoc, List.append_assoc, List.append_assoc] at hd
  unfold readRv
  rw [back_q hn (q := r.asks) hr.1 hat hd]
  have h1 := drop_on hd rfl
  have h2 := drop_on h1 (putn_length _ _)
  have h3 := drop_on h2 (putn_length _ _)
  have n1 := num4_put h1 t0 t1
  have n2 := num2_put h2 (show shortI ((dataB r).length : Nat) by have := dataB_le hr; unfold shortI; omega)
  have n2' : num2 l (at_ + (writeQB r.asks).length + 4) = (dataB r).length := by omega
  have hdat := data_back hn hr hk (at_ := at_ + (writeQB r.asks).length + 4) h3
  unfold readRq
  dsimp only
  rw [n1, n2', hdat]
  dsimp only
  rw [if_neg (by decide), if_neg (by omega), if_neg (by rw [if_neg (by omega)]; omega), if_neg (by decide), show at_ + (writeQB r.asks).length + 6 + (dataB r).length = at_ + ((writeQB r.asks).length + 6 + (dataB r).length) by omega]
/-- A record that is cut. -/
theorem cut_r {l : List UInt8} {n : Nat} (hn : l.length = n) {r : Rc} (hr : rightR r) {at_ k : Nat} (hat : at_ ≤ n) (hd : l.drop at_ = (writeRB r).take k) (h2 : k < (writeRB r).length) : (readRv l n at_).f.code = 3 := by
  have hkl : at_ + k = n := by
    have := congrArg List.length hd
    rw [List.length_drop, List.length_take] at this
    omega
  rw [writeRB_length, writeQB_length, show r.asks.name = r.name from rfl] at h2
  have hw : writeRB r = writeB r.name ++ ((putn r.kind 2 ++ putn r.cls 2) ++ (putn r.ttl 4 ++ (putn ((dataB r).length : Nat) 2 ++ dataB r))) := by
    unfold writeRB writeQB Rc.asks
    rw [List.append_assoc]
  by_cases h1 : k < (writeB r.name).length
  · have hdn : l.drop at_ = (writeB r.name).take k := by
      rw [hd, hw, List.take_append_of_le_length (by omega)]
    have hq := cut_name hn hr.1.1 hkl hdn h1
    have hq2 : readQv l n at_ = .bad (readv l n at_).f := by
      unfold readQv readQd
      rw [if_pos (by rw [show (readv l n (at_ : Int)).f.code = 3 from hq]; decide)]
    unfold readRv readRq
    rw [hq2, if_pos (by show (readv l n at_).f.code ≠ 0; rw [hq]; decide)]
    exact hq
  replace h1 : (writeB r.name).length ≤ k := by omega
  by_cases h4 : k < (writeB r.name).length + 4
  · have hd1 : l.drop at_ = writeB r.asks.name ++ ((putn r.kind 2 ++ putn r.cls 2) ++ (putn r.ttl 4 ++ (putn ((dataB r).length : Nat) 2 ++ dataB r))).take (k - (writeB r.name).length) := by
      rw [hd, hw, List.take_append, List.take_of_length_le h1]
      rfl
    have hq := cut_q hn (q := r.asks) hr.1 hat hd1 (by rw [List.length_take]; omega)
    unfold readRv readRq
    rw [if_pos (by rw [hq]; decide)]
    exact hq
  · have hd2 : l.drop at_ = writeQB r.asks ++ (putn r.ttl 4 ++ (putn ((dataB r).length : Nat) 2 ++ dataB r)).take (k - ((writeB r.name).length + 4)) := by
      rw [hd]
      unfold writeRB
      rw [List.take_append, writeQB_length, List.take_of_length_le (by rw [writeQB_length]; show (writeB r.name).length + 4 ≤ k; omega)]
      rfl
    unfold readRv
    rw [back_q hn (q := r.asks) hr.1 hat hd2, writeQB_length]
    show (readRq l n ⟨r.asks, at_ + ((writeB r.name).length + 4), fl0⟩).f.code = 3
    unfold readRq
    dsimp only
    rw [if_neg (by decide)]
    by_cases h8 : n < at_ + ((writeB r.name).length + 4) + 4
    · rw [if_pos h8]; rfl
    rw [if_neg h8]
    by_cases h10 : n < at_ + ((writeB r.name).length + 4) + 6
    · rw [if_pos h10, if_pos (by omega)]; rfl
    rw [if_neg h10]
    have e1 := drop_on hd2 (writeQB_length r.asks)
    rw [List.take_append, List.take_of_length_le (by rw [putn_length]; omega), putn_length] at e1
    have e2 := drop_on e1 (putn_length _ _)
    rw [List.take_append, List.take_of_length_le (by rw [putn_length]; omega), putn_length] at e2
    have n2 := num2_put e2 (show shortI ((dataB r).length : Nat) by have := dataB_le hr; unfold shortI; omega)
    have n2' : num2 l (at_ + ((writeB r.name).length + 4) + 4) = (dataB r).length := by
      have e3 : (r.asks.name) = r.name := rfl
      rw [e3] at n2
      omega
    rw [n2', if_pos (by omega)]
    rfl
end Go.Proofs.YtbikifaadpijnaaGreatDoor

namespace Go.Proofs.YtbikifaadpijnaaGreatDoor
open Go.RowKit
set_option maxRecDepth 100000

/-- A slice's head. -/
structure Sl where
  A : Option Addr
  n : Nat
  c : Nat
def Sl.zero : Sl := ⟨none, 0, 0⟩
def Sl.v (s : Sl) : Value := .slice s.A s.n s.c
/-- A message, but for what its lists hold. -/
structure Mh where
  id : Int
  reply : Bool
  opcode : Int
  code : Int
  flags : Int
def Mh.zero : Mh := ⟨0, false, 0, 0, 0⟩
/-- A message. -/
structure Ms where
  h : Mh
  qs : List Qs
  an : List Rc
  au : List Rc
  ex : List Rc
def Ms.zero : Ms := ⟨.zero, [], [], [], []⟩

/-! ### What is parsed -/
/-- So many things, from a place on. -/
structure Ls (α : Type) where
  xs : List α
  next : Nat
  f : Fl
def Ls.bad {α : Type} (f : Fl) : Ls α := ⟨[], 0, f⟩
def listV {α : Type} (rd : Nat → α × Nat × Fl) : Nat → Nat → Ls α
  | 0, p => ⟨[], p, fl0⟩
  | k + 1, p =>
    if (rd p).2.2.code ≠ 0 then .bad (rd p).2.2
    else if (listV rd k (rd p).2.1).f.code ≠ 0 then .bad (listV rd k (rd p).2.1).f
    else ⟨(rd p).1 :: (listV rd k (rd p).2.1).xs, (listV rd k (rd p).2.1).next, fl0⟩
def rdQ (l : List UInt8) (n : Nat) (p : Nat) : Qs × Nat × Fl := ((readQv l n (p : Int)).q, (readQv l n (p : Int)).next, (readQv l n (p : Int)).f)
def rdR (l : List UInt8) (n : Nat) (p : Nat) : Rc × Nat × Fl := ((readRv l n (p : Int)).r, (readRv l n (p : Int)).next, (readRv l n (p : Int)).f)
/-- What was read ahead of it, and it. -/
def Ls.behind {α : Type} (acc : List α) (t : Ls α) : Ls α := if t.f.code ≠ 0 then .bad t.f else ⟨acc ++ t.xs, t.next, fl0⟩
theorem listV_end {α : Type} (rd : Nat → α × Nat × Fl) (p : Nat) (acc : List α) : (listV rd 0 p).behind acc = ⟨acc, p, fl0⟩ := by
  unfold Ls.behind listV
  rw [if_neg (by simp [fl0]), List.append_nil]
theorem listV_bad {α : Type} {rd : Nat → α × Nat × Fl} {p : Nat} (k : Nat) (acc : List α) (h : (rd p).2.2.code ≠ 0) : (listV rd (k + 1) p).behind acc = .bad (rd p).2.2 := by
  unfold listV
  rw [if_pos h]
  unfold Ls.behind Ls.bad
  rw [if_pos h]
theorem listV_on {α : Type} {rd : Nat → α × Nat × Fl} {p : Nat} (k : Nat) (acc : List α) (h : (rd p).2.2.code = 0) : (listV rd (k + 1) p).behind acc = (listV rd k (rd p).2.1).behind (acc ++ [(rd p).1]) := by
  have h' : ¬ (rd p).2.2.code ≠ 0 := fun e => e h
  rw [listV, if_neg h']
  unfold Ls.behind
  by_cases hc : (listV rd k (rd p).2.1).f.code ≠ 0
  · rw [if_pos hc, if_pos hc]
    unfold Ls.bad
    dsimp only
    rw [if_pos hc]
  · rw [if_neg hc, if_neg hc]
    rw [if_neg (by simp [fl0])]
    simp
theorem listV_self {α : Type} (rd : Nat → α × Nat × Fl) : ∀ (k p : Nat), (listV rd k p).behind [] = listV rd k p
  | 0, p => by rw [listV_end]; rfl
  | k + 1, p => by
    unfold Ls.behind
    rw [listV]
    by_cases h : (rd p).2.2.code ≠ 0
    · rw [if_pos h]
      unfold Ls.bad
      dsimp only
      rw [if_pos h]
    rw [if_neg h]
    by_cases hc : (listV rd k (rd p).2.1).f.code ≠ 0
    · rw [if_pos hc]
      unfold Ls.bad
      dsimp only
      rw [if_pos hc]
    · rw [if_neg hc, if_neg (by simp [fl0]), List.nil_append]
/-- The head's numbers. -/
def hdN (l : List UInt8) (i : Nat) : Nat := num2 l (2 * i)
/-- A message's head, by its bits. -/
def begunV (id bits : Nat) : Mh := ⟨id, decide (bits / 32768 = 1), (bits / 2048 % 16 : Nat), (bits % 16 : Nat), (bits / 16 % 128 : Nat)⟩
/-- The message, and the place behind it. -/
structure Mw where
  m : Ms
  next : Nat
  f : Fl
def Mw.bad (f : Fl) : Mw := ⟨.zero, 0, f⟩
def wholeR (l : List UInt8) (n : Nat) (h : Nat → Nat) (q : Ls Qs) : Mw :=
  if q.f.code ≠ 0 then .bad q.f
  else if (listV (rdR l n) (h 3) q.next).f.code ≠ 0 then .bad (listV (rdR l n) (h 3) q.next).f
  else if (listV (rdR l n) (h 4) (listV (rdR l n) (h 3) q.next).next).f.code ≠ 0 then .bad (listV (rdR l n) (h 4) (listV (rdR l n) (h 3) q.next).next).f
  else if (listV (rdR l n) (h 5) (listV (rdR l n) (h 4) (listV (rdR l n) (h 3) q.next).next).next).f.code ≠ 0 then .bad (listV (rdR l n) (h 5) (listV (rdR l n) (h 4) (listV (rdR l n) (h 3) q.next).next).next).f
  else ⟨⟨begunV (h 0) (h 1), q.xs, (listV (rdR l n) (h 3) q.next).xs, (listV (rdR l n) (h 4) (listV (rdR l n) (h 3) q.next).next).xs, (listV (rdR l n) (h 5) (listV (rdR l n) (h 4) (listV (rdR l n) (h 3) q.next).next).next).xs⟩, (listV (rdR l n) (h 5) (listV (rdR l n) (h 4) (listV (rdR l n) (h 3) q.next).next).next).next, fl0⟩
def wholeV (l : List UInt8) (n : Nat) (h : Nat → Nat) : Mw := wholeR l n h (listV (rdQ l n) (h 2) 12)
/-- What is parsed. -/
def parseW (n : Nat) (x : Mw) : Ms × Fl := if x.f.code ≠ 0 then (.zero, x.f) else if x.next ≠ n then (.zero, ⟨7, x.next, true⟩) else (x.m, fl0)
def parseM (l : List UInt8) (n : Nat) : Ms × Fl :=
  if 4000 < n then (.zero, ⟨4, 0, false⟩)
  else if n < 12 then (.zero, ⟨3, 0, true⟩)
  else if 64 < hdN l 2 + hdN l 3 + hdN l 4 + hdN l 5 then (.zero, ⟨4, 4, true⟩)
  else parseW n (wholeV l n (hdN l))

/-! ### What may be written -/
def rightH (h : Mh) : Prop := (0 ≤ h.id ∧ h.id ≤ 65535) ∧ (0 ≤ h.opcode ∧ h.opcode ≤ 15) ∧ (0 ≤ h.flags ∧ h.flags ≤ 127) ∧ (0 ≤ h.code ∧ h.code ≤ 15)
instance (h : Mh) : Decidable (rightH h) := by unfold rightH; infer_instance
def bitsV (h : Mh) : Int := h.opcode * 2048 + h.flags * 16 + h.code + (if h.reply then 32768 else 0)
def recs (m : Ms) : List Rc := m.an ++ (m.au ++ m.ex)
def countM (m : Ms) : Nat := m.qs.length + (recs m).length
def rightM (m : Ms) : Prop := (rightH m.h ∧ countM m ≤ 64) ∧ (∀ q ∈ m.qs, rightQ q) ∧ ∀ r ∈ recs m, rightR r
instance (m : Ms) : Decidable (rightM m) := by unfold rightM; infer_instance
def headL (m : Ms) : List UInt8 := putn m.h.id 2 ++ (putn (bitsV m.h) 2 ++ (putn (m.qs.length : Nat) 2 ++ (putn (m.an.length : Nat) 2 ++ (putn (m.au.length : Nat) 2 ++ putn (m.ex.length : Nat) 2))))
def qsB (qs : List Qs) : List UInt8 := (qs.map writeQB).flatten
def rsB (rs : List Rc) : List UInt8 := (rs.map writeRB).flatten
def msgB (m : Ms) : List UInt8 := headL m ++ (qsB m.qs ++ rsB (recs m))
def writeMv (m : Ms) : List UInt8 := if rightM m ∧ (msgB m).length ≤ 4000 then msgB m else []
def writeMe (m : Ms) : Fl := if rightM m then (if (msgB m).length ≤ 4000 then fl0 else ⟨4, 0, false⟩) else ⟨1, 0, false⟩
end Go.Proofs.YtbikifaadpijnaaGreatDoor

namespace Go.Proofs.YtbikifaadpijnaaGreatDoor
open Go.RowKit
set_option maxRecDepth 100000

/-- What a record's bytes can hold. -/
def fitR (r : Rc) : Prop := rightR r ∧ r.ok ∧ 0 ≤ r.ttl ∧ r.ttl < 4294967296
theorem rsB_cons (r : Rc) (rs : List Rc) : rsB (r :: rs) = writeRB r ++ rsB rs := by simp [rsB]
theorem qsB_cons (q : Qs) (qs : List Qs) : qsB (q :: qs) = writeQB q ++ qsB qs := by simp [qsB]
theorem rsB_append (a b : List Rc) : rsB (a ++ b) = rsB a ++ rsB b := by simp [rsB]
theorem back_rs {l : List UInt8} {n : Nat} (hn : l.length = n) : ∀ (rs : List Rc) (p : Nat) (rest : List UInt8), (∀ r ∈ rs, fitR r) → p ≤ n → l.drop p = rsB rs ++ rest → listV (rdR l n) rs.length p = ⟨rs, p + (rsB rs).length, fl0⟩
  | [], p, rest, _, _, _ => rfl
  | r :: rs, p, rest, h, hp, hd => by
    obtain ⟨h1, h2, h3, h4⟩ := h r (by simp)
    rw [rsB_cons, List.append_assoc] at hd
    have hb := back_r hn h1 h2 h3 h4 hp hd
    have hroom := room hn hd hp
    have ih := back_rs hn rs (p + (writeRB r).length) rest (fun x hx => h x (by simp [hx])) (by omega) (drop_on hd rfl)
    have e2 : rdR l n p = (r, p + (writeRB r).length, fl0) := by
      unfold rdR
      rw [hb]
    show listV (rdR l n) (rs.length + 1) p = _
    rw [listV, e2]
    dsimp only
    rw [if_neg (show ¬ (fl0.code ≠ 0) by decide), ih]
    dsimp only
    rw [if_neg (show ¬ (fl0.code ≠ 0) by decide), rsB_cons, List.length_append, Nat.add_assoc]
theorem back_qs {l : List UInt8} {n : Nat} (hn : l.length = n) : ∀ (qs : List Qs) (p : Nat) (rest : List UInt8), (∀ q ∈ qs, rightQ q) → p ≤ n → l.drop p = qsB qs ++ rest → listV (rdQ l n) qs.length p = ⟨qs, p + (qsB qs).length, fl0⟩
  | [], p, rest, _, _, _ => rfl
  | q :: qs, p, rest, h, hp, hd => by
    have h1 := h q (by simp)
    rw [qsB_cons, List.append_assoc] at hd
    have hb := back_q hn h1 hp hd
    have hroom := room hn hd hp
    have ih := back_qs hn qs (p + (writeQB q).length) rest (fun x hx => h x (by simp [hx])) (by omega) (drop_on hd rfl)
    have e2 : rdQ l n p = (q, p + (writeQB q).length, fl0) := by
      unfold rdQ
      rw [hb]
    show listV (rdQ l n) (qs.length + 1) p = _
    rw [listV, e2]
    dsimp only
    rw [if_neg (show ¬ (fl0.code ≠ 0) by decide), ih]
    dsimp only
    rw [if_neg (show ¬ (fl0.code ≠ 0) by decide), qsB_cons, List.length_append, Nat.add_assoc]
theorem begun_bits {h : Mh} (hr : rightH h) {a b : Nat} (ha : (a : Int) = h.id) (hb : (b : Int) = bitsV h) : begunV a b = h := by
  obtain ⟨id, reply, opcode, code, flags⟩ := h
  obtain ⟨⟨_, _⟩, ⟨h2, h3⟩, ⟨h4, h5⟩, h6, h7⟩ := hr
  unfold bitsV at hb
  dsimp only at ha hb h2 h3 h4 h5 h6 h7
  unfold begunV
  have e1 : decide (b / 32768 = 1) = reply := by
    cases reply with
    | true =>
      rw [if_pos rfl] at hb
      exact decide_eq_true (by omega)
    | false =>
      rw [if_neg (by decide)] at hb
      exact decide_eq_false (by omega)
  have hx : ∃ x : Nat, (x = 0 ∨ x = 16) ∧ (b : Int) = opcode * 2048 + flags * 16 + code + x * 2048 := by
    cases reply with
    | true => rw [if_pos rfl] at hb; exact ⟨16, .inr rfl, by omega⟩
    | false => rw [if_neg (by decide)] at hb; exact ⟨0, .inl rfl, by omega⟩
  obtain ⟨x, hx, hb2⟩ := hx
  have e2 : ((b / 2048 % 16 : Nat) : Int) = opcode := by rcases hx with rfl | rfl <;> omega
  have e3 : ((b % 16 : Nat) : Int) = code := by rcases hx with rfl | rfl <;> omega
  have e4 : ((b / 16 % 128 : Nat) : Int) = flags := by rcases hx with rfl | rfl <;> omega
  rw [ha, e1, e2, e3, e4]
theorem back_whole {m : Ms} (hr : rightM m) (hk : ∀ r ∈ recs m, fitR r) {l more : List UInt8} {n : Nat} (hn : l.length = n) (hl : l = msgB m ++ more) :
    wholeV l n (hdN l) = ⟨m, (msgB m).length, fl0⟩ ∧ hdN l 2 + hdN l 3 + hdN l 4 + hdN l 5 = countM m := by
  have h0 : l.drop 0 = putn m.h.id 2 ++ (putn (bitsV m.h) 2 ++ (putn (m.qs.length : Nat) 2 ++ (putn (m.an.length : Nat) 2 ++ (putn (m.au.length : Nat) 2 ++ (putn (m.ex.length : Nat) 2 ++ (qsB m.qs ++ (rsB m.an ++ (rsB m.au ++ (rsB m.ex ++ more))))))))) := by
    rw [List.drop_zero, hl]
    unfold msgB headL recs
    rw [rsB_append, rsB_append]
    simp only [List.append_assoc]
  have h2 : l.drop 2 = _ := drop_on h0 rfl
  have h4 : l.drop 4 = _ := drop_on h2 rfl
  have h6 : l.drop 6 = _ := drop_on h4 rfl
  have h8 : l.drop 8 = _ := drop_on h6 rfl
  have h10 : l.drop 10 = _ := drop_on h8 rfl
  have h12 : l.drop 12 = _ := drop_on h10 rfl
  obtain ⟨⟨hh, hc⟩, hq, hrr⟩ := hr
  have hc2 : m.qs.length + (m.an.length + (m.au.length + m.ex.length)) ≤ 64 := by
    unfold countM recs at hc
    rw [List.length_append, List.length_append] at hc
    exact hc
  have hb2 : 0 ≤ bitsV m.h ∧ bitsV m.h ≤ 65535 := by
    obtain ⟨_, ⟨a1, a2⟩, ⟨a3, a4⟩, a5, a6⟩ := hh
    unfold bitsV
    split <;> omega
  have n0 : ((hdN l 0 : Nat) : Int) = m.h.id := num2_put h0 ⟨hh.1.1, hh.1.2⟩
  have n1 : ((hdN l 1 : Nat) : Int) = bitsV m.h := num2_put h2 hb2
  have sh : ∀ k : Nat, k ≤ 64 → shortI (k : Int) := fun k h => ⟨by omega, by omega⟩
  have n2 : hdN l 2 = m.qs.length := Int.ofNat.inj (num2_put h4 (sh m.qs.length (by omega)))
  have n3 : hdN l 3 = m.an.length := Int.ofNat.inj (num2_put h6 (sh m.an.length (by omega)))
  have n4 : hdN l 4 = m.au.length := Int.ofNat.inj (num2_put h8 (sh m.au.length (by omega)))
  have n5 : hdN l 5 = m.ex.length := Int.ofNat.inj (num2_put h10 (sh m.ex.length (by omega)))
  have hlen : l.length = n := hn
  have r0 := room hn h0 (Nat.zero_le _)
  have r12 : 12 ≤ n := by
    have := congrArg List.length h0
    simp only [List.length_append, List.drop_zero, putn_length] at this
    omega
  have q1 := back_qs hn m.qs 12 _ hq r12 h12
  have t1 := room hn h12 r12
  have d1 := drop_on h12 rfl
  have ma : ∀ r ∈ m.an, fitR r := fun r h => hk r (by unfold recs; simp [h])
  have mu : ∀ r ∈ m.au, fitR r := fun r h => hk r (by unfold recs; simp [h])
  have me : ∀ r ∈ m.ex, fitR r := fun r h => hk r (by unfold recs; simp [h])
  have q2 := back_rs hn m.an _ _ ma (by omega) d1
  have t2 := room hn d1 (by omega)
  have d2 := drop_on d1 rfl
  have q3 := back_rs hn m.au _ _ mu (by omega) d2
  have t3 := room hn d2 (by omega)
  have d3 := drop_on d2 rfl
  have q4 := back_rs hn m.ex _ _ me (by omega) d3
  refine ⟨?_, by unfold countM recs; rw [n2, n3, n4, n5, List.length_append, List.length_append]; omega⟩
  unfold wholeV
  rw [n2, q1]
  unfold wholeR
  dsimp only
  rw [if_neg (show ¬ (fl0.code ≠ 0) by decide), n3, q2]
  dsimp only
  rw [if_neg (show ¬ (fl0.code ≠ 0) by decide), n4, q3]
  dsimp only
  rw [if_neg (show ¬ (fl0.code ≠ 0) by decide), n5, q4]
  dsimp only
  rw [if_neg (show ¬ (fl0.code ≠ 0) by decide), begun_bits hh n0 n1]
  have e : (msgB m).length = 12 + (qsB m.qs).length + (rsB m.an).length + (rsB m.au).length + (rsB m.ex).length := by
    unfold msgB headL recs
    rw [rsB_append, rsB_append]
    simp only [List.length_append, putn_length]
    omega
  rw [e]
/-- What is written is parsed; with bytes behind it, it is told as wrong at their place. -/
theorem back_parse {m : Ms} (hr : rightM m) (hk : ∀ r ∈ recs m, fitR r) {l more : List UInt8} {n : Nat} (hn : l.length = n) (hl : l = msgB m ++ more) (h4 : n ≤ 4000) :
    parseM l n = if more = [] then (m, fl0) else (.zero, ⟨7, (msgB m).length, true⟩) := by
  obtain ⟨hw, hc⟩ := back_whole hr hk hn hl
  have h12 : 12 ≤ (msgB m).length := by
    unfold msgB headL
    simp only [List.length_append, putn_length]
    omega
  have hnl : (msgB m).length + more.length = n := by rw [← hn, hl, List.length_append]
  unfold parseM
  rw [if_neg (by omega), if_neg (by omega), if_neg (by rw [hc]; have := hr.1.2; omega), hw]
  unfold parseW
  dsimp only
  rw [if_neg (show ¬ (fl0.code ≠ 0) by decide)]
  cases more with
  | nil => rw [if_neg (by simp at hnl; omega), if_pos rfl]
  | cons a rest => rw [if_pos (by simp at hnl; omega), if_neg (by simp)]
end Go.Proofs.YtbikifaadpijnaaGreatDoor

namespace Go.Proofs.YtbikifaadpijnaaGreatDoor
open Go.RowKit
set_option maxRecDepth 100000

theorem cut_qq {l : List UInt8} {n : Nat} (hn : l.length = n) {q : Qs} (hq : rightQ q) {at_ k : Nat} (hat : at_ ≤ n) (hd : l.drop at_ = (writeQB q).take k) (h2 : k < (writeQB q).length) : (readQv l n at_).f.code ≠ 0 := by
  have hkl : at_ + k = n := by
    have := congrArg List.length hd
    rw [List.length_drop, List.length_take] at this
    omega
  rw [writeQB_length] at h2
  by_cases h1 : k < (writeB q.name).length
  · have hdn : l.drop at_ = (writeB q.name).take k := by
      rw [hd]
      unfold writeQB
      rw [List.take_append_of_le_length (by omega)]
    have h3 := cut_name hn hq.1 hkl hdn h1
    unfold readQv readQd
    rw [if_pos (by rw [h3]; decide)]
    show (readv l n at_).f.code ≠ 0
    rw [h3]
    decide
  · have hd1 : l.drop at_ = writeB q.name ++ (putn q.kind 2 ++ putn q.cls 2).take (k - (writeB q.name).length) := by
      rw [hd]
      unfold writeQB
      rw [List.take_append, List.take_of_length_le (by omega)]
    rw [cut_q hn hq hat hd1 (by rw [List.length_take]; omega)]
    decide
theorem cut_rs {l : List UInt8} {n : Nat} (hn : l.length = n) : ∀ (rs : List Rc) (p k : Nat), (∀ r ∈ rs, fitR r) → p ≤ n → l.drop p = (rsB rs).take k → k < (rsB rs).length → (listV (rdR l n) rs.length p).f.code ≠ 0
  | [], p, k, _, _, _, hk => by simp [rsB] at hk
  | r :: rs, p, k, h, hp, hd, hk => by
    obtain ⟨h1, h2, h3, h4⟩ := h r (by simp)
    show (listV (rdR l n) (rs.length + 1) p).f.code ≠ 0
    rw [rsB_cons, List.length_append] at hk
    rw [rsB_cons, List.take_append] at hd
    by_cases hc : k < (writeRB r).length
    · rw [show k - (writeRB r).length = 0 by omega, List.take_zero, List.append_nil] at hd
      have h5 := cut_r hn h1 hp hd hc
      rw [listV]
      have e2 : (rdR l n p).2.2.code ≠ 0 := by
        show (readRv l n p).f.code ≠ 0
        rw [h5]
        decide
      rw [if_pos e2]
      exact e2
    · rw [List.take_of_length_le (by omega)] at hd
      have hb := back_r hn h1 h2 h3 h4 hp hd
      have hroom := room hn hd hp
      have ih := cut_rs hn rs (p + (writeRB r).length) (k - (writeRB r).length) (fun x hx => h x (by simp [hx])) (by omega) (drop_on hd rfl) (by omega)
      have e2 : rdR l n p = (r, p + (writeRB r).length, fl0) := by
        unfold rdR
        rw [hb]
      rw [listV, e2]
      dsimp only
      rw [if_neg (show ¬ (fl0.code ≠ 0) by decide), if_pos ih]
      exact ih
theorem cut_qs {l : List UInt8} {n : Nat} (hn : l.length = n) : ∀ (qs : List Qs) (p k : Nat), (∀ q ∈ qs, rightQ q) → p ≤ n → l.drop p = (qsB qs).take k → k < (qsB qs).length → (listV (rdQ l n) qs.length p).f.code ≠ 0
  | [], p, k, _, _, _, hk => by simp [qsB] at hk
  | q :: qs, p, k, h, hp, hd, hk => by
    have h1 := h q (by simp)
    show (listV (rdQ l n) (qs.length + 1) p).f.code ≠ 0
    rw [qsB_cons, List.length_append] at hk
    rw [qsB_cons, List.take_append] at hd
    by_cases hc : k < (writeQB q).length
    · rw [show k - (writeQB q).length = 0 by omega, List.take_zero, List.append_nil] at hd
      have e2 : (rdQ l n p).2.2.code ≠ 0 := cut_qq hn h1 hp hd hc
      rw [listV, if_pos e2]
      exact e2
    · rw [List.take_of_length_le (by omega)] at hd
      have hb := back_q hn h1 hp hd
      have hroom := room hn hd hp
      have ih := cut_qs hn qs (p + (writeQB q).length) (k - (writeQB q).length) (fun x hx => h x (by simp [hx])) (by omega) (drop_on hd rfl) (by omega)
      have e2 : rdQ l n p = (q, p + (writeQB q).length, fl0) := by
        unfold rdQ
        rw [hb]
      rw [listV, e2]
      dsimp only
      rw [if_neg (show ¬ (fl0.code ≠ 0) by decide), if_pos ih]
      exact ih
/-- A message that is cut is none. -/
theorem cut_parse {m : Ms} (hr : rightM m) (hk : ∀ r ∈ recs m, fitR r) {l : List UInt8} {c : Nat} (hc : c < (msgB m).length) (hl : l = (msgB m).take c) : (parseM l c).2.code ≠ 0 := by
  have hn : l.length = c := by rw [hl, List.length_take]; omega
  unfold parseM
  by_cases h4 : 4000 < c
  · rw [if_pos h4]; decide
  rw [if_neg h4]
  by_cases h12 : c < 12
  · rw [if_pos h12]; decide
  rw [if_neg h12]
  by_cases hs : 64 < hdN l 2 + hdN l 3 + hdN l 4 + hdN l 5
  · rw [if_pos hs]; decide
  rw [if_neg hs]
  have hh : (headL m).length = 12 := by
    unfold headL
    simp only [List.length_append, putn_length]
  have hml : (msgB m).length = 12 + (qsB m.qs ++ rsB (recs m)).length := by
    unfold msgB
    rw [List.length_append, hh]
  have h0 : l.drop 0 = putn m.h.id 2 ++ (putn (bitsV m.h) 2 ++ (putn (m.qs.length : Nat) 2 ++ (putn (m.an.length : Nat) 2 ++ (putn (m.au.length : Nat) 2 ++ (putn (m.ex.length : Nat) 2 ++ (qsB m.qs ++ rsB (recs m)).take (c - 12)))))) := by
    rw [List.drop_zero, hl]
    unfold msgB
    rw [List.take_append, List.take_of_length_le (by omega), hh]
    unfold headL
    simp only [List.append_assoc]
  have h2 : l.drop 2 = _ := drop_on h0 rfl
  have h4' : l.drop 4 = _ := drop_on h2 rfl
  have h6 : l.drop 6 = _ := drop_on h4' rfl
  have h8 : l.drop 8 = _ := drop_on h6 rfl
  have h10 : l.drop 10 = _ := drop_on h8 rfl
  have d0 : l.drop 12 = _ := drop_on h10 rfl
  obtain ⟨⟨_, hcm⟩, hq, hrr⟩ := hr
  have hc2 : m.qs.length + (m.an.length + (m.au.length + m.ex.length)) ≤ 64 := by
    unfold countM recs at hcm
    rw [List.length_append, List.length_append] at hcm
    exact hcm
  have sh : ∀ k : Nat, k ≤ 64 → shortI (k : Int) := fun k h => ⟨by omega, by omega⟩
  have n2 : hdN l 2 = m.qs.length := Int.ofNat.inj (num2_put h4' (sh m.qs.length (by omega)))
  have n3 : hdN l 3 = m.an.length := Int.ofNat.inj (num2_put h6 (sh m.an.length (by omega)))
  have n4 : hdN l 4 = m.au.length := Int.ofNat.inj (num2_put h8 (sh m.au.length (by omega)))
  have n5 : hdN l 5 = m.ex.length := Int.ofNat.inj (num2_put h10 (sh m.ex.length (by omega)))
  clear h0 h2 h4' h6 h8 h10
  have ma : ∀ r ∈ m.an, fitR r := fun r h => hk r (by unfold recs; simp [h])
  have mu : ∀ r ∈ m.au, fitR r := fun r h => hk r (by unfold recs; simp [h])
  have me : ∀ r ∈ m.ex, fitR r := fun r h => hk r (by unfold recs; simp [h])
  have hf : (wholeV l c (hdN l)).f.code ≠ 0 := by
    obtain ⟨k, hk0⟩ : ∃ k, c - 12 = k := ⟨_, rfl⟩
    rw [hk0, List.take_append] at d0
    have hkl : k < (qsB m.qs).length + ((rsB m.an).length + ((rsB m.au).length + (rsB m.ex).length)) := by
      have e : (qsB m.qs ++ rsB (recs m)).length = (qsB m.qs).length + ((rsB m.an).length + ((rsB m.au).length + (rsB m.ex).length)) := by
        unfold recs
        rw [rsB_append, rsB_append]
        simp only [List.length_append]
      omega
    unfold wholeV wholeR
    rw [n2]
    by_cases k1 : k < (qsB m.qs).length
    · rw [show k - (qsB m.qs).length = 0 by omega, List.take_zero, List.append_nil] at d0
      have e := cut_qs hn m.qs 12 k hq (by omega) d0 k1
      rw [if_pos e]
      exact e
    rw [List.take_of_length_le (by omega)] at d0
    have q1 := back_qs hn m.qs 12 _ hq (by omega) d0
    have t1 := room hn d0 (by omega)
    have d1 := drop_on d0 rfl
    rw [q1]
    dsimp only
    rw [if_neg (show ¬ (fl0.code ≠ 0) by decide), n3]
    obtain ⟨j, hj0⟩ : ∃ j, k - (qsB m.qs).length = j := ⟨_, rfl⟩
    rw [hj0] at d1
    unfold recs at d1
    rw [rsB_append, List.take_append] at d1
    by_cases k2 : j < (rsB m.an).length
    · rw [show j - (rsB m.an).length = 0 by omega, List.take_zero, List.append_nil] at d1
      have e := cut_rs hn m.an _ j ma (by omega) d1 k2
      rw [if_pos e]
      exact e
    rw [List.take_of_length_le (by omega)] at d1
    have q2 := back_rs hn m.an _ _ ma (by omega) d1
    have t2 := room hn d1 (by omega)
    have d2 := drop_on d1 rfl
    rw [q2]
    dsimp only
    rw [if_neg (show ¬ (fl0.code ≠ 0) by decide), n4]
    obtain ⟨i, hi0⟩ : ∃ i, j - (rsB m.an).length = i := ⟨_, rfl⟩
    rw [hi0, rsB_append, List.take_append] at d2
    by_cases k3 : i < (rsB m.au).length
    · rw [show i - (rsB m.au).length = 0 by omega, List.take_zero, List.append_nil] at d2
      have e := cut_rs hn m.au _ i mu (by omega) d2 k3
      rw [if_pos e]
      exact e
    rw [List.take_of_length_le (by omega)] at d2
    have q3 := back_rs hn m.au _ _ mu (by omega) d2
    have t3 := room hn d2 (by omega)
    have d3 := drop_on d2 rfl
    rw [q3]
    dsimp only
    rw [if_neg (show ¬ (fl0.code ≠ 0) by decide), n5]
    have e := cut_rs hn m.ex _ (i - (rsB m.au).length) me (by omega) d3 (by omega)
    rw [if_pos e]
    exact e
  unfold parseW
  rw [if_pos hf]
  exact hf
/-- Counts that are too great. -/
theorem big_parse {l : List UInt8} {n : Nat} (h4 : n ≤ 4000) (h12 : 12 ≤ n) (hs : 64 < hdN l 4) : parseM l n = (.zero, ⟨4, 4, true⟩) := by
  unfold parseM
  rw [if_neg (by omega), if_neg (by omega), if_pos (by omega)]
end Go.Proofs.YtbikifaadpijnaaGreatDoor

namespace Go.Proofs.YtbikifaadpijnaaGreatDoor
open Go.RowKit
set_option maxRecDepth 100000

def GoodS (s : Rs) : Prop := ∃ ls : List (List UInt8), s.name = ls.foldl dotted [] ∧ (∀ x ∈ ls, labOk x) ∧ s.size = 1 + sizeL ls ∧ s.size ≤ 255
theorem sizeL_snoc (ls : List (List UInt8)) (x : List UInt8) : sizeL (ls ++ [x]) = sizeL ls + (1 + x.length) := by simp [sizeL]
theorem rstep_good {l : List UInt8} {n : Nat} {s s' : Rs} (hn : l.length = n) (hg : GoodS s) (h : rstep l n s = .inl s') : GoodS s' := by
  obtain ⟨ls, h1, h2, h3, h4⟩ := hg
  unfold rstep at h
  split at h
  · cases h
  split at h
  · cases h
  split at h
  · split at h
    · cases h
    rename_i hfit
    split at h
    · cases h
    rename_i hok
    split at h
    · cases h
    cases h
    have hok' : labOk (lowL ((l.drop (s.at_ + 1)).take (bat l s.at_))) := Classical.not_not.1 hok
    have hlen : (lowL ((l.drop (s.at_ + 1)).take (bat l s.at_))).length = bat l s.at_ := by
      unfold lowL
      rw [List.length_map, List.length_take, List.length_drop]
      omega
    refine ⟨ls ++ [lowL ((l.drop (s.at_ + 1)).take (bat l s.at_))], ?_, ?_, ?_, ?_⟩
    · rw [List.foldl_append, ← h1]
      rfl
    · intro x hx
      rcases List.mem_append.1 hx with hx | hx
      · exact h2 x hx
      · rw [List.mem_singleton.1 hx]; exact hok'
    · rw [sizeL_snoc, hlen]
      dsimp only
      omega
    · dsimp only
      omega
  · split at h
    · split at h
      · cases h
      split at h
      · cases h
      · cases h
        exact ⟨ls, h1, h2, h3, h4⟩
    · cases h
theorem rstep_end {l : List UInt8} {n : Nat} {s : Rs} {r : Rd} (h : rstep l n s = .inr r) (hr : r.f.code = 0) : r.name = s.name := by
  unfold rstep at h
  split at h
  · cases h; exact absurd hr (by unfold Rd.bad; show ¬ (3 : Int) = 0; decide)
  split at h
  · cases h; rfl
  split at h
  · split at h
    · cases h; exact absurd hr (by unfold Rd.bad; show ¬ (3 : Int) = 0; decide)
    split at h
    · cases h; exact absurd hr (by unfold Rd.bad; show ¬ (12 : Int) = 0; decide)
    split at h
    · cases h; exact absurd hr (by unfold Rd.bad; show ¬ (13 : Int) = 0; decide)
    · cases h
  · split at h
    · split at h
      · cases h; exact absurd hr (by unfold Rd.bad; show ¬ (3 : Int) = 0; decide)
      split at h
      · cases h; exact absurd hr (by unfold Rd.bad; show ¬ (14 : Int) = 0; decide)
      · cases h
    · cases h; exact absurd hr (by unfold Rd.bad; show ¬ (12 : Int) = 0; decide)
theorem good_right {s : Rs} (h : GoodS s) : rightN s.name := by
  obtain ⟨ls, h1, h2, h3, h4⟩ := h
  rw [h1, foldl_dotted_nil (fun x hx => labOk_ne (h2 x hx))]
  unfold rightN
  rw [join_labs (fun x hx => ⟨labOk_ne (h2 x hx), (h2 x hx).1⟩)]
  exact ⟨h2, by omega⟩
theorem rrun_right {l : List UInt8} {n : Nat} (hn : l.length = n) : ∀ (f : Nat) (s : Rs), GoodS s → (rrun l n f s).f.code = 0 → rightN (rrun l n f s).name
  | 0, s, _, _ => by show rightN []; decide +kernel
  | f + 1, s, hg, hc => by
    unfold rrun at hc ⊢
    cases h : rstep l n s with
    | inr r =>
      rw [h] at hc
      show rightN r.name
      rw [rstep_end h hc]
      exact good_right hg
    | inl s' =>
      rw [h] at hc
      exact rrun_right hn f s' (rstep_good hn hg h) hc
theorem read_right {l : List UInt8} {n : Nat} (hn : l.length = n) (at_ : Int) (h : (readv l n at_).f.code = 0) : rightN (readv l n at_).name := by
  unfold readv at h ⊢
  by_cases h0 : at_ < 0
  · rw [if_pos h0] at h
    exact absurd h (by show ¬ (1 : Int) = 0; decide)
  rw [if_neg h0] at h ⊢
  exact rrun_right hn _ _ ⟨[], rfl, (fun x hx => by cases hx), rfl, by show 1 ≤ 255; omega⟩ h
theorem right_nil' : rightN [] := by decide +kernel
theorem readQ_parts {l : List UInt8} {n : Nat} {at_ : Int} (h : (readQv l n at_).f.code = 0) : (readv l n at_).f.code = 0 ∧ (readQv l n at_).q = ⟨(readv l n at_).name, num2 l (readv l n at_).next, num2 l ((readv l n at_).next + 2)⟩ ∧ (readQv l n at_).next = (readv l n at_).next + 4 ∧ (readv l n at_).next + 4 ≤ n := by
  unfold readQv readQd at h ⊢
  generalize readv l n at_ = d at h ⊢
  by_cases h1 : d.f.code ≠ 0
  · rw [if_pos h1] at h
    exact absurd h h1
  rw [if_neg h1] at h ⊢
  by_cases h2 : n < d.next + 2
  · rw [if_pos h2] at h
    exact absurd h (by show ¬ (3 : Int) = 0; decide)
  rw [if_neg h2] at h ⊢
  by_cases h3 : n < d.next + 4
  · rw [if_pos h3] at h
    exact absurd h (by show ¬ (3 : Int) = 0; decide)
  rw [if_neg h3]
  exact ⟨Classical.not_not.1 h1, rfl, rfl, by omega⟩
theorem readQ_right {l : List UInt8} {n : Nat} (hn : l.length = n) {at_ : Int} (h : (readQv l n at_).f.code = 0) : rightQ (readQv l n at_).q := by
  obtain ⟨h1, h2, _, _⟩ := readQ_parts h
  rw [h2]
  have a := num2_lt l (readv l n at_).next
  have b := num2_lt l ((readv l n at_).next + 2)
  exact ⟨read_right hn at_ h1, ⟨by show (0 : Int) ≤ ((num2 l (readv l n at_).next : Nat) : Int); omega, by show ((num2 l (readv l n at_).next : Nat) : Int) ≤ 65535; omega⟩, ⟨by show (0 : Int) ≤ ((num2 l ((readv l n at_).next + 2) : Nat) : Int); omega, by show ((num2 l ((readv l n at_).next + 2) : Nat) : Int) ≤ 65535; omega⟩⟩
theorem data_right {l : List UInt8} {n : Nat} (hn : l.length = n) {q : Qs} {t : Nat} (hq : rightQ q) (ht : t < 4294967296) {at_ k : Nat} (hk : at_ + 2 + k ≤ n) (h : (dataV l n (q.asRc t) at_ k).2.code = 0) (hd : (dataV l n (q.asRc t) at_ k).1.data.length ≤ 1000) : fitR (dataV l n (q.asRc t) at_ k).1 := by
  have z16 : zero16.length = 16 := rfl
  unfold dataV at h hd ⊢
  have ek : (q.asRc t).kind = q.kind := rfl
  by_cases h28 : (q.asRc t).kind = 28
  · rw [if_pos h28] at h hd ⊢
    by_cases hk2 : k ≠ 16
    · rw [if_pos hk2] at h
      exact absurd h (by show ¬ (7 : Int) = 0; decide)
    rw [if_neg hk2]
    refine ⟨⟨hq, (fun h => by cases h), right_nil', Nat.zero_le _, ?_⟩, ?_, by show (0 : Int) ≤ (t : Int); omega, by show (t : Int) < 4294967296; omega⟩
    · unfold alikeV bareV
      dsimp only
      rw [if_pos h28]
      exact ⟨⟨rfl, rfl⟩, rfl, rfl⟩
    · show ((l.drop (at_ + 2)).take 16).length = 16
      rw [List.length_take, List.length_drop]
      omega
  rw [if_neg h28] at h hd ⊢
  by_cases h1 : (q.asRc t).kind = 1
  · rw [if_pos h1] at h hd ⊢
    by_cases hk2 : k ≠ 4
    · rw [if_pos hk2] at h
      exact absurd h (by show ¬ (7 : Int) = 0; decide)
    rw [if_neg hk2]
    have hl4 : ((l.drop (at_ + 2)).take 4).length = 4 := by
      rw [List.length_take, List.length_drop]
      omega
    refine ⟨⟨hq, (fun _ => List.drop_left' hl4), right_nil', Nat.zero_le _, ?_⟩, ?_, by show (0 : Int) ≤ (t : Int); omega, by show (t : Int) < 4294967296; omega⟩
    · unfold alikeV bareV
      dsimp only
      rw [if_neg h28, if_pos h1]
      exact ⟨⟨rfl, rfl⟩, rfl, rfl⟩
    · show ((l.drop (at_ + 2)).take 4 ++ zero12).length = 16
      rw [List.length_append, hl4]
      rfl
  rw [if_neg h1] at h hd ⊢
  by_cases h5 : (q.asRc t).kind = 5
  · rw [if_pos h5] at h hd ⊢
    by_cases hc : (nameV (readv l n ((at_ : Int) + 2)) at_ k).2.code ≠ 0
    · rw [if_pos hc] at h
      exact absurd h hc
    rw [if_neg hc]
    have hnm : rightN (nameV (readv l n ((at_ : Int) + 2)) at_ k).1 := by
      unfold nameV at hc ⊢
      by_cases a1 : (readv l n ((at_ : Int) + 2)).f.code ≠ 0
      · rw [if_pos a1]; exact right_nil'
      rw [if_neg a1]
      by_cases a2 : (readv l n ((at_ : Int) + 2)).next ≠ at_ + 2 + k
      · rw [if_pos a2]; exact right_nil'
      rw [if_neg a2]
      exact read_right hn _ (Classical.not_not.1 a1)
    refine ⟨⟨hq, (fun _ => rfl), hnm, Nat.zero_le _, ?_⟩, z16, by show (0 : Int) ≤ (t : Int); omega, by show (t : Int) < 4294967296; omega⟩
    unfold alikeV bareV
    dsimp only
    rw [if_neg h28, if_neg h1, if_pos h5]
    exact ⟨⟨rfl, rfl⟩, rfl, rfl⟩
  rw [if_neg h5] at h hd ⊢
  refine ⟨⟨hq, (fun _ => rfl), right_nil', hd, ?_⟩, z16, by show (0 : Int) ≤ (t : Int); omega, by show (t : Int) < 4294967296; omega⟩
  unfold alikeV bareV
  dsimp only
  rw [if_neg h28, if_neg h1, if_neg h5]
  exact ⟨⟨rfl, rfl⟩, rfl, rfl⟩
theorem readR_right {l : List UInt8} {n : Nat} (hn : l.length = n) {at_ : Int} (h : (readRv l n at_).f.code = 0) (hd : (readRv l n at_).r.data.length ≤ 1000) : fitR (readRv l n at_).r := by
  unfold readRv readRq at h hd ⊢
  by_cases h1 : (readQv l n at_).f.code ≠ 0
  · rw [if_pos h1] at h
    exact absurd h h1
  rw [if_neg h1] at h hd ⊢
  have hq := readQ_right hn (Classical.not_not.1 h1)
  generalize readQv l n at_ = q at h hd hq ⊢
  by_cases h2 : n < q.next + 4
  · rw [if_pos h2] at h
    exact absurd h (by show ¬ (3 : Int) = 0; decide)
  rw [if_neg h2] at h hd ⊢
  by_cases h3 : n < q.next + 6 + (if n < q.next + 6 then 0 else num2 l (q.next + 4))
  · rw [if_pos h3] at h
    exact absurd h (by show ¬ (3 : Int) = 0; decide)
  rw [if_neg h3] at h hd ⊢
  have h6 : ¬ n < q.next + 6 := fun e => h3 (by rw [if_pos e]; omega)
  rw [if_neg h6] at h3
  by_cases h4 : (dataV l n (q.q.asRc (num4 l q.next)) (q.next + 4) (num2 l (q.next + 4))).2.code ≠ 0
  · rw [if_pos h4] at h
    exact absurd h h4
  rw [if_neg h4] at hd ⊢
  exact data_right hn hq (num4_lt _ _) (by omega) (Classical.not_not.1 h4) hd
theorem listV_mem {α : Type} {rd : Nat → α × Nat × Fl} : ∀ (k p : Nat), (listV rd k p).f.code = 0 → (listV rd k p).xs.length = k ∧ ∀ x ∈ (listV rd k p).xs, ∃ p', (rd p').2.2.code = 0 ∧ x = (rd p').1
  | 0, p, _ => ⟨rfl, fun x hx => by cases hx⟩
  | k + 1, p, h => by
    rw [listV] at h ⊢
    by_cases h1 : (rd p).2.2.code ≠ 0
    · rw [if_pos h1] at h
      exact absurd h h1
    rw [if_neg h1] at h ⊢
    by_cases h2 : (listV rd k (rd p).2.1).f.code ≠ 0
    · rw [if_pos h2] at h
      exact absurd h h2
    rw [if_neg h2]
    obtain ⟨e1, e2⟩ := listV_mem k (rd p).2.1 (Classical.not_not.1 h2)
    refine ⟨by show _ + 1 = _; rw [e1], fun x hx => ?_⟩
    rcases List.mem_cons.1 hx with rfl | hx
    · exact ⟨p, Classical.not_not.1 h1, rfl⟩
    · exact e2 x hx
theorem begun_right {id bits : Nat} (h1 : id < 65536) : rightH (begunV id bits) := by
  unfold rightH begunV
  dsimp only
  omega
/-- What is parsed may be written, where no record bears too much. -/
theorem parse_right {l : List UInt8} {n : Nat} (hn : l.length = n) (h : (parseM l n).2.code = 0) (hd : ∀ r ∈ recs (parseM l n).1, r.data.length ≤ 1000) : rightM (parseM l n).1 ∧ ∀ r ∈ recs (parseM l n).1, fitR r := by
  unfold parseM at h hd ⊢
  by_cases h1 : 4000 < n
  · rw [if_pos h1] at h
    exact absurd h (by show ¬ (4 : Int) = 0; decide)
  rw [if_neg h1] at h hd ⊢
  by_cases h2 : n < 12
  · rw [if_pos h2] at h
    exact absurd h (by show ¬ (3 : Int) = 0; decide)
  rw [if_neg h2] at h hd ⊢
  by_cases h3 : 64 < hdN l 2 + hdN l 3 + hdN l 4 + hdN l 5
  · rw [if_pos h3] at h
    exact absurd h (by show ¬ (4 : Int) = 0; decide)
  rw [if_neg h3] at h hd ⊢
  unfold parseW at h hd ⊢
  by_cases h4 : (wholeV l n (hdN l)).f.code ≠ 0
  · rw [if_pos h4] at h
    exact absurd h h4
  rw [if_neg h4] at h hd ⊢
  by_cases h5 : (wholeV l n (hdN l)).next ≠ n
  · rw [if_pos h5] at h
    exact absurd h (by show ¬ (7 : Int) = 0; decide)
  rw [if_neg h5] at hd ⊢
  dsimp only at hd ⊢
  unfold wholeV wholeR at h4 hd ⊢
  by_cases c1 : (listV (rdQ l n) (hdN l 2) 12).f.code ≠ 0
  · rw [if_pos c1] at h4
    exact absurd c1 h4
  rw [if_neg c1] at h4 hd ⊢
  obtain ⟨n1, m1⟩ := listV_mem _ _ (Classical.not_not.1 c1)
  generalize listV (rdQ l n) (hdN l 2) 12 = q at *
  by_cases c2 : (listV (rdR l n) (hdN l 3) q.next).f.code ≠ 0
  · rw [if_pos c2] at h4
    exact absurd c2 h4
  rw [if_neg c2] at h4 hd ⊢
  obtain ⟨n2, m2⟩ := listV_mem _ _ (Classical.not_not.1 c2)
  generalize listV (rdR l n) (hdN l 3) q.next = a at *
  by_cases c3 : (listV (rdR l n) (hdN l 4) a.next).f.code ≠ 0
  · rw [if_pos c3] at h4
    exact absurd c3 h4
  rw [if_neg c3] at h4 hd ⊢
  obtain ⟨n3, m3⟩ := listV_mem _ _ (Classical.not_not.1 c3)
  generalize listV (rdR l n) (hdN l 4) a.next = u at *
  by_cases c4 : (listV (rdR l n) (hdN l 5) u.next).f.code ≠ 0
  · rw [if_pos c4] at h4
    exact absurd c4 h4
  rw [if_neg c4] at hd ⊢
  obtain ⟨n4, m4⟩ := listV_mem _ _ (Classical.not_not.1 c4)
  generalize listV (rdR l n) (hdN l 5) u.next = e at *
  dsimp only at hd ⊢
  have hfit : ∀ r ∈ recs ⟨begunV (hdN l 0) (hdN l 1), q.xs, a.xs, u.xs, e.xs⟩, fitR r := fun r hr => by
    have hdr := hd r hr
    have hx : ∃ p', (rdR l n p').2.2.code = 0 ∧ r = (rdR l n p').1 := by
      unfold recs at hr
      rcases List.mem_append.1 hr with hr | hr
      · exact m2 r hr
      rcases List.mem_append.1 hr with hr | hr
      · exact m3 r hr
      · exact m4 r hr
    obtain ⟨p', hc, rfl⟩ := hx
    exact readR_right hn hc hdr
  refine ⟨⟨⟨begun_right (num2_lt _ _), ?_⟩, fun x hx => ?_, fun r hr => (hfit r hr).1⟩, hfit⟩
  · unfold countM recs
    dsimp only
    rw [List.length_append, List.length_append]
    omega
  · obtain ⟨p', hc, rfl⟩ := m1 x hx
    exact readQ_right hn hc
end Go.Proofs.YtbikifaadpijnaaGreatDoor
