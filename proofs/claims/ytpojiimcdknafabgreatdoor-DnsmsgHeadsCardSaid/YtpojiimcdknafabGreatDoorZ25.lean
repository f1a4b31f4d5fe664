/-
  Questions and records that are written are read; cut anywhere they are none. No conditions.
  Messages as values: what is parsed, what may be written, as it is written. No conditions.
  A message of a head alone, as values: parsed, and written as it was. No conditions.
-/
import Derived.Test.YtpojiimcdknafabGreatDoorZ24
namespace Go.Proofs.YtpojiimcdknafabGreatDoor
open Go.RowKit
set_option maxRecDepth 100000

theorem be_putn2 {v : Int} (h : shortI v) : ((be (putn v 2) : Nat) : Int) = v := by
  unfold shortI at h
  have h1 : (UInt8.ofNat ((v / 256) % 256).toNat).toNat = ((v / 256) % 256).toNat := by simp only [UInt8.toNat_ofNat']; omega
  have h2 : (UInt8.ofNat (v % 256).toNat).toNat = (v % 256).toNat := by simp only [UInt8.toNat_ofNat']; omega
  have e : putn v 2 = [UInt8.ofNat ((v / 256) % 256).toNat, UInt8.ofNat (v % 256).toNat] := by simp [putn]
  rw [e]
  simp only [be, List.foldl_cons, List.foldl_nil, h1, h2]
  omega
theorem be_putn4 {v : Int} (h0 : 0 ≤ v) (h : v < 4294967296) : ((be (putn v 4) : Nat) : Int) = v := by
  have h1 : (UInt8.ofNat ((v / 16777216) % 256).toNat).toNat = ((v / 16777216) % 256).toNat := by simp only [UInt8.toNat_ofNat']; omega
  have h2 : (UInt8.ofNat ((v / 65536) % 256).toNat).toNat = ((v / 65536) % 256).toNat := by simp only [UInt8.toNat_ofNat']; omega
  have h3 : (UInt8.ofNat ((v / 256) % 256).toNat).toNat = ((v / 256) % 256).toNat := by simp only [UInt8.toNat_ofNat']; omega
  have h4 : (UInt8.ofNat (v % 256).toNat).toNat = (v % 256).toNat := by simp only [UInt8.toNat_ofNat']; omega
  have e : putn v 4 = [UInt8.ofNat ((v / 16777216) % 256).toNat, UInt8.ofNat ((v / 65536) % 256).toNat, UInt8.ofNat ((v / 256) % 256).toNat, UInt8.ofNat (v % 256).toNat] := by simp [putn]
  rw [e]
  simp only [be, List.foldl_cons, List.foldl_nil, h1, h2, h3, h4]
  omega
theorem num2_put {l : List UInt8} {i : Nat} {v : Int} {r : List UInt8} (hd : l.drop i = putn v 2 ++ r) (h : shortI v) : ((num2 l i : Nat) : Int) = v := by
  unfold num2
  rw [hd, List.take_left' (putn_length _ _)]
  exact be_putn2 h
theorem num4_put {l : List UInt8} {i : Nat} {v : Int} {r : List UInt8} (hd : l.drop i = putn v 4 ++ r) (h0 : 0 ≤ v) (h : v < 4294967296) : ((num4 l i : Nat) : Int) = v := by
  unfold num4
  rw [hd, List.take_left' (putn_length _ _)]
  exact be_putn4 h0 h
/-- Behind something. -/
theorem drop_on {l a r : List UInt8} {i k : Nat} (hd : l.drop i = a ++ r) (ha : a.length = k) : l.drop (i + k) = r := by
  rw [← List.drop_drop, hd, List.drop_left' ha]
theorem room {l a r : List UInt8} {i n : Nat} (hn : l.length = n) (hd : l.drop i = a ++ r) (h1 : i ≤ n) : i + a.length + r.length = n := by
  have := congrArg List.length hd
  rw [List.length_drop, List.length_append] at this
  omega

/-! ### Questions -/
theorem writeQB_length (q : Qs) : (writeQB q).length = (writeB q.name).length + 4 := by
  unfold writeQB
  simp only [List.length_append, putn_length]
theorem back_q {l : List UInt8} {n : Nat} (hn : l.length = n) {q : Qs} (hq : rightQ q) {at_ : Nat} {rest : List UInt8} (hat : at_ ≤ n) (hd : l.drop at_ = writeQB q ++ rest) : readQv l n at_ = ⟨q, at_ + (writeQB q).length, fl0⟩ := by
  have hd0 := hd
  unfold writeQB at hd
  rw [List.append_assoc, List.append_assoc] at hd
  have hl := room hn hd0 hat
  rw [writeQB_length] at hl ⊢
  unfold readQv
  rw [read_written hn hq.1 hd]
  have h1 := drop_on hd rfl
  have h2 := drop_on h1 (putn_length _ _)
  have n1 := num2_put h1 hq.2.1
  have n2 := num2_put h2 hq.2.2
  unfold readQd Rd.ok
  dsimp only
  rw [if_neg (by decide), if_neg (by omega), if_neg (by omega), n1, n2, Nat.add_assoc]
/-- A question that is cut behind its name. -/
theorem cut_q {l : List UInt8} {n : Nat} (hn : l.length = n) {q : Qs} (hq : rightQ q) {at_ : Nat} {rest : List UInt8} (hat : at_ ≤ n) (hd : l.drop at_ = writeB q.name ++ rest) (hr : rest.length < 4) : (readQv l n at_).f.code = 3 := by
  have hl := room hn hd hat
  unfold readQv
  rw [read_written hn hq.1 hd]
  unfold readQd Rd.ok
  dsimp only
  rw [if_neg (by decide)]
  by_cases h : n < at_ + (writeB q.name).length + 2
  · rw [if_pos h]; rfl
  · rw [if_neg h, if_pos (by omega)]; rfl

/-- A name that is cut. -/
theorem read_short {l : List UInt8} {n : Nat} (hn : l.length = n) : ∀ (ys : List (List UInt8)) (at_ below size : Nat) (a : List UInt8) (next : Option Nat) (k : Nat), (∀ y ∈ ys, labOk y) → size + sizeL ys ≤ 255 → at_ + k = n → l.drop at_ = (wireL ys ++ [0]).take k → k < sizeL ys + 1 →
    (readS l n ⟨at_, below, size, a, next⟩).f.code = 3
  | ys, at_, below, size, a, next, 0, _, _, hk, _, _ => by
    rw [readS_end (r := .bad 3 at_) (by unfold rstep; dsimp only; rw [if_pos (by omega)])]
    rfl
  | [], _, _, _, _, _, k + 1, _, _, _, _, h => by
    exact absurd h (by simp [sizeL])
  | y :: ys, at_, below, size, a, next, k + 1, hy, hs, hk, hd, hlt => by
    have hy0 := hy y (by simp)
    have h1 := hy0.2.1
    have h63 := hy0.2.2
    have hsz : sizeL (y :: ys) = 1 + y.length + sizeL ys := rfl
    have hd0 : l.drop at_ = UInt8.ofNat y.length :: ((y ++ (wireL ys ++ [0])).take k) := by
      rw [hd, wireL_cons, List.cons_append, List.take_succ_cons, List.append_assoc]
    obtain ⟨hb, hlt0, hd1⟩ := bat_head hd0
    have hbl : bat l at_ = y.length := by rw [hb, UInt8.toNat_ofNat']; omega
    by_cases hy2 : n < at_ + 1 + y.length
    · rw [readS_end (r := .bad 3 at_) (by unfold rstep; dsimp only; rw [hbl, if_neg (by omega), if_neg (by omega), if_pos (by omega), if_pos hy2])]
      rfl
    · rw [List.take_append, List.take_of_length_le (by omega)] at hd1
      have hd2 : l.drop (at_ + 1 + y.length) = (wireL ys ++ [0]).take (k - y.length) := by rw [← List.drop_drop (i := y.length) (j := at_ + 1), hd1, List.drop_left' rfl]
      have htk : (l.drop (at_ + 1)).take y.length = y := by rw [hd1, List.take_left' rfl]
      have hst : rstep l n ⟨at_, below, size, a, next⟩ = .inl ⟨at_ + 1 + y.length, below, size + 1 + y.length, dotted a y, next⟩ := by
        unfold rstep
        dsimp only
        rw [hbl, htk, lowL_ok hy0, if_neg (by omega), if_neg (by omega), if_pos (by omega), if_neg (by omega), if_neg (by simpa using hy0), if_neg (by omega)]
      rw [readS_on hst (by dsimp only; omega)]
      exact read_short hn ys (at_ + 1 + y.length) below (size + 1 + y.length) (dotted a y) next (k - y.length) (fun z hz => hy z (List.mem_cons_of_mem _ hz)) (by omega) (by omega) hd2 (by omega)
theorem cut_name {l : List UInt8} {n : Nat} (hn : l.length = n) {s : List UInt8} (hs : rightN s) {at_ k : Nat} (hk : at_ + k = n) (hd : l.drop at_ = (writeB s).take k) (h : k < (writeB s).length) : (readv l n at_).f.code = 3 := by
  unfold readv
  rw [if_neg (by omega), Int.toNat_natCast]
  unfold writeB at hd h
  rw [List.length_append, wireL_length] at h
  exact read_short hn (labsN s) at_ at_ 1 [] none k hs.1 hs.2 hk hd h

/-! ### Records -/
theorem alike_cases {r : Rc} (h : rightR r) : (r.kind = 28 ∧ r.v6 = true ∧ r.target = [] ∧ r.data = []) ∨ (r.kind = 1 ∧ r.v6 = false ∧ r.target = [] ∧ r.data = []) ∨ (r.kind = 5 ∧ r.v6 = false ∧ r.adr = zero16 ∧ r.data = []) ∨ (r.kind ≠ 28 ∧ r.kind ≠ 1 ∧ r.kind ≠ 5 ∧ r.v6 = false ∧ r.adr = zero16 ∧ r.target = []) := by
  obtain ⟨_, _, _, _, h⟩ := h
  unfold alikeV bareV at h
  by_cases h28 : r.kind = 28
  · rw [if_pos h28] at h
    exact .inl ⟨h28, h.1.1, h.2.1, h.2.2⟩
  rw [if_neg h28] at h
  by_cases h1 : r.kind = 1
  · rw [if_pos h1] at h
    exact .inr (.inl ⟨h1, h.1.1, h.2.1, h.2.2⟩)
  rw [if_neg h1] at h
  by_cases h5 : r.kind = 5
  · rw [if_pos h5] at h
    exact .inr (.inr (.inl ⟨h5, h.1.1, h.1.2, h.2.2⟩))
  rw [if_neg h5] at h
  exact .inr (.inr (.inr ⟨h28, h1, h5, h.1.1, h.1.2, h.2.1⟩))
theorem right_zeros {a : List UInt8} (h : rightA false a) : a.take 4 ++ zero12 = a := by
  rw [← h rfl, List.take_append_drop]
/-- What a record bears, as it is written, is read. -/
theorem data_back {l : List UInt8} {n : Nat} (hn : l.length = n) {r : Rc} (hr : rightR r) (hk : r.ok) {at_ : Nat} {rest : List UInt8} (hd : l.drop (at_ + 2) = dataB r ++ rest) : dataV l n (r.asks.asRc r.ttl) at_ (dataB r).length = (r, fl0) := by
  have htk : (l.drop (at_ + 2)).take (dataB r).length = dataB r := by rw [hd, List.take_left' rfl]
  have hc := alike_cases hr
  obtain ⟨name, kind, cls, ttl, v6, adr, target, data⟩ := r
  unfold Rc.ok at hk
  dsimp only at hc hk
  rcases hc with ⟨rfl, rfl, rfl, rfl⟩ | ⟨rfl, rfl, rfl, rfl⟩ | ⟨rfl, rfl, rfl, rfl⟩ | ⟨h28, h1, h5, rfl, rfl, rfl⟩
  · have e : dataB ⟨name, 28, cls, ttl, true, adr, [], []⟩ = adr := by
      show adr.take 16 = adr
      exact List.take_of_length_le (by omega)
    rw [e] at htk ⊢
    unfold dataV Rc.asks Qs.asRc
    dsimp only
    rw [if_pos rfl, if_neg (by omega), ← hk, htk]
  · have e : dataB ⟨name, 1, cls, ttl, false, adr, [], []⟩ = adr.take 4 := rfl
    have e4 : (adr.take 4).length = 4 := by rw [List.length_take]; omega
    rw [e, e4] at htk
    rw [e]
    unfold dataV Rc.asks Qs.asRc
    dsimp only
    rw [if_neg (by decide), if_pos rfl, if_neg (by omega), htk, right_zeros hr.2.1]
  · have e : dataB ⟨name, 5, cls, ttl, false, zero16, target, []⟩ = writeB target := rfl
    rw [e] at hd ⊢
    have hrd := read_written hn hr.2.2.1 hd
    have hn5 : nameV (readv l n ((at_ : Int) + 2)) at_ (writeB target).length = (target, fl0) := by
      rw [show ((at_ : Int) + 2) = ((at_ + 2 : Nat) : Int) by omega, hrd]
      unfold nameV Rd.ok
      dsimp only
      rw [if_neg (by decide), if_neg (by omega)]
    unfold dataV Rc.asks Qs.asRc
    dsimp only
    rw [if_neg (by decide), if_neg (by decide), if_pos rfl, hn5]
    rfl
  · have e : dataB ⟨name, kind, cls, ttl, false, zero16, [], data⟩ = data := by
      unfold dataB
      dsimp only
      rw [if_neg (by omega), if_neg h5]
    rw [e] at htk ⊢
    unfold dataV Rc.asks Qs.asRc
    dsimp only
    rw [if_neg h28, if_neg h1, if_neg h5, htk]
theorem dataB_le {r : Rc} (hr : rightR r) : (dataB r).length ≤ 1000 := by
  unfold dataB
  split
  · rw [List.length_take]
    unfold widB
    split <;> omega
  · split
    · have h2 := hr.2.2.1.2
      unfold writeB
      rw [List.length_append, wireL_length]
      simp only [List.length_cons, List.length_nil]
      omega
    · exact hr.2.2.2.1
theorem writeRB_length (r : Rc) : (writeRB r).length = (writeQB r.asks).length + 6 + (dataB r).length := by
  unfold writeRB
  simp only [List.length_append, putn_length]
  omega
theorem back_r {l : List UInt8} {n : Nat} (hn : l.length = n) {r : Rc} (hr : rightR r) (hk : r.ok) (t0 : 0 ≤ r.ttl) (t1 : r.ttl < 4294967296) {at_ : Nat} {rest : List UInt8} (hat : at_ ≤ n) (hd : l.drop at_ = writeRB r ++ rest) : readRv l n at_ = ⟨r, at_ + (writeRB r).length, fl0⟩ := by
  have hl := room hn hd hat
  rw [writeRB_length] at hl ⊢
  unfold writeRB at hd
  rw [List.append_assoc, List.append_assoc, List.append_assoc] at hd
  unfold readRv
  rw [back_q hn (q := r.asks) hr.1 hat hd]
  have h1 := drop_on hd rfl
  have h2 := drop_on h1 (putn_length _ _)
  have h3 := drop_on h2 (putn_length _ _)
  have n1 := num4_put h1 t0 t1
  have n2 := num2_put h2 (show shortI ((dataB r).length : Nat) by have := dataB_le hr; unfold shortI; omega)
  have n2' : num2 l (at_ + (writeQB r.asks).length + 4) = (dataB r).length := by omega
  have hdat := data_back hn hr hk (at_ := at_ + (writeQB r.asks).length + 4) h3
  unfold readRq
  dsimp only
  rw [n1, n2', hdat]
  dsimp only
  rw [if_neg (by decide), if_neg (by omega), if_neg (by rw [if_neg (by omega)]; omega), if_neg (by decide), show at_ + (writeQB r.asks).length + 6 + (dataB r).length = at_ + ((writeQB r.asks).length + 6 + (dataB r).length) by omega]
/-- A record that is cut. -/
theorem cut_r {l : List UInt8} {n : Nat} (hn : l.length = n) {r : Rc} (hr : rightR r) {at_ k : Nat} (hat : at_ ≤ n) (hd : l.drop at_ = (writeRB r).take k) (h2 : k < (writeRB r).length) : (readRv l n at_).f.code = 3 := by
  have hkl : at_ + k = n := by
    have := congrArg List.length hd
    rw [List.length_drop, List.length_take] at this
    omega
  rw [writeRB_length, writeQB_length, show r.asks.name = r.name from rfl] at h2
  have hw : writeRB r = writeB r.name ++ ((putn r.kind 2 ++ putn r.cls 2) ++ (putn r.ttl 4 ++ (putn ((dataB r).length : Nat) 2 ++ dataB r))) := by
    unfold writeRB writeQB Rc.asks
    rw [List.append_assoc]
  by_cases h1 : k < (writeB r.name).length
  · have hdn : l.drop at_ = (writeB r.name).take k := by
      rw [hd, hw, List.take_append_of_le_length (by omega)]
    have hq := cut_name hn hr.1.1 hkl hdn h1
    have hq2 : readQv l n at_ = .bad (readv l n at_).f := by
      unfold readQv readQd
      rw [if_pos (by rw [show (readv l n (at_ : Int)).f.code = 3 from hq]; decide)]
    unfold readRv readRq
    rw [hq2, if_pos (by show (readv l n at_).f.code ≠ 0; rw [hq]; decide)]
    exact hq
  replace h1 : (writeB r.name).length ≤ k := by omega
  by_cases h4 : k < (writeB r.name).length + 4
  · have hd1 : l.drop at_ = writeB r.asks.name ++ ((putn r.kind 2 ++ putn r.cls 2) ++ (putn r.ttl 4 ++ (putn ((dataB r).length : Nat) 2 ++ dataB r))).take (k - (writeB r.name).length) := by
      rw [hd, hw, List.take_append, List.take_of_length_le h1]
      rfl
    have hq := cut_q hn (q := r.asks) hr.1 hat hd1 (by rw [List.length_take]; omega)
    unfold readRv readRq
    rw [if_pos (by rw [hq]; decide)]
    exact hq
  · have hd2 : l.drop at_ = writeQB r.asks ++ (putn r.ttl 4 ++ (putn ((dataB r).length : Nat) 2 ++ dataB r)).take (k - ((writeB r.name).length + 4)) := by
      rw [hd]
      unfold writeRB
      rw [List.take_append, writeQB_length, List.take_of_length_le (by rw [writeQB_length]; show (writeB r.name).length + 4 ≤ k; omega)]
      rfl
    unfold readRv
    rw [back_q hn (q := r.asks) hr.1 hat hd2, writeQB_length]
    show (readRq l n ⟨r.asks, at_ + ((writeB r.name).length + 4), fl0⟩).f.code = 3
    unfold readRq
    dsimp only
    rw [if_neg (by decide)]
    by_cases h8 : n < at_ + ((writeB r.name).length + 4) + 4
    · rw [if_pos h8]; rfl
    rw [if_neg h8]
    by_cases h10 : n < at_ + ((writeB r.name).length + 4) + 6
    · rw [if_pos h10, if_pos (by omega)]; rfl
    rw [if_neg h10]
    have e1 := drop_on hd2 (writeQB_length r.asks)
    rw [List.take_append, List.take_of_length_le (by rw [putn_length]; omega), putn_length] at e1
    have e2 := drop_on e1 (putn_length _ _)
    rw [List.take_append, List.take_of_length_le (by rw [putn_length]; omega), putn_length] at e2
    have n2 := num2_put e2 (show shortI ((dataB r).length : Nat) by have := dataB_le hr; unfold shortI; omega)
    have n2' : num2 l (at_ + ((writeB r.name).length + 4) + 4) = (dataB r).length := by
      have e3 : (r.asks.name) = r.name := rfl
      rw [e3] at n2
      omega
    rw [n2', if_pos (by omega)]
    rfl
end Go.Proofs.YtpojiimcdknafabGreatDoor

namespace Go.Proofs.YtpojiimcdknafabGreatDoor
open Go.RowKit
set_option maxRecDepth 100000

/-- A slice's head. -/
structure Sl where
  A : Option Addr
  n : Nat
  c : Nat
def Sl.zero : Sl := ⟨none, 0, 0⟩
def Sl.v (s : Sl) : Value := .slice s.A s.n s.c
/-- A message, but for what its lists hold. -/
structure Mh where
  id : Int
  reply : Bool
  opcode : Int
  code : Int
  flags : Int
def Mh.zero : Mh := ⟨0, false, 0, 0, 0⟩
/-- A message. -/
structure Ms where
  h : Mh
  qs : List Qs
  an : List Rc
  au : List Rc
  ex : List Rc
def Ms.zero : Ms := ⟨.zero, [], [], [], []⟩

/-! ### What is parsed -/
/-- So many things, from a place on. -/
structure Ls (α : Type) where
  xs : List α
  next : Nat
  f : Fl
def Ls.bad {α : Type} (f : Fl) : Ls α := ⟨[], 0, f⟩
def listV {α : Type} (rd : Nat → α × Nat × Fl) : Nat → Nat → Ls α
  | 0, p => ⟨[], p, fl0⟩
  | k + 1, p =>
    if (rd p).2.2.code ≠ 0 then .bad (rd p).2.2
    else if (listV rd k (rd p).2.1).f.code ≠ 0 then .bad (listV rd k (rd p).2.1).f
    else ⟨(rd p).1 :: (listV rd k (rd p).2.1).xs, (listV rd k (rd p).2.1).next, fl0⟩
def rdQ (l : List UInt8) (n : Nat) (p : Nat) : Qs × Nat × Fl := ((readQv l n (p : Int)).q, (readQv l n (p : Int)).next, (readQv l n (p : Int)).f)
def rdR (l : List UInt8) (n : Nat) (p : Nat) : Rc × Nat × Fl := ((readRv l n (p : Int)).r, (readRv l n (p : Int)).next, (readRv l n (p : Int)).f)
/-- What was read ahead of it, and it. -/
def Ls.behind {α : Type} (acc : List α) (t : Ls α) : Ls α := if t.f.code ≠ 0 then .bad t.f else ⟨acc ++ t.xs, t.next, fl0⟩
theorem listV_end {α : Type} (rd : Nat → α × Nat × Fl) (p : Nat) (acc : List α) : (listV rd 0 p).behind acc = ⟨acc, p, fl0⟩ := by
  unfold Ls.behind listV
  rw [if_neg (by simp [fl0]), List.append_nil]
theorem listV_bad {α : Type} {rd : Nat → α × Nat × Fl} {p : Nat} (k : Nat) (acc : List α) (h : (rd p).2.2.code ≠ 0) : (listV rd (k + 1) p).behind acc = .bad (rd p).2.2 := by
  unfold listV
  rw [if_pos h]
  unfold Ls.behind Ls.bad
  rw [if_pos h]
theorem listV_on {α : Type} {rd : Nat → α × Nat × Fl} {p : Nat} (k : Nat) (acc : List α) (h : (rd p).2.2.code = 0) : (listV rd (k + 1) p).behind acc = (listV rd k (rd p).2.1).behind (acc ++ [(rd p).1]) := by
  have h' : ¬ (rd p).2.2.code ≠ 0 := fun e => e h
  rw [listV, if_neg h']
  unfold Ls.behind
  by_cases hc : (listV rd k (rd p).2.1).f.code ≠ 0
  · rw [if_pos hc, if_pos hc]
    unfold Ls.bad
    dsimp only
    rw [if_pos hc]
  · rw [if_neg hc, if_neg hc]
    rw [if_neg (by simp [fl0])]
    simp
theorem listV_self {α : Type} (rd : Nat → α × Nat × Fl) : ∀ (k p : Nat), (listV rd k p).behind [] = listV rd k p
  | 0, p => by rw [listV_end]; rfl
  | k + 1, p => by
    unfold Ls.behind
    rw [listV]
    by_cases h : (rd p).2.2.code ≠ 0
    · rw [if_pos h]
      unfold Ls.bad
      dsimp only
      rw [if_pos h]
    rw [if_neg h]
    by_cases hc : (listV rd k (rd p).2.1).f.code ≠ 0
    · rw [if_pos hc]
      unfold Ls.bad
      dsimp only
      rw [if_pos hc]
    · rw [if_neg hc, if_neg (by simp [fl0]), List.nil_append]
/-- The head's numbers. -/
def hdN (l : List UInt8) (i : Nat) : Nat := num2 l (2 * i)
/-- A message's head, by its bits. -/
def begunV (id bits : Nat) : Mh := ⟨id, decide (bits / 32768 = 1), (bits / 2048 % 16 : Nat), (bits % 16 : Nat), (bits / 16 % 128 : Nat)⟩
/-- The message, and the place behind it. -/
structure Mw where
  m : Ms
  next : Nat
  f : Fl
def Mw.bad (f : Fl) : Mw := ⟨.zero, 0, f⟩
def wholeR (l : List UInt8) (n : Nat) (h : Nat → Nat) (q : Ls Qs) : Mw :=
  if q.f.code ≠ 0 then .bad q.f
  else if (listV (rdR l n) (h 3) q.next).f.code ≠ 0 then .bad (listV (rdR l n) (h 3) q.next).f
  else if (listV (rdR l n) (h 4) (listV (rdR l n) (h 3) q.next).next).f.code ≠ 0 then .bad (listV (rdR l n) (h 4) (listV (rdR l n) (h 3) q.next).next).f
  else if (listV (rdR l n) (h 5) (listV (rdR l n) (h 4) (listV (rdR l n) (h 3) q.next).next).next).f.code ≠ 0 then .bad (listV (rdR l n) (h 5) (listV (rdR l n) (h 4) (listV (rdR l n) (h 3) q.next).next).next).f
  else ⟨⟨begunV (h 0) (h 1), q.xs, (listV (rdR l n) (h 3) q.next).xs, (listV (rdR l n) (h 4) (listV (rdR l n) (h 3) q.next).next).xs, (listV (rdR l n) (h 5) (listV (rdR l n) (h 4) (listV (rdR l n) (h 3) q.next).next).next).xs⟩, (listV (rdR l n) (h 5) (listV (rdR l n) (h 4) (listV (rdR l n) (h 3) q.next).next).next).next, fl0⟩
def wholeV (l : List UInt8) (n : Nat) (h : Nat → Nat) : Mw := wholeR l n h (listV (rdQ l n) (h 2) 12)
/-- What is parsed. -/
def parseW (n : Nat) (x : Mw) : Ms × Fl := if x.f.code ≠ 0 then (.zero, x.f) else if x.next ≠ n then (.zero, ⟨7, x.next, true⟩) else (x.m, fl0)
def parseM (l : List UInt8) (n : Nat) : Ms × Fl :=
  if 4000 < n then (.zero, ⟨4, 0, false⟩)
  else if n < 12 then (.zero, ⟨3, 0, true⟩)
  else if 64 < hdN l 2 + hdN l 3 + hdN l 4 + hdN l 5 then (.zero, ⟨4, 4, true⟩)
  else parseW n (wholeV l n (hdN l))

/-! ### What may be written -/
def rightH (h : Mh) : Prop := (0 ≤ h.id ∧ h.id ≤ 65535) ∧ (0 ≤ h.opcode ∧ h.opcode ≤ 15) ∧ (0 ≤ h.flags ∧ h.flags ≤ 127) ∧ (0 ≤ h.code ∧ h.code ≤ 15)
instance (h : Mh) : Decidable (rightH h) := by unfold rightH; infer_instance
def bitsV (h : Mh) : Int := h.opcode * 2048 + h.flags * 16 + h.code + (if h.reply then 32768 else 0)
def recs (m : Ms) : List Rc := m.an ++ (m.au ++ m.ex)
def countM (m : Ms) : Nat := m.qs.length + (recs m).length
def rightM (m : Ms) : Prop := (rightH m.h ∧ countM m ≤ 64) ∧ (∀ q ∈ m.qs, rightQ q) ∧ ∀ r ∈ recs m, rightR r
instance (m : Ms) : Decidable (rightM m) := by unfold rightM; infer_instance
def headL (m : Ms) : List UInt8 := putn m.h.id 2 ++ (putn (bitsV m.h) 2 ++ (putn (m.qs.length : Nat) 2 ++ (putn (m.an.length : Nat) 2 ++ (putn (m.au.length : Nat) 2 ++ putn (m.ex.length : Nat) 2))))
def qsB (qs : List Qs) : List UInt8 := (qs.map writeQB).flatten
def rsB (rs : List Rc) : List UInt8 := (rs.map writeRB).flatten
def msgB (m : Ms) : List UInt8 := headL m ++ (qsB m.qs ++ rsB (recs m))
def writeMv (m : Ms) : List UInt8 := if rightM m ∧ (msgB m).length ≤ 4000 then msgB m else []
def writeMe (m : Ms) : Fl := if rightM m then (if (msgB m).length ≤ 4000 then fl0 else ⟨4, 0, false⟩) else ⟨1, 0, false⟩
end Go.Proofs.YtpojiimcdknafabGreatDoor

namespace Go.Proofs.YtpojiimcdknafabGreatDoor
open Go.RowKit
set_option maxRecDepth 100000

def headsB (x y : Nat) : List UInt8 := putn x 2 ++ (putn y 2 ++ (putn (0 : Int) 2 ++ (putn (0 : Int) 2 ++ (putn (0 : Int) 2 ++ putn (0 : Int) 2))))
theorem bitsV_begun {x y : Nat} (hy : y < 65536) : bitsV (begunV x y) = (y : Int) := by
  unfold bitsV begunV
  dsimp only
  by_cases h : y / 32768 = 1
  · rw [decide_eq_true h, if_pos rfl]
    omega
  · rw [decide_eq_false h, if_neg (by decide)]
    omega
theorem rightH_begun {x y : Nat} (hx : x < 65536) : rightH (begunV x y) := by
  unfold rightH begunV
  dsimp only
  omega
theorem hdN_put {x y : Nat} (hx : x < 65536) (hy : y < 65536) : hdN (headsB x y) 0 = x ∧ hdN (headsB x y) 1 = y ∧ hdN (headsB x y) 2 = 0 ∧ hdN (headsB x y) 3 = 0 ∧ hdN (headsB x y) 4 = 0 ∧ hdN (headsB x y) 5 = 0 := by
  have h0 : ((num2 (headsB x y) 0 : Nat) : Int) = (x : Int) := num2_put (r := putn y 2 ++ (putn (0 : Int) 2 ++ (putn (0 : Int) 2 ++ (putn (0 : Int) 2 ++ putn (0 : Int) 2)))) rfl (by unfold shortI; omega)
  have h1 : ((num2 (headsB x y) 2 : Nat) : Int) = (y : Int) := num2_put (r := putn (0 : Int) 2 ++ (putn (0 : Int) 2 ++ (putn (0 : Int) 2 ++ putn (0 : Int) 2))) rfl (by unfold shortI; omega)
  refine ⟨Int.ofNat.inj h0, Int.ofNat.inj h1, rfl, rfl, rfl, rfl⟩
theorem headsB_parsed {x y : Nat} (hx : x < 65536) (hy : y < 65536) : parseM (headsB x y) 12 = (⟨begunV x y, [], [], [], []⟩, fl0) := by
  obtain ⟨h0, h1, h2, h3, h4, h5⟩ := hdN_put hx hy
  unfold parseM
  rw [if_neg (by decide), if_neg (by decide), h2, h3, h4, h5, if_neg (by decide)]
  unfold wholeV wholeR
  rw [h0, h1, h2, h3, h4, h5]
  rfl
theorem headsB_written {x y : Nat} (hx : x < 65536) (hy : y < 65536) : writeMv ⟨begunV x y, [], [], [], []⟩ = headsB x y ∧ writeMe ⟨begunV x y, [], [], [], []⟩ = fl0 := by
  have hr : rightM ⟨begunV x y, [], [], [], []⟩ := ⟨⟨rightH_begun hx, by simp [countM, recs]⟩, (fun q h => by cases h), fun r h => by simp [recs] at h⟩
  have hb : msgB ⟨begunV x y, [], [], [], []⟩ = headsB x y := by
    unfold msgB headL headsB
    rw [bitsV_begun hy]
    rfl
  have hl : (msgB ⟨begunV x y, [], [], [], []⟩).length ≤ 4000 := by rw [hb]; unfold headsB; simp [putn_length]
  unfold writeMv writeMe
  rw [if_pos ⟨hr, hl⟩, if_pos hr, if_pos hl]
  exact ⟨hb, rfl⟩
/-- The bytes, one by one. -/
theorem headsB_cells (x y : Nat) : bv (headsB x y) = [.int .u8 (IntKind.u8.wrap ((x : Int) / 256)), .int .u8 (IntKind.u8.wrap (x : Int)), .int .u8 (IntKind.u8.wrap ((y : Int) / 256)), .int .u8 (IntKind.u8.wrap (y : Int)), .int .u8 0, .int .u8 0, .int .u8 0, .int .u8 0, .int .u8 0, .int .u8 0, .int .u8 0, .int .u8 0] := by
  have e : ∀ v : Int, ((UInt8.ofNat (v % 256).toNat).toNat : Int) = IntKind.u8.wrap v := fun v => by
    show _ = v % 256
    have h1 : (v % 256).toNat < 256 := by omega
    rw [show (UInt8.ofNat (v % 256).toNat).toNat = (v % 256).toNat % 256 from rfl]
    omega
  unfold headsB putn putn putn bv
  simp only [List.cons_append, List.nil_append, List.map_cons, List.map_nil, e]
  simp
  rfl
end Go.Proofs.YtpojiimcdknafabGreatDoor
