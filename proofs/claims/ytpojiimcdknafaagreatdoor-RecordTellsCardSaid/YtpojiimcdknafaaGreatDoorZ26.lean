/-
  Questions and records that are written are read; cut anywhere they are none. No conditions.
-/
import Derived.Test.YtpojiimcdknafaaGreatDoorZ25
namespace Go.Proofs.YtpojiimcdknafaaGreatDoor
open Go.RowKit
set_option maxRecDepth 100000

theorem be_putn2 {v : Int} (h : shortI v) : ((be (putn v 2) : Nat) : Int) = v := by
  unfold shortI at h
  have h1 : (UInt8.ofNat ((v / 256) % 256).toNat).toNat = ((v / 256) % 256).toNat := by simp only [UInt8.toNat_ofNat']; omega
  have h2 : (UInt8.ofNat (v % 256).toNat).toNat = (v % 256).toNat := by simp only [UInt8.toNat_ofNat']; omega
  have e : putn v 2 = [UInt8.ofNat ((v / 256) % 256).toNat, UInt8.ofNat (v % 256).toNat] := by simp [putn]
  rw [e]
  simp only [be, List.foldl_cons, List.foldl_nil, h1, h2]
  omega
theorem be_putn4 {v : Int} (h0 : 0 ≤ v) (h : v < 4294967296) : ((be (putn v 4) : Nat) : Int) = v := by
  have h1 : (UInt8.ofNat ((v / 16777216) % 256).toNat).toNat = ((v / 16777216) % 256).toNat := by simp only [UInt8.toNat_ofNat']; omega
  have h2 : (UInt8.ofNat ((v / 65536) % 256).toNat).toNat = ((v / 65536) % 256).toNat := by simp only [UInt8.toNat_ofNat']; omega
  have h3 : (UInt8.ofNat ((v / 256) % 256).toNat).toNat = ((v / 256) % 256).toNat := by simp only [UInt8.toNat_ofNat']; omega
  have h4 : (UInt8.ofNat (v % 256).toNat).toNat = (v % 256).toNat := by simp only [UInt8.toNat_ofNat']; omega
  have e : putn v 4 = [UInt8.ofNat ((v / 16777216) % 256).toNat, UInt8.ofNat ((v / 65536) % 256).toNat, UInt8.ofNat ((v / 256) % 256).toNat, UInt8.ofNat (v % 256).toNat] := by simp [putn]
  rw [e]
  simp only [be, List.foldl_cons, List.foldl_nil, h1, h2, h3, h4]
  omega
theorem num2_put {l : List UInt8} {i : Nat} {v : Int} {r : List UInt8} (hd : l.drop i = putn v 2 ++ r) (h : shortI v) : ((num2 l i : Nat) : Int) = v := by
  unfold num2
  rw [hd, List.take_left' (putn_length _ _)]
  exact be_putn2 h
theorem num4_put {l : List UInt8} {i : Nat} {v : Int} {r : List UInt8} (hd : l.drop i = putn v 4 ++ r) (h0 : 0 ≤ v) (h : v < 4294967296) : ((num4 l i : Nat) : Int) = v := by
  unfold num4
  rw [hd, List.take_left' (putn_length _ _)]
  exact be_putn4 h0 h
/-- Behind something. -/
theorem drop_on {l a r : List UInt8} {i k : Nat} (hd : l.drop i = a ++ r) (ha : a.length = k) : l.drop (i + k) = r := by
  rw [← List.drop_drop, hd, List.drop_left' ha]
theorem room {l a r : List UInt8} {i n : Nat} (hn : l.length = n) (hd : l.drop i = a ++ r) (h1 : i ≤ n) : i + a.length + r.length = n := by
  have := congrArg List.length hd
  rw [List.length_drop, List.length_append] at this
  omega

/-! ### Questions -/
theorem writeQB_length (q : Qs) : (writeQB q).length = (writeB q.name).length + 4 := by
  unfold writeQB
  simp only [List.length_append, putn_length]
theorem back_q {l : List UInt8} {n : Nat} (hn : l.length = n) {q : Qs} (hq : rightQ q) {at_ : Nat} {rest : List UInt8} (hat : at_ ≤ n) (hd : l.drop at_ = writeQB q ++ rest) : readQv l n at_ = ⟨q, at_ + (writeQB q).length, fl0⟩ := by
  have hd0 := hd
  unfold writeQB at hd
  rw [List.append_assoc, List.append_assoc] at hd
  have hl := room hn hd0 hat
  rw [writeQB_length] at hl ⊢
  unfold readQv
  rw [read_written hn hq.1 hd]
  have h1 := drop_on hd rfl
  have h2 := drop_on h1 (putn_length _ _)
  have n1 := num2_put h1 hq.2.1
  have n2 := num2_put h2 hq.2.2
  unfold readQd Rd.ok
  dsimp only
  rw [if_neg (by decide), if_neg (by omega), if_neg (by omega), n1, n2, Nat.add_assoc]
/-- A question that is cut behind its name. -/
theorem cut_q {l : List UInt8} {n : Nat} (hn : l.length = n) {q : Qs} (hq : rightQ q) {at_ : Nat} {rest : List UInt8} (hat : at_ ≤ n) (hd : l.drop at_ = writeB q.name ++ rest) (hr : rest.length < 4) : (readQv l n at_).f.code = 3 := by
  have hl := room hn hd hat
  unfold readQv
  rw [read_written hn hq.1 hd]
  unfold readQd Rd.ok
  dsimp only
  rw [if_neg (by decide)]
  by_cases h : n < at_ + (writeB q.name).length + 2
  · rw [if_pos h]; rfl
  · rw [if_neg h, if_pos (by omega)]; rfl

/-- A name that is cut. -/
theorem read_short {l : List UInt8} {n : Nat} (hn : l.length = n) : ∀ (ys : List (List UInt8)) (at_ below size : Nat) (a : List UInt8) (next : Option Nat) (k : Nat), (∀ y ∈ ys, labOk y) → size + sizeL ys ≤ 255 → at_ + k = n → l.drop at_ = (wireL ys ++ [0]).take k → k < sizeL ys + 1 →
    (readS l n ⟨at_, below, size, a, next⟩).f.code = 3
  | ys, at_, below, size, a, next, 0, _, _, hk, _, _ => by
    rw [readS_end (r := .bad 3 at_) (by unfold rstep; dsimp only; rw [if_pos (by omega)])]
    rfl
  | [], _, _, _, _, _, k + 1, _, _, _, _, h => by
    exact absurd h (by simp [sizeL])
  | y :: ys, at_, below, size, a, next, k + 1, hy, hs, hk, hd, hlt => by
    have hy0 := hy y (by simp)
    have h1 := hy0.2.1
    have h63 := hy0.2.2
    have hsz : sizeL (y :: ys) = 1 + y.length + sizeL ys := rfl
    have hd0 : l.drop at_ = UInt8.ofNat y.length :: ((y ++ (wireL ys ++ [0])).take k) := by
      rw [hd, wireL_cons, List.cons_append, List.take_succ_cons, List.append_assoc]
    obtain ⟨hb, hlt0, hd1⟩ := bat_head hd0
    have hbl : bat l at_ = y.length := by rw [hb, UInt8.toNat_ofNat']; omega
    by_cases hy2 : n < at_ + 1 + y.length
    · rw [readS_end (r := .bad 3 at_) (by unfold rstep; dsimp only; rw [hbl, if_neg (by omega), if_neg (by omega), if_pos (by omega), if_pos hy2])]
      rfl
    · rw [List.take_append, List.take_of_length_le (by omega)] at hd1
      have hd2 : l.drop (at_ + 1 + y.length) = (wireL ys ++ [0]).take (k - y.length) := by rw [← List.drop_drop (i := y.length) (j := at_ + 1), hd1, List.drop_left' rfl]
      have htk : (l.drop (at_ + 1)).take y.length = y := by rw [hd1, List.take_left' rfl]
      have hst : rstep l n ⟨at_, below, size, a, next⟩ = .inl ⟨at_ + 1 + y.length, below, size + 1 + y.length, dotted a y, next⟩ := by
        unfold rstep
        dsimp only
        rw [hbl, htk, lowL_ok hy0, if_neg (by omega), if_neg (by omega), if_pos (by omega), if_neg (by omega), if_neg (by simpa using hy0), if_neg (by omega)]
      rw [readS_on hst (by dsimp only; omega)]
      exact read_short hn ys (at_ + 1 + y.length) below (size + 1 + y.length) (dotted a y) next (k - y.length) (fun z hz => hy z (List.mem_cons_of_mem _ hz)) (by omega) (by omega) hd2 (by omega)
theorem cut_name {l : List UInt8} {n : Nat} (hn : l.length = n) {s : List UInt8} (hs : rightN s) {at_ k : Nat} (hk : at_ + k = n) (hd : l.drop at_ = (writeB s).take k) (h : k < (writeB s).length) : (readv l n at_).f.code = 3 := by
  unfold readv
  rw [if_neg (by omega), Int.toNat_natCast]
  unfold writeB at hd h
  rw [List.length_append, wireL_length] at h
  exact read_short hn (labsN s) at_ at_ 1 [] none k hs.1 hs.2 hk hd h

/-! ### Records -/
theorem alike_cases {r : Rc} (h : rightR r) : (r.kind = 28 ∧ r.v6 = true ∧ r.target = [] ∧ r.data = []) ∨ (r.kind = 1 ∧ r.v6 = false ∧ r.target = [] ∧ r.data = []) ∨ (r.kind = 5 ∧ r.v6 = false ∧ r.adr = zero16 ∧ r.data = []) ∨ (r.kind ≠ 28 ∧ r.kind ≠ 1 ∧ r.kind ≠ 5 ∧ r.v6 = false ∧ r.adr = zero16 ∧ r.target = []) := by
  obtain ⟨_, _, _, _, h⟩ := h
  unfold alikeV bareV at h
  by_cases h28 : r.kind = 28
  · rw [if_pos h28] at h
    exact .inl ⟨h28, h.1.1, h.2.1, h.2.2⟩
  rw [if_neg h28] at h
  by_cases h1 : r.kind = 1
  · rw [if_pos h1] at h
    exact .inr (.inl ⟨h1, h.1.1, h.2.1, h.2.2⟩)
  rw [if_neg h1] at h
  by_cases h5 : r.kind = 5
  · rw [if_pos h5] at h
    exact .inr (.inr (.inl ⟨h5, h.1.1, h.1.2, h.2.2⟩))
  rw [if_neg h5] at h
  exact .inr (.inr (.inr ⟨h28, h1, h5, h.1.1, h.1.2, h.2.1⟩))
theorem right_zeros {a : List UInt8} (h : rightA false a) : a.take 4 ++ zero12 = a := by
  rw [← h rfl, List.take_append_drop]
/-- What a record bears, as it is written, is read. -/
theorem data_back {l : List UInt8} {n : Nat} (hn : l.length = n) {r : Rc} (hr : rightR r) (hk : r.ok) {at_ : Nat} {rest : List UInt8} (hd : l.drop (at_ + 2) = dataB r ++ rest) : dataV l n (r.asks.asRc r.ttl) at_ (dataB r).length = (r, fl0) := by
  have htk : (l.drop (at_ + 2)).take (dataB r).length = dataB r := by rw [hd, List.take_left' rfl]
  have hc := alike_cases hr
  obtain ⟨name, kind, cls, ttl, v6, adr, target, data⟩ := r
  unfold Rc.ok at hk
  dsimp only at hc hk
  rcases hc with ⟨rfl, rfl, rfl, rfl⟩ | ⟨rfl, rfl, rfl, rfl⟩ | ⟨rfl, rfl, rfl, rfl⟩ | ⟨h28, h1, h5, rfl, rfl, rfl⟩
  · have e : dataB ⟨name, 28, cls, ttl, true, adr, [], []⟩ = adr := by
      show adr.take 16 = adr
      exact List.take_of_length_le (by omega)
    rw [e] at htk ⊢
    unfold dataV Rc.asks Qs.asRc
    dsimp only
    rw [if_pos rfl, if_neg (by omega), ← hk, htk]
  · have e : dataB ⟨name, 1, cls, ttl, false, adr, [], []⟩ = adr.take 4 := rfl
    have e4 : (adr.take 4).length = 4 := by rw [List.length_take]; omega
    rw [e, e4] at htk
    rw [e]
    unfold dataV Rc.asks Qs.asRc
    dsimp only
    rw [if_neg (by decide), if_pos rfl, if_neg (by omega), htk, right_zeros hr.2.1]
  · have e : dataB ⟨name, 5, cls, ttl, false, zero16, target, []⟩ = writeB target := rfl
    rw [e] at hd ⊢
    have hrd := read_written hn hr.2.2.1 hd
    have hn5 : nameV (readv l n ((at_ : Int) + 2)) at_ (writeB target).length = (target, fl0) := by
      rw [show ((at_ : Int) + 2) = ((at_ + 2 : Nat) : Int) by omega, hrd]
      unfold nameV Rd.ok
      dsimp only
      rw [if_neg (by decide), if_neg (by omega)]
    unfold dataV Rc.asks Qs.asRc
    dsimp only
    rw [if_neg (by decide), if_neg (by decide), if_pos rfl, hn5]
    rfl
  · have e : dataB ⟨name, kind, cls, ttl, false, zero16, [], data⟩ = data := by
      unfold dataB
      dsimp only
      rw [if_neg (by omega), if_neg h5]
    rw [e] at htk ⊢
    unfold dataV Rc.asks Qs.asRc
    dsimp only
    rw [if_neg h28, if_neg h1, if_neg h5, htk]
theorem dataB_le {r : Rc} (hr : rightR r) : (dataB r).length ≤ 1000 := by
  unfold dataB
  split
  · rw [List.length_take]
    unfold widB
    split <;> omega
  · split
    · have h2 := hr.2.2.1.2
      unfold writeB
      rw [List.length_append, wireL_length]
      simp only [List.length_cons, List.length_nil]
      omega
    · exact hr.2.2.2.1
theorem writeRB_length (r : Rc) : (writeRB r).length = (writeQB r.asks).length + 6 + (dataB r).length := by
  unfold writeRB
  simp only [List.length_append, putn_length]
  omega
theorem back_r {l : List UInt8} {n : Nat} (hn : l.length = n) {r : Rc} (hr : rightR r) (hk : r.ok) (t0 : 0 ≤ r.ttl) (t1 : r.ttl < 4294967296) {at_ : Nat} {rest : List UInt8} (hat : at_ ≤ n) (hd : l.drop at_ = writeRB r ++ rest) : readRv l n at_ = ⟨r, at_ + (writeRB r).length, fl0⟩ := by
  have hl := room hn hd hat
  rw [writeRB_length] at hl ⊢
  unfold writeRB at hd
  rw [List.append_assoc, List.append_assoc, List.append_assoc] at hd
  unfold readRv
  rw [back_q hn (q := r.asks) hr.1 hat hd]
  have h1 := drop_on hd rfl
  have h2 := drop_on h1 (putn_length _ _)
  have h3 := drop_on h2 (putn_length _ _)
  have n1 := num4_put h1 t0 t1
  have n2 := num2_put h2 (show shortI ((dataB r).length : Nat) by have := dataB_le hr; unfold shortI; omega)
  have n2' : num2 l (at_ + (writeQB r.asks).length + 4) = (dataB r).length := by omega
  have hdat := data_back hn hr hk (at_ := at_ + (writeQB r.asks).length + 4) h3
  unfold readRq
  dsimp only
  rw [n1, n2', hdat]
  dsimp only
  rw [if_neg (by decide), if_neg (by omega), if_neg (by rw [if_neg (by omega)]; omega), if_neg (by decide), show at_ + (writeQB r.asks).length + 6 + (dataB r).length = at_ + ((writeQB r.asks).length + 6 + (dataB r).length) by omega]
/-- A record that is cut. -/
theorem cut_r {l : List UInt8} {n : Nat} (hn : l.length = n) {r : Rc} (hr : rightR r) {at_ k : Nat} (hat : at_ ≤ n) (hd : l.drop at_ = (writeRB r).take k) (h2 : k < (writeRB r).length) : (readRv l n at_).f.code = 3 := by
  have hkl : at_ + k = n := by
    have := congrArg List.length hd
    rw [List.length_drop, List.length_take] at this
    omega
  rw [writeRB_length, writeQB_length, show r.asks.name = r.name from rfl] at h2
  have hw : writeRB r = writeB r.name ++ ((putn r.kind 2 ++ putn r.cls 2) ++ (putn r.ttl 4 ++ (putn ((dataB r).length : Nat) 2 ++ dataB r))) := by
    unfold writeRB writeQB Rc.asks
    rw [List.append_assoc]
  by_cases h1 : k < (writeB r.name).length
  · have hdn : l.drop at_ = (writeB r.name).take k := by
      rw [hd, hw, List.take_append_of_le_length (by omega)]
    have hq := cut_name hn hr.1.1 hkl hdn h1
    have hq2 : readQv l n at_ = .bad (readv l n at_).f := by
      unfold readQv readQd
      rw [if_pos (by rw [show (readv l n (at_ : Int)).f.code = 3 from hq]; decide)]
    unfold readRv readRq
    rw [hq2, if_pos (by show (readv l n at_).f.code ≠ 0; rw [hq]; decide)]
    exact hq
  replace h1 : (writeB r.name).length ≤ k := by omega
  by_cases h4 : k < (writeB r.name).length + 4
  · have hd1 : l.drop at_ = writeB r.asks.name ++ ((putn r.kind 2 ++ putn r.cls 2) ++ (putn r.ttl 4 ++ (putn ((dataB r).length : Nat) 2 ++ dataB r))).take (k - (writeB r.name).length) := by
      rw [hd, hw, List.take_append, List.take_of_length_le h1]
      rfl
    have hq := cut_q hn (q := r.asks) hr.1 hat hd1 (by rw [List.length_take]; omega)
    unfold readRv readRq
    rw [if_pos (by rw [hq]; decide)]
    exact hq
  · have hd2 : l.drop at_ = writeQB r.asks ++ (putn r.ttl 4 ++ (putn ((dataB r).length : Nat) 2 ++ dataB r)).take (k - ((writeB r.name).length + 4)) := by
      rw [hd]
      unfold writeRB
      rw [List.take_append, writeQB_length, List.take_of_length_le (by rw [writeQB_length]; show (writeB r.name).length + 4 ≤ k; omega)]
      rfl
    unfold readRv
    rw [back_q hn (q := r.asks) hr.1 hat hd2, writeQB_length]
    show (readRq l n ⟨r.asks, at_ + ((writeB r.name).length + 4), fl0⟩).f.code = 3
    unfold readRq
    dsimp only
    rw [if_neg (by decide)]
    by_cases h8 : n < at_ + ((writeB r.name).length + 4) + 4
    · rw [if_pos h8]; rfl
    rw [if_neg h8]
    by_cases h10 : n < at_ + ((writeB r.name).length + 4) + 6
    · rw [if_pos h10, if_pos (by omega)]; rfl
    rw [if_neg h10]
    have e1 := drop_on hd2 (writeQB_length r.asks)
    rw [List.take_append, List.take_of_length_le (by rw [putn_length]; omega), putn_length] at e1
    have e2 := drop_on e1 (putn_length _ _)
    rw [List.take_append, List.take_of_length_le (by rw [putn_length]; omega), putn_length] at e2
    have n2 := num2_put e2 (show shortI ((dataB r).length : Nat) by have := dataB_le hr; unfold shortI; omega)
    have n2' : num2 l (at_ + ((writeB r.name).length + 4) + 4) = (dataB r).length := by
      have e3 : (r.asks.name) = r.name := rfl
      rw [e3] at n2
      omega
    rw [n2', if_pos (by omega)]
    rfl
end Go.Proofs.YtpojiimcdknafaaGreatDoor
