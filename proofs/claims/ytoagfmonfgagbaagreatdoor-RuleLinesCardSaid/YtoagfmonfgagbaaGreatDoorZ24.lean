/-
  
-/
import Derived.Test.YtoagfmonfgagbaaGreatDoorZ23
import Derived.Lib.ItoaNum
namespace Go.Proofs.YtoagfmonfgagbaaGreatDoor
structure Ru (N : Type) where
  allow : Bool
  pat : Sum (List UInt8 × Bool) N
  proto : Int
  low : Nat
  high : Nat
structure Rls (A N : Type) where
  servers : List A
  rules : List (Ru N)
structure Fx (A N : Type) where
  pa : List UInt8 → Option A
  ta : A → List UInt8
  ra : A → Bool
  pn : List UInt8 → Option N
  tn : N → List UInt8
  rn : N → Bool
  nm : List UInt8 → Bool
def wordL (l : List UInt8) : Prop := l ≠ [] ∧ ∀ c ∈ l, wordB c = true
structure Fx.ok {A N : Type} (f : Fx A N) : Prop where
  a1 : ∀ x, f.ra x = true → f.pa (f.ta x) = some x
  a2 : ∀ l x, f.pa l = some x → f.ra x = true
  a3 : ∀ x, f.ra x = true → wordL (f.ta x)
  n1 : ∀ x, f.rn x = true → f.pn (f.tn x) = some x
  n2 : ∀ l x, f.pn l = some x → f.rn x = true
  n3 : ∀ x, f.rn x = true → wordL (f.tn x)
  m1 : ∀ l, f.nm l = true → ∀ c ∈ l, 33 ≤ c.toNat ∧ c.toNat ≤ 126
def kwResolver : List UInt8 := [114, 101, 115, 111, 108, 118, 101, 114]
def kwAllow : List UInt8 := [97, 108, 108, 111, 119]
def kwDeny : List UInt8 := [100, 101, 110, 121]
def kwName : List UInt8 := [110, 97, 109, 101]
def kwNet : List UInt8 := [110, 101, 116]
def kwTcp : List UInt8 := [116, 99, 112]
def kwUdp : List UInt8 := [117, 100, 112]
def kwIcmp : List UInt8 := [105, 99, 109, 112]
def kwAny : List UInt8 := [97, 110, 121]
def protoV (l : List UInt8) : Option Int := if l = kwTcp then some 6 else if l = kwUdp then some 17 else if l = kwIcmp then some 1 else if l = kwAny then some 256 else none
def protoT (n : Int) : List UInt8 := if n = 6 then kwTcp else if n = 17 then kwUdp else if n = 1 then kwIcmp else kwAny
def protoOk (n : Int) : Bool := n == 6 || n == 17 || n == 1 || n == 256
theorem proto_back {n : Int} (h : protoOk n = true) : protoV (protoT n) = some n := by
  unfold protoOk at h
  simp only [Bool.or_eq_true, beq_iff_eq] at h
  rcases h with ((rfl | rfl) | rfl) | rfl <;> rfl
theorem proto_ok {l : List UInt8} {n : Int} (h : protoV l = some n) : protoOk n = true := by
  unfold protoV at h
  split at h
  · cases h; rfl
  split at h
  · cases h; rfl
  split at h
  · cases h; rfl
  split at h
  · cases h; rfl
  · cases h
theorem proto_word (n : Int) : wordL (protoT n) := by
  unfold protoT
  split
  · exact ⟨by decide, by decide⟩
  split
  · exact ⟨by decide, by decide⟩
  split
  · exact ⟨by decide, by decide⟩
  · exact ⟨by decide, by decide⟩
def digB (c : UInt8) : Bool := decide (48 ≤ c.toNat) && decide (c.toNat ≤ 57)
def decGo : Nat → List UInt8 → Option Nat
  | n, [] => some n
  | n, c :: l => if digB c then decGo (n * 10 + (c.toNat - 48)) l else none
def decN (l : List UInt8) : Option Nat := if l = [] then none else decGo 0 l
def portN (l : List UInt8) : Option Nat := if 5 < l.length ∨ (1 < l.length ∧ l.head? = some 48) then none else (decN l).bind fun n => if 65535 < n then none else some n
theorem portN_le {l : List UInt8} {n : Nat} (h : portN l = some n) : n ≤ 65535 := by
  unfold portN at h
  split at h
  · cases h
  · cases hd : decN l with
    | none => rw [hd] at h; cases h
    | some m =>
      rw [hd] at h
      simp only [Option.bind_some] at h
      split at h
      · cases h
      · cases h; omega
theorem dig_of {d : Nat} (h : d < 10) : digB (UInt8.ofNat (48 + d)) = true ∧ (UInt8.ofNat (48 + d)).toNat = 48 + d := by
  have e : (UInt8.ofNat (48 + d)).toNat = 48 + d := by rw [UInt8.toNat_ofNat']; omega
  refine ⟨?_, e⟩
  unfold digB
  rw [e]
  simp
  omega
theorem dec_stepP (n : Nat) : Lib.decDigits n = if n < 10 then [UInt8.ofNat (48 + n)] else Lib.decDigits (n / 10) ++ [UInt8.ofNat (48 + n % 10)] := by
  rw [Lib.decDigits]
  split <;> rfl
theorem decGo_append : ∀ (l m : List UInt8) (n : Nat), decGo n (l ++ m) = (decGo n l).bind fun k => decGo k m
  | [], m, n => rfl
  | c :: l, m, n => by
    rw [List.cons_append, decGo, decGo]
    by_cases h : digB c = true
    · rw [if_pos h, if_pos h, decGo_append l m]
    · rw [if_neg h, if_neg h]; rfl
theorem dec_val : ∀ (k n : Nat), n < k → decGo 0 (Lib.decDigits n) = some n
  | 0, n, h => absurd h (Nat.not_lt_zero n)
  | k + 1, n, h => by
    rw [dec_stepP]
    by_cases h10 : n < 10
    · rw [if_pos h10]
      obtain ⟨d1, d2⟩ := dig_of h10
      rw [decGo, if_pos d1, decGo, d2]
      congr 1
      omega
    · rw [if_neg h10, decGo_append, dec_val k (n / 10) (by omega)]
      obtain ⟨d1, d2⟩ := dig_of (Nat.mod_lt n (show 0 < 10 by decide))
      rw [Option.bind_some, decGo, if_pos d1, decGo, d2]
      congr 1
      omega
theorem dec_digs : ∀ (k n : Nat), n < k → ∀ c ∈ Lib.decDigits n, digB c = true
  | 0, n, h => absurd h (Nat.not_lt_zero n)
  | k + 1, n, h => by
    rw [dec_stepP]
    intro c hc
    by_cases h10 : n < 10
    · rw [if_pos h10] at hc
      obtain rfl := List.mem_singleton.1 hc
      exact (dig_of h10).1
    · rw [if_neg h10] at hc
      rcases List.mem_append.1 hc with hc | hc
      · exact dec_digs k (n / 10) (by omega) c hc
      · obtain rfl := List.mem_singleton.1 hc
        exact (dig_of (Nat.mod_lt n (show 0 < 10 by decide))).1
theorem dec_ne (n : Nat) : Lib.decDigits n ≠ [] := by
  rw [dec_stepP]
  split <;> simp
theorem dec_len : ∀ (k n : Nat), n < 10 ^ k → 0 < k → (Lib.decDigits n).length ≤ k
  | 0, n, _, h => absurd h (Nat.lt_irrefl 0)
  | k + 1, n, h, _ => by
    rw [dec_stepP]
    by_cases h10 : n < 10
    · rw [if_pos h10]; simp
    · rw [if_neg h10, List.length_append]
      have hk : 0 < k := by
        rcases Nat.eq_zero_or_pos k with rfl | hk
        · simp at h; omega
        · exact hk
      have := dec_len k (n / 10) (by rw [Nat.pow_succ] at h; omega) hk
      simp
      omega
theorem dec_head : ∀ (k n : Nat), n < k → 0 < n → (Lib.decDigits n).head? ≠ some 48
  | 0, n, h, _ => absurd h (Nat.not_lt_zero n)
  | k + 1, n, h, h0 => by
    rw [dec_stepP]
    by_cases h10 : n < 10
    · rw [if_pos h10]
      intro he
      have h1 := Option.some.inj he
      have h2 := (dig_of h10).2
      rw [h1] at h2
      have h3 : (48 : UInt8).toNat = 48 := rfl
      omega
    · rw [if_neg h10]
      have ih := dec_head k (n / 10) (by omega) (by omega)
      cases hd : Lib.decDigits (n / 10) with
      | nil => exact absurd hd (dec_ne _)
      | cons c l =>
        rw [hd] at ih
        exact ih
theorem port_back {n : Nat} (h : n ≤ 65535) : portN (Lib.decDigits n) = some n := by
  unfold portN
  have h1 := dec_len 5 n (by omega) (by decide)
  have h2 : ¬ (5 < (Lib.decDigits n).length ∨ (1 < (Lib.decDigits n).length ∧ (Lib.decDigits n).head? = some 48)) := by
    rintro (h2 | ⟨h2, h3⟩)
    · omega
    · rcases Nat.eq_zero_or_pos n with rfl | hn
      · rw [dec_stepP] at h2
        simp at h2
      · exact dec_head (n + 1) n (by omega) hn h3
  rw [if_neg h2]
  unfold decN
  rw [if_neg (dec_ne n), dec_val (n + 1) n (by omega), Option.bind_some, if_neg (by omega)]
theorem dec_word (n : Nat) : wordL (Lib.decDigits n) := by
  refine ⟨dec_ne n, fun c hc => ?_⟩
  have h := dec_digs (n + 1) n (by omega) c hc
  unfold digB at h
  simp only [Bool.and_eq_true, decide_eq_true_eq] at h
  unfold wordB
  simp only [Bool.and_eq_true, decide_eq_true_eq, bne_iff_ne]
  refine ⟨⟨by omega, by omega⟩, ?_⟩
  rintro rfl
  have h3 : (35 : UInt8).toNat = 35 := rfl
  omega
theorem dec_no_dash (n : Nat) : (45 : UInt8) ∉ Lib.decDigits n := fun hc => by
  have h := dec_digs (n + 1) n (by omega) _ hc
  revert h
  decide
def dashV : List UInt8 → List UInt8 × Option (List UInt8)
  | [] => ([], none)
  | c :: l => if c = 45 then ([], some l) else (c :: (dashV l).1, (dashV l).2)
theorem dash_none : ∀ {l : List UInt8}, (45 : UInt8) ∉ l → dashV l = (l, none)
  | [], _ => rfl
  | c :: l, h => by
    have hc : c ≠ 45 := fun e => h (by rw [e]; exact List.mem_cons_self ..)
    rw [dashV, if_neg hc, dash_none fun hm => h (List.mem_cons_of_mem _ hm)]
theorem dash_some : ∀ {l m : List UInt8}, (45 : UInt8) ∉ l → dashV (l ++ 45 :: m) = (l, some m)
  | [], m, _ => rfl
  | c :: l, m, h => by
    have hc : c ≠ 45 := fun e => h (by rw [e]; exact List.mem_cons_self ..)
    rw [List.cons_append, dashV, if_neg hc, dash_some fun hm => h (List.mem_cons_of_mem _ hm)]
def portsV (l : List UInt8) : Option (Nat × Nat) :=
  if l = [42] then some (0, 65535) else match dashV l with
    | (x, none) => (portN x).map fun a => (a, a)
    | (x, some y) => (portN x).bind fun a => (portN y).bind fun b => if a ≤ b then some (a, b) else none
def portsT (a b : Nat) : List UInt8 := if a = 0 ∧ b = 65535 then [42] else if a = b then Lib.decDigits a else Lib.decDigits a ++ 45 :: Lib.decDigits b
theorem star_not_dec (n : Nat) (m : List UInt8) : Lib.decDigits n ++ m ≠ [42] := fun h => by
  cases hd : Lib.decDigits n with
  | nil => exact dec_ne n hd
  | cons c l =>
    have hc := dec_digs (n + 1) n (by omega) c (by rw [hd]; exact List.mem_cons_self ..)
    rw [hd, List.cons_append] at h
    injection h with h1 _
    rw [h1] at hc
    revert hc
    decide
theorem ports_back {a b : Nat} (h : a ≤ b) (hb : b ≤ 65535) : portsV (portsT a b) = some (a, b) := by
  unfold portsT
  by_cases h1 : a = 0 ∧ b = 65535
  · rw [if_pos h1]
    obtain ⟨rfl, rfl⟩ := h1
    rfl
  rw [if_neg h1]
  by_cases h2 : a = b
  · subst h2
    rw [if_pos rfl]
    unfold portsV
    have := star_not_dec a []
    rw [List.append_nil] at this
    rw [if_neg this, dash_none (dec_no_dash a)]
    dsimp only
    rw [port_back hb]
    rfl
  · rw [if_neg h2]
    unfold portsV
    rw [if_neg (star_not_dec a _), dash_some (dec_no_dash a)]
    dsimp only
    rw [port_back (by omega), port_back hb, Option.bind_some, Option.bind_some, if_pos h]
theorem ports_ok {l : List UInt8} {a b : Nat} (h : portsV l = some (a, b)) : a ≤ b ∧ b ≤ 65535 := by
  unfold portsV at h
  split at h
  · cases h; exact ⟨by omega, Nat.le_refl _⟩
  · split at h
    · rename_i x _
      cases hx : portN x with
      | none => rw [hx] at h; cases h
      | some n =>
        rw [hx] at h
        cases h
        exact ⟨Nat.le_refl _, portN_le hx⟩
    · rename_i x y _
      cases hx : portN x with
      | none => rw [hx] at h; cases h
      | some n =>
        cases hy : portN y with
        | none => rw [hx, hy] at h; cases h
        | some m =>
          rw [hx, hy, Option.bind_some, Option.bind_some] at h
          split at h
          · cases h
            rename_i hle
            exact ⟨hle, portN_le hy⟩
          · cases h
theorem ports_word (a b : Nat) : wordL (portsT a b) := by
  unfold portsT
  split
  · exact ⟨by decide, by decide⟩
  split
  · exact dec_word a
  · refine ⟨by simp, fun c hc => ?_⟩
    rcases List.mem_append.1 hc with hc | hc
    · exact (dec_word a).2 c hc
    · rcases List.mem_cons.1 hc with rfl | hc
      · decide
      · exact (dec_word b).2 c hc
section
variable {A N : Type}
def wildB : List UInt8 → Bool
  | a :: b :: _ => a == 42 && b == 46
  | _ => false
def plainN (f : Fx A N) (l : List UInt8) : Bool := f.nm l && !l.isEmpty && !l.contains 35 && !wildB l
def patternV (f : Fx A N) (l : List UInt8) : Option (List UInt8 × Bool) := if wildB l then (if f.nm l && plainN f (l.drop 2) then some (l.drop 2, true) else none) else if plainN f l then some (l, false) else none
def patternT (x : List UInt8 × Bool) : List UInt8 := if x.2 then 42 :: 46 :: x.1 else x.1
def plainP (f : Fx A N) (x : List UInt8 × Bool) : Bool := plainN f x.1 && (!x.2 || f.nm (42 :: 46 :: x.1))
theorem plainP_n {f : Fx A N} {x : List UInt8 × Bool} (h : plainP f x = true) : plainN f x.1 = true := by
  unfold plainP at h
  rw [Bool.and_eq_true] at h
  exact h.1
theorem pattern_back {f : Fx A N} {x : List UInt8 × Bool} (h' : plainP f x = true) : patternV f (patternT x) = some x := by
  have h := plainP_n h'
  obtain ⟨n, w⟩ := x
  cases w with
  | true =>
    show patternV f (42 :: 46 :: n) = _
    unfold patternV
    rw [if_pos (show wildB (42 :: 46 :: n) = true from rfl)]
    have h3 := h'
    unfold plainP at h3
    simp only [Bool.not_true, Bool.false_or, Bool.and_eq_true] at h3
    show (if (f.nm (42 :: 46 :: n) && plainN f n) = true then _ else _) = _
    rw [if_pos (by rw [h3.1, h3.2]; rfl)]
    rfl
  | false =>
    show patternV f n = _
    unfold patternV
    have hw : ¬ wildB n = true := by
      have h2 : plainN f n = true := h
      unfold plainN at h2
      simp only [Bool.and_eq_true, Bool.not_eq_true'] at h2
      rw [h2.2]
      decide
    rw [if_neg hw]
    rw [if_pos (show plainN f n = true from h)]
theorem pattern_ok {f : Fx A N} {l : List UInt8} {x : List UInt8 × Bool} (h : patternV f l = some x) : plainP f x = true := by
  unfold patternV at h
  split at h
  · rename_i hw
    split at h
    · rename_i hc
      cases h
      rw [Bool.and_eq_true] at hc
      match l, hw, hc with
      | a :: b :: r, hw, hc =>
        unfold wildB at hw
        simp only [Bool.and_eq_true, beq_iff_eq] at hw
        obtain ⟨rfl, rfl⟩ := hw
        unfold plainP
        show (plainN f r && (!true || f.nm (42 :: 46 :: r))) = true
        have h2 : plainN f r = true := hc.2
        rw [hc.1, h2]
        rfl
    · cases h
  · split at h
    · cases h
      unfold plainP
      rename_i hc
      rw [hc]
      rfl
    · cases h
theorem pattern_word {f : Fx A N} (hf : f.ok) {x : List UInt8 × Bool} (h' : plainP f x = true) : wordL (patternT x) := by
  have h := plainP_n h'
  have h2 := h
  unfold plainN at h2
  simp only [Bool.and_eq_true, Bool.not_eq_true'] at h2
  obtain ⟨⟨⟨m, e⟩, c35⟩, _⟩ := h2
  have hw : ∀ c ∈ x.1, wordB c = true := fun c hc => by
    have h3 := hf.m1 _ m c hc
    unfold wordB
    simp only [Bool.and_eq_true, decide_eq_true_eq, bne_iff_ne]
    refine ⟨h3, ?_⟩
    rintro rfl
    rw [List.contains_iff_mem.2 hc] at c35
    cases c35
  obtain ⟨n, w⟩ := x
  cases w with
  | true =>
    refine ⟨by simp [patternT], fun c hc => ?_⟩
    have hc : c ∈ 42 :: 46 :: n := hc
    rcases List.mem_cons.1 hc with rfl | hc
    · decide
    rcases List.mem_cons.1 hc with rfl | hc
    · decide
    · exact hw c hc
  | false =>
    refine ⟨fun he => ?_, hw⟩
    have he : n = [] := he
    subst he
    cases e
end
end Go.Proofs.YtoagfmonfgagbaaGreatDoor

namespace Go.Proofs.YtoagfmonfgagbaaGreatDoor
abbrev Ad19 := Bool × List UInt8
section
variable {N : Type}
def serverT (f : Fx Ad19 N) (r : Rls Ad19 N) : List (List UInt8) → Option (Rls Ad19 N)
  | [a] => (f.pa a).bind fun x => if x ∈ r.servers ∨ 20 ≤ r.servers.length then none else some ⟨r.servers ++ [x], r.rules⟩
  | _ => none
theorem serverT_one (f : Fx Ad19 N) (r : Rls Ad19 N) (a : List UInt8) : serverT f r [a] = (f.pa a).bind fun x => if x ∈ r.servers ∨ 20 ≤ r.servers.length then none else some ⟨r.servers ++ [x], r.rules⟩ := rfl
def patT (f : Fx Ad19 N) (k p : List UInt8) : Option (Sum (List UInt8 × Bool) N) := if k = kwName then (patternV f p).map .inl else if k = kwNet then (f.pn p).map .inr else none
def ruleT (f : Fx Ad19 N) (allow : Bool) (r : Rls Ad19 N) : List (List UInt8) → Option (Rls Ad19 N)
  | [k, p, pr, po] => if 200 ≤ r.rules.length then none else (patT f k p).bind fun q => (protoV pr).bind fun n => (portsV po).map fun x => ⟨r.servers, r.rules ++ [⟨allow, q, n, x.1, x.2⟩]⟩
  | _ => none
theorem ruleT_four (f : Fx Ad19 N) (b : Bool) (r : Rls Ad19 N) (k p pr po : List UInt8) : ruleT f b r [k, p, pr, po] = if 200 ≤ r.rules.length then none else (patT f k p).bind fun q => (protoV pr).bind fun n => (portsV po).map fun x => ⟨r.servers, r.rules ++ [⟨b, q, n, x.1, x.2⟩]⟩ := rfl
def lineT (f : Fx Ad19 N) (r : Rls Ad19 N) : List (List UInt8) → Option (Rls Ad19 N)
  | [] => some r
  | w :: ws => if w = kwResolver then serverT f r ws else if w = kwAllow then ruleT f true r ws else if w = kwDeny then ruleT f false r ws else none
theorem lineT_cons (f : Fx Ad19 N) (r : Rls Ad19 N) (w : List UInt8) (ws : List (List UInt8)) : lineT f r (w :: ws) = if w = kwResolver then serverT f r ws else if w = kwAllow then ruleT f true r ws else if w = kwDeny then ruleT f false r ws else none := rfl
def serverE (f : Fx Ad19 N) (r : Rls Ad19 N) (e : Nat) : List Tk → Int × Nat
  | [] => (15, e)
  | a :: more => match f.pa a.text with
    | none => (17, a.at_)
    | some x => if x ∈ r.servers then (19, a.at_) else if 20 ≤ r.servers.length then (4, a.at_) else match more with
      | [] => (0, 0)
      | m :: _ => (15, m.at_)
def ruleE (f : Fx Ad19 N) (r : Rls Ad19 N) (first e : Nat) (ts : List Tk) : Int × Nat :=
  if 200 ≤ r.rules.length then (4, first) else match ts with
  | [] => (15, e)
  | k :: ts => if k.text ≠ kwName ∧ k.text ≠ kwNet then (15, k.at_) else match ts with
    | [] => (15, e)
    | p :: ts => if patT f k.text p.text = none then (if k.text = kwName then 13 else 17, p.at_) else match ts with
      | [] => (15, e)
      | pr :: ts => if protoV pr.text = none then (15, pr.at_) else match ts with
        | [] => (15, e)
        | po :: ts => if portsV po.text = none then (16, po.at_) else match ts with
          | [] => (0, 0)
          | m :: _ => (15, m.at_)
def lineE (f : Fx Ad19 N) (r : Rls Ad19 N) (e : Nat) : List Tk → Int × Nat
  | [] => (0, 0)
  | w :: ws => if w.text = kwResolver then serverE f r e ws else if w.text = kwAllow ∨ w.text = kwDeny then ruleE f r w.at_ e ws else (15, w.at_)
def lineV (f : Fx Ad19 N) (r : Rls Ad19 N) (ts : List Tk) (e : Nat) : Sum (Int × Nat) (Rls Ad19 N) := match lineT f r (ts.map (·.text)) with
  | some r' => .inr r'
  | none => .inl (lineE f r e ts)
def parseL (f : Fx Ad19 N) : Rls Ad19 N → List Tk → List Tk → Sum (Int × Nat) (Rls Ad19 N)
  | r, ws, [] => lineV f r ws 0
  | r, ws, t :: ts => if t.word then parseL f r (ws ++ [t]) ts else match lineV f r ws t.at_ with
    | .inl x => .inl x
    | .inr r' => parseL f r' [] ts
def noneR : Rls Ad19 N := ⟨[], []⟩
def parseV (f : Fx Ad19 N) (ts : List Tk) : Sum (Int × Nat) (Rls Ad19 N) := parseL f noneR [] ts
def patOk (f : Fx Ad19 N) : Sum (List UInt8 × Bool) N → Bool
  | .inl p => plainP f p
  | .inr n => f.rn n
def oneR (f : Fx Ad19 N) (x : Ru N) : Bool := protoOk x.proto && decide (x.low ≤ x.high) && decide (x.high ≤ 65535) && patOk f x.pat
structure RightR (f : Fx Ad19 N) (r : Rls Ad19 N) : Prop where
  s20 : r.servers.length ≤ 20
  sra : ∀ a ∈ r.servers, f.ra a = true
  snd : r.servers.Nodup
  r200 : r.rules.length ≤ 200
  one : ∀ x ∈ r.rules, oneR f x = true
theorem right_none (f : Fx Ad19 N) : RightR f (noneR : Rls Ad19 N) := ⟨Nat.zero_le _, (fun a h => by cases h), List.nodup_nil, Nat.zero_le _, fun x h => by cases h⟩
theorem server_right {f : Fx Ad19 N} (hf : f.ok) {r r' : Rls Ad19 N} {ws : List (List UInt8)} (hr : RightR f r) (h : serverT f r ws = some r') : RightR f r' := by
  match ws, h with
  | [a], h =>
    rw [serverT_one] at h
    cases ha : f.pa a with
    | none => rw [ha] at h; cases h
    | some x =>
      rw [ha, Option.bind_some] at h
      split at h
      · cases h
      · rename_i hn
        cases h
        have h1 : x ∉ r.servers := fun hx => hn (.inl hx)
        refine ⟨by show (r.servers ++ [x]).length ≤ 20; rw [List.length_append]; simp; omega, fun y hy => ?_, ?_, hr.r200, hr.one⟩
        · rcases List.mem_append.1 hy with hy | hy
          · exact hr.sra y hy
          · obtain rfl := List.mem_singleton.1 hy
            exact hf.a2 _ _ ha
        · show (r.servers ++ [x]).Nodup
          rw [List.nodup_append]
          refine ⟨hr.snd, by simp, fun y hy z hz => ?_⟩
          obtain rfl := List.mem_singleton.1 hz
          rintro rfl
          exact h1 hy
theorem pat_ok {f : Fx Ad19 N} (hf : f.ok) {k p : List UInt8} {q : Sum (List UInt8 × Bool) N} (h : patT f k p = some q) : patOk f q = true := by
  unfold patT at h
  split at h
  · cases hp : patternV f p with
    | none => rw [hp] at h; cases h
    | some x => rw [hp] at h; cases h; exact pattern_ok hp
  · split at h
    · cases hp : f.pn p with
      | none => rw [hp] at h; cases h
      | some x => rw [hp] at h; cases h; exact hf.n2 _ _ hp
    · cases h
theorem rule_right {f : Fx Ad19 N} (hf : f.ok) {allow : Bool} {r r' : Rls Ad19 N} {ws : List (List UInt8)} (hr : RightR f r) (h : ruleT f allow r ws = some r') : RightR f r' := by
  match ws, h with
  | [k, p, pr, po], h =>
    rw [ruleT_four] at h
    split at h
    · cases h
    · rename_i h200
      cases hq : patT f k p with
      | none => rw [hq] at h; cases h
      | some q =>
        cases hn : protoV pr with
        | none => rw [hq, hn] at h; cases h
        | some n =>
          cases hx : portsV po with
          | none => rw [hq, hn, hx] at h; cases h
          | some x =>
            rw [hq, hn, hx] at h
            cases h
            refine ⟨hr.s20, hr.sra, hr.snd, by show (r.rules ++ [_]).length ≤ 200; rw [List.length_append]; simp; omega, fun y hy => ?_⟩
            rcases List.mem_append.1 hy with hy | hy
            · exact hr.one y hy
            · obtain rfl := List.mem_singleton.1 hy
              unfold oneR
              have h1 := ports_ok (a := x.1) (b := x.2) hx
              simp only [Bool.and_eq_true, decide_eq_true_eq]
              exact ⟨⟨⟨proto_ok hn, h1.1⟩, h1.2⟩, pat_ok hf hq⟩
theorem line_right {f : Fx Ad19 N} (hf : f.ok) {r r' : Rls Ad19 N} {ws : List (List UInt8)} (hr : RightR f r) (h : lineT f r ws = some r') : RightR f r' := by
  cases ws with
  | nil => cases h; exact hr
  | cons w ws =>
    rw [lineT_cons] at h
    split at h
    · exact server_right hf hr h
    split at h
    · exact rule_right hf hr h
    split at h
    · exact rule_right hf hr h
    · cases h
theorem lineV_right {f : Fx Ad19 N} (hf : f.ok) {r r' : Rls Ad19 N} {ts : List Tk} {e : Nat} (hr : RightR f r) (h : lineV f r ts e = .inr r') : RightR f r' := by
  unfold lineV at h
  cases hl : lineT f r (ts.map (·.text)) with
  | none => rw [hl] at h; cases h
  | some r2 => rw [hl] at h; cases h; exact line_right hf hr hl
theorem parseL_right {f : Fx Ad19 N} (hf : f.ok) : ∀ (ts ws : List Tk) (r r' : Rls Ad19 N), RightR f r → parseL f r ws ts = .inr r' → RightR f r'
  | [], ws, r, r', hr, h => lineV_right hf hr h
  | t :: ts, ws, r, r', hr, h => by
    rw [parseL] at h
    split at h
    · exact parseL_right hf ts _ r r' hr h
    · cases hl : lineV f r ws t.at_ with
      | inl x => rw [hl] at h; cases h
      | inr r2 =>
        rw [hl] at h
        exact parseL_right hf ts [] r2 r' (lineV_right hf hr hl) h
theorem parse_may {f : Fx Ad19 N} (hf : f.ok) {ts : List Tk} {r : Rls Ad19 N} (h : parseV f ts = .inr r) : RightR f r := parseL_right hf ts [] _ r (right_none f) h
def joinSp : List (List UInt8) → List UInt8
  | [] => []
  | [w] => w
  | w :: ws => w ++ 32 :: joinSp ws
theorem joinSp_cons (w v : List UInt8) (ws : List (List UInt8)) : joinSp (w :: v :: ws) = w ++ 32 :: joinSp (v :: ws) := rfl
def wordsS (f : Fx Ad19 N) (a : Ad19) : List (List UInt8) := [kwResolver, f.ta a]
def wordsR (f : Fx Ad19 N) (x : Ru N) : List (List UInt8) := [if x.allow then kwAllow else kwDeny, (match x.pat with | .inl _ => kwName | .inr _ => kwNet), (match x.pat with | .inl p => patternT p | .inr n => f.tn n), protoT x.proto, portsT x.low x.high]
def lineB (ws : List (List UInt8)) : List UInt8 := joinSp ws ++ [10]
def linesOf (f : Fx Ad19 N) (r : Rls Ad19 N) : List (List (List UInt8)) := r.servers.map (wordsS f) ++ r.rules.map (wordsR f)
def textR (f : Fx Ad19 N) (r : Rls Ad19 N) : List UInt8 := (linesOf f r).flatMap lineB
theorem words_s {f : Fx Ad19 N} (hf : f.ok) {a : Ad19} (h : f.ra a = true) : ∀ w ∈ wordsS f a, wordL w := fun w hw => by
  unfold wordsS at hw
  simp only [List.mem_cons, List.not_mem_nil, or_false] at hw
  rcases hw with rfl | rfl
  · exact ⟨by decide, by decide⟩
  · exact hf.a3 _ h
theorem one_parts {f : Fx Ad19 N} {x : Ru N} (h : oneR f x = true) : protoOk x.proto = true ∧ x.low ≤ x.high ∧ x.high ≤ 65535 ∧ patOk f x.pat = true := by
  unfold oneR at h
  simp only [Bool.and_eq_true, decide_eq_true_eq] at h
  exact ⟨h.1.1.1, h.1.1.2, h.1.2, h.2⟩
theorem words_r {f : Fx Ad19 N} (hf : f.ok) {x : Ru N} (h : oneR f x = true) : ∀ w ∈ wordsR f x, wordL w := fun w hw => by
  obtain ⟨h1, h2, h3, h4⟩ := one_parts h
  unfold wordsR at hw
  simp only [List.mem_cons, List.not_mem_nil, or_false] at hw
  rcases hw with rfl | rfl | rfl | rfl | rfl
  · split <;> exact ⟨by decide, by decide⟩
  · split <;> exact ⟨by decide, by decide⟩
  · cases hp : x.pat with
    | inl p =>
      rw [hp] at h4
      exact pattern_word hf h4
    | inr n =>
      rw [hp] at h4
      exact hf.n3 _ h4
  · exact proto_word _
  · exact ports_word _ _
theorem line_s {f : Fx Ad19 N} (hf : f.ok) {r : Rls Ad19 N} {a : Ad19} (ha : f.ra a = true) (h1 : a ∉ r.servers) (h2 : r.servers.length < 20) : lineT f r (wordsS f a) = some ⟨r.servers ++ [a], r.rules⟩ := by
  unfold wordsS
  rw [lineT_cons, if_pos rfl, serverT_one, hf.a1 a ha, Option.bind_some, if_neg]
  rintro (h | h)
  · exact h1 h
  · omega
theorem line_r {f : Fx Ad19 N} (hf : f.ok) {r : Rls Ad19 N} {x : Ru N} (h : oneR f x = true) (h2 : r.rules.length < 200) : lineT f r (wordsR f x) = some ⟨r.servers, r.rules ++ [x]⟩ := by
  obtain ⟨g1, g2, g3, g4⟩ := one_parts h
  have hrule : ∀ b, ruleT f b r ((wordsR f x).tail) = some ⟨r.servers, r.rules ++ [⟨b, x.pat, x.proto, x.low, x.high⟩]⟩ := fun b => by
    unfold wordsR
    rw [List.tail_cons, ruleT_four, if_neg (by omega), proto_back g1, ports_back g2 g3]
    have hp : patT f (match x.pat with | .inl _ => kwName | .inr _ => kwNet) (match x.pat with | .inl p => patternT p | .inr n => f.tn n) = some x.pat := by
      cases hp : x.pat with
      | inl p =>
        rw [hp] at g4
        show (if kwName = kwName then _ else _) = _
        rw [if_pos rfl, pattern_back (f := f) g4]
        rfl
      | inr n =>
        rw [hp] at g4
        show (if kwNet = kwName then _ else if kwNet = kwNet then _ else _) = _
        rw [if_neg (by decide), if_pos rfl, hf.n1 n g4]
        rfl
    rw [hp]
    rfl
  obtain ⟨al, pat, pr, lo, hi⟩ := x
  cases al with
  | true =>
    have e : wordsR f (⟨true, pat, pr, lo, hi⟩ : Ru N) = kwAllow :: (wordsR f (⟨true, pat, pr, lo, hi⟩ : Ru N)).tail := rfl
    rw [e, lineT_cons, if_neg (by decide), if_pos rfl, hrule true]
  | false =>
    have e : wordsR f (⟨false, pat, pr, lo, hi⟩ : Ru N) = kwDeny :: (wordsR f (⟨false, pat, pr, lo, hi⟩ : Ru N)).tail := rfl
    rw [e, lineT_cons, if_neg (by decide), if_neg (by decide), if_pos rfl, hrule false]
def foldT (f : Fx Ad19 N) : Rls Ad19 N → List (List (List UInt8)) → Option (Rls Ad19 N)
  | r, [] => some r
  | r, ws :: l => (lineT f r ws).bind fun r' => foldT f r' l
theorem foldT_append (f : Fx Ad19 N) : ∀ (l m : List (List (List UInt8))) (r : Rls Ad19 N), foldT f r (l ++ m) = (foldT f r l).bind fun r' => foldT f r' m
  | [], m, r => rfl
  | ws :: l, m, r => by
    rw [List.cons_append, foldT, foldT]
    cases lineT f r ws with
    | none => rfl
    | some r2 => exact foldT_append f l m r2
theorem fold_s {f : Fx Ad19 N} (hf : f.ok) : ∀ (l : List Ad19) (r : Rls Ad19 N), (∀ a ∈ l, f.ra a = true) → (r.servers ++ l).Nodup → (r.servers ++ l).length ≤ 20 → foldT f r (l.map (wordsS f)) = some ⟨r.servers ++ l, r.rules⟩
  | [], r, _, _, _ => by rw [List.append_nil]; rfl
  | a :: l, r, h1, h2, h3 => by
    have hn : a ∉ r.servers := fun h => by
      rw [List.nodup_append] at h2
      exact h2.2.2 a h a (List.mem_cons_self ..) rfl
    rw [List.length_append, List.length_cons] at h3
    rw [List.map_cons, foldT, line_s hf (h1 a (List.mem_cons_self ..)) hn (by omega), Option.bind_some, fold_s hf l _ (fun b hb => h1 b (List.mem_cons_of_mem _ hb))]
    · show some (⟨r.servers ++ [a] ++ l, r.rules⟩ : Rls Ad19 N) = _
      rw [List.append_assoc]
      rfl
    · show (r.servers ++ [a] ++ l).Nodup
      rw [List.append_assoc]
      exact h2
    · show (r.servers ++ [a] ++ l).length ≤ 20
      rw [List.append_assoc, List.length_append]
      simp
      omega
theorem fold_r {f : Fx Ad19 N} (hf : f.ok) : ∀ (l : List (Ru N)) (r : Rls Ad19 N), (∀ x ∈ l, oneR f x = true) → (r.rules ++ l).length ≤ 200 → foldT f r (l.map (wordsR f)) = some ⟨r.servers, r.rules ++ l⟩
  | [], r, _, _ => by rw [List.append_nil]; rfl
  | x :: l, r, h1, h3 => by
    rw [List.length_append, List.length_cons] at h3
    rw [List.map_cons, foldT, line_r hf (h1 x (List.mem_cons_self ..)) (by omega), Option.bind_some, fold_r hf l _ (fun b hb => h1 b (List.mem_cons_of_mem _ hb))]
    · show some (⟨r.servers, r.rules ++ [x] ++ l⟩ : Rls Ad19 N) = _
      rw [List.append_assoc]
      rfl
    · show (r.rules ++ [x] ++ l).length ≤ 200
      rw [List.append_assoc, List.length_append]
      simp
      omega
theorem fold_back {f : Fx Ad19 N} (hf : f.ok) {r : Rls Ad19 N} (hr : RightR f r) : foldT f noneR (linesOf f r) = some r := by
  unfold linesOf
  rw [foldT_append, fold_s hf r.servers noneR hr.sra hr.snd hr.s20, Option.bind_some, fold_r hf r.rules ⟨noneR.servers ++ r.servers, noneR.rules⟩ hr.one (by show ([] ++ r.rules).length ≤ 200; rw [List.nil_append]; exact hr.r200)]
  rfl
def wtoks (at_ row : Nat) : List (List UInt8) → List Tk
  | [] => []
  | w :: ws => ⟨true, at_, row, w⟩ :: wtoks (at_ + w.length + 1) row ws
theorem wtoks_text : ∀ (ws : List (List UInt8)) (at_ row : Nat), (wtoks at_ row ws).map (·.text) = ws
  | [], _, _ => rfl
  | w :: ws, at_, row => by rw [wtoks, List.map_cons, wtoks_text ws]
theorem wtoks_word : ∀ (ws : List (List UInt8)) (at_ row : Nat), ∀ t ∈ wtoks at_ row ws, t.word = true
  | [], _, _, t, h => by cases h
  | w :: ws, at_, row, t, h => by
    rcases List.mem_cons.1 h with rfl | h
    · rfl
    · exact wtoks_word ws _ _ t h
theorem lexM_sp : ∀ (ws : List (List UInt8)), (∀ w ∈ ws, wordL w) → ∀ (at_ row : Nat) (rest : List UInt8), (∀ c, rest.head? = some c → wordB c = false) → lexM .gap at_ row (joinSp ws ++ rest) = joinR (wtoks at_ row ws) (lexM .gap (at_ + (joinSp ws).length) row rest)
  | [], _, at_, row, rest, _ => (joinR_nil _).symm
  | [w], h, at_, row, rest, hr => by
    have hw := h w (List.mem_cons_self ..)
    exact lexM_whole hw.1 hw.2 at_ row rest hr
  | w :: v :: ws, h, at_, row, rest, hr => by
    have hw := h w (List.mem_cons_self ..)
    have ih := lexM_sp (v :: ws) (fun x hx => h x (List.mem_cons_of_mem _ hx)) (at_ + w.length + 1) row rest hr
    rw [joinSp_cons, List.append_assoc, List.cons_append, lexM_whole hw.1 hw.2 at_ row (32 :: (joinSp (v :: ws) ++ rest)) (fun c hc => by
      obtain rfl := Option.some.inj hc
      decide), lexM_blank (show blankB 32 = true by decide), ih, joinR_joinR]
    have e : at_ + w.length + 1 + (joinSp (v :: ws)).length = at_ + (w ++ 32 :: joinSp (v :: ws)).length := by
      rw [List.length_append, List.length_cons]
      omega
    rw [e]
    rfl
inductive Lns : List Tk → List (List (List UInt8)) → Prop
  | nil : Lns [] []
  | cons (ws : List Tk) (e row : Nat) (ts : List Tk) (l : List (List (List UInt8))) : (∀ t ∈ ws, t.word = true) → Lns ts l → Lns (ws ++ ⟨false, e, row, []⟩ :: ts) (ws.map (·.text) :: l)
theorem Lns.append {ts us : List Tk} {l m : List (List (List UInt8))} (h : Lns ts l) (k : Lns us m) : Lns (ts ++ us) (l ++ m) := by
  induction h with
  | nil => exact k
  | cons ws e row ts l hw _ ih =>
    rw [List.append_assoc, List.cons_append]
    exact .cons ws e row _ _ hw ih
theorem parse_words (f : Fx Ad19 N) (r : Rls Ad19 N) : ∀ (ws acc ts : List Tk), (∀ t ∈ ws, t.word = true) → parseL f r acc (ws ++ ts) = parseL f r (acc ++ ws) ts
  | [], acc, ts, _ => by rw [List.append_nil]; rfl
  | w :: ws, acc, ts, h => by
    rw [List.cons_append, parseL, if_pos (h w (List.mem_cons_self ..)), parse_words f r ws _ _ (fun t ht => h t (List.mem_cons_of_mem _ ht)), List.append_assoc]
    rfl
theorem parse_line (f : Fx Ad19 N) (r : Rls Ad19 N) (ws ts : List Tk) (e row : Nat) (h : ∀ t ∈ ws, t.word = true) : parseL f r [] (ws ++ ⟨false, e, row, []⟩ :: ts) = (match lineV f r ws e with
    | .inl x => .inl x
    | .inr r' => parseL f r' [] ts) := by
  rw [parse_words f r ws [] _ h, List.nil_append, parseL, if_neg (show ¬ (false = true) by decide)]
theorem parse_lns {f : Fx Ad19 N} {ts : List Tk} {l : List (List (List UInt8))} (h : Lns ts l) : ∀ (r r' : Rls Ad19 N) (more : List Tk), foldT f r l = some r' → parseL f r [] (ts ++ more) = parseL f r' [] more := by
  induction h with
  | nil =>
    intro r r' more h
    cases h
    rfl
  | cons ws e row ts l hw _ ih =>
    intro r r' more h
    rw [foldT] at h
    cases hl : lineT f r (ws.map (·.text)) with
    | none => rw [hl] at h; cases h
    | some r2 =>
      rw [hl, Option.bind_some] at h
      have hv : lineV f r ws e = .inr r2 := by unfold lineV; rw [hl]
      rw [List.append_assoc, List.cons_append, parse_line f r ws _ e row hw, hv]
      exact ih r2 r' more h
def Chunk (b : List UInt8) (l : List (List (List UInt8))) : Prop := ∀ (at_ row : Nat) (rest : List UInt8), ∃ ts row', Lns ts l ∧ lexM .gap at_ row (b ++ rest) = joinR ts (lexM .gap (at_ + b.length) row' rest)
theorem Chunk.nil : Chunk [] [] := fun _ row _ => ⟨[], row, .nil, (joinR_nil _).symm⟩
theorem Chunk.append {b c : List UInt8} {l m : List (List (List UInt8))} (h : Chunk b l) (k : Chunk c m) : Chunk (b ++ c) (l ++ m) := fun at_ row rest => by
  obtain ⟨ts, row1, h1, h2⟩ := h at_ row (c ++ rest)
  obtain ⟨us, row2, k1, k2⟩ := k (at_ + b.length) row1 rest
  refine ⟨ts ++ us, row2, h1.append k1, ?_⟩
  rw [List.append_assoc, h2, k2, joinR_joinR, List.length_append, Nat.add_assoc]
theorem chunk_line {ws : List (List UInt8)} (h : ∀ w ∈ ws, wordL w) : Chunk (lineB ws) [ws] := fun at_ row rest => by
  have h1 := lexM_sp ws h at_ row (10 :: rest) (fun c hc => by
    obtain rfl := Option.some.inj hc
    decide)
  refine ⟨wtoks at_ row ws ++ [⟨false, at_ + (joinSp ws).length, row, []⟩], row + 1, ?_, ?_⟩
  · have h2 := Lns.cons (wtoks at_ row ws) (at_ + (joinSp ws).length) row [] [] (wtoks_word ws at_ row) .nil
    rw [wtoks_text] at h2
    exact h2
  · unfold lineB
    rw [List.append_assoc]
    show lexM .gap at_ row (joinSp ws ++ 10 :: rest) = _
    rw [h1, lexM_ten, joinR_joinR, List.length_append]
    rfl
theorem chunk_lines : ∀ (l : List (List (List UInt8))), (∀ ws ∈ l, ∀ w ∈ ws, wordL w) → Chunk (l.flatMap lineB) l
  | [], _ => Chunk.nil
  | ws :: l, h => by
    have h1 := (chunk_line (h ws (List.mem_cons_self ..))).append (chunk_lines l fun x hx => h x (List.mem_cons_of_mem _ hx))
    exact h1
theorem chunk_note (q : List UInt8) (hq : ∀ c ∈ q, c ≠ 10) : Chunk (32 :: 35 :: q ++ [10]) [[]] := fun at_ row rest => by
  refine ⟨[⟨false, at_ + 1 + 1 + q.length, row, []⟩], row + 1, Lns.cons [] _ row [] [] (fun t h => by cases h) .nil, ?_⟩
  have e : 32 :: 35 :: q ++ [10] ++ rest = 32 :: (35 :: q ++ 10 :: rest) := by simp
  rw [e, lexM_blank (show blankB 32 = true by decide), lexM_pass q (at_ + 1) row (10 :: rest) hq (fun c hc => (Option.some.inj hc).symm), lexM_ten]
  congr 2
  simp
  omega
theorem chunk_end : Chunk [10] [[]] := fun at_ row rest => ⟨[⟨false, at_, row, []⟩], row + 1, Lns.cons [] _ row [] [] (fun t h => by cases h) .nil, lexM_ten at_ row rest⟩
theorem chunk_parse {f : Fx Ad19 N} {b : List UInt8} {l : List (List (List UInt8))} (h : Chunk b l) {r : Rls Ad19 N} (hr : foldT f noneR l = some r) : ∃ ts, lexM .gap 0 1 b = .inr ts ∧ parseV f ts = .inr r := by
  obtain ⟨ts, row', h1, h2⟩ := h 0 1 []
  rw [List.append_nil, lexM_end] at h2
  refine ⟨_, h2, ?_⟩
  unfold parseV
  rw [parse_lns h1 noneR r _ hr, parseL, if_neg (show ¬ (false = true) by decide)]
  rfl
theorem chunk_text {f : Fx Ad19 N} (hf : f.ok) {r : Rls Ad19 N} (hr : RightR f r) : Chunk (textR f r) (linesOf f r) := chunk_lines _ fun ws hws => by
  unfold linesOf at hws
  rcases List.mem_append.1 hws with h | h
  · obtain ⟨a, ha, rfl⟩ := List.mem_map.1 h
    exact words_s hf (hr.sra a ha)
  · obtain ⟨x, hx, rfl⟩ := List.mem_map.1 h
    exact words_r hf (hr.one x hx)
end
end Go.Proofs.YtoagfmonfgagbaaGreatDoor

namespace Go.Proofs.YtoagfmonfgagbaaGreatDoor
section
variable {N : Type}
def sizeW (ws : List (List UInt8)) : Nat := (ws.map List.length).sum
theorem sizeW_cons (w : List UInt8) (ws : List (List UInt8)) : sizeW (w :: ws) = w.length + sizeW ws := by simp [sizeW]
theorem sizeW_append (a b : List (List UInt8)) : sizeW (a ++ b) = sizeW a + sizeW b := by simp [sizeW]
def sizeT (ts : List Tk) : Nat := sizeW (ts.map (·.text))
theorem sizeT_append (a b : List Tk) : sizeT (a ++ b) = sizeT a + sizeT b := by unfold sizeT; rw [List.map_append, sizeW_append]
theorem sizeT_cons (t : Tk) (ts : List Tk) : sizeT (t :: ts) = t.text.length + sizeT ts := by unfold sizeT; rw [List.map_cons, sizeW_cons]
def Md.size : Md → Nat
  | .word _ acc => acc.length
  | _ => 0
theorem flush_size (m : Md) (row : Nat) : sizeT (m.flush row) = m.size := by cases m <;> simp [Md.flush, Md.size, sizeT, sizeW]
theorem lexM_size : ∀ (l : List UInt8) (m : Md) (at_ row : Nat) (ts : List Tk), lexM m at_ row l = .inr ts → sizeT ts ≤ m.size + l.length
  | [], m, at_, row, ts, h => by
    rw [lexM] at h
    cases h
    rw [sizeT_append, flush_size]
    simp [sizeT, sizeW]
  | c :: l, m, at_, row, ts, h => by
    cases hs : stepL at_ row c m with
    | none => rw [lexM_none hs] at h; cases h
    | some x =>
      rw [lexM_step hs] at h
      cases hx : lexM x.2.1 (at_ + 1) x.2.2 l with
      | inl e => rw [hx] at h; cases h
      | inr us =>
        rw [hx] at h
        cases h
        have ih := lexM_size l _ _ _ _ hx
        rw [sizeT_append, List.length_cons]
        rcases step_cases hs with ⟨st, acc, rfl, _, rfl⟩ | ⟨m', hm', rfl⟩ | ⟨_, rfl⟩
        · simp only [Md.size, List.length_append, List.length_cons, List.length_nil] at ih ⊢
          have e : sizeT ([] : List Tk) = 0 := rfl
          omega
        · have h1 := flush_size m row
          dsimp only at ih ⊢
          rcases hm' with h | h | ⟨h, _⟩
          · rw [h] at ih; simp only [Md.size] at ih; omega
          · rw [h] at ih; simp only [Md.size] at ih; omega
          · rw [h] at ih; simp only [Md.size, List.length_cons, List.length_nil] at ih; omega
        · have h1 := flush_size m row
          dsimp only at ih ⊢
          rw [sizeT_append, h1]
          simp only [Md.size] at ih
          have e : sizeT [(⟨false, at_, row, []⟩ : Tk)] = 0 := rfl
          omega
def patLen (x : Ru N) : Nat := match x.pat with
  | .inl p => (patternT p).length
  | .inr _ => 0
def cost (r : Rls Ad19 N) : Nat := (r.rules.map patLen).sum
theorem joinSp_len : ∀ (ws : List (List UInt8)), (joinSp ws).length ≤ sizeW ws + ws.length
  | [] => Nat.zero_le _
  | [w] => by rw [sizeW_cons]; show w.length ≤ _; omega
  | w :: v :: ws => by
    have ih := joinSp_len (v :: ws)
    rw [joinSp_cons, List.length_append, List.length_cons, sizeW_cons, List.length_cons]
    omega
theorem proto_len (n : Int) : (protoT n).length ≤ 4 := by
  unfold protoT
  split
  · decide
  split
  · decide
  split
  · decide
  · decide
theorem ports_len {a b : Nat} (ha : a ≤ 65535) (hb : b ≤ 65535) : (portsT a b).length ≤ 11 := by
  have h1 := dec_len 5 a (by omega) (by decide)
  have h2 := dec_len 5 b (by omega) (by decide)
  unfold portsT
  split
  · decide
  split
  · omega
  · rw [List.length_append, List.length_cons]; omega
theorem line_len {f : Fx Ad19 N} {x : Ru N} (h : oneR f x = true) (hn : ∀ n, (f.tn n).length ≤ 43) : (lineB (wordsR f x)).length ≤ patLen x + 77 := by
  obtain ⟨g1, g2, g3, g4⟩ := one_parts h
  unfold lineB
  rw [List.length_append]
  have h1 := joinSp_len (wordsR f x)
  have h2 : sizeW (wordsR f x) ≤ 5 + (4 + ((patLen x + 43) + (4 + 11))) := by
    unfold wordsR
    rw [sizeW_cons, sizeW_cons, sizeW_cons, sizeW_cons, sizeW_cons]
    have e : sizeW ([] : List (List UInt8)) = 0 := rfl
    have a1 : (if x.allow then kwAllow else kwDeny).length ≤ 5 := by cases x.allow <;> decide
    have a4 := proto_len x.proto
    have a5 := ports_len (a := x.low) (b := x.high) (by omega) g3
    have a2 : (match x.pat with | .inl _ => kwName | .inr _ => kwNet).length ≤ 4 := by
      cases x.pat with
      | inl _ => show kwName.length ≤ 4; decide
      | inr _ => show kwNet.length ≤ 4; decide
    have a3 : (match x.pat with | .inl p => patternT p | .inr n => f.tn n).length ≤ patLen x + 43 := by
      unfold patLen
      cases x.pat with
      | inl p => exact Nat.le_add_right _ _
      | inr n => have := hn n; show (f.tn n).length ≤ 0 + 43; omega
    exact Nat.add_le_add a1 (Nat.add_le_add a2 (Nat.add_le_add a3 (Nat.add_le_add a4 (by rw [e]; omega))))
  have h3 : (wordsR f x).length = 5 := rfl
  simp only [List.length_cons, List.length_nil]
  omega
theorem line_lenS {f : Fx Ad19 N} (a : Ad19) (ha : ∀ a, (f.ta a).length ≤ 39) : (lineB (wordsS f a)).length ≤ 50 := by
  unfold lineB
  rw [List.length_append]
  have h1 := joinSp_len (wordsS f a)
  have h2 : sizeW (wordsS f a) ≤ 8 + 39 := by
    unfold wordsS
    rw [sizeW_cons, sizeW_cons]
    have e : sizeW ([] : List (List UInt8)) = 0 := rfl
    have := ha a
    have e2 : kwResolver.length = 8 := rfl
    omega
  have h3 : (wordsS f a).length = 2 := rfl
  simp only [List.length_cons, List.length_nil]
  omega
theorem flat_len {α : Type} (g : α → List UInt8) (b : Nat) : ∀ (l : List α), (∀ x ∈ l, (g x).length ≤ b) → (l.flatMap g).length ≤ l.length * b
  | [], _ => by simp
  | x :: l, h => by
    have ih := flat_len g b l fun y hy => h y (List.mem_cons_of_mem _ hy)
    have h1 := h x (List.mem_cons_self ..)
    rw [List.flatMap_cons, List.length_append, List.length_cons, Nat.succ_mul]
    omega
theorem flat_lenR {f : Fx Ad19 N} (hn : ∀ n, (f.tn n).length ≤ 43) : ∀ (l : List (Ru N)), (∀ x ∈ l, oneR f x = true) → (l.flatMap fun x => lineB (wordsR f x)).length ≤ (l.map patLen).sum + l.length * 77
  | [], _ => by simp
  | x :: l, h => by
    have ih := flat_lenR hn l fun y hy => h y (List.mem_cons_of_mem _ hy)
    have h1 := line_len (h x (List.mem_cons_self ..)) hn
    rw [List.flatMap_cons, List.length_append, List.length_cons, Nat.succ_mul, List.map_cons, List.sum_cons]
    omega
theorem text_len {f : Fx Ad19 N} (ha : ∀ a, (f.ta a).length ≤ 39) (hn : ∀ n, (f.tn n).length ≤ 43) {r : Rls Ad19 N} (hr : RightR f r) : (textR f r).length ≤ r.servers.length * 50 + cost r + r.rules.length * 77 := by
  have e : textR f r = (r.servers.flatMap fun a => lineB (wordsS f a)) ++ (r.rules.flatMap fun x => lineB (wordsR f x)) := by
    unfold textR linesOf
    rw [List.flatMap_append, List.flatMap_map, List.flatMap_map]
  rw [e, List.length_append]
  have h1 := flat_len (fun a => lineB (wordsS f a)) 50 r.servers fun a _ => line_lenS a ha
  have h2 := flat_lenR hn r.rules hr.one
  have e2 : cost r = (r.rules.map patLen).sum := rfl
  omega
theorem fold_lines {f : Fx Ad19 N} (hf : f.ok) {a b : Rls Ad19 N} (ha : RightR f a) (hb : RightR f b) (hn : a.rules.length + b.rules.length ≤ 200) (k : Nat) : foldT f noneR (linesOf f a ++ List.replicate k [] ++ linesOf f ⟨[], b.rules⟩) = some ⟨a.servers, a.rules ++ b.rules⟩ := by
  have hk : ∀ (k : Nat) (r : Rls Ad19 N), foldT f r (List.replicate k []) = some r := by
    intro k
    induction k with
    | zero => intro r; rfl
    | succ k ih =>
      intro r
      rw [List.replicate_succ, foldT]
      exact ih r
  rw [foldT_append, foldT_append, fold_back hf ha, Option.bind_some, hk, Option.bind_some]
  unfold linesOf
  rw [List.map_nil, List.nil_append, fold_r hf b.rules a hb.one (by rw [List.length_append]; exact hn)]
end
end Go.Proofs.YtoagfmonfgagbaaGreatDoor
