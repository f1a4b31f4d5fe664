/-
  stockadelaw13.RecordLengths answers true, whatever is handed in. Conditions: what the program's text has laid (internal/bytealg.MaxLen holds an int; errors.errorType holds the handle of the type error).
-/
import Derived.Test.YtddnfbkmhgflbaaGreatDoorZ44
import Derived.Test.YtddnfbkmhgflbaaGreatDoorZ39
import Derived.Test.YtddnfbkmhgflbaaGreatDoorZ32
import Derived.Test.YtddnfbkmhgflbaaGreatDoorZ26
import Derived.Test.YtddnfbkmhgflbaaGreatDoorZ53
import Derived.OwnWalk
namespace Go.Proofs.YtddnfbkmhgflbaaGreatDoor
open Go.RowKit
set_option maxRecDepth 100000

theorem readR_ok {l : List UInt8} {n : Nat} (hn : l.length = n) (at_ : Int) : (readRv l n at_).r.ok := by
  unfold readRv readRq
  generalize readQv l n at_ = q
  by_cases h1 : q.f.code ≠ 0
  · rw [if_pos h1]; rfl
  rw [if_neg h1]
  by_cases h2 : n < q.next + 4
  · rw [if_pos h2]; rfl
  rw [if_neg h2]
  by_cases h3 : n < q.next + 6 + (if n < q.next + 6 then 0 else num2 l (q.next + 4))
  · rw [if_pos h3]; rfl
  rw [if_neg h3]
  by_cases h4 : (dataV l n (q.q.asRc (num4 l q.next)) (q.next + 4) (num2 l (q.next + 4))).2.code ≠ 0
  · rw [if_pos h4]; rfl
  rw [if_neg h4]
  refine dataV_ok l n q.q _ _ _ ?_
  have h5 : ¬ n < q.next + 6 := fun h => h3 (by omega)
  rw [if_neg h5] at h3
  rw [List.length_take, List.length_drop]
  omega
def lenB (k m : UInt8) : List UInt8 := [0, 0, k, 0, 1, 0, 0, 0, 5, 0, m]
theorem len_split (k m : UInt8) (rest : List UInt8) : (lenB k m ++ rest).drop 0 = writeB [] ++ (headB 0 k 0 1 0 0 0 5 0 m ++ rest) := by
  rw [List.drop_zero]
  rfl
theorem addr_len {k : UInt8} {m lim : Nat} (hm : m < 40) (hk : k = 1 ∧ lim = 4 ∨ k = 28 ∧ lim = 16) {N : Nat} (hN : (lenB k (UInt8.ofNat m) ++ List.replicate 40 0).length = N) :
    (m = lim → (readRv (lenB k (UInt8.ofNat m) ++ List.replicate 40 0) N 0).f = fl0 ∧ (readRv (lenB k (UInt8.ofNat m) ++ List.replicate 40 0) N 0).next = 11 + m) ∧ (m ≠ lim → (readRv (lenB k (UInt8.ofNat m) ++ List.replicate 40 0) N 0).f = ⟨7, 9, true⟩) := by
  have hmn : (UInt8.ofNat m).toNat = m := by rw [UInt8.toNat_ofNat']; omega
  have hz : (0 : UInt8).toNat * 256 + (UInt8.ofNat m).toNat = m := by rw [hmn]; show 0 * 256 + m = m; omega
  obtain ⟨_, _, _, hr⟩ := head_read hN (s := []) (by decide +kernel) (at_ := 0) (p := 1) (by omega) (len_split k (UInt8.ofNat m) (List.replicate 40 0)) rfl (by rw [hz, List.length_replicate]; omega)
  rw [hz] at hr
  rw [show ((0 : Nat) : Int) = 0 from rfl] at hr
  rw [hr]
  have hkk : ((((0 : UInt8).toNat * 256 + k.toNat : Nat) : Int) = 1 ∧ lim = 4) ∨ ((((0 : UInt8).toNat * 256 + k.toNat : Nat) : Int) = 28 ∧ lim = 16) := by
    rcases hk with ⟨rfl, rfl⟩ | ⟨rfl, rfl⟩
    · exact .inl ⟨rfl, rfl⟩
    · exact .inr ⟨rfl, rfl⟩
  obtain ⟨x, hx⟩ := len_addr (l := lenB k (UInt8.ofNat m) ++ List.replicate 40 0) (n := N) (r := Qs.asRc ⟨[], (((0 : UInt8).toNat * 256 + k.toNat : Nat) : Int), (((0 : UInt8).toNat * 256 + (1 : UInt8).toNat : Nat) : Int)⟩ ((((((0 : UInt8).toNat * 256 + (0 : UInt8).toNat) * 256 + (0 : UInt8).toNat) * 256 + (5 : UInt8).toNat : Nat)) : Int)) 9 m lim hkk
  refine ⟨fun h => ?_, fun h => ?_⟩
  · show (readD _ N _ 9 m).f = fl0 ∧ (readD _ N _ 9 m).next = 11 + m
    rw [hx, if_pos h]
    exact ⟨rfl, by show 9 + 2 + m = 11 + m; omega⟩
  · show (readD _ N _ 9 m).f = _
    rw [hx, if_neg h]
    rfl
theorem name_len {m : Nat} (hm : m < 40) {S : List UInt8} (hS : rightN S) {N s : Nat} (hs : (writeB S).length = s) (hN : (lenB 5 (UInt8.ofNat m) ++ (writeB S ++ List.replicate 40 0)).length = N) :
    (m = s → (readRv (lenB 5 (UInt8.ofNat m) ++ (writeB S ++ List.replicate 40 0)) N 0).f = fl0 ∧ (readRv (lenB 5 (UInt8.ofNat m) ++ (writeB S ++ List.replicate 40 0)) N 0).next = 11 + m) ∧ (m ≠ s → (readRv (lenB 5 (UInt8.ofNat m) ++ (writeB S ++ List.replicate 40 0)) N 0).f = ⟨7, 9, true⟩) := by
  have hmn : (UInt8.ofNat m).toNat = m := by rw [UInt8.toNat_ofNat']; omega
  have hz : (0 : UInt8).toNat * 256 + (UInt8.ofNat m).toNat = m := by rw [hmn]; show 0 * 256 + m = m; omega
  obtain ⟨h10, _, _, hr⟩ := head_read hN (s := []) (by decide +kernel) (at_ := 0) (p := 1) (by omega) (len_split 5 (UInt8.ofNat m) (writeB S ++ List.replicate 40 0)) rfl (by rw [hz, List.length_append, List.length_replicate]; omega)
  rw [hz] at hr
  rw [show ((0 : Nat) : Int) = 0 from rfl] at hr
  rw [hr]
  have hv := read_written hN hS (at_ := 11) h10
  rw [hs] at hv
  rw [len_name 9 m (11 + s) rfl (by rw [show ((9 : Nat) : Int) + 2 = ((11 : Nat) : Int) from rfl]; exact hv)]
  refine ⟨fun h => ?_, fun h => ?_⟩
  · rw [if_pos (by omega)]
    exact ⟨rfl, by show 9 + 2 + m = 11 + m; omega⟩
  · rw [if_neg (by omega)]
    rfl
theorem wpList_append_zeros {P : Program} {ops : Array Oper} {rest : List Oper} {o : Oper} {a : Act} {w : World} {Q : Exit → Act → World → Prop} (hgd : o.guard = none) (s x : Operand) (t tn : TypeId) (ho : o.op = .call { callee := .builtin .append, args := #[s, x], argTypes := #[t, tn] })
    (base : Nat) {e : TypeId} {kn kq : IntKind} (ht : P.underlying t = some (.slice e)) (htn : P.underlying tn = some (.int kn)) (hi5 : (P.info? e).map (fun i => (i.zero, i.size, i.bytes)) = some (some (Value.int IntKind.u8 0), 1, 1))
    {v : Value} {n : Nat} {xs : List UInt8} (hs : a.eval s = v) (hown : w.ownsRow base e 1 v n (bv xs)) (hn0 : 0 < n) (k : Nat) (hx : a.eval x = .int kq k) (h0 : 0 < k) (h47 : n + k ≤ 140737488355328) (hbase : base ≤ w.heap.size)
    (h : ∀ v' w', w'.ownsRow base e 1 v' (n + k) (bv (xs ++ List.replicate k 0)) → w.grownBy w' v.ownBlock → wpList P ops Q rest (a.put o.dst v') w') : wpList P ops Q (o :: rest) a w :=
  wpList_plain hgd fun _ hK => by
    obtain ⟨v', w', hr, h1, h2⟩ := run_append_zeros8 (P := P) base t tn o.type e kn kq ht htn hi5 hown hn0 k h0 h47 hbase
    have h3 := hK _ _ (h v' w' h1 h2)
    unfold Oper.wp execOp
    simp only [ho, resolve, invoke, builtin, Sem.run_bind, Sem.run_pure, Result.andThen_ok, List.map_toArray, List.map_cons, List.map_nil, hs, hx, hr]
    exact h3
theorem below_of_nil' {w w' : World} (h : w.grownBy w' none) : Below w.heap.size w w' := ⟨h.os, h.tape, h.output, h.size, fun i hi => h.block i hi (by simp)⟩
set_option maxHeartbeats 8000000 in
theorem recordLengths (kind nn : Int) (s : ByteArray) (hs : s.size ≤ 9223372036854775807) {w : World} (hE : Env w) (hg : Handle w) :
    Calls Tryz.prog 5 #[.int .i64 kind, .int .i64 nn, .string s] w fun e w' => e = .returned (.bool true) ∧ Below w.heap.size w w' := by
  have HE := Lib.hid (And.intro hE hg)
  obtain ⟨q1, q2⟩ := num_mod8 kind 3 (by omega) (by omega)
  obtain ⟨q3, q4⟩ := num_mod8 nn 40 (by omega) (by omega)
  obtain ⟨i, hi⟩ : ∃ i : Int, wrap64 ((IntKind.u64.wrap kind).tmod 3) = i := ⟨_, rfl⟩
  obtain ⟨m, hm⟩ : ∃ m : Nat, wrap64 ((IntKind.u64.wrap nn).tmod 40) = (m : Int) := ⟨(wrap64 ((IntKind.u64.wrap nn).tmod 40)).toNat, by omega⟩
  rw [hi] at q1 q2
  rw [hm] at q3 q4
  have hm40 : m < 40 := by omega
  obtain ⟨i0, hi5, hz0, hz1, hz2⟩ := info_parts info5
  have HI := Lib.hid (And.intro hi5 (And.intro hz0 (And.intro hz1 hz2)))
  have hz40 : (madeCells (Value.int IntKind.u8 0).cells (40 * 1)).toList = bv (List.replicate 40 0) := by kernel_rfl
  have HZ := Lib.hid hz40
  have KS := Lib.hid fun w1 => playName_any s hs w1
  have rs := playN_right s.data.toList
  generalize playN s.data.toList = S at KS rs
  have WS := Lib.hid fun w1 => ref_write_row rs.1 w1
  have l1 := writeB_le rs.1
  have l0 : 1 ≤ (writeB S).length := by rw [writeB_length]; split <;> omega
  have hNm := fun (N : Nat) (hN : (lenB 5 (UInt8.ofNat m) ++ (writeB S ++ List.replicate 40 0)).length = N) => name_len hm40 rs.1 rfl hN
  have HNm := Lib.hid hNm
  clear hE hg q3 q4 hi5 hz0 hz1 hz2 hz40 hNm rs
  have hmu : ((UInt8.ofNat m).toNat : Int) = (m : Int) := by rw [UInt8.toNat_ofNat']; omega
  rcases (show i = 0 ∨ i = 1 ∨ i = 2 by omega) with rfl | rfl | rfl
  · by_cases hml : m = 4
    · have hlit : (#[.int .u8 0, .int .u8 0, .int .u8 1, .int .u8 0, .int .u8 1, .int .u8 0, .int .u8 0, .int .u8 0, .int .u8 5, .int .u8 0, .int .u8 (m : Int)] : Array Value).toList = bv (lenB 1 (UInt8.ofNat m)) := by
        simp [lenB, bv]
        omega
      have O0 := World.ownsRow_lit (base := w.heap.size) (e := 5) (size := 1) (w.alloc (.cells #[.int .i64 1, .int .i64 28, .int .i64 5] 3)) #[.int .u8 0, .int .u8 0, .int .u8 1, .int .u8 0, .int .u8 1, .int .u8 0, .int .u8 0, .int .u8 0, .int .u8 5, .int .u8 0, .int .u8 (m : Int)] 11 (by simp) (by unfold maxLen; omega) rfl
      rw [hlit, World.size_alloc] at O0
      have B0 : Below w.heap.size w ((w.alloc (.cells #[.int .i64 1, .int .i64 28, .int .i64 5] 3)).alloc (.cells #[.int .u8 0, .int .u8 0, .int .u8 1, .int .u8 0, .int .u8 1, .int .u8 0, .int .u8 0, .int .u8 0, .int .u8 5, .int .u8 0, .int .u8 (m : Int)] 5)) := ((Below.refl _ _).alloc (Nat.le_refl _) _).alloc (by simp) _
      have H0 := Lib.hid (And.intro O0 B0)
      have hw0 : w.heap.size + 1 < ((w.alloc (.cells #[.int .i64 1, .int .i64 28, .int .i64 5] 3)).alloc (.cells #[.int .u8 0, .int .u8 0, .int .u8 1, .int .u8 0, .int .u8 1, .int .u8 0, .int .u8 0, .int .u8 0, .int .u8 5, .int .u8 0, .int .u8 (m : Int)] 5)).heap.size := by simp
      have HW0 := Lib.hid hw0
      have hdec : ((m : Int) == 4) = true := by rw [beq_iff_eq]; omega
      have hN : (lenB 1 (UInt8.ofNat m) ++ List.replicate 40 0).length = 51 := rfl
      have hf := (addr_len hm40 (.inl ⟨rfl, rfl⟩) hN).1 hml
      have hro := readR_ok hN 0
      clear hw0 O0 B0 hlit q1 q2 hmu hml hN
      go_enter Tryz.func5, Tryz.ntmps5
      go_wp2_with fail
      generalize ((w.alloc (.cells #[.int .i64 1, .int .i64 28, .int .i64 5] 3)).alloc (.cells #[.int .u8 0, .int .u8 0, .int .u8 1, .int .u8 0, .int .u8 1, .int .u8 0, .int .u8 0, .int .u8 0, .int .u8 5, .int .u8 0, .int .u8 (m : Int)] 5)) = W0 at H0 HW0 ⊢
      refine (help_at 7 9 W0).mono ?_
      rintro e w1 ⟨rfl, b1⟩
      have H1 := Lib.hid (And.intro (own_kept H0.out.1 b1) (H0.out.2.trans (b1.mono H0.out.2.size)))
      have hf1 : w.heap.size + 1 < w1.heap.size := Nat.lt_of_lt_of_le HW0.out b1.size
      have HF1 := Lib.hid hf1
      clear b1 hf1
      go_wp2_with (first
        | (at_builtin; refine wpList_append_bs rfl (.tmp 67) (.tmp 68) 22 rfl w.heap.size 5 info5 Tryz.underlying22 (.slice (some ⟨w.heap.size + 1, 0, none⟩) 11 11) 11 (lenB 1 (UInt8.ofNat m)) rfl H4.out.2.1 _ 40 40 (List.replicate 40 0) rfl H4.out.2.2.1 (by omega) H4.out.2.2.2.size ?_; intro v10 w10 o10 g10 n10 m10; obtain ⟨A10, c10, rfl, hB10⟩ := Bs.of_own o10; have b10 := H4.out.2.2.2.grown g10 H4.out.2.2.2.size (fun q hq => (H4.out.2.1.lt q hq).1); have F10 := g10.block _ H4.out.1.lt (by (have q1 := HF1.out); (show some w1.heap.size ≠ some (w.heap.size + 1)); (intro hq); (injection hq with hq); omega); have H10 := Lib.hid (And.intro (H4.out.1.same F10) (And.intro hB10 b10)); clear o10 g10 n10 m10 hB10 b10 F10)
        | (at_make; refine wpList_make_full _ rfl (.const (.int .i64 40)) (.const (.int .i64 40)) 22 rfl w3.heap.size 5 i0 _ 1 Tryz.underlying22 HI.out.1 HI.out.2.1 HI.out.2.2.1 .i64 .i64 _ _ 40 rfl rfl rfl rfl (by rw [HI.out.2.2.2]; omega) (by unfold maxLen; omega) (Nat.le_refl _) ?_; intro w4 o4 g4; (have o4' := o4); rw [HZ.out] at o4'; have b4 := below_of_nil' g4; have H4 := Lib.hid (And.intro (H3.out.1.later b4 (Nat.le_refl _)) (And.intro (own_kept H3.out.2.1 b4) (And.intro (Bs.own_later o4' fun _ _ => rfl) (H3.out.2.2.trans (b4.mono H3.out.2.2.size))))); clear o4 o4' g4 b4)
        | (refine wpList_store_fl rfl (.tmp 9) (.tmp 36) rfl 7 9 true rfl rfl H2.out.1 ?_; intro w3 a3 f3 z3 g3; have H3 := Lib.hid (And.intro a3 (And.intro (own_kept H1.out.1 (g3 w1.heap.size w1 (Nat.le_refl _) H2.out.2)) (g3 w.heap.size w H1.out.2.size (H1.out.2.trans (H2.out.2.mono H1.out.2.size))))); clear a3 f3 z3 g3)
        | (refine wpList_alloc_fl rfl rfl ?_; intro w2 a2 g2 z2; have H2 := Lib.hid (And.intro a2 g2); clear a2 g2 z2))
      have kr := readR_any H10.out.2.1 (by omega) 0 (by omega) (HE.out.2.later H10.out.2.2 (Nat.le_refl _))
      unfold ReadRR at kr
      have HRO := Lib.hid hro
      clear hro
      obtain ⟨RR, hRR⟩ : ∃ RR, readRv (lenB 1 (UInt8.ofNat m) ++ List.replicate 40 0) 51 0 = RR := ⟨_, rfl⟩
      rw [hRR] at kr hf
      have hrk : RR.r.ok := by rw [← hRR]; exact HRO.out
      obtain ⟨rr, rn, rf⟩ := RR
      dsimp only at kr hf hrk
      obtain ⟨rfl, rfl⟩ := hf
      have KR := Lib.hid kr
      have HRK := Lib.hid hrk
      clear kr hrk hRR HRO
      refine KR.out.mono ?_
      rintro e w11 ⟨A11, n11, c11, v11, rfl, _, t11, b11⟩
      obtain rfl := t11.none' rfl
      have H11 := Lib.hid (H10.out.2.2.trans (b11.mono H10.out.2.2.size))
      clear t11 b11
      go_wp2_with (first
        | (refine wpList_store_rc rfl (.tmp 14) (.tmp 71) rfl rr A11 n11 c11 rfl rfl HRK.out H12.out.1 ?_; intro w13 a13 f13 z13 g13; have H13 := Lib.hid (g13 w.heap.size w H11.out.size H12.out.2); clear a13 f13 z13 g13)
        | (refine wpList_alloc_rc rfl rfl ?_; intro w12 a12 g12 z12; have H12 := Lib.hid (And.intro a12 (H11.out.trans (g12.mono H11.out.size))); clear a12 g12 z12))
      refine (awake13 (HE.out.1.later H13.out (Nat.le_refl _))).mono ?_
      rintro e w14 ⟨rfl, b14⟩
      have H14 := Lib.hid (H13.out.trans (b14.mono H13.out.size))
      clear b14
      go_wp2_with fail
      go_ret
      exact ⟨rfl, H14.out⟩
    · have hlit : (#[.int .u8 0, .int .u8 0, .int .u8 1, .int .u8 0, .int .u8 1, .int .u8 0, .int .u8 0, .int .u8 0, .int .u8 5, .int .u8 0, .int .u8 (m : Int)] : Array Value).toList = bv (lenB 1 (UInt8.ofNat m)) := by
        simp [lenB, bv]
        omega
      have O0 := World.ownsRow_lit (base := w.heap.size) (e := 5) (size := 1) (w.alloc (.cells #[.int .i64 1, .int .i64 28, .int .i64 5] 3)) #[.int .u8 0, .int .u8 0, .int .u8 1, .int .u8 0, .int .u8 1, .int .u8 0, .int .u8 0, .int .u8 0, .int .u8 5, .int .u8 0, .int .u8 (m : Int)] 11 (by simp) (by unfold maxLen; omega) rfl
      rw [hlit, World.size_alloc] at O0
      have B0 : Below w.heap.size w ((w.alloc (.cells #[.int .i64 1, .int .i64 28, .int .i64 5] 3)).alloc (.cells #[.int .u8 0, .int .u8 0, .int .u8 1, .int .u8 0, .int .u8 1, .int .u8 0, .int .u8 0, .int .u8 0, .int .u8 5, .int .u8 0, .int .u8 (m : Int)] 5)) := ((Below.refl _ _).alloc (Nat.le_refl _) _).alloc (by simp) _
      have H0 := Lib.hid (And.intro O0 B0)
      have hw0 : w.heap.size + 1 < ((w.alloc (.cells #[.int .i64 1, .int .i64 28, .int .i64 5] 3)).alloc (.cells #[.int .u8 0, .int .u8 0, .int .u8 1, .int .u8 0, .int .u8 1, .int .u8 0, .int .u8 0, .int .u8 0, .int .u8 5, .int .u8 0, .int .u8 (m : Int)] 5)).heap.size := by simp
      have HW0 := Lib.hid hw0
      have hdec : ((m : Int) == 4) = false := by exact beq_eq_false_iff_ne.2 (by omega)
      have hN : (lenB 1 (UInt8.ofNat m) ++ List.replicate 40 0).length = 51 := rfl
      have hf := (addr_len hm40 (.inl ⟨rfl, rfl⟩) hN).2 hml
      have hro := readR_ok hN 0
      clear hw0 O0 B0 hlit q1 q2 hmu hml hN
      go_enter Tryz.func5, Tryz.ntmps5
      go_wp2_with fail
      generalize ((w.alloc (.cells #[.int .i64 1, .int .i64 28, .int .i64 5] 3)).alloc (.cells #[.int .u8 0, .int .u8 0, .int .u8 1, .int .u8 0, .int .u8 1, .int .u8 0, .int .u8 0, .int .u8 0, .int .u8 5, .int .u8 0, .int .u8 (m : Int)] 5)) = W0 at H0 HW0 ⊢
      refine (help_at 7 9 W0).mono ?_
      rintro e w1 ⟨rfl, b1⟩
      have H1 := Lib.hid (And.intro (own_kept H0.out.1 b1) (H0.out.2.trans (b1.mono H0.out.2.size)))
      have hf1 : w.heap.size + 1 < w1.heap.size := Nat.lt_of_lt_of_le HW0.out b1.size
      have HF1 := Lib.hid hf1
      clear b1 hf1
      go_wp2_with (first
        | (at_builtin; refine wpList_append_bs rfl (.tmp 67) (.tmp 68) 22 rfl w.heap.size 5 info5 Tryz.underlying22 (.slice (some ⟨w.heap.size + 1, 0, none⟩) 11 11) 11 (lenB 1 (UInt8.ofNat m)) rfl H4.out.2.1 _ 40 40 (List.replicate 40 0) rfl H4.out.2.2.1 (by omega) H4.out.2.2.2.size ?_; intro v10 w10 o10 g10 n10 m10; obtain ⟨A10, c10, rfl, hB10⟩ := Bs.of_own o10; have b10 := H4.out.2.2.2.grown g10 H4.out.2.2.2.size (fun q hq => (H4.out.2.1.lt q hq).1); have F10 := g10.block _ H4.out.1.lt (by (have q1 := HF1.out); (show some w1.heap.size ≠ some (w.heap.size + 1)); (intro hq); (injection hq with hq); omega); have H10 := Lib.hid (And.intro (H4.out.1.same F10) (And.intro hB10 b10)); clear o10 g10 n10 m10 hB10 b10 F10)
        | (at_make; refine wpList_make_full _ rfl (.const (.int .i64 40)) (.const (.int .i64 40)) 22 rfl w3.heap.size 5 i0 _ 1 Tryz.underlying22 HI.out.1 HI.out.2.1 HI.out.2.2.1 .i64 .i64 _ _ 40 rfl rfl rfl rfl (by rw [HI.out.2.2.2]; omega) (by unfold maxLen; omega) (Nat.le_refl _) ?_; intro w4 o4 g4; (have o4' := o4); rw [HZ.out] at o4'; have b4 := below_of_nil' g4; have H4 := Lib.hid (And.intro (H3.out.1.later b4 (Nat.le_refl _)) (And.intro (own_kept H3.out.2.1 b4) (And.intro (Bs.own_later o4' fun _ _ => rfl) (H3.out.2.2.trans (b4.mono H3.out.2.2.size))))); clear o4 o4' g4 b4)
        | (refine wpList_store_fl rfl (.tmp 9) (.tmp 36) rfl 7 9 true rfl rfl H2.out.1 ?_; intro w3 a3 f3 z3 g3; have H3 := Lib.hid (And.intro a3 (And.intro (own_kept H1.out.1 (g3 w1.heap.size w1 (Nat.le_refl _) H2.out.2)) (g3 w.heap.size w H1.out.2.size (H1.out.2.trans (H2.out.2.mono H1.out.2.size))))); clear a3 f3 z3 g3)
        | (refine wpList_alloc_fl rfl rfl ?_; intro w2 a2 g2 z2; have H2 := Lib.hid (And.intro a2 g2); clear a2 g2 z2))
      have kr := readR_any H10.out.2.1 (by omega) 0 (by omega) (HE.out.2.later H10.out.2.2 (Nat.le_refl _))
      unfold ReadRR at kr
      have HRO := Lib.hid hro
      clear hro
      obtain ⟨RR, hRR⟩ : ∃ RR, readRv (lenB 1 (UInt8.ofNat m) ++ List.replicate 40 0) 51 0 = RR := ⟨_, rfl⟩
      rw [hRR] at kr hf
      have hrk : RR.r.ok := by rw [← hRR]; exact HRO.out
      obtain ⟨rr, rn, rf⟩ := RR
      dsimp only at kr hf hrk
      subst hf
      have KR := Lib.hid kr
      have HRK := Lib.hid hrk
      clear kr hrk hRR HRO
      refine KR.out.mono ?_
      rintro e w11 ⟨A11, n11, c11, v11, rfl, _, t11, b11⟩
      obtain ⟨T, y, rfl⟩ := t11.held' (show (7 : Int) ≠ 0 by decide)
      have H11 := Lib.hid (And.intro (H10.out.1.later b11 (Nat.le_refl _)) (And.intro t11 (H10.out.2.2.trans (b11.mono H10.out.2.2.size))))
      clear t11 b11
      go_wp2_with (first
        | (refine wpList_store_rc rfl (.tmp 14) (.tmp 71) rfl rr A11 n11 c11 rfl rfl HRK.out H12.out.1 ?_; intro w13 a13 f13 z13 g13; have b13 := g13 w11.heap.size w11 (Nat.le_refl _) H12.out.2; have H13 := Lib.hid (And.intro (H11.out.1.later b13 (Nat.le_refl _)) (And.intro (H11.out.2.1.later b13 (Nat.le_refl _)) (H11.out.2.2.trans (b13.mono H11.out.2.2.size)))); clear a13 f13 z13 g13 b13)
        | (refine wpList_alloc_rc rfl rfl ?_; intro w12 a12 g12 z12; have H12 := Lib.hid (And.intro a12 g12); clear a12 g12 z12))
      refine (awake13 (HE.out.1.later H13.out.2.2 (Nat.le_refl _))).mono ?_
      rintro e w14 ⟨rfl, b14⟩
      have H14 := Lib.hid (And.intro (H13.out.1.later b14 (Nat.le_refl _)) (And.intro (H13.out.2.1.later b14 (Nat.le_refl _)) (H13.out.2.2.trans (b14.mono H13.out.2.2.size))))
      clear b14
      go_wp2_with (refine wpList_wanted (by rfl) (wp_load_flF (.tmp 9) rfl rfl H14.out.1 ?_))
      refine (is_told3 H14.out.2.1 (HE.out.2.later H14.out.2.2 (Nat.le_refl _))).mono ?_
      rintro e w15 ⟨rfl, b15⟩
      have H15 := Lib.hid (H14.out.2.2.trans (b15.mono H14.out.2.2.size))
      clear b15
      go_wp2_with fail
      go_ret
      exact ⟨rfl, H15.out⟩
  · by_cases hml : m = 16
    · have hlit : (#[.int .u8 0, .int .u8 0, .int .u8 28, .int .u8 0, .int .u8 1, .int .u8 0, .int .u8 0, .int .u8 0, .int .u8 5, .int .u8 0, .int .u8 (m : Int)] : Array Value).toList = bv (lenB 28 (UInt8.ofNat m)) := by
        simp [lenB, bv]
        omega
      have O0 := World.ownsRow_lit (base := w.heap.size) (e := 5) (size := 1) (w.alloc (.cells #[.int .i64 1, .int .i64 28, .int .i64 5] 3)) #[.int .u8 0, .int .u8 0, .int .u8 28, .int .u8 0, .int .u8 1, .int .u8 0, .int .u8 0, .int .u8 0, .int .u8 5, .int .u8 0, .int .u8 (m : Int)] 11 (by simp) (by unfold maxLen; omega) rfl
      rw [hlit, World.size_alloc] at O0
      have B0 : Below w.heap.size w ((w.alloc (.cells #[.int .i64 1, .int .i64 28, .int .i64 5] 3)).alloc (.cells #[.int .u8 0, .int .u8 0, .int .u8 28, .int .u8 0, .int .u8 1, .int .u8 0, .int .u8 0, .int .u8 0, .int .u8 5, .int .u8 0, .int .u8 (m : Int)] 5)) := ((Below.refl _ _).alloc (Nat.le_refl _) _).alloc (by simp) _
      have H0 := Lib.hid (And.intro O0 B0)
      have hw0 : w.heap.size + 1 < ((w.alloc (.cells #[.int .i64 1, .int .i64 28, .int .i64 5] 3)).alloc (.cells #[.int .u8 0, .int .u8 0, .int .u8 28, .int .u8 0, .int .u8 1, .int .u8 0, .int .u8 0, .int .u8 0, .int .u8 5, .int .u8 0, .int .u8 (m : Int)] 5)).heap.size := by simp
      have HW0 := Lib.hid hw0
      have hdec : ((m : Int) == 16) = true := by rw [beq_iff_eq]; omega
      have hN : (lenB 28 (UInt8.ofNat m) ++ List.replicate 40 0).length = 51 := rfl
      have hf := (addr_len hm40 (.inr ⟨rfl, rfl⟩) hN).1 hml
      have hro := readR_ok hN 0
      clear hw0 O0 B0 hlit q1 q2 hmu hml hN
      go_enter Tryz.func5, Tryz.ntmps5
      go_wp2_with fail
      generalize ((w.alloc (.cells #[.int .i64 1, .int .i64 28, .int .i64 5] 3)).alloc (.cells #[.int .u8 0, .int .u8 0, .int .u8 28, .int .u8 0, .int .u8 1, .int .u8 0, .int .u8 0, .int .u8 0, .int .u8 5, .int .u8 0, .int .u8 (m : Int)] 5)) = W0 at H0 HW0 ⊢
      refine (help_at 7 9 W0).mono ?_
      rintro e w1 ⟨rfl, b1⟩
      have H1 := Lib.hid (And.intro (own_kept H0.out.1 b1) (H0.out.2.trans (b1.mono H0.out.2.size)))
      have hf1 : w.heap.size + 1 < w1.heap.size := Nat.lt_of_lt_of_le HW0.out b1.size
      have HF1 := Lib.hid hf1
      clear b1 hf1
      go_wp2_with (first
        | (at_builtin; refine wpList_append_bs rfl (.tmp 67) (.tmp 68) 22 rfl w.heap.size 5 info5 Tryz.underlying22 (.slice (some ⟨w.heap.size + 1, 0, none⟩) 11 11) 11 (lenB 28 (UInt8.ofNat m)) rfl H4.out.2.1 _ 40 40 (List.replicate 40 0) rfl H4.out.2.2.1 (by omega) H4.out.2.2.2.size ?_; intro v10 w10 o10 g10 n10 m10; obtain ⟨A10, c10, rfl, hB10⟩ := Bs.of_own o10; have b10 := H4.out.2.2.2.grown g10 H4.out.2.2.2.size (fun q hq => (H4.out.2.1.lt q hq).1); have F10 := g10.block _ H4.out.1.lt (by (have q1 := HF1.out); (show some w1.heap.size ≠ some (w.heap.size + 1)); (intro hq); (injection hq with hq); omega); have H10 := Lib.hid (And.intro (H4.out.1.same F10) (And.intro hB10 b10)); clear o10 g10 n10 m10 hB10 b10 F10)
        | (at_make; refine wpList_make_full _ rfl (.const (.int .i64 40)) (.const (.int .i64 40)) 22 rfl w3.heap.size 5 i0 _ 1 Tryz.underlying22 HI.out.1 HI.out.2.1 HI.out.2.2.1 .i64 .i64 _ _ 40 rfl rfl rfl rfl (by rw [HI.out.2.2.2]; omega) (by unfold maxLen; omega) (Nat.le_refl _) ?_; intro w4 o4 g4; (have o4' := o4); rw [HZ.out] at o4'; have b4 := below_of_nil' g4; have H4 := Lib.hid (And.intro (H3.out.1.later b4 (Nat.le_refl _)) (And.intro (own_kept H3.out.2.1 b4) (And.intro (Bs.own_later o4' fun _ _ => rfl) (H3.out.2.2.trans (b4.mono H3.out.2.2.size))))); clear o4 o4' g4 b4)
        | (refine wpList_store_fl rfl (.tmp 9) (.tmp 36) rfl 7 9 true rfl rfl H2.out.1 ?_; intro w3 a3 f3 z3 g3; have H3 := Lib.hid (And.intro a3 (And.intro (own_kept H1.out.1 (g3 w1.heap.size w1 (Nat.le_refl _) H2.out.2)) (g3 w.heap.size w H1.out.2.size (H1.out.2.trans (H2.out.2.mono H1.out.2.size))))); clear a3 f3 z3 g3)
        | (refine wpList_alloc_fl rfl rfl ?_; intro w2 a2 g2 z2; have H2 := Lib.hid (And.intro a2 g2); clear a2 g2 z2))
      have kr := readR_any H10.out.2.1 (by omega) 0 (by omega) (HE.out.2.later H10.out.2.2 (Nat.le_refl _))
      unfold ReadRR at kr
      have HRO := Lib.hid hro
      clear hro
      obtain ⟨RR, hRR⟩ : ∃ RR, readRv (lenB 28 (UInt8.ofNat m) ++ List.replicate 40 0) 51 0 = RR := ⟨_, rfl⟩
      rw [hRR] at kr hf
      have hrk : RR.r.ok := by rw [← hRR]; exact HRO.out
      obtain ⟨rr, rn, rf⟩ := RR
      dsimp only at kr hf hrk
      obtain ⟨rfl, rfl⟩ := hf
      have KR := Lib.hid kr
      have HRK := Lib.hid hrk
      clear kr hrk hRR HRO
      refine KR.out.mono ?_
      rintro e w11 ⟨A11, n11, c11, v11, rfl, _, t11, b11⟩
      obtain rfl := t11.none' rfl
      have H11 := Lib.hid (H10.out.2.2.trans (b11.mono H10.out.2.2.size))
      clear t11 b11
      go_wp2_with (first
        | (refine wpList_store_rc rfl (.tmp 14) (.tmp 71) rfl rr A11 n11 c11 rfl rfl HRK.out H12.out.1 ?_; intro w13 a13 f13 z13 g13; have H13 := Lib.hid (g13 w.heap.size w H11.out.size H12.out.2); clear a13 f13 z13 g13)
        | (refine wpList_alloc_rc rfl rfl ?_; intro w12 a12 g12 z12; have H12 := Lib.hid (And.intro a12 (H11.out.trans (g12.mono H11.out.size))); clear a12 g12 z12))
      refine (awake13 (HE.out.1.later H13.out (Nat.le_refl _))).mono ?_
      rintro e w14 ⟨rfl, b14⟩
      have H14 := Lib.hid (H13.out.trans (b14.mono H13.out.size))
      clear b14
      go_wp2_with fail
      go_ret
      exact ⟨rfl, H14.out⟩
    · have hlit : (#[.int .u8 0, .int .u8 0, .int .u8 28, .int .u8 0, .int .u8 1, .int .u8 0, .int .u8 0, .int .u8 0, .int .u8 5, .int .u8 0, .int .u8 (m : Int)] : Array Value).toList = bv (lenB 28 (UInt8.ofNat m)) := by
        simp [lenB, bv]
        omega
      have O0 := World.ownsRow_lit (base := w.heap.size) (e := 5) (size := 1) (w.alloc (.cells #[.int .i64 1, .int .i64 28, .int .i64 5] 3)) #[.int .u8 0, .int .u8 0, .int .u8 28, .int .u8 0, .int .u8 1, .int .u8 0, .int .u8 0, .int .u8 0, .int .u8 5, .int .u8 0, .int .u8 (m : Int)] 11 (by simp) (by unfold maxLen; omega) rfl
      rw [hlit, World.size_alloc] at O0
      have B0 : Below w.heap.size w ((w.alloc (.cells #[.int .i64 1, .int .i64 28, .int .i64 5] 3)).alloc (.cells #[.int .u8 0, .int .u8 0, .int .u8 28, .int .u8 0, .int .u8 1, .int .u8 0, .int .u8 0, .int .u8 0, .int .u8 5, .int .u8 0, .int .u8 (m : Int)] 5)) := ((Below.refl _ _).alloc (Nat.le_refl _) _).alloc (by simp) _
      have H0 := Lib.hid (And.intro O0 B0)
      have hw0 : w.heap.size + 1 < ((w.alloc (.cells #[.int .i64 1, .int .i64 28, .int .i64 5] 3)).alloc (.cells #[.int .u8 0, .int .u8 0, .int .u8 28, .int .u8 0, .int .u8 1, .int .u8 0, .int .u8 0, .int .u8 0, .int .u8 5, .int .u8 0, .int .u8 (m : Int)] 5)).heap.size := by simp
      have HW0 := Lib.hid hw0
      have hdec : ((m : Int) == 16) = false := by exact beq_eq_false_iff_ne.2 (by omega)
      have hN : (lenB 28 (UInt8.ofNat m) ++ List.replicate 40 0).length = 51 := rfl
      have hf := (addr_len hm40 (.inr ⟨rfl, rfl⟩) hN).2 hml
      have hro := readR_ok hN 0
      clear hw0 O0 B0 hlit q1 q2 hmu hml hN
      go_enter Tryz.func5, Tryz.ntmps5
      go_wp2_with fail
      generalize ((w.alloc (.cells #[.int .i64 1, .int .i64 28, .int .i64 5] 3)).alloc (.cells #[.int .u8 0, .int .u8 0, .int .u8 28, .int .u8 0, .int .u8 1, .int .u8 0, .int .u8 0, .int .u8 0, .int .u8 5, .int .u8 0, .int .u8 (m : Int)] 5)) = W0 at H0 HW0 ⊢
      refine (help_at 7 9 W0).mono ?_
      rintro e w1 ⟨rfl, b1⟩
      have H1 := Lib.hid (And.intro (own_kept H0.out.1 b1) (H0.out.2.trans (b1.mono H0.out.2.size)))
      have hf1 : w.heap.size + 1 < w1.heap.size := Nat.lt_of_lt_of_le HW0.out b1.size
      have HF1 := Lib.hid hf1
      clear b1 hf1
      go_wp2_with (first
        | (at_builtin; refine wpList_append_bs rfl (.tmp 67) (.tmp 68) 22 rfl w.heap.size 5 info5 Tryz.underlying22 (.slice (some ⟨w.heap.size + 1, 0, none⟩) 11 11) 11 (lenB 28 (UInt8.ofNat m)) rfl H4.out.2.1 _ 40 40 (List.replicate 40 0) rfl H4.out.2.2.1 (by omega) H4.out.2.2.2.size ?_; intro v10 w10 o10 g10 n10 m10; obtain ⟨A10, c10, rfl, hB10⟩ := Bs.of_own o10; have b10 := H4.out.2.2.2.grown g10 H4.out.2.2.2.size (fun q hq => (H4.out.2.1.lt q hq).1); have F10 := g10.block _ H4.out.1.lt (by (have q1 := HF1.out); (show some w1.heap.size ≠ some (w.heap.size + 1)); (intro hq); (injection hq with hq); omega); have H10 := Lib.hid (And.intro (H4.out.1.same F10) (And.intro hB10 b10)); clear o10 g10 n10 m10 hB10 b10 F10)
        | (at_make; refine wpList_make_full _ rfl (.const (.int .i64 40)) (.const (.int .i64 40)) 22 rfl w3.heap.size 5 i0 _ 1 Tryz.underlying22 HI.out.1 HI.out.2.1 HI.out.2.2.1 .i64 .i64 _ _ 40 rfl rfl rfl rfl (by rw [HI.out.2.2.2]; omega) (by unfold maxLen; omega) (Nat.le_refl _) ?_; intro w4 o4 g4; (have o4' := o4); rw [HZ.out] at o4'; have b4 := below_of_nil' g4; have H4 := Lib.hid (And.intro (H3.out.1.later b4 (Nat.le_refl _)) (And.intro (own_kept H3.out.2.1 b4) (And.intro (Bs.own_later o4' fun _ _ => rfl) (H3.out.2.2.trans (b4.mono H3.out.2.2.size))))); clear o4 o4' g4 b4)
        | (refine wpList_store_fl rfl (.tmp 9) (.tmp 36) rfl 7 9 true rfl rfl H2.out.1 ?_; intro w3 a3 f3 z3 g3; have H3 := Lib.hid (And.intro a3 (And.intro (own_kept H1.out.1 (g3 w1.heap.size w1 (Nat.le_refl _) H2.out.2)) (g3 w.heap.size w H1.out.2.size (H1.out.2.trans (H2.out.2.mono H1.out.2.size))))); clear a3 f3 z3 g3)
        | (refine wpList_alloc_fl rfl rfl ?_; intro w2 a2 g2 z2; have H2 := Lib.hid (And.intro a2 g2); clear a2 g2 z2))
      have kr := readR_any H10.out.2.1 (by omega) 0 (by omega) (HE.out.2.later H10.out.2.2 (Nat.le_refl _))
      unfold ReadRR at kr
      have HRO := Lib.hid hro
      clear hro
      obtain ⟨RR, hRR⟩ : ∃ RR, readRv (lenB 28 (UInt8.ofNat m) ++ List.replicate 40 0) 51 0 = RR := ⟨_, rfl⟩
      rw [hRR] at kr hf
      have hrk : RR.r.ok := by rw [← hRR]; exact HRO.out
      obtain ⟨rr, rn, rf⟩ := RR
      dsimp only at kr hf hrk
      subst hf
      have KR := Lib.hid kr
      have HRK := Lib.hid hrk
      clear kr hrk hRR HRO
      refine KR.out.mono ?_
      rintro e w11 ⟨A11, n11, c11, v11, rfl, _, t11, b11⟩
      obtain ⟨T, y, rfl⟩ := t11.held' (show (7 : Int) ≠ 0 by decide)
      have H11 := Lib.hid (And.intro (H10.out.1.later b11 (Nat.le_refl _)) (And.intro t11 (H10.out.2.2.trans (b11.mono H10.out.2.2.size))))
      clear t11 b11
      go_wp2_with (first
        | (refine wpList_store_rc rfl (.tmp 14) (.tmp 71) rfl rr A11 n11 c11 rfl rfl HRK.out H12.out.1 ?_; intro w13 a13 f13 z13 g13; have b13 := g13 w11.heap.size w11 (Nat.le_refl _) H12.out.2; have H13 := Lib.hid (And.intro (H11.out.1.later b13 (Nat.le_refl _)) (And.intro (H11.out.2.1.later b13 (Nat.le_refl _)) (H11.out.2.2.trans (b13.mono H11.out.2.2.size)))); clear a13 f13 z13 g13 b13)
        | (refine wpList_alloc_rc rfl rfl ?_; intro w12 a12 g12 z12; have H12 := Lib.hid (And.intro a12 g12); clear a12 g12 z12))
      refine (awake13 (HE.out.1.later H13.out.2.2 (Nat.le_refl _))).mono ?_
      rintro e w14 ⟨rfl, b14⟩
      have H14 := Lib.hid (And.intro (H13.out.1.later b14 (Nat.le_refl _)) (And.intro (H13.out.2.1.later b14 (Nat.le_refl _)) (H13.out.2.2.trans (b14.mono H13.out.2.2.size))))
      clear b14
      go_wp2_with (refine wpList_wanted (by rfl) (wp_load_flF (.tmp 9) rfl rfl H14.out.1 ?_))
      refine (is_told3 H14.out.2.1 (HE.out.2.later H14.out.2.2 (Nat.le_refl _))).mono ?_
      rintro e w15 ⟨rfl, b15⟩
      have H15 := Lib.hid (H14.out.2.2.trans (b15.mono H14.out.2.2.size))
      clear b15
      go_wp2_with fail
      go_ret
      exact ⟨rfl, H15.out⟩
  · by_cases hml : m = (writeB S).length
    · have hlit : (#[.int .u8 0, .int .u8 0, .int .u8 5, .int .u8 0, .int .u8 1, .int .u8 0, .int .u8 0, .int .u8 0, .int .u8 5, .int .u8 0, .int .u8 (m : Int)] : Array Value).toList = bv (lenB 5 (UInt8.ofNat m)) := by
        simp [lenB, bv]
        omega
      have O0 := World.ownsRow_lit (base := w.heap.size) (e := 5) (size := 1) (w.alloc (.cells #[.int .i64 1, .int .i64 28, .int .i64 5] 3)) #[.int .u8 0, .int .u8 0, .int .u8 5, .int .u8 0, .int .u8 1, .int .u8 0, .int .u8 0, .int .u8 0, .int .u8 5, .int .u8 0, .int .u8 (m : Int)] 11 (by simp) (by unfold maxLen; omega) rfl
      rw [hlit, World.size_alloc] at O0
      have B0 : Below w.heap.size w ((w.alloc (.cells #[.int .i64 1, .int .i64 28, .int .i64 5] 3)).alloc (.cells #[.int .u8 0, .int .u8 0, .int .u8 5, .int .u8 0, .int .u8 1, .int .u8 0, .int .u8 0, .int .u8 0, .int .u8 5, .int .u8 0, .int .u8 (m : Int)] 5)) := ((Below.refl _ _).alloc (Nat.le_refl _) _).alloc (by simp) _
      have H0 := Lib.hid (And.intro O0 B0)
      have hw0 : w.heap.size + 1 < ((w.alloc (.cells #[.int .i64 1, .int .i64 28, .int .i64 5] 3)).alloc (.cells #[.int .u8 0, .int .u8 0, .int .u8 5, .int .u8 0, .int .u8 1, .int .u8 0, .int .u8 0, .int .u8 0, .int .u8 5, .int .u8 0, .int .u8 (m : Int)] 5)).heap.size := by simp
      have HW0 := Lib.hid hw0
      have hdec : ((m : Int) == (((writeB S).length : Nat) : Int)) = true := by rw [beq_iff_eq]; omega
      obtain ⟨sl, hsl⟩ : ∃ sl, (writeB S).length = sl := ⟨_, rfl⟩
      obtain ⟨N, hNN⟩ : ∃ N, N = 11 + (sl + 40) := ⟨_, rfl⟩
      have hN : (lenB 5 (UInt8.ofNat m) ++ (writeB S ++ List.replicate 40 0)).length = N := by rw [List.length_append, List.length_append, List.length_replicate, hsl, hNN]; rfl
      have hf := (HNm.out N hN).1 hml
      have hro := readR_ok hN 0
      rw [hsl] at WS l1 l0 hdec
      have HNN := Lib.hid hNN
      clear HNm hNN
      generalize writeB S = sb at WS hf hro hsl
      clear hN hsl
      clear hw0 O0 B0 hlit q1 q2 hmu hml
      go_enter Tryz.func5, Tryz.ntmps5
      go_wp2_with fail
      generalize ((w.alloc (.cells #[.int .i64 1, .int .i64 28, .int .i64 5] 3)).alloc (.cells #[.int .u8 0, .int .u8 0, .int .u8 5, .int .u8 0, .int .u8 1, .int .u8 0, .int .u8 0, .int .u8 0, .int .u8 5, .int .u8 0, .int .u8 (m : Int)] 5)) = W0 at H0 HW0 ⊢
      refine (help_at 7 9 W0).mono ?_
      rintro e w1 ⟨rfl, b1⟩
      have H1 := Lib.hid (And.intro (own_kept H0.out.1 b1) (H0.out.2.trans (b1.mono H0.out.2.size)))
      have hf1 : w.heap.size + 1 < w1.heap.size := Nat.lt_of_lt_of_le HW0.out b1.size
      have HF1 := Lib.hid hf1
      clear b1 hf1
      go_wp2_with (first
        | (at_make; refine wpList_make_full _ rfl (.const (.int .i64 40)) (.const (.int .i64 40)) 22 rfl w3.heap.size 5 i0 _ 1 Tryz.underlying22 HI.out.1 HI.out.2.1 HI.out.2.2.1 .i64 .i64 _ _ 40 rfl rfl rfl rfl (by rw [HI.out.2.2.2]; omega) (by unfold maxLen; omega) (Nat.le_refl _) ?_; intro w4 o4 g4; (have o4' := o4); rw [HZ.out] at o4'; have b4 := below_of_nil' g4; have H4 := Lib.hid (And.intro (H3.out.1.later b4 (Nat.le_refl _)) (And.intro (own_kept H3.out.2.1 b4) (And.intro (Bs.own_later o4' fun _ _ => rfl) (H3.out.2.2.trans (b4.mono H3.out.2.2.size))))); clear o4 o4' g4 b4)
        | (refine wpList_store_fl rfl (.tmp 9) (.tmp 36) rfl 7 9 true rfl rfl H2.out.1 ?_; intro w3 a3 f3 z3 g3; have H3 := Lib.hid (And.intro a3 (And.intro (own_kept H1.out.1 (g3 w1.heap.size w1 (Nat.le_refl _) H2.out.2)) (g3 w.heap.size w H1.out.2.size (H1.out.2.trans (H2.out.2.mono H1.out.2.size))))); clear a3 f3 z3 g3)
        | (refine wpList_alloc_fl rfl rfl ?_; intro w2 a2 g2 z2; have H2 := Lib.hid (And.intro a2 g2); clear a2 g2 z2))
      refine (KS.out w4).mono ?_
      rintro e w5 ⟨rfl, b5⟩
      have H5 := Lib.hid (And.intro (H4.out.1.later b5 (Nat.le_refl _)) (And.intro (own_kept H4.out.2.1 b5) (H4.out.2.2.2.trans (b5.mono H4.out.2.2.2.size))))
      clear b5
      go_wp2_with fail
      refine (WS.out w5).mono ?_
      rintro e w6 ⟨A6, c6, rfl, o6, b6⟩
      have H6 := Lib.hid (And.intro (H5.out.1.later b6 (Nat.le_refl _)) (And.intro (own_kept H5.out.2.1 b6) (And.intro (o6) (H5.out.2.2.trans (b6.mono H5.out.2.2.size)))))
      have H56b := Lib.hid b6
      clear o6 b6
      go_wp2_with (first
        | (at_builtin; refine wpList_append_bs rfl (.tmp 67) (.tmp 68) 22 rfl w.heap.size 5 info5 Tryz.underlying22 (.slice (some ⟨w.heap.size + 1, 0, none⟩) 11 11) 11 (lenB 5 (UInt8.ofNat m)) rfl H9.out.2.1 _ (sl + 40) c9 (sb ++ List.replicate 40 0) rfl H9.out.2.2.1 (by omega) H9.out.2.2.2.size ?_; intro v10 w10 o10 g10 n10 m10; (have o10' := owns_n (n' := N) (by have := HNN.out; omega) o10); obtain ⟨A10, c10, rfl, hB10⟩ := Bs.of_own o10'; have b10 := H9.out.2.2.2.grown g10 H9.out.2.2.2.size (fun q hq => (H9.out.2.1.lt q hq).1); have F10 := g10.block _ H9.out.1.lt (by (have q1 := HF1.out); (show some w1.heap.size ≠ some (w.heap.size + 1)); (intro hq); (injection hq with hq); omega); have H10 := Lib.hid (And.intro (H9.out.1.same F10) (And.intro hB10 b10)); clear o10 o10' g10 n10 m10 hB10 b10 F10)
        | (refine wpList_append_zeros rfl (.tmp 60) (.const (.int .i64 40)) 22 3 rfl w5.heap.size Tryz.underlying22 Tryz.underlying3 info5 rfl H8.out.2.2.1 (by omega) 40 rfl (by omega) (by omega) H56.out ?_; intro v9 w9 o9 g9; obtain ⟨A9, c9, rfl, hB9⟩ := Bs.of_own o9; have b9 := HK8.out.grown g9 HK8.out.size (fun q hq => (H8.out.2.2.1.lt q hq).1); have H9 := Lib.hid (And.intro (H5.out.1.later b9 (Nat.le_refl _)) (And.intro (own_kept H5.out.2.1 b9) (And.intro hB9 (H5.out.2.2.trans (b9.mono H5.out.2.2.size))))); clear o9 g9 hB9 b9)
        | (refine wpList_store_fl rfl (.tmp 13) (.tmp 59) rfl 0 0 false rfl rfl H7.out.1 ?_; intro w8 a8 f8 z8 g8; have b8 := g8 w6.heap.size w6 (Nat.le_refl _) H7.out.2; have H8 := Lib.hid (And.intro (H6.out.1.later b8 (Nat.le_refl _)) (And.intro (own_kept H6.out.2.1 b8) (And.intro (own_kept H6.out.2.2.1 b8) (H6.out.2.2.2.trans (b8.mono H6.out.2.2.2.size))))); have HK8 := Lib.hid (H56b.out.trans (b8.mono H56b.out.size)); have H56 := Lib.hid (HK8.out.size); clear a8 f8 z8 g8 b8)
        | (refine wpList_alloc_fl rfl rfl ?_; intro w7 a7 g7 z7; have H7 := Lib.hid (And.intro a7 g7); clear a7 g7 z7))
      have kr := readR_any H10.out.2.1 (by have := HNN.out; omega) 0 (by omega) (HE.out.2.later H10.out.2.2 (Nat.le_refl _))
      unfold ReadRR at kr
      have HRO := Lib.hid hro
      clear hro
      obtain ⟨RR, hRR⟩ : ∃ RR, readRv (lenB 5 (UInt8.ofNat m) ++ (sb ++ List.replicate 40 0)) N 0 = RR := ⟨_, rfl⟩
      rw [hRR] at kr hf
      have hrk : RR.r.ok := by rw [← hRR]; exact HRO.out
      obtain ⟨rr, rn, rf⟩ := RR
      dsimp only at kr hf hrk
      obtain ⟨rfl, rfl⟩ := hf
      have KR := Lib.hid kr
      have HRK := Lib.hid hrk
      clear kr hrk hRR HRO
      refine KR.out.mono ?_
      rintro e w11 ⟨A11, n11, c11, v11, rfl, _, t11, b11⟩
      obtain rfl := t11.none' rfl
      have H11 := Lib.hid (H10.out.2.2.trans (b11.mono H10.out.2.2.size))
      clear t11 b11
      go_wp2_with (first
        | (refine wpList_store_rc rfl (.tmp 14) (.tmp 71) rfl rr A11 n11 c11 rfl rfl HRK.out H12.out.1 ?_; intro w13 a13 f13 z13 g13; have H13 := Lib.hid (g13 w.heap.size w H11.out.size H12.out.2); clear a13 f13 z13 g13)
        | (refine wpList_alloc_rc rfl rfl ?_; intro w12 a12 g12 z12; have H12 := Lib.hid (And.intro a12 (H11.out.trans (g12.mono H11.out.size))); clear a12 g12 z12))
      refine (awake13 (HE.out.1.later H13.out (Nat.le_refl _))).mono ?_
      rintro e w14 ⟨rfl, b14⟩
      have H14 := Lib.hid (H13.out.trans (b14.mono H13.out.size))
      clear b14
      go_wp2_with fail
      go_ret
      exact ⟨rfl, H14.out⟩
    · have hlit : (#[.int .u8 0, .int .u8 0, .int .u8 5, .int .u8 0, .int .u8 1, .int .u8 0, .int .u8 0, .int .u8 0, .int .u8 5, .int .u8 0, .int .u8 (m : Int)] : Array Value).toList = bv (lenB 5 (UInt8.ofNat m)) := by
        simp [lenB, bv]
        omega
      have O0 := World.ownsRow_lit (base := w.heap.size) (e := 5) (size := 1) (w.alloc (.cells #[.int .i64 1, .int .i64 28, .int .i64 5] 3)) #[.int .u8 0, .int .u8 0, .int .u8 5, .int .u8 0, .int .u8 1, .int .u8 0, .int .u8 0, .int .u8 0, .int .u8 5, .int .u8 0, .int .u8 (m : Int)] 11 (by simp) (by unfold maxLen; omega) rfl
      rw [hlit, World.size_alloc] at O0
      have B0 : Below w.heap.size w ((w.alloc (.cells #[.int .i64 1, .int .i64 28, .int .i64 5] 3)).alloc (.cells #[.int .u8 0, .int .u8 0, .int .u8 5, .int .u8 0, .int .u8 1, .int .u8 0, .int .u8 0, .int .u8 0, .int .u8 5, .int .u8 0, .int .u8 (m : Int)] 5)) := ((Below.refl _ _).alloc (Nat.le_refl _) _).alloc (by simp) _
      have H0 := Lib.hid (And.intro O0 B0)
      have hw0 : w.heap.size + 1 < ((w.alloc (.cells #[.int .i64 1, .int .i64 28, .int .i64 5] 3)).alloc (.cells #[.int .u8 0, .int .u8 0, .int .u8 5, .int .u8 0, .int .u8 1, .int .u8 0, .int .u8 0, .int .u8 0, .int .u8 5, .int .u8 0, .int .u8 (m : Int)] 5)).heap.size := by simp
      have HW0 := Lib.hid hw0
      have hdec : ((m : Int) == (((writeB S).length : Nat) : Int)) = false := by exact beq_eq_false_iff_ne.2 (by omega)
      obtain ⟨sl, hsl⟩ : ∃ sl, (writeB S).length = sl := ⟨_, rfl⟩
      obtain ⟨N, hNN⟩ : ∃ N, N = 11 + (sl + 40) := ⟨_, rfl⟩
      have hN : (lenB 5 (UInt8.ofNat m) ++ (writeB S ++ List.replicate 40 0)).length = N := by rw [List.length_append, List.length_append, List.length_replicate, hsl, hNN]; rfl
      have hf := (HNm.out N hN).2 hml
      have hro := readR_ok hN 0
      rw [hsl] at WS l1 l0 hdec
      have HNN := Lib.hid hNN
      clear HNm hNN
      generalize writeB S = sb at WS hf hro hsl
      clear hN hsl
      clear hw0 O0 B0 hlit q1 q2 hmu hml
      go_enter Tryz.func5, Tryz.ntmps5
      go_wp2_with fail
      generalize ((w.alloc (.cells #[.int .i64 1, .int .i64 28, .int .i64 5] 3)).alloc (.cells #[.int .u8 0, .int .u8 0, .int .u8 5, .int .u8 0, .int .u8 1, .int .u8 0, .int .u8 0, .int .u8 0, .int .u8 5, .int .u8 0, .int .u8 (m : Int)] 5)) = W0 at H0 HW0 ⊢
      refine (help_at 7 9 W0).mono ?_
      rintro e w1 ⟨rfl, b1⟩
      have H1 := Lib.hid (And.intro (own_kept H0.out.1 b1) (H0.out.2.trans (b1.mono H0.out.2.size)))
      have hf1 : w.heap.size + 1 < w1.heap.size := Nat.lt_of_lt_of_le HW0.out b1.size
      have HF1 := Lib.hid hf1
      clear b1 hf1
      go_wp2_with (first
        | (at_make; refine wpList_make_full _ rfl (.const (.int .i64 40)) (.const (.int .i64 40)) 22 rfl w3.heap.size 5 i0 _ 1 Tryz.underlying22 HI.out.1 HI.out.2.1 HI.out.2.2.1 .i64 .i64 _ _ 40 rfl rfl rfl rfl (by rw [HI.out.2.2.2]; omega) (by unfold maxLen; omega) (Nat.le_refl _) ?_; intro w4 o4 g4; (have o4' := o4); rw [HZ.out] at o4'; have b4 := below_of_nil' g4; have H4 := Lib.hid (And.intro (H3.out.1.later b4 (Nat.le_refl _)) (And.intro (own_kept H3.out.2.1 b4) (And.intro (Bs.own_later o4' fun _ _ => rfl) (H3.out.2.2.trans (b4.mono H3.out.2.2.size))))); clear o4 o4' g4 b4)
        | (refine wpList_store_fl rfl (.tmp 9) (.tmp 36) rfl 7 9 true rfl rfl H2.out.1 ?_; intro w3 a3 f3 z3 g3; have H3 := Lib.hid (And.intro a3 (And.intro (own_kept H1.out.1 (g3 w1.heap.size w1 (Nat.le_refl _) H2.out.2)) (g3 w.heap.size w H1.out.2.size (H1.out.2.trans (H2.out.2.mono H1.out.2.size))))); clear a3 f3 z3 g3)
        | (refine wpList_alloc_fl rfl rfl ?_; intro w2 a2 g2 z2; have H2 := Lib.hid (And.intro a2 g2); clear a2 g2 z2))
      refine (KS.out w4).mono ?_
      rintro e w5 ⟨rfl, b5⟩
      have H5 := Lib.hid (And.intro (H4.out.1.later b5 (Nat.le_refl _)) (And.intro (own_kept H4.out.2.1 b5) (H4.out.2.2.2.trans (b5.mono H4.out.2.2.2.size))))
      clear b5
      go_wp2_with fail
      refine (WS.out w5).mono ?_
      rintro e w6 ⟨A6, c6, rfl, o6, b6⟩
      have H6 := Lib.hid (And.intro (H5.out.1.later b6 (Nat.le_refl _)) (And.intro (own_kept H5.out.2.1 b6) (And.intro (o6) (H5.out.2.2.trans (b6.mono H5.out.2.2.size)))))
      have H56b := Lib.hid b6
      clear o6 b6
      go_wp2_with (first
        | (at_builtin; refine wpList_append_bs rfl (.tmp 67) (.tmp 68) 22 rfl w.heap.size 5 info5 Tryz.underlying22 (.slice (some ⟨w.heap.size + 1, 0, none⟩) 11 11) 11 (lenB 5 (UInt8.ofNat m)) rfl H9.out.2.1 _ (sl + 40) c9 (sb ++ List.replicate 40 0) rfl H9.out.2.2.1 (by omega) H9.out.2.2.2.size ?_; intro v10 w10 o10 g10 n10 m10; (have o10' := owns_n (n' := N) (by have := HNN.out; omega) o10); obtain ⟨A10, c10, rfl, hB10⟩ := Bs.of_own o10'; have b10 := H9.out.2.2.2.grown g10 H9.out.2.2.2.size (fun q hq => (H9.out.2.1.lt q hq).1); have F10 := g10.block _ H9.out.1.lt (by (have q1 := HF1.out); (show some w1.heap.size ≠ some (w.heap.size + 1)); (intro hq); (injection hq with hq); omega); have H10 := Lib.hid (And.intro (H9.out.1.same F10) (And.intro hB10 b10)); clear o10 o10' g10 n10 m10 hB10 b10 F10)
        | (refine wpList_append_zeros rfl (.tmp 60) (.const (.int .i64 40)) 22 3 rfl w5.heap.size Tryz.underlying22 Tryz.underlying3 info5 rfl H8.out.2.2.1 (by omega) 40 rfl (by omega) (by omega) H56.out ?_; intro v9 w9 o9 g9; obtain ⟨A9, c9, rfl, hB9⟩ := Bs.of_own o9; have b9 := HK8.out.grown g9 HK8.out.size (fun q hq => (H8.out.2.2.1.lt q hq).1); have H9 := Lib.hid (And.intro (H5.out.1.later b9 (Nat.le_refl _)) (And.intro (own_kept H5.out.2.1 b9) (And.intro hB9 (H5.out.2.2.trans (b9.mono H5.out.2.2.size))))); clear o9 g9 hB9 b9)
        | (refine wpList_store_fl rfl (.tmp 13) (.tmp 59) rfl 0 0 false rfl rfl H7.out.1 ?_; intro w8 a8 f8 z8 g8; have b8 := g8 w6.heap.size w6 (Nat.le_refl _) H7.out.2; have H8 := Lib.hid (And.intro (H6.out.1.later b8 (Nat.le_refl _)) (And.intro (own_kept H6.out.2.1 b8) (And.intro (own_kept H6.out.2.2.1 b8) (H6.out.2.2.2.trans (b8.mono H6.out.2.2.2.size))))); have HK8 := Lib.hid (H56b.out.trans (b8.mono H56b.out.size)); have H56 := Lib.hid (HK8.out.size); clear a8 f8 z8 g8 b8)
        | (refine wpList_alloc_fl rfl rfl ?_; intro w7 a7 g7 z7; have H7 := Lib.hid (And.intro a7 g7); clear a7 g7 z7))
      have kr := readR_any H10.out.2.1 (by have := HNN.out; omega) 0 (by omega) (HE.out.2.later H10.out.2.2 (Nat.le_refl _))
      unfold ReadRR at kr
      have HRO := Lib.hid hro
      clear hro
      obtain ⟨RR, hRR⟩ : ∃ RR, readRv (lenB 5 (UInt8.ofNat m) ++ (sb ++ List.replicate 40 0)) N 0 = RR := ⟨_, rfl⟩
      rw [hRR] at kr hf
      have hrk : RR.r.ok := by rw [← hRR]; exact HRO.out
      obtain ⟨rr, rn, rf⟩ := RR
      dsimp only at kr hf hrk
      subst hf
      have KR := Lib.hid kr
      have HRK := Lib.hid hrk
      clear kr hrk hRR HRO
      refine KR.out.mono ?_
      rintro e w11 ⟨A11, n11, c11, v11, rfl, _, t11, b11⟩
      obtain ⟨T, y, rfl⟩ := t11.held' (show (7 : Int) ≠ 0 by decide)
      have H11 := Lib.hid (And.intro (H10.out.1.later b11 (Nat.le_refl _)) (And.intro t11 (H10.out.2.2.trans (b11.mono H10.out.2.2.size))))
      clear t11 b11
      go_wp2_with (first
        | (refine wpList_store_rc rfl (.tmp 14) (.tmp 71) rfl rr A11 n11 c11 rfl rfl HRK.out H12.out.1 ?_; intro w13 a13 f13 z13 g13; have b13 := g13 w11.heap.size w11 (Nat.le_refl _) H12.out.2; have H13 := Lib.hid (And.intro (H11.out.1.later b13 (Nat.le_refl _)) (And.intro (H11.out.2.1.later b13 (Nat.le_refl _)) (H11.out.2.2.trans (b13.mono H11.out.2.2.size)))); clear a13 f13 z13 g13 b13)
        | (refine wpList_alloc_rc rfl rfl ?_; intro w12 a12 g12 z12; have H12 := Lib.hid (And.intro a12 g12); clear a12 g12 z12))
      refine (awake13 (HE.out.1.later H13.out.2.2 (Nat.le_refl _))).mono ?_
      rintro e w14 ⟨rfl, b14⟩
      have H14 := Lib.hid (And.intro (H13.out.1.later b14 (Nat.le_refl _)) (And.intro (H13.out.2.1.later b14 (Nat.le_refl _)) (H13.out.2.2.trans (b14.mono H13.out.2.2.size))))
      clear b14
      go_wp2_with (refine wpList_wanted (by rfl) (wp_load_flF (.tmp 9) rfl rfl H14.out.1 ?_))
      refine (is_told3 H14.out.2.1 (HE.out.2.later H14.out.2.2 (Nat.le_refl _))).mono ?_
      rintro e w15 ⟨rfl, b15⟩
      have H15 := Lib.hid (H14.out.2.2.trans (b15.mono H14.out.2.2.size))
      clear b15
      go_wp2_with fail
      go_ret
      exact ⟨rfl, H15.out⟩
end Go.Proofs.YtddnfbkmhgflbaaGreatDoor
