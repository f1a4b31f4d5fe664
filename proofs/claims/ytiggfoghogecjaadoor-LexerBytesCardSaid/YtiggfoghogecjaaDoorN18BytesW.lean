/-
  Package stockadelaw18's LexerBytes: true, whatever the byte and the numbers. Conditions: errors.errorType holds the handle of the type error.
-/
import Derived.Test.YtiggfoghogecjaaDoorN18TellsW
import Derived.Test.YtiggfoghogecjaaDoorPurY18
import Derived.Deep.DeepCutAuto
import Derived.Deep.OwnRows
import Derived.Lib.SlBytesConst
namespace Go.Proofs.YtiggfoghogecjaaDoor
open Go.RowKit
set_option maxRecDepth 100000

theorem num_modY (a : Int) (m : Int) (h0 : 0 < m) (h1 : m ≤ 1000000) : 0 ≤ wrap64 ((IntKind.u64.wrap a).tmod m) ∧ wrap64 ((IntKind.u64.wrap a).tmod m) < m := by
  have h : IntKind.u64.wrap a = a % 18446744073709551616 := rfl
  have h2 : 0 ≤ IntKind.u64.wrap a := by rw [h]; omega
  rw [Int.tmod_eq_emod_of_nonneg h2]
  have h3 := Int.emod_nonneg (IntKind.u64.wrap a) (show m ≠ 0 by omega)
  have h4 := Int.emod_lt_of_pos (IntKind.u64.wrap a) h0
  generalize IntKind.u64.wrap a % m = x at h3 h4
  unfold wrap64
  omega
theorem infoU8 : (Tryd.prog.info? 5).map (fun i => (i.zero, i.size, i.bytes)) = some (some (Value.int IntKind.u8 0), 1, 1) := by kernel_rfl
theorem makeBytes18 (n : Nat) (hn : n ≤ 1000000) (w : World) : (Instr.makeSlice 38 (.int .i64 (n : Int)) (.int .i64 (n : Int))).run Tryd.prog w = .ok (.slice (some ⟨w.heap.size, 0, none⟩) n n) (w.alloc (.cells (madeCells #[.int .u8 0] n) 5)) :=
  run_make_row' (P := Tryd.prog) 38 5 (.int .u8 0) 1 Tryd.underlying38 infoU8 rfl .i64 .i64 n (by omega) (by omega) w
theorem Bs.of_row18 {w : World} {g : Nat} {T : TypeId} {l : List UInt8} {n : Nat} (h : Row w g T (bv l)) (hn : l.length = n) (hm : n ≤ 1000000) : Bs w (some ⟨g, 0, none⟩) n n l :=
  ⟨hn, Nat.le_refl _, by unfold maxLen; omega, (fun h => by cases h), fun _ => ⟨g, 0, rfl, fun i x hx => by rw [Nat.zero_add]; exact h.cell (bv_at hx)⟩⟩
theorem conv18 {w : World} {g : Nat} {T : TypeId} {l : List UInt8} {n : Nat} (h : Row w g T (bv l)) (hn : l.length = n) (hm : n ≤ 1000000) : (convert 38 9 (.slice (some ⟨g, 0, none⟩) n n)).run Tryd.prog w = .ok (.string (mkS l)) w :=
  (Bs.of_row18 h hn hm).convert 38 5 9 Tryd.underlying38 Tryd.underlying5 Tryd.underlying9
set_option maxHeartbeats 1000000 in
theorem is_none18 (c a : Int) (b : Bool) (hc : c ≠ 0) (w : World) : Calls Tryd.prog 9 #[.nilIface, .agg #[.int .i64 c, .int .i64 a, .bool b]] w fun e w' => e = .returned (.bool false) ∧ Below w.heap.size w w' := by
  have hc2 : (c == 0) = false := by rw [beq_eq_false_iff_ne]; exact hc
  have K := Lib.hid (fun t w => As_nil t w)
  clear hc
  go_enter Tryd.func9, Tryd.ntmps9
  go_wp2_with fail
  refine (K.out _ _).mono ?_
  rintro e w' ⟨rfl, hw⟩
  have HW := Lib.hid hw
  clear hw
  go_wp2_with fail
  go_ret
  refine ⟨rfl, ?_⟩
  rw [← HW.out]
  exact (((Below.refl _ _).alloc (Nat.le_refl _) _).alloc (by simp) _).alloc (by simp; omega) _
/-- A row of bytes that a string shares, by its mark. -/
def MRow (w : World) (g : Nat) (l : List UInt8) : Prop := w.heap[g]? = some (.cells (bv l).toArray 5 (20, 21))
theorem MRow.cell {w : World} {g : Nat} {l : List UInt8} (h : MRow w g l) {i : Nat} {x : UInt8} (hi : l[i]? = some x) : w.cell? ⟨g, i, none⟩ = some (.int .u8 x.toNat) := by
  rw [cell_of_row w g i _ _ _ h]
  simpa using bv_at hi
theorem MRow.frozen {w : World} {g : Nat} {l : List UInt8} (h : MRow w g l) {i : Nat} (hi : i < 20) : w.frozen? ⟨g, i, none⟩ = false := by
  unfold MRow at h
  simp [World.frozen?, h]
  omega
theorem MRow.put {w : World} {g : Nat} {l : List UInt8} (h : MRow w g l) (i : Nat) (x : UInt8) : MRow (w.setCell ⟨g, i, none⟩ (.int .u8 x.toNat)) g (l.set i x) := by
  unfold MRow at h ⊢
  rw [← bv_set]
  simp [World.setCell, Array.getElem?_modify, h]
theorem MRow.later {w w' : World} {B g : Nat} {l : List UInt8} (h : MRow w g l) (hb : Below B w w') (hB : w.heap.size ≤ B) : MRow w' g l :=
  (hb.block g (Nat.lt_of_lt_of_le (Array.getElem?_eq_some_iff.1 h).1 hB)).trans h
theorem MRow.bs {w : World} {g : Nat} {l : List UInt8} {n : Nat} (h : MRow w g l) (hn : l.length = n) (hm : n ≤ 1000000) : Bs w (some ⟨g, 0, none⟩) n n l :=
  ⟨hn, Nat.le_refl _, by unfold maxLen; omega, (fun h => by cases h), fun _ => ⟨g, 0, rfl, fun i x hx => by rw [Nat.zero_add]; exact h.cell hx⟩⟩
theorem MRow.conv {w : World} {g : Nat} {l : List UInt8} {n : Nat} (h : MRow w g l) (hn : l.length = n) (hm : n ≤ 1000000) : (convert 38 9 (.slice (some ⟨g, 0, none⟩) n n)).run Tryd.prog w = .ok (.string (mkS l)) w :=
  (h.bs hn hm).convert 38 5 9 Tryd.underlying38 Tryd.underlying5 Tryd.underlying9
def twB (c : UInt8) (p : Nat) : List UInt8 := base20.set p c
theorem twB_len (c : UInt8) (p : Nat) : (twB c p).length = 20 := by unfold twB; rw [List.length_set]; rfl
set_option maxHeartbeats 8000000 in
theorem bytes_bad_any (c : UInt8) (n1 n2 : Int) (hf : fineB c = false) {w : World} (hg : Handle w) : Calls Tryd.prog 4 #[.int .u8 c.toNat, .int .i64 n1, .int .i64 n2] w fun e w' => e = .returned (.bool true) ∧ Below w.heap.size w w' := by
  obtain ⟨q1, q2⟩ := num_modY n1 20 (by omega) (by omega)
  obtain ⟨q3, q4⟩ := num_modY n2 10 (by omega) (by omega)
  obtain ⟨p, hp⟩ : ∃ p : Nat, wrap64 ((IntKind.u64.wrap n1).tmod 20) = (p : Int) := ⟨_, (Int.toNat_of_nonneg q1).symm⟩
  obtain ⟨q, hq⟩ : ∃ q : Nat, wrap64 ((IntKind.u64.wrap n2).tmod 10) = (q : Int) := ⟨_, (Int.toNat_of_nonneg q3).symm⟩
  have hp20 : p < 20 := by omega
  have hq10 : q < 10 := by omega
  have HP := Lib.hid (And.intro hp hq)
  have HF := Lib.hid hf
  have HG := Lib.hid hg
  have hcl := c.toNat_lt
  clear q1 q2 q3 q4 hp hq hf hg
  go_enter Tryd.func4, Tryd.ntmps4
  have kc := fun (w : World) (C : Array Value) (n c : Nat) => Lib.run_convert_bytes_const (P := Tryd.prog) w 38 5 C n c Tryd.underlying38 Tryd.underlying5
  go_upto_region 3 with fail
  clear kc
  rw [HP.out.1]
  have elit : (#[.int .u8 97, .int .u8 108, .int .u8 108, .int .u8 111, .int .u8 119, .int .u8 32, .int .u8 110, .int .u8 97, .int .u8 109, .int .u8 101, .int .u8 32, .int .u8 97, .int .u8 46, .int .u8 98, .int .u8 32, .int .u8 116, .int .u8 99, .int .u8 112, .int .u8 32, .int .u8 53] : Array Value) = (bv base20).toArray := by kernel_rfl
  rw [elit]
  have m1 : MRow (w.alloc (.cells (bv base20).toArray 5 (20, 21))) w.heap.size base20 := heap_alloc_last w _
  have b1 : Below w.heap.size w (w.alloc (.cells (bv base20).toArray 5 (20, 21))) := (Below.refl _ _).alloc (Nat.le_refl _) _
  generalize w.alloc (.cells (bv base20).toArray 5 (20, 21)) = W1 at m1 b1 ⊢
  obtain ⟨y, hy⟩ : ∃ y, base20[p]? = some y := ⟨base20[p]'hp20, List.getElem?_eq_getElem _⟩
  have cy := m1.cell hy
  have fy := m1.frozen hp20
  have m2 : MRow (W1.setCell ⟨w.heap.size, p, none⟩ (.int .u8 c.toNat)) w.heap.size (twB c p) := m1.put p c
  have b2 : Below w.heap.size w (W1.setCell ⟨w.heap.size, p, none⟩ (.int .u8 c.toNat)) := b1.setCell (Nat.le_refl _) _
  have H2 := Lib.hid (And.intro m2 b2)
  clear m1 b1 m2 b2 hy elit
  go_upto_region 4 with fail
  clear cy fy
  generalize W1.setCell ⟨w.heap.size, p, none⟩ (.int .u8 (c.toNat : Int)) = W2 at H2 ⊢
  have hc2 := H2.out.1.conv (twB_len c p) (by omega)
  have K := tokens18 (mkS (twB c p)) (by rw [mkS_size, twB_len]; omega) W2
  rw [mkS_data] at K
  have ht1 : lexM .gap 0 1 (twB c p) = .inl p := bytes_bad hp20 HF.out
  rw [ht1] at K
  have ways : (126 < c.toNat ∧ 32 ≤ c.toNat) ∨ (c.toNat < 32 ∧ ((c.toNat : Int) != 9) = true ∧ ((c.toNat : Int) != 10) = true ∧ ((c.toNat : Int) != 13) = true) := by
    have h1 := fine_num c
    rw [HF.out] at h1
    have h2 : ¬ (c.toNat = 9 ∨ c.toNat = 10 ∨ c.toNat = 13 ∨ (32 ≤ c.toNat ∧ c.toNat ≤ 126)) := fun h => by cases h1.2 h
    by_cases h3 : c.toNat < 32
    · refine .inr ⟨h3, ?_, ?_, ?_⟩ <;> rw [bne_iff_ne] <;> omega
    · exact .inl ⟨by omega, by omega⟩
  have e10 : ((c.toNat : Int) != 10) = true := by
    rw [bne_iff_ne]
    intro h
    have h1 := (fine_num c).2 (.inr (.inl (by omega)))
    rw [HF.out] at h1
    cases h1
  have HW := Lib.hid ways
  clear ways ht1
  have HK := Lib.hid K
  clear K
  go_wp2_with fail
  refine HK.out.mono ?_
  rintro e w3 ⟨v, rfl, ⟨er, rfl, herr⟩, hb3⟩
  have HT := Lib.hid (told_at18 herr)
  obtain ⟨ge, rfl, _⟩ := herr
  have H3 := Lib.hid (And.intro hb3 (H2.out.2.trans (hb3.mono H2.out.2.size)))
  clear hb3
  clear hc2
  go_upto_region 5 with fail
  go_cut [10] (fun b wx => b = .bool true ∧ Below w3.heap.size w3 wx)
  case first =>
    rcases HW.out with ⟨d1, d2⟩ | ⟨d1, d2, d3, d4⟩
    · go_wp2_with fail
      go_meet
      exact ⟨rfl, Below.refl _ _⟩
    · go_wp2_with fail
      go_meet
      exact ⟨rfl, Below.refl _ _⟩
  case rest =>
    obtain ⟨rfl, hbc⟩ := hcut
    have HBC := Lib.hid (H3.out.2.trans (Below.mono hbc H3.out.2.size))
    have m4 := H2.out.1.later (H3.out.1.trans (Below.mono hbc H3.out.1.size)) (Nat.le_refl _)
    have HB2 := Lib.hid hbc
    have hc4 := m4.conv (twB_len c p) (by omega)
    have hcat : (⟨#[35]⟩ : ByteArray) ++ mkS (twB c p) = mkS (35 :: twB c p) := mkS_cat [35] _
    have hsz : (mkS (twB c p)).size = 20 := by rw [mkS_size, twB_len]
    have hs1 : (⟨#[35]⟩ : ByteArray).size = 1 := rfl
    have hn1 : ¬ 9223372036854775807 < 1 + 20 := by decide
    obtain ⟨ts2, ht2⟩ := bytes_note p (c := c) (.inr (fun h => by have := HF.out; rw [h] at this; exact absurd this (by decide)))
    have K := tokens18 (mkS (35 :: twB c p)) (by rw [mkS_size, List.length_cons, twB_len]; omega) wc
    rw [mkS_data] at K
    have ht3 : lexM .gap 0 1 (35 :: twB c p) = .inr ts2 := ht2
    rw [ht3] at K
    have HK2 := Lib.hid K
    clear K ht2 ht3 m4 hbc
    go_wp2_with fail
    refine HK2.out.mono ?_
    rintro e w5 ⟨v, rfl, ⟨r5, rfl, o5⟩, hb5⟩
    obtain ⟨A5, c5, rfl, _⟩ := TkS.of_own o5
    have H5 := Lib.hid (And.intro hb5 (HBC.out.trans (hb5.mono HBC.out.size)))
    clear hc4 hcat hsz hs1 hn1 o5 hb5
    go_upto_region 8 with fail
    rw [HP.out.2]
    rw [show (19995 : Int) + (q : Int) = ((19995 + q : Nat) : Int) by omega]
    obtain ⟨N, hN⟩ : ∃ N, 19995 + q = N := ⟨_, rfl⟩
    rw [hN]
    have hN1 : 19995 ≤ N := by omega
    have hN2 : N ≤ 20004 := by omega
    clear hN
    rw [show wrap64 (N : Int) = (N : Int) from IntWalk.wrap64_in _ (by omega)]
    have hmk := makeBytes18 N (by omega)
    go_wp2_with fail
    have hz : (madeCells #[.int .u8 0] N).toList = bv (List.replicate N 0) := by rw [toList_madeCells_one]; simp [bv]
    have r1 := Row.new' w5 5 hz
    have b6 : Below w5.heap.size w5 (w5.alloc (.cells (madeCells #[.int .u8 0] N) 5)) := (Below.refl _ _).alloc (Nat.le_refl _) _
    generalize w5.alloc (.cells (madeCells #[.int .u8 0] N) 5) = W6 at r1 b6 ⊢
    have H6 := Lib.hid (And.intro r1 b6)
    clear hmk hz r1 b6
    go_loopw [70] (fun i wr => ∃ k : Nat, k ≤ N ∧ i = .int .i64 k ∧ Hid (Row wr w5.heap.size 5 (bv (List.replicate k 32 ++ List.replicate (N - k) 0)) ∧ Below w5.heap.size w5 wr)) (fun i _ => N - (intOf i).toNat)
    case atStart => exact ⟨0, Nat.zero_le _, rfl, H6.out.1, H6.out.2⟩
    case round =>
      obtain ⟨k, hk, rfl, HX⟩ := hrel
      by_cases hkn : k < N
      · have hrow := HX.out.1.cell (i := k) (v := .int .u8 0) (bv_at (x := 0) (by
          rw [List.getElem?_append_right (by rw [List.length_replicate]; exact Nat.le_refl _), List.length_replicate, Nat.sub_self, List.getElem?_replicate, if_pos (by omega)]))
        have hfr := HX.out.1.frozen k
        have r2 := HX.out.1.put k (.int .u8 32)
        have e32 : (bv (List.replicate k 32 ++ List.replicate (N - k) 0)).set k (.int .u8 32) = bv (List.replicate (k + 1) 32 ++ List.replicate (N - (k + 1)) 0) := by
          have h1 := bv_set (List.replicate k 32 ++ List.replicate (N - k) 0) k 32
          have h2 : (List.replicate k (32 : UInt8) ++ List.replicate (N - k) 0).set k 32 = List.replicate (k + 1) 32 ++ List.replicate (N - (k + 1)) 0 := by
            rw [List.set_append_right _ _ (by rw [List.length_replicate]; exact Nat.le_refl _), List.length_replicate, Nat.sub_self, show N - k = (N - (k + 1)) + 1 by omega, List.replicate_succ, List.set_cons_zero, List.replicate_succ', List.append_assoc]
            rfl
          rw [h2] at h1
          exact h1
        rw [e32] at r2
        have b2 : Below w5.heap.size w5 (wr.setCell ⟨w5.heap.size, k, none⟩ (.int .u8 32)) := HX.out.2.setCell (Nat.le_refl _) _
        have HR := Lib.hid (And.intro r2 b2)
        clear r2 b2 e32
        go_wp2_with fail
        exact ⟨⟨k + 1, hkn, by go_num, HR.out.1, HR.out.2⟩, by simp [intOf]; omega⟩
      · obtain rfl : k = N := by omega
        have r7 := HX.out.1
        rw [Nat.sub_self, List.replicate_zero, List.append_nil] at r7
        have hc7 := conv18 r7 (List.length_replicate ..) (by omega)
        have HB7 := Lib.hid (H5.out.2.trans (HX.out.2.mono H5.out.2.size))
        have HB5 := Lib.hid HX.out.2
        have KA := Lib.hid (fun w => awake18 w)
        have KB := Lib.hid (fun w => help_bare 4 w)
        have KH := Lib.hid (fun w => help_at 21 (p : Int) w)
        clear r7
        by_cases hbig : 20000 < k
        · have K := Lib.hid (tokens_big (mkS (List.replicate k 32)) (by rw [mkS_size, List.length_replicate]; exact hbig) wr)
          go_wp2_with fail
          refine K.out.mono ?_
          rintro e w8 ⟨rfl, rfl⟩
          go_wp2_with fail
          refine (KB.out _).mono ?_
          rintro e w9 ⟨rfl, hb9⟩
          have H9 := Lib.hid (And.intro hb9 (HB7.out.trans (hb9.mono HB7.out.size)))
          clear hb9
          go_wp2_with fail
          refine (is_told3 (Tells.bare w9 4 (by decide) 0) (Handle.later H9.out.2 (Nat.le_refl _) HG.out)).mono ?_
          rintro e w10 ⟨rfl, hb10⟩
          have H10 := Lib.hid (And.intro (H9.out.1.trans (hb10.mono H9.out.1.size)) (H9.out.2.trans (hb10.mono H9.out.2.size)))
          clear hb10
          go_wp2_with fail
          refine (KA.out _).mono ?_
          rintro e w11 ⟨rfl, hb11⟩
          have H11 := Lib.hid (And.intro (H10.out.1.trans (hb11.mono H10.out.1.size)) (H10.out.2.trans (hb11.mono H10.out.2.size)))
          clear hb11
          go_wp2_with fail
          refine (KH.out _).mono ?_
          rintro e w12 ⟨rfl, hb12⟩
          have H12 := Lib.hid (And.intro (H11.out.1.trans (hb12.mono H11.out.1.size)) (H11.out.2.trans (hb12.mono H11.out.2.size)))
          clear hb12
          go_wp2_with fail
          refine (is_told3 ((HT.out.later (HB2.out.trans ((H5.out.1.trans ((HB5.out.trans (H12.out.1.mono HB5.out.size)).mono H5.out.1.size)).mono HB2.out.size)) (Nat.le_refl _))) (Handle.later H12.out.2 (Nat.le_refl _) HG.out)).mono ?_
          rintro e w13 ⟨rfl, hb13⟩
          have H13 := Lib.hid (H12.out.2.trans (hb13.mono H12.out.2.size))
          clear hb13
          go_wp2_with fail
          go_ret
          exact ⟨rfl, H13.out⟩
        · have K := tokens18 (mkS (List.replicate k 32)) (by rw [mkS_size, List.length_replicate]; omega) wr
          rw [mkS_data, blanks_all] at K
          have HK7 := Lib.hid K
          clear K
          go_wp2_with fail
          refine HK7.out.mono ?_
          rintro e w8 ⟨v, rfl, ⟨r8, rfl, o8⟩, hb8⟩
          obtain ⟨A8, c8, rfl, _⟩ := TkS.of_own o8
          have H8 := Lib.hid (And.intro hb8 (HB7.out.trans (hb8.mono HB7.out.size)))
          clear o8 hb8
          go_wp2_with fail
          refine (KB.out _).mono ?_
          rintro e w9 ⟨rfl, hb9⟩
          have H9 := Lib.hid (And.intro (H8.out.1.trans (hb9.mono H8.out.1.size)) (H8.out.2.trans (hb9.mono H8.out.2.size)))
          clear hb9
          go_wp2_with fail
          refine (is_none18 4 0 false (by decide) w9).mono ?_
          rintro e w10 ⟨rfl, hb10⟩
          have H10 := Lib.hid (And.intro (H9.out.1.trans (hb10.mono H9.out.1.size)) (H9.out.2.trans (hb10.mono H9.out.2.size)))
          clear hb10
          go_wp2_with fail
          refine (KA.out _).mono ?_
          rintro e w11 ⟨rfl, hb11⟩
          have H11 := Lib.hid (And.intro (H10.out.1.trans (hb11.mono H10.out.1.size)) (H10.out.2.trans (hb11.mono H10.out.2.size)))
          clear hb11
          go_wp2_with fail
          refine (KH.out _).mono ?_
          rintro e w12 ⟨rfl, hb12⟩
          have H12 := Lib.hid (And.intro (H11.out.1.trans (hb12.mono H11.out.1.size)) (H11.out.2.trans (hb12.mono H11.out.2.size)))
          clear hb12
          go_wp2_with fail
          refine (is_told3 ((HT.out.later (HB2.out.trans ((H5.out.1.trans ((HB5.out.trans (H12.out.1.mono HB5.out.size)).mono H5.out.1.size)).mono HB2.out.size)) (Nat.le_refl _))) (Handle.later H12.out.2 (Nat.le_refl _) HG.out)).mono ?_
          rintro e w13 ⟨rfl, hb13⟩
          have H13 := Lib.hid (H12.out.2.trans (hb13.mono H12.out.2.size))
          clear hb13
          go_wp2_with fail
          go_ret
          exact ⟨rfl, H13.out⟩
set_option maxHeartbeats 8000000 in
theorem bytes_fine_any (c : UInt8) (n1 n2 : Int) (hf : fineB c = true) {w : World} (hg : Handle w) : Calls Tryd.prog 4 #[.int .u8 c.toNat, .int .i64 n1, .int .i64 n2] w fun e w' => e = .returned (.bool true) ∧ Below w.heap.size w w' := by
  obtain ⟨q1, q2⟩ := num_modY n1 20 (by omega) (by omega)
  obtain ⟨q3, q4⟩ := num_modY n2 10 (by omega) (by omega)
  obtain ⟨p, hp⟩ : ∃ p : Nat, wrap64 ((IntKind.u64.wrap n1).tmod 20) = (p : Int) := ⟨_, (Int.toNat_of_nonneg q1).symm⟩
  obtain ⟨q, hq⟩ : ∃ q : Nat, wrap64 ((IntKind.u64.wrap n2).tmod 10) = (q : Int) := ⟨_, (Int.toNat_of_nonneg q3).symm⟩
  have hp20 : p < 20 := by omega
  have hq10 : q < 10 := by omega
  have HP := Lib.hid (And.intro hp hq)
  have HF := Lib.hid hf
  have HG := Lib.hid hg
  have hcl := c.toNat_lt
  clear q1 q2 q3 q4 hp hq hf hg
  go_enter Tryd.func4, Tryd.ntmps4
  have kc := fun (w : World) (C : Array Value) (n c : Nat) => Lib.run_convert_bytes_const (P := Tryd.prog) w 38 5 C n c Tryd.underlying38 Tryd.underlying5
  go_upto_region 3 with fail
  clear kc
  rw [HP.out.1]
  have elit : (#[.int .u8 97, .int .u8 108, .int .u8 108, .int .u8 111, .int .u8 119, .int .u8 32, .int .u8 110, .int .u8 97, .int .u8 109, .int .u8 101, .int .u8 32, .int .u8 97, .int .u8 46, .int .u8 98, .int .u8 32, .int .u8 116, .int .u8 99, .int .u8 112, .int .u8 32, .int .u8 53] : Array Value) = (bv base20).toArray := by kernel_rfl
  rw [elit]
  have m1 : MRow (w.alloc (.cells (bv base20).toArray 5 (20, 21))) w.heap.size base20 := heap_alloc_last w _
  have b1 : Below w.heap.size w (w.alloc (.cells (bv base20).toArray 5 (20, 21))) := (Below.refl _ _).alloc (Nat.le_refl _) _
  generalize w.alloc (.cells (bv base20).toArray 5 (20, 21)) = W1 at m1 b1 ⊢
  obtain ⟨y, hy⟩ : ∃ y, base20[p]? = some y := ⟨base20[p]'hp20, List.getElem?_eq_getElem _⟩
  have cy := m1.cell hy
  have fy := m1.frozen hp20
  have m2 : MRow (W1.setCell ⟨w.heap.size, p, none⟩ (.int .u8 c.toNat)) w.heap.size (twB c p) := m1.put p c
  have b2 : Below w.heap.size w (W1.setCell ⟨w.heap.size, p, none⟩ (.int .u8 c.toNat)) := b1.setCell (Nat.le_refl _) _
  have H2 := Lib.hid (And.intro m2 b2)
  clear m1 b1 m2 b2 hy elit
  go_upto_region 4 with fail
  clear cy fy
  generalize W1.setCell ⟨w.heap.size, p, none⟩ (.int .u8 (c.toNat : Int)) = W2 at H2 ⊢
  have hc2 := H2.out.1.conv (twB_len c p) (by omega)
  have K := tokens18 (mkS (twB c p)) (by rw [mkS_size, twB_len]; omega) W2
  rw [mkS_data] at K
  obtain ⟨ts1, ht1⟩ : ∃ ts1, lexM .gap 0 1 (twB c p) = .inr ts1 := bytes_fine p HF.out
  rw [ht1] at K
  have ways : (c.toNat = 9) ∨ (c.toNat = 10) ∨ (c.toNat = 13) ∨ (32 ≤ c.toNat ∧ c.toNat ≤ 126) := (fine_num c).1 HF.out
  have HW := Lib.hid ways
  clear ways ht1
  have HK := Lib.hid K
  clear K
  go_wp2_with fail
  refine HK.out.mono ?_
  rintro e w3 ⟨v, rfl, ⟨r3, rfl, o3⟩, hb3⟩
  obtain ⟨A3, c3, rfl, _⟩ := TkS.of_own o3
  have H3 := Lib.hid (And.intro hb3 (H2.out.2.trans (hb3.mono H2.out.2.size)))
  clear hb3 o3
  clear hc2
  go_upto_region 5 with fail
  go_cut [10] (fun b wx => b = .bool false ∧ Below w3.heap.size w3 wx)
  case first =>
    rcases HW.out with d1 | d1 | d1 | ⟨d1, d2⟩
    · have e9 : ((c.toNat : Int) != 9) = false := by rw [d1]; rfl
      have e10 : ((c.toNat : Int) != 10) = true := by rw [d1]; rfl
      have e13 : ((c.toNat : Int) != 13) = true := by rw [d1]; rfl
      go_wp2_with fail
      go_meet
      exact ⟨rfl, Below.refl _ _⟩
    · have e9 : ((c.toNat : Int) != 9) = true := by rw [d1]; rfl
      have e10 : ((c.toNat : Int) != 10) = false := by rw [d1]; rfl
      have e13 : ((c.toNat : Int) != 13) = true := by rw [d1]; rfl
      go_wp2_with fail
      go_meet
      exact ⟨rfl, Below.refl _ _⟩
    · have e9 : ((c.toNat : Int) != 9) = true := by rw [d1]; rfl
      have e10 : ((c.toNat : Int) != 10) = true := by rw [d1]; rfl
      have e13 : ((c.toNat : Int) != 13) = false := by rw [d1]; rfl
      go_wp2_with fail
      go_meet
      exact ⟨rfl, Below.refl _ _⟩
    · go_wp2_with fail
      go_meet
      exact ⟨congrArg Value.bool (decide_eq_false (by omega)), Below.refl _ _⟩
  case rest =>
    obtain ⟨rfl, hbc⟩ := hcut
    have HBC := Lib.hid (H3.out.2.trans (Below.mono hbc H3.out.2.size))
    have m4 := H2.out.1.later (H3.out.1.trans (Below.mono hbc H3.out.1.size)) (Nat.le_refl _)
    have HB2 := Lib.hid hbc
    have hc4 := m4.conv (twB_len c p) (by omega)
    have hcat : (⟨#[35]⟩ : ByteArray) ++ mkS (twB c p) = mkS (35 :: twB c p) := mkS_cat [35] _
    have hsz : (mkS (twB c p)).size = 20 := by rw [mkS_size, twB_len]
    have hs1 : (⟨#[35]⟩ : ByteArray).size = 1 := rfl
    have hn1 : ¬ 9223372036854775807 < 1 + 20 := by decide
    obtain ⟨ts2, ht2⟩ := bytes_note p (c := c) (.inl HF.out)
    have K := tokens18 (mkS (35 :: twB c p)) (by rw [mkS_size, List.length_cons, twB_len]; omega) wc
    rw [mkS_data] at K
    have ht3 : lexM .gap 0 1 (35 :: twB c p) = .inr ts2 := ht2
    rw [ht3] at K
    have HK2 := Lib.hid K
    clear K ht2 ht3 m4 hbc
    go_wp2_with fail
    refine HK2.out.mono ?_
    rintro e w5 ⟨v, rfl, ⟨r5, rfl, o5⟩, hb5⟩
    obtain ⟨A5, c5, rfl, _⟩ := TkS.of_own o5
    have H5 := Lib.hid (And.intro hb5 (HBC.out.trans (hb5.mono HBC.out.size)))
    clear hc4 hcat hsz hs1 hn1 o5 hb5
    go_upto_region 8 with fail
    rw [HP.out.2]
    rw [show (19995 : Int) + (q : Int) = ((19995 + q : Nat) : Int) by omega]
    obtain ⟨N, hN⟩ : ∃ N, 19995 + q = N := ⟨_, rfl⟩
    rw [hN]
    have hN1 : 19995 ≤ N := by omega
    have hN2 : N ≤ 20004 := by omega
    clear hN
    rw [show wrap64 (N : Int) = (N : Int) from IntWalk.wrap64_in _ (by omega)]
    have hmk := makeBytes18 N (by omega)
    go_wp2_with fail
    have hz : (madeCells #[.int .u8 0] N).toList = bv (List.replicate N 0) := by rw [toList_madeCells_one]; simp [bv]
    have r1 := Row.new' w5 5 hz
    have b6 : Below w5.heap.size w5 (w5.alloc (.cells (madeCells #[.int .u8 0] N) 5)) := (Below.refl _ _).alloc (Nat.le_refl _) _
    generalize w5.alloc (.cells (madeCells #[.int .u8 0] N) 5) = W6 at r1 b6 ⊢
    have H6 := Lib.hid (And.intro r1 b6)
    clear hmk hz r1 b6
    go_loopw [70] (fun i wr => ∃ k : Nat, k ≤ N ∧ i = .int .i64 k ∧ Hid (Row wr w5.heap.size 5 (bv (List.replicate k 32 ++ List.replicate (N - k) 0)) ∧ Below w5.heap.size w5 wr)) (fun i _ => N - (intOf i).toNat)
    case atStart => exact ⟨0, Nat.zero_le _, rfl, H6.out.1, H6.out.2⟩
    case round =>
      obtain ⟨k, hk, rfl, HX⟩ := hrel
      by_cases hkn : k < N
      · have hrow := HX.out.1.cell (i := k) (v := .int .u8 0) (bv_at (x := 0) (by
          rw [List.getElem?_append_right (by rw [List.length_replicate]; exact Nat.le_refl _), List.length_replicate, Nat.sub_self, List.getElem?_replicate, if_pos (by omega)]))
        have hfr := HX.out.1.frozen k
        have r2 := HX.out.1.put k (.int .u8 32)
        have e32 : (bv (List.replicate k 32 ++ List.replicate (N - k) 0)).set k (.int .u8 32) = bv (List.replicate (k + 1) 32 ++ List.replicate (N - (k + 1)) 0) := by
          have h1 := bv_set (List.replicate k 32 ++ List.replicate (N - k) 0) k 32
          have h2 : (List.replicate k (32 : UInt8) ++ List.replicate (N - k) 0).set k 32 = List.replicate (k + 1) 32 ++ List.replicate (N - (k + 1)) 0 := by
            rw [List.set_append_right _ _ (by rw [List.length_replicate]; exact Nat.le_refl _), List.length_replicate, Nat.sub_self, show N - k = (N - (k + 1)) + 1 by omega, List.replicate_succ, List.set_cons_zero, List.replicate_succ', List.append_assoc]
            rfl
          rw [h2] at h1
          exact h1
        rw [e32] at r2
        have b2 : Below w5.heap.size w5 (wr.setCell ⟨w5.heap.size, k, none⟩ (.int .u8 32)) := HX.out.2.setCell (Nat.le_refl _) _
        have HR := Lib.hid (And.intro r2 b2)
        clear r2 b2 e32
        go_wp2_with fail
        exact ⟨⟨k + 1, hkn, by go_num, HR.out.1, HR.out.2⟩, by simp [intOf]; omega⟩
      · obtain rfl : k = N := by omega
        have r7 := HX.out.1
        rw [Nat.sub_self, List.replicate_zero, List.append_nil] at r7
        have hc7 := conv18 r7 (List.length_replicate ..) (by omega)
        have HB7 := Lib.hid (H5.out.2.trans (HX.out.2.mono H5.out.2.size))
        have HB5 := Lib.hid HX.out.2
        have KA := Lib.hid (fun w => awake18 w)
        have KB := Lib.hid (fun w => help_bare 4 w)
        have KH := Lib.hid (fun w => help_at 21 (p : Int) w)
        clear r7
        by_cases hbig : 20000 < k
        · have K := Lib.hid (tokens_big (mkS (List.replicate k 32)) (by rw [mkS_size, List.length_replicate]; exact hbig) wr)
          go_wp2_with fail
          refine K.out.mono ?_
          rintro e w8 ⟨rfl, rfl⟩
          go_wp2_with fail
          refine (KB.out _).mono ?_
          rintro e w9 ⟨rfl, hb9⟩
          have H9 := Lib.hid (And.intro hb9 (HB7.out.trans (hb9.mono HB7.out.size)))
          clear hb9
          go_wp2_with fail
          refine (is_told3 (Tells.bare w9 4 (by decide) 0) (Handle.later H9.out.2 (Nat.le_refl _) HG.out)).mono ?_
          rintro e w10 ⟨rfl, hb10⟩
          have H10 := Lib.hid (And.intro (H9.out.1.trans (hb10.mono H9.out.1.size)) (H9.out.2.trans (hb10.mono H9.out.2.size)))
          clear hb10
          go_wp2_with fail
          refine (KA.out _).mono ?_
          rintro e w11 ⟨rfl, hb11⟩
          have H11 := Lib.hid (H10.out.2.trans (hb11.mono H10.out.2.size))
          clear hb11
          go_wp2_with fail
          go_ret
          exact ⟨rfl, H11.out⟩
        · have K := tokens18 (mkS (List.replicate k 32)) (by rw [mkS_size, List.length_replicate]; omega) wr
          rw [mkS_data, blanks_all] at K
          have HK7 := Lib.hid K
          clear K
          go_wp2_with fail
          refine HK7.out.mono ?_
          rintro e w8 ⟨v, rfl, ⟨r8, rfl, o8⟩, hb8⟩
          obtain ⟨A8, c8, rfl, _⟩ := TkS.of_own o8
          have H8 := Lib.hid (And.intro hb8 (HB7.out.trans (hb8.mono HB7.out.size)))
          clear o8 hb8
          go_wp2_with fail
          refine (KB.out _).mono ?_
          rintro e w9 ⟨rfl, hb9⟩
          have H9 := Lib.hid (And.intro (H8.out.1.trans (hb9.mono H8.out.1.size)) (H8.out.2.trans (hb9.mono H8.out.2.size)))
          clear hb9
          go_wp2_with fail
          refine (is_none18 4 0 false (by decide) w9).mono ?_
          rintro e w10 ⟨rfl, hb10⟩
          have H10 := Lib.hid (And.intro (H9.out.1.trans (hb10.mono H9.out.1.size)) (H9.out.2.trans (hb10.mono H9.out.2.size)))
          clear hb10
          go_wp2_with fail
          refine (KA.out _).mono ?_
          rintro e w11 ⟨rfl, hb11⟩
          have H11 := Lib.hid (H10.out.2.trans (hb11.mono H10.out.2.size))
          clear hb11
          go_wp2_with fail
          go_ret
          exact ⟨rfl, H11.out⟩
theorem lexerBytes (n0 : Int) (h0 : 0 ≤ n0 ∧ n0 ≤ 255) (n1 n2 : Int) {w : World} (hg : Handle w) : Calls Tryd.prog 4 #[.int .u8 n0, .int .i64 n1, .int .i64 n2] w fun e w' => e = .returned (.bool true) ∧ Below w.heap.size w w' := by
  obtain ⟨c, hc⟩ : ∃ c : UInt8, (c.toNat : Int) = n0 := ⟨UInt8.ofNat n0.toNat, by rw [UInt8.toNat_ofNat']; omega⟩
  subst hc
  cases hf : fineB c with
  | true => exact bytes_fine_any c n1 n2 hf hg
  | false => exact bytes_bad_any c n1 n2 hf hg
end Go.Proofs.YtiggfoghogecjaaDoor
