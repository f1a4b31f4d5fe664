/-
  stockadehelp.Digits; stockadelaw15's names. Conditions: a million at most.
-/
import Derived.Test.YtjbdaeiefckkcaaPl15
import Derived.Lib.ItoaNum
import Derived.IntWalk
import Derived.BigRegion
namespace Go.Proofs.Ytjbdaeiefckkcaa
open Go.RowKit
set_option maxRecDepth 100000

/-- A text out of its bytes. -/
def mkD (l : List UInt8) : ByteArray := ⟨l.toArray⟩
theorem mkD_data (l : List UInt8) : (mkD l).data.toList = l := by simp [mkD]
theorem ret15 {a b : ByteArray} (h : a = b) : Ending.returned (.string a) = .returned (.string b) := by rw [h]
theorem binj15 {a b : ByteArray} (h : a.data.toList = b.data.toList) : a = b := by
  obtain ⟨⟨a⟩⟩ := a
  obtain ⟨⟨b⟩⟩ := b
  cases h
  rfl
/-- string([]byte{b}) -/
theorem conv15 (b : UInt8) {W : World} {g : Nat} (h : W.cell? ⟨g, 0, none⟩ = some (.int .u8 b.toNat)) : (convert 30 9 (.slice (some ⟨g, 0, none⟩) 1 1)).run Try.prog W = .ok (.string (mkD [b])) W := by
  have hb : Bs W (some ⟨g, 0, none⟩) 1 1 [b] := ⟨rfl, Nat.le_refl _, by unfold maxLen; omega, (fun h => by cases h), fun _ => ⟨g, 0, rfl, fun j x hx => by
    match j, hx with
    | 0, hx => obtain rfl := Option.some.inj hx; exact h
    | j + 1, hx => simp at hx⟩⟩
  exact hb.convert 30 5 9 Try.underlying30 Try.underlying5 Try.underlying9
theorem dec15 (n : Nat) : Lib.decDigits n = if n < 10 then [UInt8.ofNat (48 + n)] else Lib.decDigits (n / 10) ++ [UInt8.ofNat (48 + n % 10)] := by
  rw [Lib.decDigits]; split <;> rfl
theorem declen15 : ∀ n : Nat, (Lib.decDigits n).length ≤ n + 1 := by
  intro n
  induction n using Nat.strongRecOn with
  | _ n ih =>
    rw [dec15]
    split
    · simp
    · have := ih (n / 10) (by omega)
      rw [List.length_append]
      simp
      omega

set_option maxHeartbeats 1000000 in
theorem digits15 (n : Nat) (hn : n ≤ 1000000) : ∀ w : World, Calls Try.prog 5 #[.int .i64 n] w fun e w' => e = .returned (.string (mkD (Lib.decDigits n))) ∧ Below w.heap.size w w' := by
  induction n using Nat.strongRecOn with
  | _ n ih =>
    intro w
    by_cases h : n < 10
    · obtain ⟨x, hx⟩ : ∃ x, UInt8.ofNat (48 + n) = x := ⟨_, rfl⟩
      have hu : ((UInt8.ofNat (48 + n)).toNat : Int) = 48 + n := by rw [UInt8.toNat_ofNat']; omega
      rw [hx] at hu
      have hcv : ∀ (W : World) (g : Nat), W.cell? ⟨g, 0, none⟩ = some (.int .u8 (48 + (n : Int))) → (convert 30 9 (.slice (some ⟨g, 0, none⟩) 1 1)).run Try.prog W = .ok (.string (mkD [x])) W := fun W g hc => conv15 _ (by rw [hc, hu])
      have hd : Lib.decDigits n = [x] := by rw [dec15, if_pos h, hx]
      have HD := Lib.hid hd
      clear hd hu ih hx
      go_enter Try.func5, Try.ntmps5
      go_wp2
      go_ret
      exact ⟨by rw [HD.out]; rfl, (Below.refl _ _).alloc (Nat.le_refl _) _⟩
    · have hi := ih (n / 10) (by omega) (by omega)
      obtain ⟨x, hx⟩ : ∃ x, UInt8.ofNat (48 + n % 10) = x := ⟨_, rfl⟩
      have hu : ((UInt8.ofNat (48 + n % 10)).toNat : Int) = 48 + (n : Int) % 10 := by rw [UInt8.toNat_ofNat']; omega
      rw [hx] at hu
      have hcv : ∀ (W : World) (g : Nat), W.cell? ⟨g, 0, none⟩ = some (.int .u8 (48 + (n : Int) % 10)) → (convert 30 9 (.slice (some ⟨g, 0, none⟩) 1 1)).run Try.prog W = .ok (.string (mkD [x])) W := fun W g hc => conv15 _ (by rw [hc, hu])
      have hd : Lib.decDigits n = Lib.decDigits (n / 10) ++ [x] := by rw [dec15, if_neg h, hx]
      have hl := declen15 (n / 10)
      obtain ⟨J, hJ⟩ : ∃ J, mkD (Lib.decDigits (n / 10)) = J := ⟨_, rfl⟩
      have hJd : J.data.toList = Lib.decDigits (n / 10) := by rw [← hJ, mkD_data]
      have hJs : J.size ≤ 1000001 := by rw [Lib.size_eq, hJd]; omega
      rw [hJ, show ((n / 10 : Nat) : Int) = (n : Int) / 10 by omega] at hi
      have HI := Lib.hid hi
      have HD := Lib.hid (And.intro hd hJd)
      have nJ : (9223372036854775807 < J.size + 1) = False := eq_false (by omega)
      have nJ2 : (9223372036854775807 < J.size + (mkD [x]).size) = False := eq_false (by rw [show (mkD [x]).size = 1 from rfl]; omega)
      have q0 : ¬ ((n : Int) < 10) := by omega
      have q1 : (n : Int).tdiv 10 = (n : Int) / 10 := Int.tdiv_eq_ediv_of_nonneg (by omega)
      have q2 : (n : Int).tmod 10 = (n : Int) % 10 := Int.tmod_eq_emod_of_nonneg (by omega)
      have q3 : IntKind.i64.wrap ((n : Int) / 10) = (n : Int) / 10 := IntWalk.i64_in _ (by omega)
      have q4 : IntKind.i64.wrap (48 + (n : Int) % 10) = 48 + (n : Int) % 10 := IntWalk.i64_in _ (by omega)
      have q5 : IntKind.u8.wrap (48 + (n : Int) % 10) = 48 + (n : Int) % 10 := IntWalk.u8_in _ (by omega)
      have q6 : IntKind.i64.wrap ((n : Int) % 10) = (n : Int) % 10 := IntWalk.i64_in _ (by omega)
      clear hd hu ih hi hl hJ hJd hx
      go_enter Try.func5, Try.ntmps5
      go_wp2_with fail
      have hS : Below w.heap.size w w.drew := (Below.refl _ _).drew
      refine rg_begin (fun w' => Below w.heap.size w w') 11 (by kernel_rfl) rfl ?_
      refine rg_take 0 (v := ?rv1) rfl (by kernel_rfl) (by kernel_rfl) (by kernel_rfl) (fun _ _ _ h => h) (by rfl) hS (fun w2 hw2 => ?ry1) ?rr1
      case ry1 => ((try dsimp only at hw2); go_simp <;> with_reducible rfl)
      simp only [Act.put, List.setIfInBounds_toArray, List.set_cons_zero, List.set_cons_succ]
      refine rg_take 3 (v := ?rv2) rfl (by kernel_rfl) (by kernel_rfl) (by kernel_rfl) (fun _ _ _ h => h) (by rfl) hS (fun w2 hw2 => ?ry2) ?rr2
      case ry2 => ((try dsimp only at hw2); go_simp <;> with_reducible rfl)
      simp only [Act.put, List.setIfInBounds_toArray, List.set_cons_zero, List.set_cons_succ]
      refine rg_take 1 (v := ?rv3) rfl (by kernel_rfl) (by kernel_rfl) (by kernel_rfl) (fun _ _ _ h => h) (by rfl) hS (fun w2 hw2 => ?ry3) ?rr3
      case ry3 => ((try dsimp only at hw2); go_simp <;> with_reducible rfl)
      simp only [Act.put, List.setIfInBounds_toArray, List.set_cons_zero, List.set_cons_succ]
      refine rg_take 4 (v := ?rv4) rfl (by kernel_rfl) (by kernel_rfl) (by kernel_rfl) (fun _ _ _ h => h) (by rfl) hS (fun w2 hw2 => ?ry4) ?rr4
      case ry4 => ((try dsimp only at hw2); go_simp <;> with_reducible rfl)
      simp only [Act.put, List.setIfInBounds_toArray, List.set_cons_zero, List.set_cons_succ]
      refine rg_take 5 (v := ?rv5) rfl (by kernel_rfl) (by kernel_rfl) (by kernel_rfl) (fun _ _ _ h => h) (by rfl) hS (fun w2 hw2 => ?ry5) ?rr5
      case ry5 => ((try dsimp only at hw2); go_simp <;> with_reducible rfl)
      simp only [Act.put, List.setIfInBounds_toArray, List.set_cons_zero, List.set_cons_succ]
      refine rg_take 6 (v := ?rv6) rfl (by kernel_rfl) (by kernel_rfl) (by kernel_rfl) (fun _ _ _ h => h) (by rfl) hS (fun w2 hw2 => ?ry6) ?rr6
      case ry6 => ((try dsimp only at hw2); go_simp <;> with_reducible rfl)
      simp only [Act.put, List.setIfInBounds_toArray, List.set_cons_zero, List.set_cons_succ]
      refine rg_any [2, 7] (by kernel_rfl) (by simp) ?_
      refine rg_or 2 rfl (by rfl) (fun K hK => ?_) ?_
      · go_simp
        refine (HI.out _).mono ?_
        rintro e u ⟨rfl, bK⟩
        replace hS := hS.trans (bK.mono hS.size)
        clear bK
        refine hK.out _ _ hS ?_
        clear hK K
        try simp only [Act.put, List.setIfInBounds_toArray, List.set_cons_zero, List.set_cons_succ]
        refine rg_step 7 rfl (by kernel_rfl) (by rfl) (fun K hK => ?_)
        go_simp
        have hc : (u.alloc (.cells #[.int .u8 (48 + (n : Int) % 10)] 5)).cell? ⟨u.heap.size, 0, none⟩ = some (.int .u8 (48 + (n : Int) % 10)) := by rw [World.cell?_alloc_at _ _ _ _ rfl]; rfl
        replace hS := hS.alloc hS.size (.cells #[.int .u8 (48 + (n : Int) % 10)] 5)
        refine hK.out _ _ hS ?_
        clear hK K
        try simp only [Act.put, List.setIfInBounds_toArray, List.set_cons_zero, List.set_cons_succ]
        refine rg_step 8 rfl (by kernel_rfl) (by rfl) (fun K hK => ?_)
        go_simp
        refine hK.out _ _ hS ?_
        clear hK K
        try simp only [Act.put, List.setIfInBounds_toArray, List.set_cons_zero, List.set_cons_succ]
        refine rg_take 9 (v := ?rv7) rfl (by kernel_rfl) (by kernel_rfl) (by kernel_rfl) (fun _ _ _ h => h) (by rfl) hS (fun w2 hw2 => ?ry7) ?rr7
        case ry7 => ((try dsimp only at hw2); go_simp <;> with_reducible rfl)
        simp only [Act.put, List.setIfInBounds_toArray, List.set_cons_zero, List.set_cons_succ]
        refine rg_take 10 (v := ?rv8) rfl (by kernel_rfl) (by kernel_rfl) (by kernel_rfl) (fun _ _ _ h => h) (by rfl) hS (fun w2 hw2 => ?ry8) ?rr8
        case ry8 => ((try dsimp only at hw2); go_simp <;> with_reducible rfl)
        simp only [Act.put, List.setIfInBounds_toArray, List.set_cons_zero, List.set_cons_succ]
        refine rg_done (by kernel_rfl) ?_
        have H2 := Lib.hid hS
        clear hS hc
        go_wp2_with fail
        go_ret
        exact ⟨ret15 (binj15 (by rw [ByteArray.data_append, Array.toList_append, HD.out.2, mkD_data, mkD_data, HD.out.1])), H2.out⟩
      refine rg_or 7 rfl (by rfl) (fun K hK => ?_) AllReadyH.nil
      go_simp
      have hc : (w.alloc (.cells #[.int .u8 (48 + (n : Int) % 10)] 5)).drew.cell? ⟨w.heap.size, 0, none⟩ = some (.int .u8 (48 + (n : Int) % 10)) := by
        show (w.alloc (.cells #[.int .u8 (48 + (n : Int) % 10)] 5)).cell? ⟨w.heap.size, 0, none⟩ = _
        rw [World.cell?_alloc_at _ _ _ _ rfl]; rfl
      replace hS : Below w.heap.size w (w.alloc (.cells #[.int .u8 (48 + (n : Int) % 10)] 5)).drew := ((Below.refl w.heap.size w).alloc (Nat.le_refl _) (.cells #[.int .u8 (48 + (n : Int) % 10)] 5)).drew
      refine hK.out _ _ hS ?_
      clear hK K
      try simp only [Act.put, List.setIfInBounds_toArray, List.set_cons_zero, List.set_cons_succ]
      generalize hW : (w.alloc (.cells #[.int .u8 (48 + (n : Int) % 10)] 5)).drew = W2 at hS hc ⊢
      clear hW
      refine rg_any [2, 8] (by kernel_rfl) (by simp) ?_
      refine rg_or 2 rfl (by rfl) (fun K hK => ?_) ?_
      · go_simp
        refine (HI.out _).mono ?_
        rintro e u ⟨rfl, bK⟩
        replace hS := hS.trans (bK.mono hS.size)
        replace hc := (bK.cell (p := ⟨_, 0, none⟩) (by exact lt_of_cell' hc)).trans hc
        clear bK
        refine hK.out _ _ hS ?_
        clear hK K
        try simp only [Act.put, List.setIfInBounds_toArray, List.set_cons_zero, List.set_cons_succ]
        refine rg_step 8 rfl (by kernel_rfl) (by rfl) (fun K hK => ?_)
        go_simp
        refine hK.out _ _ hS ?_
        clear hK K
        try simp only [Act.put, List.setIfInBounds_toArray, List.set_cons_zero, List.set_cons_succ]
        refine rg_take 9 (v := ?rv9) rfl (by kernel_rfl) (by kernel_rfl) (by kernel_rfl) (fun _ _ _ h => h) (by rfl) hS (fun w2 hw2 => ?ry9) ?rr9
        case ry9 => ((try dsimp only at hw2); go_simp <;> with_reducible rfl)
        simp only [Act.put, List.setIfInBounds_toArray, List.set_cons_zero, List.set_cons_succ]
        refine rg_take 10 (v := ?rv10) rfl (by kernel_rfl) (by kernel_rfl) (by kernel_rfl) (fun _ _ _ h => h) (by rfl) hS (fun w2 hw2 => ?ry10) ?rr10
        case ry10 => ((try dsimp only at hw2); go_simp <;> with_reducible rfl)
        simp only [Act.put, List.setIfInBounds_toArray, List.set_cons_zero, List.set_cons_succ]
        refine rg_done (by kernel_rfl) ?_
        have H2 := Lib.hid hS
        clear hS hc
        go_wp2_with fail
        go_ret
        exact ⟨ret15 (binj15 (by rw [ByteArray.data_append, Array.toList_append, HD.out.2, mkD_data, mkD_data, HD.out.1])), H2.out⟩
      refine rg_or 8 rfl (by rfl) (fun K hK => ?_) AllReadyH.nil
      go_simp
      refine hK.out _ _ hS ?_
      clear hK K
      try simp only [Act.put, List.setIfInBounds_toArray, List.set_cons_zero, List.set_cons_succ]
      refine rg_step 2 rfl (by kernel_rfl) (by rfl) (fun K hK => ?_)
      go_simp
      refine (HI.out _).mono ?_
      rintro e u ⟨rfl, bK⟩
      replace hS := hS.trans (bK.mono hS.size)
      replace hc := (bK.cell (p := ⟨_, 0, none⟩) (by exact lt_of_cell' hc)).trans hc
      clear bK
      refine hK.out _ _ hS ?_
      clear hK K
      try simp only [Act.put, List.setIfInBounds_toArray, List.set_cons_zero, List.set_cons_succ]
      refine rg_take 9 (v := ?rv11) rfl (by kernel_rfl) (by kernel_rfl) (by kernel_rfl) (fun _ _ _ h => h) (by rfl) hS (fun w2 hw2 => ?ry11) ?rr11
      case ry11 => ((try dsimp only at hw2); go_simp <;> with_reducible rfl)
      simp only [Act.put, List.setIfInBounds_toArray, List.set_cons_zero, List.set_cons_succ]
      refine rg_take 10 (v := ?rv12) rfl (by kernel_rfl) (by kernel_rfl) (by kernel_rfl) (fun _ _ _ h => h) (by rfl) hS (fun w2 hw2 => ?ry12) ?rr12
      case ry12 => ((try dsimp only at hw2); go_simp <;> with_reducible rfl)
      simp only [Act.put, List.setIfInBounds_toArray, List.set_cons_zero, List.set_cons_succ]
      refine rg_done (by kernel_rfl) ?_
      have H2 := Lib.hid hS
      clear hS hc
      go_wp2_with fail
      go_ret
      exact ⟨ret15 (binj15 (by rw [ByteArray.data_append, Array.toList_append, HD.out.2, mkD_data, mkD_data, HD.out.1])), H2.out⟩
theorem nm_dec : ∀ i < 21, nm i = (⟨#[110]⟩ : ByteArray) ++ mkD (Lib.decDigits i) := by
  intro i hi
  have h : ∀ i < 21, (nm i).data.toList = 110 :: Lib.decDigits i := by
    intro i hi
    unfold nm
    rw [dec15]
    by_cases h : i < 10
    · rw [if_pos h, if_pos h]
    · rw [if_neg h, if_neg h, dec15, if_pos (by omega)]
      rfl
  refine binj15 ?_
  rw [h i hi, ByteArray.data_append, Array.toList_append, mkD_data]
  rfl
set_option maxHeartbeats 1000000 in
theorem name15 (i : Nat) (hi : i < 21) (w : World) : Calls Try.prog 4 #[.int .i64 i] w fun e w' => e = .returned (.string (nm i)) ∧ Below w.heap.size w w' := by
  have K := Lib.hid (digits15 i (by omega) w)
  have hn := nm_dec i hi
  obtain ⟨J, hJ⟩ : ∃ J, mkD (Lib.decDigits i) = J := ⟨_, rfl⟩
  have hJs : J.size ≤ 22 := by rw [← hJ, Lib.size_eq, mkD_data]; have := declen15 i; omega
  rw [hJ] at K hn
  have HN := Lib.hid hn
  have HJ := Lib.hid hJ
  have nJ : (9223372036854775807 < 1 + J.size) = False := eq_false (by omega)
  have nJ2 : (9223372036854775807 < (⟨#[110]⟩ : ByteArray).size + J.size) = False := eq_false (by rw [show (⟨#[110]⟩ : ByteArray).size = 1 from rfl]; omega)
  clear hn hJ
  go_enter Try.func4, Try.ntmps4
  go_wp2_with fail
  refine K.out.mono ?_
  rintro e w1 ⟨rfl, b1⟩
  have H1 := Lib.hid b1
  clear b1
  go_wp2_with fail
  go_ret
  exact ⟨by rw [HN.out]; rfl, H1.out⟩
end Go.Proofs.Ytjbdaeiefckkcaa
