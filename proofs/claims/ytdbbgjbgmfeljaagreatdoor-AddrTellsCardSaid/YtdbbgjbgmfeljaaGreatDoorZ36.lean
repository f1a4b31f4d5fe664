/-
  stockadelaw04.AddrTells answers true, whatever is handed in. Conditions: what the program's text has laid (Env), errors.errorType's handle; the text's length is an int.
-/
import Derived.Test.YtdbbgjbgmfeljaaGreatDoorZ35
import Derived.Test.YtdbbgjbgmfeljaaGreatDoorZ32
import Derived.Test.YtdbbgjbgmfeljaaGreatDoorZ16
import Derived.Test.YtdbbgjbgmfeljaaGreatDoorZ15
import Derived.Test.YtdbbgjbgmfeljaaGreatDoorZ34
namespace Go.Proofs.YtdbbgjbgmfeljaaGreatDoor
open Go.RowKit
set_option maxRecDepth 100000

/-- What is told of a text: the address, the net; zero values where it is none. -/
def va (r : Option (Bool × List UInt8)) : Bool := (r.map (·.1)).getD false
def ba (r : Option (Bool × List UInt8)) : List UInt8 := (r.map (·.2)).getD (List.replicate 16 0)
def vp (r : Option (Bool × List UInt8 × Nat)) : Bool := (r.map (·.1)).getD false
def bp (r : Option (Bool × List UInt8 × Nat)) : List UInt8 := (r.map (·.2.1)).getD (List.replicate 16 0)
def np (r : Option (Bool × List UInt8 × Nat)) : Int := (r.map fun x => (x.2.2 : Int)).getD 0
def erv (ok : Bool) : Value := if ok then .nilIface else .iface 32 (.int .i64 17)
def erc (ok : Bool) : Int := if ok then 0 else 17
theorem er_tells (w : World) (ok : Bool) : Tells w (erv ok) ⟨erc ok, 0, false⟩ := by
  cases ok with
  | true => exact Tells.nil w 0 false
  | false => exact Tells.bare w 17 (by decide) 0
theorem Pa.told {r : Option (Bool × List UInt8)} {w w' : World} {e : Ending} (h : Pa r w e w') : Below w.heap.size w w' ∧ (ba r).length = 16 ∧ e = .returned (.tuple #[.agg (adv (va r) (ba r)), erv r.isSome]) := by
  obtain ⟨hb, hm⟩ := h
  cases r with
  | none => exact ⟨hb, rfl, hm⟩
  | some x => obtain ⟨v6, bs⟩ := x; exact ⟨hb, hm.1, hm.2⟩
theorem RPa.told {r : Option (Bool × List UInt8)} {w w' : World} {e : Ending} (h : RPa r w e w') : Below w.heap.size w w' ∧ (ba r).length = 16 ∧ e = .returned (.tuple #[.agg (adv (va r) (ba r)), .agg (flv (erc r.isSome) 0 false)]) := by
  obtain ⟨hb, hm⟩ := h
  cases r with
  | none => exact ⟨hb, rfl, hm⟩
  | some x => obtain ⟨v6, bs⟩ := x; exact ⟨hb, hm.1, hm.2⟩
theorem Pn.told {r : Option (Bool × List UInt8 × Nat)} {w w' : World} {e : Ending} (h : Pn r w e w') : Below w.heap.size w w' ∧ (bp r).length = 16 ∧ e = .returned (.tuple #[.agg (pxv (vp r) (bp r) (np r)), erv r.isSome]) := by
  obtain ⟨hb, hm⟩ := h
  cases r with
  | none => exact ⟨hb, rfl, hm⟩
  | some x => obtain ⟨v6, bs, n⟩ := x; exact ⟨hb, hm.1, hm.2⟩
theorem RPn.told {r : Option (Bool × List UInt8 × Nat)} {w w' : World} {e : Ending} (h : RPn r w e w') : Below w.heap.size w w' ∧ (bp r).length = 16 ∧ e = .returned (.tuple #[.agg (pxv (vp r) (bp r) (np r)), .agg (flv (erc r.isSome) 0 false)]) := by
  obtain ⟨hb, hm⟩ := h
  cases r with
  | none => exact ⟨hb, rfl, hm⟩
  | some x => obtain ⟨v6, bs, n⟩ := x; exact ⟨hb, hm.1, hm.2⟩

set_option maxHeartbeats 16000000 in
theorem addrTells {av pv : Bool} {xs ps : List UInt8} (ha : xs.length = 16) (hp : ps.length = 16) (n : Int) (s : ByteArray) (hs : s.size < 9223372036854775808) {w : World} (hE : Env w) (hg : Handle w) : Calls Tryz.prog 3 #[.string s, .agg (adv av xs), .agg (pxv pv ps n)] w fun e w' => e = .returned (.bool true) ∧ Below w.heap.size w w' := by
  have HE := Lib.hid hE
  have HG := Lib.hid hg
  have A1 := Lib.hid ((AdBox.new w av ha).later ((Below.refl _ _).alloc (Nat.le_refl _) (.cells (pxv pv ps n) 26)) (Nat.le_refl _))
  have P1 := PxBox.new (w.alloc (.cells (adv av xs) 24)) pv n hp
  rw [World.size_alloc] at P1
  have P1 := Lib.hid P1
  have B1 := Lib.hid (((Below.refl w.heap.size w).alloc (Nat.le_refl _) (.cells (adv av xs) 24)).alloc (by simp) (.cells (pxv pv ps n) 26))
  clear hE hg
  by_cases hbig : 200 < s.size
  · have hq : (200 : Int) < (s.size : Int) := by omega
    go_enter Tryz.func3, Tryz.ntmps3
    go_wp2_with fail
    refine (awake04 (HE.out.later B1.out (Nat.le_refl _))).mono ?_
    rintro e w1 ⟨rfl, b1⟩
    have H1 := Lib.hid (B1.out.trans (b1.mono B1.out.size))
    clear b1
    go_wp2_with fail
    go_ret
    exact ⟨rfl, H1.out⟩
  have hq : ¬ (200 : Int) < (s.size : Int) := by omega
  have KP : ∀ w1, Below w.heap.size w w1 → Hid (Calls Tryz.prog 5 #[.string s] w1 (Pa (parsev s.data.toList) w1)) := fun w1 hb => Parse_any s (by omega) (HE.out.later hb (Nat.le_refl _))
  have KQ : ∀ w1, Below w.heap.size w w1 → Hid (Calls Tryz.prog 7 #[.string s] w1 (Pn (parsenetv s.data.toList) w1)) := fun w1 hb => ParseNet_any s (by omega) (HE.out.later hb (Nat.le_refl _))
  have KP2 := fun w => refParse_any s (by omega) w
  have KQ2 := fun w => refParseNet_any s (by omega) w
  obtain ⟨r, hr⟩ : ∃ r, parsev s.data.toList = r := ⟨_, rfl⟩
  obtain ⟨q, hq2⟩ : ∃ q, parsenetv s.data.toList = q := ⟨_, rfl⟩
  rw [hr] at KP KP2
  rw [hq2] at KQ KQ2
  have KP := Lib.hid KP
  have KQ := Lib.hid KQ
  have KP2 := Lib.hid KP2
  have KQ2 := Lib.hid KQ2
  clear hr hq2
  go_enter Tryz.func3, Tryz.ntmps3
  go_wp2_with fail
  generalize hW : (w.alloc (.cells (adv av xs) 24)).alloc (.cells (pxv pv ps n) 26) = W at A1 P1 B1 ⊢
  clear hW
  refine (KP.out W B1.out).out.mono ?_
  intro e w2 hf
  obtain ⟨b2, hbr, rfl⟩ := hf.told
  have H2 := Lib.hid b2
  clear hf b2
  go_wp2_with (first
    | (refine wpList_alloc_ad rfl rfl ?_; intro w3 a3 b3 z3; have H3 := Lib.hid (And.intro a3 b3); clear a3 b3 z3)
    | (refine wpList_store_ad rfl (.tmp 7) (.tmp 22) rfl (va r) (ba r) rfl rfl hbr H3.out.1 ?_; intro w4 a4 o4 z4 b4; have H4 := Lib.hid (And.intro a4 (b4 w2.heap.size w2 (Nat.le_refl _) H3.out.2)); clear a4 o4 z4 b4))
  refine (KP2.out _).mono ?_
  intro e w5 hf
  obtain ⟨b5, _, rfl⟩ := hf.told
  have H5 := Lib.hid b5
  clear hf b5
  go_wp2_with (first
    | (refine wpList_alloc_ad rfl rfl ?_; intro w6 a6 b6 z6; have H6 := Lib.hid (And.intro a6 b6); clear a6 b6 z6)
    | (refine wpList_alloc_fl rfl rfl ?_; intro w7 a7 b7 z7; have H7 := Lib.hid (And.intro (H6.out.1.later b7 (Nat.le_refl _)) (And.intro a7 (H6.out.2.trans (b7.mono H6.out.2.size)))); clear a7 b7 z7)
    | (refine wpList_store_ad rfl (.tmp 9) (.tmp 27) rfl (va r) (ba r) rfl rfl hbr H7.out.1 ?_; intro w8 a8 o8 z8 b8; have H8 := Lib.hid (And.intro a8 (And.intro (H7.out.2.1.same (o8 _ (Nat.ne_of_lt H6.out.1.lt).symm)) (b8 w5.heap.size w5 (Nat.le_refl _) H7.out.2.2))); clear a8 o8 z8 b8)
    | (refine wpList_store_fl rfl (.tmp 10) (.tmp 28) rfl (erc r.isSome) 0 false rfl rfl H8.out.2.1 ?_; intro w9 a9 o9 z9 b9; have H9 := Lib.hid (And.intro (H8.out.1.same (o9 _ (Nat.ne_of_lt H6.out.1.lt))) (And.intro a9 (b9 w5.heap.size w5 H6.out.2.size H8.out.2.2))); clear a9 o9 z9 b9))
  have hb5 : Below W.heap.size W w9 := (H2.out.trans (H4.out.2.mono H2.out.size)).trans ((H5.out.trans (H9.out.2.2.mono H5.out.size)).mono (Nat.le_trans H2.out.size H4.out.2.size))
  have HB9 := Lib.hid (B1.out.trans (hb5.mono B1.out.size))
  clear hb5
  refine (KQ.out w9 HB9.out).out.mono ?_
  intro e w10 hf
  obtain ⟨b10, hbq, rfl⟩ := hf.told
  have H10 := Lib.hid b10
  clear hf b10
  go_wp2_with (first
    | (refine wpList_alloc_px rfl rfl ?_; intro w11 a11 b11 z11; have H11 := Lib.hid (And.intro a11 b11); clear a11 b11 z11)
    | (refine wpList_store_px rfl (.tmp 11) (.tmp 32) rfl (vp q) (bp q) (np q) rfl rfl hbq H11.out.1 ?_; intro w12 a12 o12 z12 b12; have H12 := Lib.hid (And.intro a12 (b12 w10.heap.size w10 (Nat.le_refl _) H11.out.2)); clear a12 o12 z12 b12))
  refine (KQ2.out _).mono ?_
  intro e w13 hf
  obtain ⟨b13, _, rfl⟩ := hf.told
  have H13 := Lib.hid b13
  clear hf b13
  go_wp2_with (first
    | (refine wpList_alloc_px rfl rfl ?_; intro w14 a14 b14 z14; have H14 := Lib.hid (And.intro a14 b14); clear a14 b14 z14)
    | (refine wpList_alloc_fl rfl rfl ?_; intro w15 a15 b15 z15; have H15 := Lib.hid (And.intro (H14.out.1.later b15 (Nat.le_refl _)) (And.intro a15 (H14.out.2.trans (b15.mono H14.out.2.size)))); clear a15 b15 z15)
    | (refine wpList_store_px rfl (.tmp 13) (.tmp 37) rfl (vp q) (bp q) (np q) rfl rfl hbq H15.out.1 ?_; intro w16 a16 o16 z16 b16; have H16 := Lib.hid (And.intro a16 (And.intro (H15.out.2.1.same (o16 _ (Nat.ne_of_lt H14.out.1.lt).symm)) (b16 w13.heap.size w13 (Nat.le_refl _) H15.out.2.2))); clear a16 o16 z16 b16)
    | (refine wpList_store_fl rfl (.tmp 14) (.tmp 38) rfl (erc q.isSome) 0 false rfl rfl H16.out.2.1 ?_; intro w17 a17 o17 z17 b17; have H17 := Lib.hid (And.intro (H16.out.1.same (o17 _ (Nat.ne_of_lt H14.out.1.lt))) (And.intro a17 (b17 w13.heap.size w13 H14.out.2.size H16.out.2.2))); clear a17 o17 z17 b17))
  have c13 : Below w13.heap.size w13 w17 := H17.out.2.2
  have c12 : Below w12.heap.size w12 w17 := H13.out.trans (c13.mono H13.out.size)
  have c10 : Below w10.heap.size w10 w17 := H12.out.2.trans (c12.mono H12.out.2.size)
  have c9 : Below w9.heap.size w9 w17 := H10.out.trans (c10.mono H10.out.size)
  have c5 : Below w5.heap.size w5 w17 := H9.out.2.2.trans (c9.mono H9.out.2.2.size)
  have c4 : Below w4.heap.size w4 w17 := H5.out.trans (c5.mono H5.out.size)
  have c2 : Below w2.heap.size w2 w17 := H4.out.2.trans (c4.mono H4.out.2.size)
  have c1 : Below W.heap.size W w17 := H2.out.trans (c2.mono H2.out.size)
  have c0 : Below w.heap.size w w17 := B1.out.trans (c1.mono B1.out.size)
  have HX := Lib.hid (H4.out.1.later c4 (Nat.le_refl _))
  have HY := Lib.hid (H9.out.1.later c9 (Nat.le_refl _))
  have HF := Lib.hid (H9.out.2.1.later c9 (Nat.le_refl _))
  have HU := Lib.hid (H12.out.1.later c12 (Nat.le_refl _))
  have HV := Lib.hid H17.out.1
  have HF2 := Lib.hid H17.out.2.1
  have HA := Lib.hid (A1.out.later c1 (Nat.le_refl _))
  have HP := Lib.hid (P1.out.later c1 (Nat.le_refl _))
  have HE := Lib.hid (HE.out.later c0 (Nat.le_refl _))
  have HG := Lib.hid (Handle.later c0 (Nat.le_refl _) HG.out)
  have HB := Lib.hid c0
  clear c13 c12 c10 c9 c5 c4 c2 c1 c0
  obtain ⟨T, hT⟩ : ∃ T, mkS (textv av xs) = T := ⟨_, rfl⟩
  obtain ⟨N, hN⟩ : ∃ N, mkS (textnetv pv ps n) = N := ⟨_, rfl⟩
  have KT : ∀ w1, Below w17.heap.size w17 w1 → Hid (Calls Tryz.prog 12 #[.agg (adv av xs)] w1 fun e w' => e = .returned (.string (mkS (textv av xs))) ∧ Below w1.heap.size w1 w') := fun w1 hb => Text_any av xs ha (HE.out.later hb (Nat.le_refl _))
  have KT2 := fun w => refText_any av xs ha w
  have KN : ∀ w1, Below w17.heap.size w17 w1 → Hid (Calls Tryz.prog 16 #[.agg (pxv pv ps n)] w1 fun e w' => e = .returned (.string (mkS (textnetv pv ps n))) ∧ Below w1.heap.size w1 w') := fun w1 hb => TextNet_any pv ps hp n (HE.out.later hb (Nat.le_refl _))
  have KN2 := fun w => refTextNet_any pv ps hp n w
  rw [hT] at KT KT2
  rw [hN] at KN KN2
  have KT := Lib.hid KT
  have KT2 := Lib.hid KT2
  have KN := Lib.hid KN
  have KN2 := Lib.hid KN2
  clear hT hN
  have he1 : ∀ w, (binOp .eql 24 (.agg (adv (va r) (ba r))) (.agg (adv (va r) (ba r)))).run Tryz.prog w = .ok (.bool true) w := fun w => by rw [eql_ad _ _ hbr hbr, beq_self_eq_true, beq_self_eq_true]; rfl
  have he2 : ∀ w, (binOp .eql 26 (.agg (pxv (vp q) (bp q) (np q))) (.agg (pxv (vp q) (bp q) (np q)))).run Tryz.prog w = .ok (.bool true) w := fun w => by rw [eql_px _ _ hbq hbq, beq_self_eq_true, beq_self_eq_true, beq_self_eq_true]; rfl
  have hS : Below w17.heap.size w17 w17.drew := (Below.refl _ _).drew
  refine rg_begin (fun w' => Below w17.heap.size w17 w') 59 (by kernel_rfl) rfl ?_
  refine rg_step 0 rfl (by kernel_rfl) (by rfl) (fun K hK => ?_)
  go_simp
  refine (awake04 (HE.out.later hS (Nat.le_refl _))).mono ?_
  rintro e u1 ⟨rfl, k1⟩
  replace hS := hS.trans (k1.mono hS.size)
  clear k1
  refine hK.out _ _ hS ?_
  clear hK K
  try simp only [Act.put, List.setIfInBounds_toArray, List.set_cons_zero, List.set_cons_succ]
  refine rg_take 1 (v := ?rv1) rfl (by kernel_rfl) (by kernel_rfl) (by kernel_rfl) (fun _ _ _ h => h) (by rfl) hS (fun w2 hw2 => ?ry1) ?rr1
  case ry1 => ((try dsimp only at hw2); go_simp <;> with_reducible rfl)
  simp only [Act.put, List.setIfInBounds_toArray, List.set_cons_zero, List.set_cons_succ]
  refine rg_load 2 rfl (by kernel_rfl) (by kernel_rfl) (by kernel_rfl) (w2.heap.size) 0 (adv (va r) (ba r)) (fun _ _ _ h => h) (by rfl) 24 (.tmp 7) rfl rfl hS (fun w2 h2 => (AdBox.later HX.out h2 (Nat.le_refl _)).range) Tryz.underlying24 rfl (ad_size (va r) HX.out.2) ?_
  simp only [Act.put, List.setIfInBounds_toArray, List.set_cons_zero, List.set_cons_succ]
  refine rg_load 3 rfl (by kernel_rfl) (by kernel_rfl) (by kernel_rfl) (w5.heap.size) 0 (adv (va r) (ba r)) (fun _ _ _ h => h) (by rfl) 24 (.tmp 9) rfl rfl hS (fun w2 h2 => (AdBox.later HY.out h2 (Nat.le_refl _)).range) Tryz.underlying24 rfl (ad_size (va r) HY.out.2) ?_
  simp only [Act.put, List.setIfInBounds_toArray, List.set_cons_zero, List.set_cons_succ]
  refine rg_take 4 (v := ?rv2) rfl (by kernel_rfl) (by kernel_rfl) (by kernel_rfl) (fun _ _ _ h => h) (by rfl) hS (fun w2 hw2 => ?ry2) ?rr2
  case ry2 => ((try dsimp only at hw2); go_simp <;> with_reducible rfl)
  simp only [Act.put, List.setIfInBounds_toArray, List.set_cons_zero, List.set_cons_succ]
  refine rg_take 5 (v := ?rv3) rfl (by kernel_rfl) (by kernel_rfl) (by kernel_rfl) (fun _ _ _ h => h) (by rfl) hS (fun w2 hw2 => ?ry3) ?rr3
  case ry3 => ((try dsimp only at hw2); go_simp <;> with_reducible rfl)
  simp only [Act.put, List.setIfInBounds_toArray, List.set_cons_zero, List.set_cons_succ]
  refine rg_take 6 (v := ?rv4) rfl (by kernel_rfl) (by kernel_rfl) (by kernel_rfl) (fun _ _ _ h => h) (by rfl) hS (fun w2 hw2 => ?ry4) ?rr4
  case ry4 => ((try dsimp only at hw2); go_simp <;> with_reducible rfl)
  simp only [Act.put, List.setIfInBounds_toArray, List.set_cons_zero, List.set_cons_succ]
  refine rg_take 7 (v := ?rv5) rfl (by kernel_rfl) (by kernel_rfl) (by kernel_rfl) (fun _ _ _ h => h) (by rfl) hS (fun w2 hw2 => ?ry5) ?rr5
  case ry5 => ((try dsimp only at hw2); go_simp <;> with_reducible rfl)
  simp only [Act.put, List.setIfInBounds_toArray, List.set_cons_zero, List.set_cons_succ]
  refine rg_load 8 rfl (by kernel_rfl) (by kernel_rfl) (by kernel_rfl) (w6.heap.size) (0) ((flv (erc r.isSome) 0 false)) (fun _ _ _ h => h) (by rfl) 34 (.tmp 10) rfl rfl hS (fun w2 h2 => (HF.out.later h2 (Nat.le_refl _)).range) Tryz.underlying34 rfl (fl_size _ _ _) ?_
  simp only [Act.put, List.setIfInBounds_toArray, List.set_cons_zero, List.set_cons_succ]
  refine rg_step 9 rfl (by kernel_rfl) (by rfl) (fun K hK => ?_)
  go_simp
  refine (is_told (f := ⟨erc r.isSome, 0, false⟩) (er_tells _ r.isSome) (Handle.later hS (Nat.le_refl _) HG.out)).mono ?_
  rintro e u2 ⟨rfl, k2⟩
  replace hS := hS.trans (k2.mono hS.size)
  clear k2
  refine hK.out _ _ hS ?_
  clear hK K
  try simp only [Act.put, List.setIfInBounds_toArray, List.set_cons_zero, List.set_cons_succ]
  refine rg_take 10 (v := ?rv6) rfl (by kernel_rfl) (by kernel_rfl) (by kernel_rfl) (fun _ _ _ h => h) (by rfl) hS (fun w2 hw2 => ?ry6) ?rr6
  case ry6 => ((try dsimp only at hw2); go_simp <;> with_reducible rfl)
  simp only [Act.put, List.setIfInBounds_toArray, List.set_cons_zero, List.set_cons_succ]
  refine rg_take 11 (v := ?rv7) rfl (by kernel_rfl) (by kernel_rfl) (by kernel_rfl) (fun _ _ _ h => h) (by rfl) hS (fun w2 hw2 => ?ry7) ?rr7
  case ry7 => ((try dsimp only at hw2); go_simp <;> with_reducible rfl)
  simp only [Act.put, List.setIfInBounds_toArray, List.set_cons_zero, List.set_cons_succ]
  refine rg_load 12 rfl (by kernel_rfl) (by kernel_rfl) (by kernel_rfl) (w10.heap.size) (0) ((pxv (vp q) (bp q) (np q))) (fun _ _ _ h => h) (by rfl) 26 (.tmp 11) rfl rfl hS (fun w2 h2 => (HU.out.later h2 (Nat.le_refl _)).range) Tryz.underlying26 rfl (px_size _ _ hbq) ?_
  simp only [Act.put, List.setIfInBounds_toArray, List.set_cons_zero, List.set_cons_succ]
  refine rg_load 13 rfl (by kernel_rfl) (by kernel_rfl) (by kernel_rfl) (w13.heap.size) (0) ((pxv (vp q) (bp q) (np q))) (fun _ _ _ h => h) (by rfl) 26 (.tmp 13) rfl rfl hS (fun w2 h2 => (HV.out.later h2 (Nat.le_refl _)).range) Tryz.underlying26 rfl (px_size _ _ hbq) ?_
  simp only [Act.put, List.setIfInBounds_toArray, List.set_cons_zero, List.set_cons_succ]
  refine rg_take 14 (v := ?rv8) rfl (by kernel_rfl) (by kernel_rfl) (by kernel_rfl) (fun _ _ _ h => h) (by rfl) hS (fun w2 hw2 => ?ry8) ?rr8
  case ry8 => ((try dsimp only at hw2); go_simp <;> with_reducible rfl)
  simp only [Act.put, List.setIfInBounds_toArray, List.set_cons_zero, List.set_cons_succ]
  refine rg_take 15 (v := ?rv9) rfl (by kernel_rfl) (by kernel_rfl) (by kernel_rfl) (fun _ _ _ h => h) (by rfl) hS (fun w2 hw2 => ?ry9) ?rr9
  case ry9 => ((try dsimp only at hw2); go_simp <;> with_reducible rfl)
  simp only [Act.put, List.setIfInBounds_toArray, List.set_cons_zero, List.set_cons_succ]
  refine rg_take 16 (v := ?rv10) rfl (by kernel_rfl) (by kernel_rfl) (by kernel_rfl) (fun _ _ _ h => h) (by rfl) hS (fun w2 hw2 => ?ry10) ?rr10
  case ry10 => ((try dsimp only at hw2); go_simp <;> with_reducible rfl)
  simp only [Act.put, List.setIfInBounds_toArray, List.set_cons_zero, List.set_cons_succ]
  refine rg_take 17 (v := ?rv11) rfl (by kernel_rfl) (by kernel_rfl) (by kernel_rfl) (fun _ _ _ h => h) (by rfl) hS (fun w2 hw2 => ?ry11) ?rr11
  case ry11 => ((try dsimp only at hw2); go_simp <;> with_reducible rfl)
  simp only [Act.put, List.setIfInBounds_toArray, List.set_cons_zero, List.set_cons_succ]
  refine rg_load 18 rfl (by kernel_rfl) (by kernel_rfl) (by kernel_rfl) (w14.heap.size) (0) ((flv (erc q.isSome) 0 false)) (fun _ _ _ h => h) (by rfl) 34 (.tmp 14) rfl rfl hS (fun w2 h2 => (HF2.out.later h2 (Nat.le_refl _)).range) Tryz.underlying34 rfl (fl_size _ _ _) ?_
  simp only [Act.put, List.setIfInBounds_toArray, List.set_cons_zero, List.set_cons_succ]
  refine rg_step 19 rfl (by kernel_rfl) (by rfl) (fun K hK => ?_)
  go_simp
  refine (is_told (f := ⟨erc q.isSome, 0, false⟩) (er_tells _ q.isSome) (Handle.later hS (Nat.le_refl _) HG.out)).mono ?_
  rintro e u3 ⟨rfl, k3⟩
  replace hS := hS.trans (k3.mono hS.size)
  clear k3
  refine hK.out _ _ hS ?_
  clear hK K
  try simp only [Act.put, List.setIfInBounds_toArray, List.set_cons_zero, List.set_cons_succ]
  refine rg_take 20 (v := ?rv12) rfl (by kernel_rfl) (by kernel_rfl) (by kernel_rfl) (fun _ _ _ h => h) (by rfl) hS (fun w2 hw2 => ?ry12) ?rr12
  case ry12 => ((try dsimp only at hw2); go_simp <;> with_reducible rfl)
  simp only [Act.put, List.setIfInBounds_toArray, List.set_cons_zero, List.set_cons_succ]
  refine rg_take 21 (v := ?rv13) rfl (by kernel_rfl) (by kernel_rfl) (by kernel_rfl) (fun _ _ _ h => h) (by rfl) hS (fun w2 hw2 => ?ry13) ?rr13
  case ry13 => ((try dsimp only at hw2); go_simp <;> with_reducible rfl)
  simp only [Act.put, List.setIfInBounds_toArray, List.set_cons_zero, List.set_cons_succ]
  refine rg_load 22 rfl (by kernel_rfl) (by kernel_rfl) (by kernel_rfl) (w.heap.size) 0 (adv av xs) (fun _ _ _ h => h) (by rfl) 24 (.tmp 4) rfl rfl hS (fun w2 h2 => (AdBox.later HA.out h2 (Nat.le_refl _)).range) Tryz.underlying24 rfl (ad_size av HA.out.2) ?_
  simp only [Act.put, List.setIfInBounds_toArray, List.set_cons_zero, List.set_cons_succ]
  refine rg_load 24 rfl (by kernel_rfl) (by kernel_rfl) (by kernel_rfl) (w.heap.size) 0 (adv av xs) (fun _ _ _ h => h) (by rfl) 24 (.tmp 4) rfl rfl hS (fun w2 h2 => (AdBox.later HA.out h2 (Nat.le_refl _)).range) Tryz.underlying24 rfl (ad_size av HA.out.2) ?_
  simp only [Act.put, List.setIfInBounds_toArray, List.set_cons_zero, List.set_cons_succ]
  refine rg_step 23 rfl (by kernel_rfl) (by rfl) (fun K hK => ?_)
  go_simp
  refine (Right_any av xs ha _).mono ?_
  rintro e u4 ⟨rfl, k4⟩
  replace hS := hS.trans (k4.mono hS.size)
  clear k4
  refine hK.out _ _ hS ?_
  clear hK K
  try simp only [Act.put, List.setIfInBounds_toArray, List.set_cons_zero, List.set_cons_succ]
  refine rg_step 25 rfl (by kernel_rfl) (by rfl) (fun K hK => ?_)
  go_simp
  refine (refRight_any av xs ha _).mono ?_
  rintro e u5 ⟨rfl, k5⟩
  replace hS := hS.trans (k5.mono hS.size)
  clear k5
  refine hK.out _ _ hS ?_
  clear hK K
  try simp only [Act.put, List.setIfInBounds_toArray, List.set_cons_zero, List.set_cons_succ]
  refine rg_take 26 (v := ?rv14) rfl (by kernel_rfl) (by kernel_rfl) (by kernel_rfl) (fun _ _ _ h => h) (by rfl) hS (fun w2 hw2 => ?ry14) ?rr14
  case ry14 => ((try dsimp only at hw2); go_simp <;> with_reducible rfl)
  simp only [Act.put, List.setIfInBounds_toArray, List.set_cons_zero, List.set_cons_succ]
  refine rg_take 27 (v := ?rv15) rfl (by kernel_rfl) (by kernel_rfl) (by kernel_rfl) (fun _ _ _ h => h) (by rfl) hS (fun w2 hw2 => ?ry15) ?rr15
  case ry15 => ((try dsimp only at hw2); go_simp <;> with_reducible rfl)
  simp only [Act.put, List.setIfInBounds_toArray, List.set_cons_zero, List.set_cons_succ]
  refine rg_take 28 (v := ?rv16) rfl (by kernel_rfl) (by kernel_rfl) (by kernel_rfl) (fun _ _ _ h => h) (by rfl) hS (fun w2 hw2 => ?ry16) ?rr16
  case ry16 => ((try dsimp only at hw2); go_simp <;> with_reducible rfl)
  simp only [Act.put, List.setIfInBounds_toArray, List.set_cons_zero, List.set_cons_succ]
  refine rg_load 29 rfl (by kernel_rfl) (by kernel_rfl) (by kernel_rfl) (w.heap.size) 0 (adv av xs) (fun _ _ _ h => h) (by rfl) 24 (.tmp 4) rfl rfl hS (fun w2 h2 => (AdBox.later HA.out h2 (Nat.le_refl _)).range) Tryz.underlying24 rfl (ad_size av HA.out.2) ?_
  simp only [Act.put, List.setIfInBounds_toArray, List.set_cons_zero, List.set_cons_succ]
  refine rg_load 31 rfl (by kernel_rfl) (by kernel_rfl) (by kernel_rfl) (w.heap.size) 0 (adv av xs) (fun _ _ _ h => h) (by rfl) 24 (.tmp 4) rfl rfl hS (fun w2 h2 => (AdBox.later HA.out h2 (Nat.le_refl _)).range) Tryz.underlying24 rfl (ad_size av HA.out.2) ?_
  simp only [Act.put, List.setIfInBounds_toArray, List.set_cons_zero, List.set_cons_succ]
  refine rg_step 30 rfl (by kernel_rfl) (by rfl) (fun K hK => ?_)
  go_simp
  refine ((KT.out _ hS).out).mono ?_
  rintro e u6 ⟨rfl, k6⟩
  replace hS := hS.trans (k6.mono hS.size)
  clear k6
  refine hK.out _ _ hS ?_
  clear hK K
  try simp only [Act.put, List.setIfInBounds_toArray, List.set_cons_zero, List.set_cons_succ]
  refine rg_step 32 rfl (by kernel_rfl) (by rfl) (fun K hK => ?_)
  go_simp
  refine (KT2.out _).mono ?_
  rintro e u7 ⟨rfl, k7⟩
  replace hS := hS.trans (k7.mono hS.size)
  clear k7
  refine hK.out _ _ hS ?_
  clear hK K
  try simp only [Act.put, List.setIfInBounds_toArray, List.set_cons_zero, List.set_cons_succ]
  refine rg_take 33 (v := ?rv17) rfl (by kernel_rfl) (by kernel_rfl) (by kernel_rfl) (fun _ _ _ h => h) (by rfl) hS (fun w2 hw2 => ?ry17) ?rr17
  case ry17 => ((try dsimp only at hw2); go_simp <;> with_reducible rfl)
  simp only [Act.put, List.setIfInBounds_toArray, List.set_cons_zero, List.set_cons_succ]
  refine rg_take 34 (v := ?rv18) rfl (by kernel_rfl) (by kernel_rfl) (by kernel_rfl) (fun _ _ _ h => h) (by rfl) hS (fun w2 hw2 => ?ry18) ?rr18
  case ry18 => ((try dsimp only at hw2); go_simp <;> with_reducible rfl)
  simp only [Act.put, List.setIfInBounds_toArray, List.set_cons_zero, List.set_cons_succ]
  refine rg_take 35 (v := ?rv19) rfl (by kernel_rfl) (by kernel_rfl) (by kernel_rfl) (fun _ _ _ h => h) (by rfl) hS (fun w2 hw2 => ?ry19) ?rr19
  case ry19 => ((try dsimp only at hw2); go_simp <;> with_reducible rfl)
  simp only [Act.put, List.setIfInBounds_toArray, List.set_cons_zero, List.set_cons_succ]
  refine rg_load 36 rfl (by kernel_rfl) (by kernel_rfl) (by kernel_rfl) (w.heap.size + 1) (0) ((pxv pv ps n)) (fun _ _ _ h => h) (by rfl) 26 (.tmp 5) rfl rfl hS (fun w2 h2 => (HP.out.later h2 (Nat.le_refl _)).range) Tryz.underlying26 rfl (px_size _ _ hp) ?_
  simp only [Act.put, List.setIfInBounds_toArray, List.set_cons_zero, List.set_cons_succ]
  refine rg_load 38 rfl (by kernel_rfl) (by kernel_rfl) (by kernel_rfl) (w.heap.size + 1) (0) ((pxv pv ps n)) (fun _ _ _ h => h) (by rfl) 26 (.tmp 5) rfl rfl hS (fun w2 h2 => (HP.out.later h2 (Nat.le_refl _)).range) Tryz.underlying26 rfl (px_size _ _ hp) ?_
  simp only [Act.put, List.setIfInBounds_toArray, List.set_cons_zero, List.set_cons_succ]
  refine rg_step 37 rfl (by kernel_rfl) (by rfl) (fun K hK => ?_)
  go_simp
  refine (RightNet_any pv ps hp n _).mono ?_
  rintro e u8 ⟨rfl, k8⟩
  replace hS := hS.trans (k8.mono hS.size)
  clear k8
  refine hK.out _ _ hS ?_
  clear hK K
  try simp only [Act.put, List.setIfInBounds_toArray, List.set_cons_zero, List.set_cons_succ]
  refine rg_step 39 rfl (by kernel_rfl) (by rfl) (fun K hK => ?_)
  go_simp
  refine (refRightNet_any pv ps hp n _).mono ?_
  rintro e u9 ⟨rfl, k9⟩
  replace hS := hS.trans (k9.mono hS.size)
  clear k9
  refine hK.out _ _ hS ?_
  clear hK K
  try simp only [Act.put, List.setIfInBounds_toArray, List.set_cons_zero, List.set_cons_succ]
  refine rg_take 40 (v := ?rv20) rfl (by kernel_rfl) (by kernel_rfl) (by kernel_rfl) (fun _ _ _ h => h) (by rfl) hS (fun w2 hw2 => ?ry20) ?rr20
  case ry20 => ((try dsimp only at hw2); go_simp <;> with_reducible rfl)
  simp only [Act.put, List.setIfInBounds_toArray, List.set_cons_zero, List.set_cons_succ]
  refine rg_take 41 (v := ?rv21) rfl (by kernel_rfl) (by kernel_rfl) (by kernel_rfl) (fun _ _ _ h => h) (by rfl) hS (fun w2 hw2 => ?ry21) ?rr21
  case ry21 => ((try dsimp only at hw2); go_simp <;> with_reducible rfl)
  simp only [Act.put, List.setIfInBounds_toArray, List.set_cons_zero, List.set_cons_succ]
  refine rg_take 42 (v := ?rv22) rfl (by kernel_rfl) (by kernel_rfl) (by kernel_rfl) (fun _ _ _ h => h) (by rfl) hS (fun w2 hw2 => ?ry22) ?rr22
  case ry22 => ((try dsimp only at hw2); go_simp <;> with_reducible rfl)
  simp only [Act.put, List.setIfInBounds_toArray, List.set_cons_zero, List.set_cons_succ]
  refine rg_load 43 rfl (by kernel_rfl) (by kernel_rfl) (by kernel_rfl) (w.heap.size + 1) (0) ((pxv pv ps n)) (fun _ _ _ h => h) (by rfl) 26 (.tmp 5) rfl rfl hS (fun w2 h2 => (HP.out.later h2 (Nat.le_refl _)).range) Tryz.underlying26 rfl (px_size _ _ hp) ?_
  simp only [Act.put, List.setIfInBounds_toArray, List.set_cons_zero, List.set_cons_succ]
  refine rg_load 45 rfl (by kernel_rfl) (by kernel_rfl) (by kernel_rfl) (w.heap.size + 1) (0) ((pxv pv ps n)) (fun _ _ _ h => h) (by rfl) 26 (.tmp 5) rfl rfl hS (fun w2 h2 => (HP.out.later h2 (Nat.le_refl _)).range) Tryz.underlying26 rfl (px_size _ _ hp) ?_
  simp only [Act.put, List.setIfInBounds_toArray, List.set_cons_zero, List.set_cons_succ]
  refine rg_step 44 rfl (by kernel_rfl) (by rfl) (fun K hK => ?_)
  go_simp
  refine ((KN.out _ hS).out).mono ?_
  rintro e u10 ⟨rfl, k10⟩
  replace hS := hS.trans (k10.mono hS.size)
  clear k10
  refine hK.out _ _ hS ?_
  clear hK K
  try simp only [Act.put, List.setIfInBounds_toArray, List.set_cons_zero, List.set_cons_succ]
  refine rg_step 46 rfl (by kernel_rfl) (by rfl) (fun K hK => ?_)
  go_simp
  refine (KN2.out _).mono ?_
  rintro e u11 ⟨rfl, k11⟩
  replace hS := hS.trans (k11.mono hS.size)
  clear k11
  refine hK.out _ _ hS ?_
  clear hK K
  try simp only [Act.put, List.setIfInBounds_toArray, List.set_cons_zero, List.set_cons_succ]
  refine rg_take 47 (v := ?rv23) rfl (by kernel_rfl) (by kernel_rfl) (by kernel_rfl) (fun _ _ _ h => h) (by rfl) hS (fun w2 hw2 => ?ry23) ?rr23
  case ry23 => ((try dsimp only at hw2); go_simp <;> with_reducible rfl)
  simp only [Act.put, List.setIfInBounds_toArray, List.set_cons_zero, List.set_cons_succ]
  refine rg_take 48 (v := ?rv24) rfl (by kernel_rfl) (by kernel_rfl) (by kernel_rfl) (fun _ _ _ h => h) (by rfl) hS (fun w2 hw2 => ?ry24) ?rr24
  case ry24 => ((try dsimp only at hw2); go_simp <;> with_reducible rfl)
  simp only [Act.put, List.setIfInBounds_toArray, List.set_cons_zero, List.set_cons_succ]
  refine rg_take 49 (v := ?rv25) rfl (by kernel_rfl) (by kernel_rfl) (by kernel_rfl) (fun _ _ _ h => h) (by rfl) hS (fun w2 hw2 => ?ry25) ?rr25
  case ry25 => ((try dsimp only at hw2); go_simp <;> with_reducible rfl)
  simp only [Act.put, List.setIfInBounds_toArray, List.set_cons_zero, List.set_cons_succ]
  refine rg_load 50 rfl (by kernel_rfl) (by kernel_rfl) (by kernel_rfl) (w.heap.size) 0 (adv av xs) (fun _ _ _ h => h) (by rfl) 24 (.tmp 4) rfl rfl hS (fun w2 h2 => (AdBox.later HA.out h2 (Nat.le_refl _)).range) Tryz.underlying24 rfl (ad_size av HA.out.2) ?_
  simp only [Act.put, List.setIfInBounds_toArray, List.set_cons_zero, List.set_cons_succ]
  refine rg_load 51 rfl (by kernel_rfl) (by kernel_rfl) (by kernel_rfl) (w.heap.size + 1) (0) ((pxv pv ps n)) (fun _ _ _ h => h) (by rfl) 26 (.tmp 5) rfl rfl hS (fun w2 h2 => (HP.out.later h2 (Nat.le_refl _)).range) Tryz.underlying26 rfl (px_size _ _ hp) ?_
  simp only [Act.put, List.setIfInBounds_toArray, List.set_cons_zero, List.set_cons_succ]
  refine rg_load 53 rfl (by kernel_rfl) (by kernel_rfl) (by kernel_rfl) (w.heap.size) 0 (adv av xs) (fun _ _ _ h => h) (by rfl) 24 (.tmp 4) rfl rfl hS (fun w2 h2 => (AdBox.later HA.out h2 (Nat.le_refl _)).range) Tryz.underlying24 rfl (ad_size av HA.out.2) ?_
  simp only [Act.put, List.setIfInBounds_toArray, List.set_cons_zero, List.set_cons_succ]
  refine rg_load 54 rfl (by kernel_rfl) (by kernel_rfl) (by kernel_rfl) (w.heap.size + 1) (0) ((pxv pv ps n)) (fun _ _ _ h => h) (by rfl) 26 (.tmp 5) rfl rfl hS (fun w2 h2 => (HP.out.later h2 (Nat.le_refl _)).range) Tryz.underlying26 rfl (px_size _ _ hp) ?_
  simp only [Act.put, List.setIfInBounds_toArray, List.set_cons_zero, List.set_cons_succ]
  refine rg_step 52 rfl (by kernel_rfl) (by rfl) (fun K hK => ?_)
  go_simp
  refine (In_any av xs ha pv ps hp n _).mono ?_
  rintro e u12 ⟨rfl, k12⟩
  replace hS := hS.trans (k12.mono hS.size)
  clear k12
  refine hK.out _ _ hS ?_
  clear hK K
  try simp only [Act.put, List.setIfInBounds_toArray, List.set_cons_zero, List.set_cons_succ]
  refine rg_step 55 rfl (by kernel_rfl) (by rfl) (fun K hK => ?_)
  go_simp
  refine (refIn_any av xs ha pv ps hp n _).mono ?_
  rintro e u13 ⟨rfl, k13⟩
  replace hS := hS.trans (k13.mono hS.size)
  clear k13
  refine hK.out _ _ hS ?_
  clear hK K
  try simp only [Act.put, List.setIfInBounds_toArray, List.set_cons_zero, List.set_cons_succ]
  refine rg_take 56 (v := ?rv26) rfl (by kernel_rfl) (by kernel_rfl) (by kernel_rfl) (fun _ _ _ h => h) (by rfl) hS (fun w2 hw2 => ?ry26) ?rr26
  case ry26 => ((try dsimp only at hw2); go_simp <;> with_reducible rfl)
  simp only [Act.put, List.setIfInBounds_toArray, List.set_cons_zero, List.set_cons_succ]
  refine rg_take 57 (v := ?rv27) rfl (by kernel_rfl) (by kernel_rfl) (by kernel_rfl) (fun _ _ _ h => h) (by rfl) hS (fun w2 hw2 => ?ry27) ?rr27
  case ry27 => ((try dsimp only at hw2); go_simp <;> with_reducible rfl)
  simp only [Act.put, List.setIfInBounds_toArray, List.set_cons_zero, List.set_cons_succ]
  refine rg_take 58 (v := ?rv28) rfl (by kernel_rfl) (by kernel_rfl) (by kernel_rfl) (fun _ _ _ h => h) (by rfl) hS (fun w2 hw2 => ?ry28) ?rr28
  case ry28 => ((try dsimp only at hw2); go_simp <;> with_reducible rfl)
  simp only [Act.put, List.setIfInBounds_toArray, List.set_cons_zero, List.set_cons_succ]
  refine rg_done (by kernel_rfl) ?_
  have H18 := Lib.hid (HB.out.trans (hS.mono HB.out.size))
  clear hS
  go_wp2_with fail
  go_ret
  exact ⟨rfl, H18.out⟩
end Go.Proofs.YtdbbgjbgmfeljaaGreatDoor
