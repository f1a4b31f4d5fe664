/-
  
-/
import Derived.Test.YtoagfmonfgagbaaGreatDoorZ45
import Derived.Laws.StructEq
namespace Go.Proofs.YtoagfmonfgagbaaGreatDoor
open Go.RowKit
set_option maxRecDepth 100000
def rsv (v1 v2 : Value) : Array Value := #[v1, v2]
theorem rs_size (v1 v2 : Value) : (Tryz.prog.info? 25).map (·.size) = some (rsv v1 v2).size := by
  show _ = some 2
  kernel_rfl
def RsBox (w : World) (g : Nat) (v1 v2 : Value) : Prop := w.heap[g]? = some (.cells (rsv v1 v2) 25 (0, 0))
theorem A9O.one {w : World} {base : Nat} {v : Value} {xs : List Ad19} (h : A9O w base v xs) : v.oneCell' = true := by
  obtain ⟨A, c, rfl, _, _⟩ := A9S.of_own h
  rfl
theorem RwO.one {w : World} {base : Nat} {v : Value} {xs : List Rw} (h : RwO w base v xs) : v.oneCell' = true := by
  obtain ⟨A, c, rfl, _, _⟩ := RwS.of_own h
  rfl
theorem A9O.base {w : World} {base base' : Nat} {v : Value} {xs : List Ad19} (h : A9O w base v xs) (hb : base' ≤ base) : A9O w base' v xs := ⟨owns_base h.1 hb, h.2⟩
theorem RwO.base {w : World} {base base' : Nat} {v : Value} {xs : List Rw} (h : RwO w base v xs) (hb : base' ≤ base) : RwO w base' v xs := ⟨owns_base h.1 hb, h.2⟩
section
variable {ops : Array Oper} {rest : List Oper} {o : Oper} {a : Act} {w : World} {Q : Exit → Act → World → Prop}
theorem wp_alloc_rs {K : Act → World → Prop} (ho : o.op = .alloc 25)
    (h : ∀ w', RsBox w' w.heap.size (.slice none 0 0) (.slice none 0 0) → Below w.heap.size w w' → w'.heap.size = w.heap.size + 1 → K (a.put o.dst (.pointer (some ⟨w.heap.size, 0, none⟩))) w') : o.wp Tryz.prog a w K Q := by
  have h1 := h (w.alloc (.cells (rsv (.slice none 0 0) (.slice none 0 0)) 25)) (heap_alloc_last w _) ((Below.refl _ w).alloc (Nat.le_refl _) _) (by simp)
  obtain ⟨dst, op, ty, pos, after, guard⟩ := o
  simp only at ho
  subst ho
  unfold rsv at h1
  go_simp
  exact h1
theorem wpList_alloc_rs (hgd : o.guard = none) (ho : o.op = .alloc 25)
    (h : ∀ w', RsBox w' w.heap.size (.slice none 0 0) (.slice none 0 0) → Below w.heap.size w w' → w'.heap.size = w.heap.size + 1 → wpList Tryz.prog ops Q rest (a.put o.dst (.pointer (some ⟨w.heap.size, 0, none⟩))) w') : wpList Tryz.prog ops Q (o :: rest) a w :=
  wpList_plain hgd fun _ hK => wp_alloc_rs ho fun w' h1 h2 h3 => hK _ _ (h w' h1 h2 h3)
theorem wp_store_rs {K : Act → World → Prop} (x y : Operand) (ho : o.op = .store 25 x y) {g : Nat} (p q : Value) (h1 : p.oneCell' = true) (h2 : q.oneCell' = true) {p0 q0 : Value}
    (hx : a.eval x = .pointer (some ⟨g, 0, none⟩)) (hy : a.eval y = .agg (rsv p q)) (hA : RsBox w g p0 q0)
    (h : ∀ w', RsBox w' g p q → (∀ k, k ≠ g → w'.heap[k]? = w.heap[k]?) → w'.heap.size = w.heap.size → (∀ B w0, B ≤ g → Below B w0 w → Below B w0 w') → K (a.put o.dst undef) w') : o.wp Tryz.prog a w K Q :=
  wp_store_row 25 x y ho g (rsv p q) hx hy 25 _ hA (rs_size p q) rfl (by simp [rsv, h1, h2])
    (h _ (setRow_heap w g _ _ _ _ hA) (fun k hk => setRow_other w g k _ hk) (size_setRow w g _) (fun B w0 hB hb => below_setRow hb hB _))
theorem wpList_store_rs (hgd : o.guard = none) (x y : Operand) (ho : o.op = .store 25 x y) {g : Nat} (p q : Value) (h1 : p.oneCell' = true) (h2 : q.oneCell' = true) {p0 q0 : Value}
    (hx : a.eval x = .pointer (some ⟨g, 0, none⟩)) (hy : a.eval y = .agg (rsv p q)) (hA : RsBox w g p0 q0)
    (h : ∀ w', RsBox w' g p q → (∀ k, k ≠ g → w'.heap[k]? = w.heap[k]?) → w'.heap.size = w.heap.size → (∀ B w0, B ≤ g → Below B w0 w → Below B w0 w') → wpList Tryz.prog ops Q rest (a.put o.dst undef) w') : wpList Tryz.prog ops Q (o :: rest) a w :=
  wpList_plain hgd fun _ hK => wp_store_rs x y ho p q h1 h2 hx hy hA fun w' h1 h2 h3 h4 => hK _ _ (h w' h1 h2 h3 h4)
theorem wpList_load_rs (hgd : o.guard = none) (x : Operand) (ho : o.op = .load 25 x) {g : Nat} {p q : Value} (hx : a.eval x = .pointer (some ⟨g, 0, none⟩)) (hA : RsBox w g p q)
    (h : wpList Tryz.prog ops Q rest (a.put o.dst (.agg (rsv p q))) w) : wpList Tryz.prog ops Q (o :: rest) a w :=
  wpList_load_row hgd 25 x ho g hx 25 (rsv p q) (0, 0) _ hA Tryz.underlying25 rfl (rs_size p q) h
end
theorem results_rs_tmp {fn : Func} {p u : Tmp} (h : fn.results = #[.cell p 25, .tmp u]) (tmps : Array Value) {w : World} {g : Nat} {v1 v2 : Value} (hp : tmps.getD p undef = .pointer (some ⟨g, 0, none⟩)) (hA : RsBox w g v1 v2) :
    (results fn tmps).run Tryz.prog w = .ok (.tuple #[.agg (rsv v1 v2), tmps.getD u undef]) w := by
  rw [results_cell_tmp h, hp]
  simp [asAddr, run_loadVar_row w g 25 25 (rsv v1 v2) (0, 0) _ hA Tryz.underlying25 rfl (rs_size v1 v2)]
theorem words_take : ∀ (ts : List Tk), ∀ t ∈ ts.take (wlen ts), t.word = true
  | [], t, h => by cases h
  | u :: ts, t, h => by
    unfold wlen at h
    by_cases hu : u.word = true
    · rw [if_pos hu, List.take_succ_cons] at h
      rcases List.mem_cons.1 h with rfl | h
      · exact hu
      · exact words_take ts t h
    · rw [if_neg hu] at h
      cases h
theorem word_at : ∀ (ts : List Tk) (t : Tk), ts[wlen ts]? = some t → t.word = false
  | [], t, h => by cases h
  | u :: ts, t, h => by
    unfold wlen at h
    by_cases hu : u.word = true
    · rw [if_pos hu] at h
      exact word_at ts t h
    · rw [if_neg hu] at h
      cases h
      simpa using hu
theorem parseL_line (f : Fx Ad19 Nt19) (r : Rs19) (us : List Tk) (t : Tk) (ht : us[wlen us]? = some t) : parseL f r [] us = (match lineV f r (us.take (wlen us)) t.at_ with
    | .inl x => .inl x
    | .inr r' => parseL f r' [] (us.drop (wlen us + 1))) := by
  have hw := words_take us
  have hf := word_at us t ht
  have hlt := (List.getElem?_eq_some_iff.1 ht).1
  have he : us = us.take (wlen us) ++ t :: us.drop (wlen us + 1) := by
    have h1 := List.drop_eq_getElem_cons hlt
    rw [(List.getElem?_eq_some_iff.1 ht).2] at h1
    rw [← h1, List.take_append_drop]
  conv => lhs; rw [he]
  rw [parse_words f r _ _ _ hw, List.nil_append]
  conv => lhs; unfold parseL
  rw [if_neg (by rw [hf]; decide)]
  rcases lineV f r (us.take (wlen us)) t.at_ with x | x <;> rfl
theorem parseL_words (f : Fx Ad19 Nt19) (r : Rs19) (us : List Tk) (h : wlen us = us.length) : parseL f r [] us = lineV f r us 0 := by
  have hw := words_take us
  rw [h, List.take_length] at hw
  have h1 := parse_words f r us [] [] hw
  rw [List.append_nil, List.nil_append] at h1
  rw [h1]
  rfl
def ParseQ (base : Nat) (R : Sum (Int × Nat) Rs19) (w' : World) (v : Value) : Prop := match R with
  | .inl (k, p) => ∃ er, v = .tuple #[.agg (rsv (.slice none 0 0) (.slice none 0 0)), er] ∧ ErrN w' er k p
  | .inr r => ∃ v1 v2, v = .tuple #[.agg (rsv v1 v2), .nilIface] ∧ A9O w' base v1 r.servers ∧ RwO w' base v2 (r.rules.map rwR)
set_option maxHeartbeats 4000000 in
theorem parse19 {A : Option Addr} {n c : Nat} {ts : List Tk} {w : World} (hb : TkS w A n c ts) (hE : Env19 w) (hsz : ∀ t ∈ ts, t.text.length ≤ 1000000) :
    Calls Tryz.prog 24 #[.slice A n c] w fun e w' => ∃ v, e = .returned v ∧ ParseQ w.heap.size (parseV fx ts) w' v ∧ Below w.heap.size w w' := by
  obtain ⟨R, hR⟩ : ∃ R, parseV fx ts = R := ⟨_, rfl⟩
  rw [hR]
  have HR := Lib.hid hR
  have HP := Lib.hid (And.intro hb (And.intro hE hsz))
  clear hb hE hsz hR
  obtain ⟨g, hg⟩ : ∃ g, g = w.heap.size + 1 := ⟨_, rfl⟩
  have HG := Lib.hid hg
  clear hg
  go_enter Tryz.func24, Tryz.ntmps24
  go_wp2_with (first
    | (have H1' := H1; refine wpList_alloc_rs rfl rfl ?_; intro w2 a2 b2 z2; rw [show w1.heap.size = g from by rw [HG.out]; exact H1'.out.2.2] at a2 ⊢; have hq2 := (b2.block _ (lt_blk H1'.out.1)).trans H1'.out.1; have H2 := Lib.hid (And.intro a2 (And.intro hq2 (H1'.out.2.1.trans (b2.mono H1'.out.2.1.size)))); clear a2 b2 z2 hq2 H1')
    | (refine wpList_alloc_rs rfl rfl ?_; intro w1 a1 b1 z1; have H1 := Lib.hid (And.intro a1 (And.intro b1 z1)); clear a1 b1 z1))
  simp only [Act.put, List.setIfInBounds_toArray, List.set_cons_zero, List.set_cons_succ]
  go_loopw [0] (fun l wr => ∃ Al nl cl us v1 v2 r, l = .slice Al nl cl ∧ nl = us.length ∧ Hid ((∀ w2, TkS w2 A n c ts → TkS w2 Al nl cl us) ∧ RB wr (w.heap.size + 1) g v1 v2 r ∧ RsBox wr w.heap.size (.slice none 0 0) (.slice none 0 0) ∧ parseL fx r [] us = R ∧ RightR fx r ∧ (∀ t ∈ us, t.text.length ≤ 1000000) ∧ Below w.heap.size w wr)) (fun l _ => match l with | .slice _ k _ => k | _ => 0)
  case atStart =>
    refine ⟨A, n, c, ts, .slice none 0 0, .slice none 0 0, noneR, rfl, HP.out.1.len.symm, fun w2 h => h, ⟨H2.out.1, A9O.nil _ _, RwO.nil _ _, by simp [Value.ownBlock], by simp [Value.ownBlock], by simp [Value.ownBlock], by rw [HG.out]; exact Nat.le_refl _⟩, H2.out.2.1, HR.out, right_none fx, HP.out.2.2, H2.out.2.2⟩
  case round =>
    obtain ⟨Al, nl, cl, us, v1, v2, r, rfl, hnl, HX⟩ := hrel
    have tk0 := HX.out.1 w HP.out.1
    have hcap := tk0.cap
    have hmax := tk0.max
    unfold maxLen at hmax
    clear tk0
    have HN := Lib.hid hnl
    clear hnl
    by_cases h0 : nl = 0
    · subst h0
      have hus : us = [] := List.eq_nil_of_length_eq_zero HN.out.symm
      have e1 : R = .inr r := by rw [← HX.out.2.2.2.1, hus]; rfl
      have q0 := HX.out.2.1.cell0
      have q1 := HX.out.2.1.cell1
      clear hus
      go_wp2_with (first
        | (refine wpList_store_rs rfl (.tmp 2) (.tmp 22) rfl v1 v2 HX.out.2.1.s.one HX.out.2.1.u.one rfl rfl HX.out.2.2.1 ?_; intro w3 a3 o3 z3 b3; have H3 := Lib.hid (And.intro a3 (And.intro o3 (b3 w.heap.size w (Nat.le_refl _) HX.out.2.2.2.2.2.2))); clear a3 o3 z3 b3))
      refine bodyPost_ret (results_rs_tmp rfl _ rfl H3.out.1) rfl ⟨_, rfl, ?_, H3.out.2.2⟩
      rw [e1]
      have hne : ∀ b, Sg g v1 v2 b → b ≠ w.heap.size := fun b hb e => by
        have h1 := HX.out.2.1.sg_base hb
        omega
      exact ⟨v1, v2, rfl, (HX.out.2.1.s.kept fun b hb => H3.out.2.1 b (hne b (.inr (.inl hb)))).base (Nat.le_succ _), (HX.out.2.1.u.kept fun b hb => H3.out.2.1 b (hne b (.inr (.inr hb)))).base (Nat.le_succ _)⟩
    · have hn0 : (0 : Int) < (nl : Int) := by omega
      by_cases hw : wlen us = nl
      · have K := cut_all19 ((HX.out.1 w HP.out.1).later HX.out.2.2.2.2.2.2 (Nat.le_refl _)) hw
        have K := Lib.hid K
        go_wp2_with fail
        refine K.out.mono ?_
        rintro e w4 ⟨rfl, b4⟩
        have H4 := Lib.hid (And.intro (HX.out.2.1.later b4) (And.intro ((b4.block _ (lt_blk HX.out.2.2.1)).trans HX.out.2.2.1) (HX.out.2.2.2.2.2.2.trans (b4.mono HX.out.2.2.2.2.2.2.size))))
        clear b4 K
        go_wp2_with (first
          | (refine wpList_alloc_ln rfl rfl ?_; intro w4x a4 b4 z4; have H4x := Lib.hid (And.intro a4 (And.intro b4 z4)); clear a4 b4 z4)
          | (refine wpList_store_ln rfl (.tmp 5) (.tmp 14) rfl Al nl cl 0 rfl rfl H4x.out.1 ?_; intro w5 a5 o5 z5 b5; have b6 := b5 w4.heap.size w4 (Nat.le_refl _) H4x.out.2.1; have H5 := Lib.hid (And.intro a5 (And.intro (H4.out.1.later b6) (And.intro ((b6.block _ (lt_blk H4.out.2.1)).trans H4.out.2.1) (H4.out.2.2.trans (b6.mono H4.out.2.2.size))))); clear a5 o5 z5 b5 b6))
        have hp5 : Pre w5 (w.heap.size + 1) g w4.heap.size Al nl cl 0 us v1 v2 r := by
          have hlt : ∀ i, Sg g v1 v2 i → i < w4.heap.size := fun i hi => H4.out.1.sg_lt hi
          have hw4 : w.heap.size + 1 ≤ w4.heap.size := Nat.lt_of_le_of_lt (Nat.le_of_lt (by have := HG.out; have := H4.out.1.base_g; omega)) H4.out.1.lt
          have hfr : ∀ w', Fr (St w4.heap.size g v1 v2) w5 w' → Below w.heap.size w w' := fun w' hf => by
            refine Fr.below H5.out.2.2.2 hf (fun i hi => ?_) H5.out.2.2.2.size
            rcases hi with rfl | hi
            · omega
            · have := H5.out.2.1.sg_base hi; omega
          refine ⟨H5.out.1, H5.out.2.1, fun hs => absurd (hlt _ hs) (Nat.lt_irrefl _), hw4, fun w' hf => ?_, fun w' hf => HP.out.2.1.later (hfr w' hf) (Nat.le_refl _), fun t ht => HX.out.2.2.2.2.2.1 t ht, ⟨Nat.le_trans HX.out.2.2.2.2.1.s20 (by omega), Nat.le_trans HX.out.2.2.2.2.1.r200 (by omega)⟩⟩
          exact HX.out.1 w' (HP.out.1.later (hfr w' hf) (Nat.le_refl _))
        have K := tell19 hp5
        have hfr5 : ∀ w', Fr (St w4.heap.size g v1 v2) w5 w' → Below w.heap.size w w' ∧ w'.heap[w.heap.size]? = w5.heap[w.heap.size]? := fun w' hf => by
          have hlt4 := lt_blk H4.out.2.1
          have hb5 : ∀ i, Sg g v1 v2 i → w.heap.size + 1 ≤ i := fun i hi => H5.out.2.1.sg_base hi
          constructor
          · refine Fr.below H5.out.2.2.2 hf (fun i hi => ?_) H5.out.2.2.2.size
            rcases hi with rfl | hi
            · omega
            · have := hb5 i hi; omega
          · refine hf.block _ (lt_blk H5.out.2.2.1) fun hi => ?_
            rcases hi with e | hi
            · omega
            · have := hb5 _ hi; omega
        have HF5 := Lib.hid hfr5
        clear hp5 hfr5
        rcases hl : lineV fx r us 0 with ⟨k, p⟩ | r2
        · rw [hl] at K
          have e1 : R = .inl (k, p) := by rw [← HX.out.2.2.2.1, parseL_words fx r us (by rw [hw, HN.out]), hl]
          refine K.mono ?_
          rintro e w6 ⟨hf6, er, rfl, ⟨ge, rfl, hge⟩⟩
          have H6 := Lib.hid (And.intro (HF5.out w6 hf6).1 (And.intro (((HF5.out w6 hf6).2).trans H5.out.2.2.1) hge))
          clear K hf6 hge hl
          go_wp2_with (refine wpList_store_rs rfl (.tmp 2) (.tmp 19) rfl (.slice none 0 0) (.slice none 0 0) rfl rfl rfl rfl H6.out.2.1 ?_; intro w7 a7 o7 z7 b7; have H7 := Lib.hid (And.intro a7 (And.intro o7 (b7 w.heap.size w (Nat.le_refl _) H6.out.1))); clear a7 o7 z7 b7)
          refine bodyPost_ret (results_rs_tmp rfl _ rfl H7.out.1) rfl ⟨_, rfl, ?_, H7.out.2.2⟩
          rw [e1]
          refine ⟨_, rfl, ge, rfl, (H7.out.2.1 ge fun e => ?_).trans H6.out.2.2⟩
          have h8 := H6.out.2.2
          rw [e] at h8
          have h9 := h8.symm.trans H6.out.2.1
          injection h9 with h10
          injection h10 with _ h11 _
          exact absurd h11 (by decide)
        · rw [hl] at K
          refine K.mono ?_
          rintro e w6 ⟨hf6, rfl, v1', v2', hr6, _, _⟩
          have hr2 : RightR fx r2 := lineV_right fx_ok HX.out.2.2.2.2.1 hl
          have H6 := Lib.hid (And.intro (HF5.out w6 hf6).1 (And.intro (((HF5.out w6 hf6).2).trans H5.out.2.2.1) (And.intro hr6 (And.intro hr2 hl))))
          clear K hf6 hr6 hr2 hl
          go_wp2_with fail
          refine ⟨⟨none, 0, 0, [], v1', v2', r2, rfl, rfl, ⟨fun w2 _ => TkS.nil w2, H6.out.2.2.1, H6.out.2.1, ?_, H6.out.2.2.2.1, (fun t ht => by cases ht), H6.out.1⟩⟩, ?_⟩
          · rw [← HX.out.2.2.2.1, parseL_words fx r us (by rw [hw, HN.out]), H6.out.2.2.2.2]
            rfl
          · (simp; omega)
      · have hk : wlen us < nl := by have := wlen_le us; have := HN.out; omega
        obtain ⟨t, ht0⟩ : ∃ t, us[wlen us]? = some t := ⟨us[wlen us]'(by have := HN.out; omega), List.getElem?_eq_getElem _⟩
        have K := cut_some19 ((HX.out.1 w HP.out.1).later HX.out.2.2.2.2.2.2 (Nat.le_refl _)) rfl hk ht0
        have K := Lib.hid K
        have ht0 := Lib.hid ht0
        go_wp2_with fail
        refine K.out.mono ?_
        rintro e w4 ⟨A2, rfl, htl, b4⟩
        have htl := Lib.hid htl
        have H4 := Lib.hid (And.intro (HX.out.2.1.later b4) (And.intro ((b4.block _ (lt_blk HX.out.2.2.1)).trans HX.out.2.2.1) (HX.out.2.2.2.2.2.2.trans (b4.mono HX.out.2.2.2.2.2.2.size))))
        clear b4 K
        go_wp2_with (first
          | (refine wpList_alloc_ln rfl rfl ?_; intro w4x a4 b4 z4; have H4x := Lib.hid (And.intro a4 (And.intro b4 z4)); clear a4 b4 z4)
          | (refine wpList_store_ln rfl (.tmp 5) (.tmp 14) rfl Al (wlen us) cl t.at_ rfl rfl H4x.out.1 ?_; intro w5 a5 o5 z5 b5; have b6 := b5 w4.heap.size w4 (Nat.le_refl _) H4x.out.2.1; have H5 := Lib.hid (And.intro a5 (And.intro (H4.out.1.later b6) (And.intro ((b6.block _ (lt_blk H4.out.2.1)).trans H4.out.2.1) (H4.out.2.2.trans (b6.mono H4.out.2.2.size))))); clear a5 o5 z5 b5 b6))
        have hp5 : Pre w5 (w.heap.size + 1) g w4.heap.size Al (wlen us) cl t.at_ (us.take (wlen us)) v1 v2 r := by
          have hlt : ∀ i, Sg g v1 v2 i → i < w4.heap.size := fun i hi => H4.out.1.sg_lt hi
          have hw4 : w.heap.size + 1 ≤ w4.heap.size := Nat.lt_of_le_of_lt (Nat.le_of_lt (by have := HG.out; have := H4.out.1.base_g; omega)) H4.out.1.lt
          have hfr : ∀ w', Fr (St w4.heap.size g v1 v2) w5 w' → Below w.heap.size w w' := fun w' hf => by
            refine Fr.below H5.out.2.2.2 hf (fun i hi => ?_) H5.out.2.2.2.size
            rcases hi with rfl | hi
            · omega
            · have := H5.out.2.1.sg_base hi; omega
          refine ⟨H5.out.1, H5.out.2.1, fun hs => absurd (hlt _ hs) (Nat.lt_irrefl _), hw4, fun w' hf => ?_, fun w' hf => HP.out.2.1.later (hfr w' hf) (Nat.le_refl _), fun t ht => HX.out.2.2.2.2.2.1 t (List.mem_of_mem_take ht), ⟨Nat.le_trans HX.out.2.2.2.2.1.s20 (by omega), Nat.le_trans HX.out.2.2.2.2.1.r200 (by omega)⟩⟩
          exact (HX.out.1 w' (HP.out.1.later (hfr w' hf) (Nat.le_refl _))).take (Nat.le_of_lt hk)
        have K := tell19 hp5
        have hfr5 : ∀ w', Fr (St w4.heap.size g v1 v2) w5 w' → Below w.heap.size w w' ∧ w'.heap[w.heap.size]? = w5.heap[w.heap.size]? := fun w' hf => by
          have hlt4 := lt_blk H4.out.2.1
          have hb5 : ∀ i, Sg g v1 v2 i → w.heap.size + 1 ≤ i := fun i hi => H5.out.2.1.sg_base hi
          constructor
          · refine Fr.below H5.out.2.2.2 hf (fun i hi => ?_) H5.out.2.2.2.size
            rcases hi with rfl | hi
            · omega
            · have := hb5 i hi; omega
          · refine hf.block _ (lt_blk H5.out.2.2.1) fun hi => ?_
            rcases hi with e | hi
            · omega
            · have := hb5 _ hi; omega
        have HF5 := Lib.hid hfr5
        clear hp5 hfr5
        rcases hl : lineV fx r (us.take (wlen us)) t.at_ with ⟨k, p⟩ | r2
        · rw [hl] at K
          have e1 : R = .inl (k, p) := by rw [← HX.out.2.2.2.1, parseL_line fx r us t ht0.out, hl]
          refine K.mono ?_
          rintro e w6 ⟨hf6, er, rfl, ⟨ge, rfl, hge⟩⟩
          have H6 := Lib.hid (And.intro (HF5.out w6 hf6).1 (And.intro (((HF5.out w6 hf6).2).trans H5.out.2.2.1) hge))
          clear K hf6 hge hl
          go_wp2_with (refine wpList_store_rs rfl (.tmp 2) (.tmp 19) rfl (.slice none 0 0) (.slice none 0 0) rfl rfl rfl rfl H6.out.2.1 ?_; intro w7 a7 o7 z7 b7; have H7 := Lib.hid (And.intro a7 (And.intro o7 (b7 w.heap.size w (Nat.le_refl _) H6.out.1))); clear a7 o7 z7 b7)
          refine bodyPost_ret (results_rs_tmp rfl _ rfl H7.out.1) rfl ⟨_, rfl, ?_, H7.out.2.2⟩
          rw [e1]
          refine ⟨_, rfl, ge, rfl, (H7.out.2.1 ge fun e => ?_).trans H6.out.2.2⟩
          have h8 := H6.out.2.2
          rw [e] at h8
          have h9 := h8.symm.trans H6.out.2.1
          injection h9 with h10
          injection h10 with _ h11 _
          exact absurd h11 (by decide)
        · rw [hl] at K
          refine K.mono ?_
          rintro e w6 ⟨hf6, rfl, v1', v2', hr6, _, _⟩
          have hr2 : RightR fx r2 := lineV_right fx_ok HX.out.2.2.2.2.1 hl
          have H6 := Lib.hid (And.intro (HF5.out w6 hf6).1 (And.intro (((HF5.out w6 hf6).2).trans H5.out.2.2.1) (And.intro hr6 (And.intro hr2 hl))))
          clear K hf6 hr6 hr2 hl
          go_wp2_with fail
          refine ⟨⟨A2, nl - (wlen us + 1), cl - (wlen us + 1), us.drop (wlen us + 1), v1', v2', r2, rfl, (by rw [List.length_drop, ← HN.out]), ⟨fun w2 h2 => htl.out w2 (HX.out.1 w2 h2), H6.out.2.2.1, H6.out.2.1, ?_, H6.out.2.2.2.1, fun t ht => HX.out.2.2.2.2.2.1 t (List.mem_of_mem_drop ht), H6.out.1⟩⟩, ?_⟩
          · rw [← HX.out.2.2.2.1, parseL_line fx r us t ht0.out, H6.out.2.2.2.2]
          · (simp; omega)
end Go.Proofs.YtoagfmonfgagbaaGreatDoor

namespace Go.Proofs.YtoagfmonfgagbaaGreatDoor
open Go.RowKit
set_option maxRecDepth 100000
def wtk (l : List UInt8) : Tk := ⟨true, 0, 0, l⟩
theorem tkC_len : ∀ xs : List Tk, (tkC xs).length = xs.length * 4
  | [] => rfl
  | x :: xs => by
    have e : tkC (x :: xs) = (tkv x).toList ++ tkC xs := by simp [tkC, tkL, Value.cells]
    rw [e, List.length_append, tkC_len xs, List.length_cons]
    show 4 + _ = _
    omega
def dn19 (ts : List Tk) (n k : Nat) : Array Value := (tkC (ts.take k) ++ (madeCells tkZ (n * 4)).toList.drop (k * 4)).toArray
theorem dn_zero (ts : List Tk) (n : Nat) : dn19 ts n 0 = madeCells tkZ (n * 4) := by
  unfold dn19
  simp [tkC, tkL]
theorem dn_size {ts : List Tk} {n k : Nat} (h : ts.length = n) (hk : k ≤ n) : (dn19 ts n k).size = n * 4 := by
  have h1 : ((madeCells tkZ (n * 4)).toList).length = n * 4 := by rw [Array.length_toList, size_madeCells]
  unfold dn19
  rw [List.size_toArray, List.length_append, tkC_len, List.length_take, List.length_drop, h1]
  omega
theorem dn_step {ts : List Tk} {n k : Nat} {t : Tk} (h : ts.length = n) (hk : ts[k]? = some t) : splice (dn19 ts n k) (k * 4) (tkv t) = dn19 ts n (k + 1) := by
  have hlt := (List.getElem?_eq_some_iff.1 hk).1
  have hl : (tkC (ts.take k)).length = k * 4 := by rw [tkC_len, List.length_take]; omega
  have e2 : ts.take (k + 1) = ts.take k ++ [t] := by rw [List.take_add_one, hk]; rfl
  unfold splice dn19
  rw [e2, tkC_snoc]
  congr 1
  rw [List.take_left' hl, List.append_assoc]
  congr 2
  rw [tkv_size, List.drop_append, hl, List.drop_eq_nil_of_le (by omega), List.nil_append, List.drop_drop]
  congr 1
  omega
theorem makeTk (n : Nat) (h0 : 0 < n) (hn : n ≤ 1000) (w : World) : (Instr.makeSlice 62 (.int .i64 (n : Int)) (.int .i64 (n : Int))).run Tryz.prog w = .ok (.slice (some ⟨w.heap.size, 0, none⟩) n n) (w.alloc (.cells (madeCells tkZ (n * 4)) 96)) := by
  obtain ⟨i, h1, h2, h3, h4⟩ := info_of18 infoTk
  have h := run_makeSlice (P := Tryz.prog) (w := w) 62 96 i _ Tryz.underlying62 h1 h2 .i64 .i64 (n : Int) (n : Int) (by omega) (Int.le_refl _) (by rw [h3]; omega) (by rw [h4]; omega) (by omega)
  rw [h3, Int.toNat_natCast] at h
  exact h
def wtks (ws : List (List UInt8)) : List Tk := ws.map wtk
set_option maxHeartbeats 2000000 in
theorem tokens19 {A : Option Addr} {n c : Nat} {ws : List (List UInt8)} {w : World} (hb : Gs w A n c (sv (mkSs ws))) (h0 : 0 < n) (hn : n ≤ 1000) : Calls Tryz.prog 29 #[.slice A n c] w fun e w' =>
    ∃ g, e = .returned (.slice (some ⟨g, 0, none⟩) n n) ∧ TkS w' (some ⟨g, 0, none⟩) n n (wtks ws) ∧ w.heap.size ≤ g ∧ Below w.heap.size w w' := by
  have hcap := hb.cap
  have hmax := hb.max
  unfold maxLen at hmax
  have hlen : ws.length = n := by have := hb.len; unfold sv mkSs at this; rw [List.length_map, List.length_map] at this; exact this
  have hwl : (wtks ws).length = n := by unfold wtks; rw [List.length_map]; exact hlen
  have hmk := makeTk n h0 hn
  have HB := Lib.hid (And.intro hb (And.intro hlen hwl))
  have HN := Lib.hid hn
  have r1 : (w.alloc (.cells (madeCells tkZ (n * 4)) 96)).heap[w.heap.size]? = some (.cells (dn19 (wtks ws) n 0) 96 (0, 0)) := by rw [dn_zero]; exact heap_alloc_last w _
  have b1 : Below w.heap.size w (w.alloc (.cells (madeCells tkZ (n * 4)) 96)) := (Below.refl _ _).alloc (Nat.le_refl _) _
  obtain ⟨W, hW⟩ : ∃ W, w.alloc (.cells (madeCells tkZ (n * 4)) 96) = W := ⟨_, rfl⟩
  rw [hW] at r1 b1
  have HW := Lib.hid hW
  have H1 := Lib.hid (And.intro r1 b1)
  clear hb hlen hwl hW r1 b1 hn
  go_enter Tryz.func29, Tryz.ntmps29
  go_wp2_with (rw [HW.out])
  (try rw [HW.out])
  clear hmk
  go_loopw [11] (fun i wr => ∃ k : Nat, k ≤ n ∧ i = .int .i64 k ∧ Hid (wr.heap[w.heap.size]? = some (.cells (dn19 (wtks ws) n k) 96 (0, 0)) ∧ Below w.heap.size w wr)) (fun i _ => n - (intOf i).toNat)
  case atStart => exact ⟨0, Nat.zero_le _, rfl, H1.out⟩
  case round =>
    obtain ⟨k, hk, rfl, HX⟩ := hrel
    by_cases hkn : k < n
    · obtain ⟨x, hxk⟩ : ∃ x, ws[k]? = some x := ⟨ws[k]'(by have := HB.out.2.1; omega), List.getElem?_eq_getElem _⟩
      obtain ⟨b, off, rfl, hc⟩ := (HB.out.1.later HX.out.2 (Nat.le_refl _)).get (k := k) (x := .string (mkS x)) (by unfold sv mkSs; rw [List.getElem?_map, List.getElem?_map, hxk]; rfl)
      have htk : (wtks ws)[k]? = some (wtk x) := by unfold wtks; rw [List.getElem?_map, hxk]; rfl
      have HT := Lib.hid htk
      have hfit : k * 4 + (tkv (wtk x)).size ≤ (dn19 (wtks ws) n k).size := by rw [dn_size HB.out.2.2 hk, tkv_size]; omega
      have HF := Lib.hid hfit
      clear hfit
      clear hxk htk
      go_wp2_with (refine wpList_store_in rfl 96 (.tmp 20) (.tmp 19) rfl w.heap.size (k * 4) (tkv (wtk x)) rfl rfl HX.out.1 HF.out (show 0 < 4 by decide) (tk_size _) (tkv_one _) ?_; rw [dn_step HB.out.2.2 HT.out])
      refine ⟨⟨k + 1, hkn, by go_num, setRow_heap wr w.heap.size _ _ _ _ HX.out.1, below_setRow HX.out.2 (Nat.le_refl _) _⟩, by simp [intOf]; omega⟩
    · obtain rfl : k = n := by omega
      go_wp2_with fail
      go_ret
      refine ⟨w.heap.size, rfl, ⟨HB.out.2.2, Nat.le_refl _, by have := HN.out; unfold maxLen; omega, (fun e => by cases e), fun i t ht => ⟨w.heap.size, 0, rfl, fun j u hj => ?_⟩⟩, Nat.le_refl _, HX.out.2⟩
      have hg := tkC_get ht hj
      rw [Nat.zero_add, cell_of_row wr w.heap.size (i * 4 + j) _ _ _ HX.out.1, ← Array.getElem?_toList]
      unfold dn19
      rw [List.take_of_length_le (Nat.le_of_eq HB.out.2.2)]
      show (tkC (wtks ws) ++ _)[i * 4 + j]? = _
      rw [List.getElem?_append_left (List.getElem?_eq_some_iff.1 hg).1]
      exact hg
end Go.Proofs.YtoagfmonfgagbaaGreatDoor

namespace Go.Proofs.YtoagfmonfgagbaaGreatDoor
open Go.RowKit
set_option maxRecDepth 100000
theorem mkS_cat (a b : List UInt8) : mkS a ++ mkS b = mkS (a ++ b) := by
  apply ByteArray.ext
  simp [mkS]
def protoTx (n : Int) : List UInt8 := if n = 6 then kwTcp else if n = 17 then kwUdp else if n = 1 then kwIcmp else if n = 256 then kwAny else []
def portsTx (a b : Int) : List UInt8 := if a = 0 ∧ b = 65535 then [42] else if a = b then Lib.itoa a else Lib.itoa a ++ 45 :: Lib.itoa b
set_option maxHeartbeats 2000000 in
theorem textProto19 (n : Int) {w : World} (hE : Env19 w) : Calls Tryz.prog 74 #[.int .i64 n] w fun e w' => Below w.heap.size w w' ∧ e = .returned (.string (mkS (protoTx n))) := by
  obtain ⟨b, off, hv, hq⟩ := hE.prot
  obtain ⟨a0, a1⟩ := hq 0 _ rfl
  obtain ⟨b0, b1⟩ := hq 1 _ rfl
  obtain ⟨c0, c1⟩ := hq 2 _ rfl
  obtain ⟨d0, d1⟩ := hq 3 _ rfl
  simp only [Nat.zero_mul, Nat.add_zero, Nat.reduceMul, Nat.reduceAdd, Nat.add_assoc] at a0 a1 b0 b1 c0 c1 d0 d1
  have hb := lt_cell a0
  clear hq hE
  obtain ⟨X, hX⟩ : ∃ X, mkS (protoTx n) = X := ⟨_, rfl⟩
  rw [hX]
  have HP := Lib.hid hX
  clear hX
  go_enter Tryz.func74, Tryz.ntmps74
  go_wp2_with fail
  go_loopw [7] (fun i wr => ∃ k : Nat, k ≤ 4 ∧ i = .int .i64 k ∧ Hid ((1 ≤ k → ¬ n = 6) ∧ (2 ≤ k → ¬ n = 17) ∧ (3 ≤ k → ¬ n = 1) ∧ (4 ≤ k → ¬ n = 256)) ∧ Below w.heap.size w wr) (fun i _ => 4 - (intOf i).toNat)
  case atStart => exact ⟨0, by omega, rfl, ⟨fun h => absurd h (by omega), fun h => absurd h (by omega), fun h => absurd h (by omega), fun h => absurd h (by omega)⟩, Below.refl _ _⟩
  case round =>
    obtain ⟨k, hk, rfl, HX, hbe⟩ := hrel
    rcases (show k = 0 ∨ k = 1 ∨ k = 2 ∨ k = 3 ∨ k = 4 by omega) with rfl | rfl | rfl | rfl | rfl
    · have e0 : wr.cell? ⟨b, off, none⟩ = some (.string (mkS kwTcp)) := (hbe.cell (p := ⟨b, off, none⟩) hb).trans a0
      have e1 : wr.cell? ⟨b, off + 1, none⟩ = some (.int .i64 6) := (hbe.cell (p := ⟨b, off + 1, none⟩) hb).trans a1
      have HB := Lib.hid hbe
      clear a0 a1 b0 b1 c0 c1 d0 d1 hbe hv
      by_cases hn : n = 6
      · have hpv : X = mkS kwTcp := by
          rw [← HP.out]
          unfold protoTx
          rw [if_pos hn]
        have HV := Lib.hid hpv
        subst hn
        clear hpv HX HP
        go_wp2_with fail
        go_ret
        exact ⟨HB.out.alloc HB.out.size _, by rw [HV.out]; rfl⟩
      · have hn3 : ((6 : Int) == n) = false := by rw [beq_eq_false_iff_ne]; exact fun e => hn e.symm
        have HX2 := Lib.hid (And.intro hn HX.out)
        clear hn HX
        go_wp2_with fail
        exact ⟨⟨1, by omega, rfl, ⟨(fun _ => HX2.out.1), (fun h => absurd h (by omega)), (fun h => absurd h (by omega)), (fun h => absurd h (by omega))⟩, HB.out.alloc HB.out.size _⟩, by simp [intOf]⟩
    · have e0 : wr.cell? ⟨b, off + 2, none⟩ = some (.string (mkS kwUdp)) := (hbe.cell (p := ⟨b, off + 2, none⟩) hb).trans b0
      have e1 : wr.cell? ⟨b, off + 3, none⟩ = some (.int .i64 17) := (hbe.cell (p := ⟨b, off + 3, none⟩) hb).trans b1
      have HB := Lib.hid hbe
      clear a0 a1 b0 b1 c0 c1 d0 d1 hbe hv
      by_cases hn : n = 17
      · have hpv : X = mkS kwUdp := by
          rw [← HP.out]
          unfold protoTx
          rw [if_neg (HX.out.1 (by omega)), if_pos hn]
        have HV := Lib.hid hpv
        subst hn
        clear hpv HX HP
        go_wp2_with fail
        go_ret
        exact ⟨HB.out.alloc HB.out.size _, by rw [HV.out]; rfl⟩
      · have hn3 : ((17 : Int) == n) = false := by rw [beq_eq_false_iff_ne]; exact fun e => hn e.symm
        have HX2 := Lib.hid (And.intro hn HX.out)
        clear hn HX
        go_wp2_with fail
        exact ⟨⟨2, by omega, rfl, ⟨(fun h => HX2.out.2.1 (by omega)), (fun _ => HX2.out.1), (fun h => absurd h (by omega)), (fun h => absurd h (by omega))⟩, HB.out.alloc HB.out.size _⟩, by simp [intOf]⟩
    · have e0 : wr.cell? ⟨b, off + 4, none⟩ = some (.string (mkS kwIcmp)) := (hbe.cell (p := ⟨b, off + 4, none⟩) hb).trans c0
      have e1 : wr.cell? ⟨b, off + 5, none⟩ = some (.int .i64 1) := (hbe.cell (p := ⟨b, off + 5, none⟩) hb).trans c1
      have HB := Lib.hid hbe
      clear a0 a1 b0 b1 c0 c1 d0 d1 hbe hv
      by_cases hn : n = 1
      · have hpv : X = mkS kwIcmp := by
          rw [← HP.out]
          unfold protoTx
          rw [if_neg (HX.out.1 (by omega)), if_neg (HX.out.2.1 (by omega)), if_pos hn]
        have HV := Lib.hid hpv
        subst hn
        clear hpv HX HP
        go_wp2_with fail
        go_ret
        exact ⟨HB.out.alloc HB.out.size _, by rw [HV.out]; rfl⟩
      · have hn3 : ((1 : Int) == n) = false := by rw [beq_eq_false_iff_ne]; exact fun e => hn e.symm
        have HX2 := Lib.hid (And.intro hn HX.out)
        clear hn HX
        go_wp2_with fail
        exact ⟨⟨3, by omega, rfl, ⟨(fun h => HX2.out.2.1 (by omega)), (fun h => HX2.out.2.2.1 (by omega)), (fun _ => HX2.out.1), (fun h => absurd h (by omega))⟩, HB.out.alloc HB.out.size _⟩, by simp [intOf]⟩
    · have e0 : wr.cell? ⟨b, off + 6, none⟩ = some (.string (mkS kwAny)) := (hbe.cell (p := ⟨b, off + 6, none⟩) hb).trans d0
      have e1 : wr.cell? ⟨b, off + 7, none⟩ = some (.int .i64 256) := (hbe.cell (p := ⟨b, off + 7, none⟩) hb).trans d1
      have HB := Lib.hid hbe
      clear a0 a1 b0 b1 c0 c1 d0 d1 hbe hv
      by_cases hn : n = 256
      · have hpv : X = mkS kwAny := by
          rw [← HP.out]
          unfold protoTx
          rw [if_neg (HX.out.1 (by omega)), if_neg (HX.out.2.1 (by omega)), if_neg (HX.out.2.2.1 (by omega)), if_pos hn]
        have HV := Lib.hid hpv
        subst hn
        clear hpv HX HP
        go_wp2_with fail
        go_ret
        exact ⟨HB.out.alloc HB.out.size _, by rw [HV.out]; rfl⟩
      · have hn3 : ((256 : Int) == n) = false := by rw [beq_eq_false_iff_ne]; exact fun e => hn e.symm
        have HX2 := Lib.hid (And.intro hn HX.out)
        clear hn HX
        go_wp2_with fail
        exact ⟨⟨4, by omega, rfl, ⟨(fun h => HX2.out.2.1 (by omega)), (fun h => HX2.out.2.2.1 (by omega)), (fun h => HX2.out.2.2.2.1 (by omega)), (fun _ => HX2.out.1)⟩, HB.out.alloc HB.out.size _⟩, by simp [intOf]⟩
    · have HB := Lib.hid hbe
      have hpv : X = ⟨#[]⟩ := by
        rw [← HP.out]
        unfold protoTx
        rw [if_neg (HX.out.1 (by omega)), if_neg (HX.out.2.1 (by omega)), if_neg (HX.out.2.2.1 (by omega)), if_neg (HX.out.2.2.2 (by omega))]
        rfl
      have HV := Lib.hid hpv
      clear a0 a1 b0 b1 c0 c1 d0 d1 hbe hv hpv HX HP
      go_wp2_with fail
      go_ret
      exact ⟨HB.out, by rw [HV.out]; rfl⟩
theorem itoa19 (n : Int) (h0 : -9223372036854775808 ≤ n) (h1 : n ≤ 9223372036854775807) {w : World} (hE : Env19 w) : Calls Tryz.prog 90 #[.int .i64 n] w fun e w' => e = .returned (.string (mkS (Lib.itoa n))) ∧ Below w.heap.size w w' :=
  (Tryz.strconv_Itoa n h0 h1 w hE.env.pow).mono fun e w' ⟨he, k, os, hw⟩ => ⟨he, by subst hw; exact below_grow w k os⟩
theorem itoa_len (n : Int) (h0 : -9223372036854775808 ≤ n) (h1 : n ≤ 9223372036854775807) : (Lib.itoa n).length ≤ 100 := by
  unfold Lib.itoa
  split
  · have := dec_len 19 n.natAbs (by omega) (by decide)
    rw [List.length_cons]; omega
  · have := dec_len 19 n.toNat (by omega) (by decide)
    omega
set_option maxHeartbeats 2000000 in
theorem textPorts19 (a b : Int) (ha : -1000000 ≤ a) (ha' : a ≤ 1000000) (hb : -1000000 ≤ b) (hb' : b ≤ 1000000) {w : World} (hE : Env19 w) : Calls Tryz.prog 75 #[.int .i64 a, .int .i64 b] w fun e w' => Below w.heap.size w w' ∧ e = .returned (.string (mkS (portsTx a b))) := by
  have KA := Lib.hid (fun w1 (h1 : Below w.heap.size w w1) => itoa19 a (by omega) (by omega) (hE.later h1 (Nat.le_refl _)))
  have KB := Lib.hid (fun w1 (h1 : Below w.heap.size w w1) => itoa19 b (by omega) (by omega) (hE.later h1 (Nat.le_refl _)))
  have la := itoa_len a (by omega) (by omega)
  have lb := itoa_len b (by omega) (by omega)
  clear hE
  unfold portsTx
  by_cases h0 : a = 0 ∧ b = 65535
  · rw [if_pos h0]
    obtain ⟨rfl, rfl⟩ := h0
    clear KA KB la lb
    go_enter Tryz.func75, Tryz.ntmps75
    go_wp2_with fail
    go_ret
    exact ⟨Below.refl _ _, rfl⟩
  rw [if_neg h0]
  have hz : ((a == 0) && (b == 65535)) = false := by
    rw [Bool.eq_false_iff]
    intro h
    rw [Bool.and_eq_true, beq_iff_eq, beq_iff_eq] at h
    exact h0 h
  have HZ := Lib.hid h0
  clear h0
  by_cases h1 : a = b
  · rw [if_pos h1]
    subst h1
    have hz2 : ¬ (a = 0 ∧ a = 65535) := HZ.out
    clear hz2 KB lb
    by_cases ha0 : a = 0
    · subst ha0
      go_enter Tryz.func75, Tryz.ntmps75
      go_wp2_with fail
      refine (KA.out _ (Below.refl _ _)).mono ?_
      rintro e w1 ⟨rfl, b1⟩
      have H1 := Lib.hid b1
      clear b1
      go_wp2_with fail
      go_ret
      exact ⟨H1.out, rfl⟩
    · have ha1 : (a == 0) = false := beq_eq_false_iff_ne.2 ha0
      clear ha0
      go_enter Tryz.func75, Tryz.ntmps75
      go_wp2_with fail
      refine (KA.out _ (Below.refl _ _)).mono ?_
      rintro e w1 ⟨rfl, b1⟩
      have H1 := Lib.hid b1
      clear b1
      go_wp2_with fail
      go_ret
      exact ⟨H1.out, rfl⟩
  · rw [if_neg h1]
    have hab : (a == b) = false := beq_eq_false_iff_ne.2 h1
    clear h1
    generalize Lib.itoa a = la' at KA la ⊢
    generalize Lib.itoa b = lb' at KB lb ⊢
    have e1 : mkS la' ++ (⟨#[45]⟩ : ByteArray) = mkS (la' ++ [45]) := mkS_cat la' [45]
    have e2 : mkS (la' ++ [45]) ++ mkS lb' = mkS (la' ++ 45 :: lb') := by rw [mkS_cat]; simp
    have s1 := mkS_size la'
    have s2 := mkS_size lb'
    have s3 := mkS_size (la' ++ [45])
    rw [List.length_append, List.length_singleton] at s3
    generalize mkS (la' ++ [45]) = Y at e1 e2 s3
    generalize hA : mkS la' = XA at KA e1 s1
    generalize hB : mkS lb' = XB at KB e2 s2
    generalize mkS (la' ++ 45 :: lb') = Z at e2 ⊢
    have hs1 : XA.size + 1 ≤ 1000 := by omega
    have hs2 : Y.size + XB.size ≤ 1000 := by omega
    clear hA hB s1 s2 s3 la lb
    by_cases ha0 : a = 0
    · subst ha0
      have hb0 : (b == 65535) = false := by
        rw [beq_eq_false_iff_ne]
        exact fun e => HZ.out ⟨rfl, e⟩
      go_enter Tryz.func75, Tryz.ntmps75
      go_wp2_with fail
      refine (KA.out _ (Below.refl _ _)).mono ?_
      rintro e w1 ⟨rfl, b1⟩
      have H1 := Lib.hid b1
      clear b1
      go_wp2_with fail
      refine (KB.out _ H1.out).mono ?_
      rintro e w2 ⟨rfl, b2⟩
      have H2 := Lib.hid (H1.out.trans (b2.mono H1.out.size))
      clear b2
      go_wp2_with fail
      go_ret
      exact ⟨H2.out, rfl⟩
    · have ha1 : (a == 0) = false := beq_eq_false_iff_ne.2 ha0
      clear ha0
      go_enter Tryz.func75, Tryz.ntmps75
      go_wp2_with fail
      refine (KA.out _ (Below.refl _ _)).mono ?_
      rintro e w1 ⟨rfl, b1⟩
      have H1 := Lib.hid b1
      clear b1
      go_wp2_with fail
      refine (KB.out _ H1.out).mono ?_
      rintro e w2 ⟨rfl, b2⟩
      have H2 := Lib.hid (H1.out.trans (b2.mono H1.out.size))
      clear b2
      go_wp2_with fail
      go_ret
      exact ⟨H2.out, rfl⟩
end Go.Proofs.YtoagfmonfgagbaaGreatDoor

namespace Go.Proofs.YtoagfmonfgagbaaGreatDoor
open Go.RowKit
set_option maxRecDepth 100000
def wordsW (x : Rw) : List (List UInt8) := [if x.allow then kwAllow else kwDeny, if x.name = [] then kwNet else kwName, if x.name = [] then textnetv x.v6 x.adr x.bits else if x.wild then 42 :: 46 :: x.name else x.name, protoTx x.proto, portsTx x.low x.high]
structure Rw.fit (x : Rw) : Prop where
  ok : x.ok
  name : x.name.length ≤ 100000
  low : -1000000 ≤ x.low ∧ x.low ≤ 1000000
  high : -1000000 ≤ x.high ∧ x.high ≤ 1000000
theorem gs_lit5 (w : World) (a b c d e : List UInt8) : Gs (w.alloc (.cells #[.string (mkS a), .string (mkS b), .string (mkS c), .string (mkS d), .string (mkS e)] 9)) (some ⟨w.heap.size, 0, none⟩) 5 5 (sv (mkSs [a, b, c, d, e])) :=
  Gs.lit w (sv (mkSs [a, b, c, d, e])) 5 rfl (by unfold maxLen; omega) #[.string (mkS a), .string (mkS b), .string (mkS c), .string (mkS d), .string (mkS e)] rfl 9
set_option maxHeartbeats 4000000 in
theorem wordsOf19 (x : Rw) (hx : x.fit) {w : World} (hE : Env19 w) : Calls Tryz.prog 47 #[.agg (rwv x)] w fun e w' =>
    ∃ g, e = .returned (.slice (some ⟨g, 0, none⟩) 5 5) ∧ Gs w' (some ⟨g, 0, none⟩) 5 5 (sv (mkSs (wordsW x))) ∧ Below w.heap.size w w' := by
  obtain ⟨al, nm, wd, v6, ad, bt, pr, lo, hi⟩ := x
  obtain ⟨hok, hnm, ⟨hl1, hl2⟩, ⟨hh1, hh2⟩⟩ := hx
  have hbox := RwBox.new w hok
  have hbw : Below w.heap.size w (w.alloc (.cells (rwv ⟨al, nm, wd, v6, ad, bt, pr, lo, hi⟩) 55)) := (Below.refl _ w).alloc (Nat.le_refl _) _
  obtain ⟨W, hW⟩ : ∃ W, w.alloc (.cells (rwv ⟨al, nm, wd, v6, ad, bt, pr, lo, hi⟩) 55) = W := ⟨_, rfl⟩
  rw [hW] at hbox hbw
  obtain ⟨c0, c1, c2, c21, c22, c23, cn⟩ := hbox.cells
  dsimp only at c0 c1 c2 c21 c22 c23 cn hok hnm hl1 hl2 hh1 hh2
  obtain ⟨vt, hvt⟩ : ∃ vt, rwv ⟨al, nm, wd, v6, ad, bt, pr, lo, hi⟩ = vt := ⟨_, rfl⟩
  rw [hvt] at hW ⊢
  obtain ⟨q, hq⟩ : ∃ q, w.heap.size = q := ⟨_, rfl⟩
  rw [hq] at c0 c1 c2 c21 c22 c23 cn
  have HW := Lib.hid hW
  have HB := Lib.hid (And.intro hbw (And.intro hbox.lt (And.intro cn hok)))
  have hcell : ∀ (w' : World), w'.heap[q]? = W.heap[q]? → ∀ o v, W.cell? ⟨q, o, none⟩ = some v → w'.cell? ⟨q, o, none⟩ = some v := fun w' h o v hv => (World.cell?_of_block (w := W) h).trans hv
  have HCE := Lib.hid hcell
  have HC := Lib.hid (And.intro c1 (And.intro c21 (And.intro c22 c23)))
  have KN := Lib.hid (fun w1 (h1 : Below w.heap.size w w1) => TextNet_any v6 ad hok bt (hE.later h1 (Nat.le_refl _)).env)
  have KR := Lib.hid (fun w1 (h1 : Below w.heap.size w w1) => textProto19 pr (hE.later h1 (Nat.le_refl _)))
  have KP := Lib.hid (fun w1 (h1 : Below w.heap.size w w1) => textPorts19 lo hi hl1 hl2 hh1 hh2 (hE.later h1 (Nat.le_refl _)))
  have hmx : Tryz.prog.follows .mixedOrders = true := by kernel_rfl
  clear hE hbox hbw hW hvt hok hl1 hl2 hh1 hh2 cn hcell c21 c22 c23
  unfold wordsW
  dsimp only
  obtain ⟨pt, hpt⟩ : ∃ pt, protoTx pr = pt := ⟨_, rfl⟩
  obtain ⟨po, hpo⟩ : ∃ po, portsTx lo hi = po := ⟨_, rfl⟩
  obtain ⟨tn, htn⟩ : ∃ tn, textnetv v6 ad bt = tn := ⟨_, rfl⟩
  rw [hpt] at KR ⊢
  rw [hpo] at KP ⊢
  rw [htn] at KN ⊢
  clear hpt hpo htn
  by_cases h0 : nm = []
  · rw [if_pos h0, if_pos h0]
    have hnil : mkS nm = ⟨#[]⟩ := by rw [h0]; rfl
    rw [hnil] at c1
    have HC' : Hid (W.cell? ⟨q, 1, none⟩ = some (.string ⟨#[]⟩) ∧ W.cell? ⟨q, 21, none⟩ = some (.int .i64 pr) ∧ W.cell? ⟨q, 22, none⟩ = some (.int .i64 lo) ∧ W.cell? ⟨q, 23, none⟩ = some (.int .i64 hi)) := ⟨c1, HC.out.2⟩
    clear HC
    have HC := HC'
    clear HC' hnil h0 hnm
    cases al with
    | true =>
      simp only [if_true]
      go_enter Tryz.func47, Tryz.ntmps47
      go_wp2_with (rw [HW.out])
      have hS : Two19 q q W W.drew := ⟨rfl, rfl⟩
      have d1 : ∀ w', Two19 q q W w' → w'.cell? ⟨q, 1, none⟩ = some (.string ⟨#[]⟩) := fun w' h => HCE.out w' h.1 1 _ HC.out.1
      refine rg_begin (fun w' => Two19 q q W w') 4 (by kernel_rfl) rfl ?_
      have hb4 : Below w.heap.size w W.drew := HB.out.1.drew
      have hq4 : W.drew.heap[q]? = W.heap[q]? := rfl
      obtain ⟨W4, hW4⟩ : ∃ W4, W.drew = W4 := ⟨_, rfl⟩
      rw [hW4] at hS hb4 hq4 ⊢
      clear hW4
      refine rg_take 0 (v := ?rv1) rfl (by kernel_rfl) (by kernel_rfl) (by kernel_rfl) (fun _ _ _ h => h) (by rfl) hS (fun w2 hw2 => ?ry1) ?rr1
      case ry1 => ((try dsimp only at hw2); go_simp <;> with_reducible rfl)
      simp only [Act.put, List.setIfInBounds_toArray, List.set_cons_zero, List.set_cons_succ]
      refine rg_take 2 (v := ?rv2) rfl (by kernel_rfl) (by kernel_rfl) (by kernel_rfl) (fun _ _ _ h => h) (by rfl) hS (fun w2 hw2 => ?ry2) ?rr2
      case ry2 => ((try dsimp only at hw2); go_simp <;> with_reducible rfl)
      simp only [Act.put, List.setIfInBounds_toArray, List.set_cons_zero, List.set_cons_succ]
      refine rg_take 1 (v := ?rv3) rfl (by kernel_rfl) (by kernel_rfl) (by kernel_rfl) (fun _ _ _ h => h) (by rfl) hS (fun w2 hw2 => ?ry3) ?rr3
      case ry3 => ((try dsimp only at hw2); go_simp <;> with_reducible rfl)
      simp only [Act.put, List.setIfInBounds_toArray, List.set_cons_zero, List.set_cons_succ]
      refine rg_take 3 (v := ?rv4) rfl (by kernel_rfl) (by kernel_rfl) (by kernel_rfl) (fun _ _ _ h => h) (by rfl) hS (fun w2 hw2 => ?ry4) ?rr4
      case ry4 => ((try dsimp only at hw2); go_simp <;> with_reducible rfl)
      simp only [Act.put, List.setIfInBounds_toArray, List.set_cons_zero, List.set_cons_succ]
      refine rg_done (by kernel_rfl) ?_
      clear d1 hS
      have f1 := HCE.out W4 hq4 1 _ HC.out.1
      have f2 := HCE.out W4 hq4 2 _ c2
      have H4 := Lib.hid (And.intro hb4 hq4)
      clear hb4 hq4
      go_wp2_with (refine wpList_load_px' rfl (.tmp 14) rfl rfl HB.out.2.2.2 (fun j v hj => HCE.out W4 H4.out.2 (3 + j) v (HB.out.2.2.1 j v hj)) ?_)
      refine (KN.out W4 H4.out.1).mono ?_
      rintro e w5 ⟨rfl, b5⟩
      have H9 := Lib.hid (And.intro (H4.out.1.trans (b5.mono H4.out.1.size)) ((b5.block q (lt_cell f1)).trans H4.out.2))
      clear b5 f1 f2
      go_wp2_with fail
      have hS : Two19 q q w5 w5.drew := ⟨rfl, rfl⟩
      have hb9 := H9.out.1
      have e9 := H9.out.2
      have d21 : ∀ w', Two19 q q w5 w' → w'.cell? ⟨q, 21, none⟩ = some (.int .i64 pr) := fun w' h => HCE.out w' (h.1.trans e9) 21 _ HC.out.2.1
      have d22 : ∀ w', Two19 q q w5 w' → w'.cell? ⟨q, 22, none⟩ = some (.int .i64 lo) := fun w' h => HCE.out w' (h.1.trans e9) 22 _ HC.out.2.2.1
      have d23 : ∀ w', Two19 q q w5 w' → w'.cell? ⟨q, 23, none⟩ = some (.int .i64 hi) := fun w' h => HCE.out w' (h.1.trans e9) 23 _ HC.out.2.2.2
      have hqw : q < w5.heap.size := by
        rw [← hq]
        exact Nat.lt_of_lt_of_le (by rw [hq]; exact lt_cell (HCE.out w5 e9 21 _ HC.out.2.1)) (Nat.le_refl _)
      refine rg_begin (fun w' => Two19 q q w5 w') 13 (by kernel_rfl) rfl ?_
      have hb0 : Below w.heap.size w w5.drew := hb9.drew
      obtain ⟨Wd, hWd⟩ : ∃ Wd, w5.drew = Wd := ⟨_, rfl⟩
      have hsz : w5.heap.size = Wd.heap.size := by rw [← hWd]; rfl
      rw [hWd] at hS hb0 ⊢
      clear hWd
      refine rg_take 0 (v := ?rv5) rfl (by kernel_rfl) (by kernel_rfl) (by kernel_rfl) (fun _ _ _ h => h) (by rfl) hS (fun w2 hw2 => ?ry5) ?rr5
      case ry5 => ((try dsimp only at hw2); go_simp <;> with_reducible rfl)
      simp only [Act.put, List.setIfInBounds_toArray, List.set_cons_zero, List.set_cons_succ]
      refine rg_take 1 (v := ?rv6) rfl (by kernel_rfl) (by kernel_rfl) (by kernel_rfl) (fun _ _ _ h => h) (by rfl) hS (fun w2 hw2 => ?ry6) ?rr6
      case ry6 => ((try dsimp only at hw2); go_simp <;> with_reducible rfl)
      simp only [Act.put, List.setIfInBounds_toArray, List.set_cons_zero, List.set_cons_succ]
      refine rg_take 2 (v := ?rv7) rfl (by kernel_rfl) (by kernel_rfl) (by kernel_rfl) (fun _ _ _ h => h) (by rfl) hS (fun w2 hw2 => ?ry7) ?rr7
      case ry7 => ((try dsimp only at hw2); go_simp <;> with_reducible rfl)
      simp only [Act.put, List.setIfInBounds_toArray, List.set_cons_zero, List.set_cons_succ]
      refine rg_take 3 (v := ?rv8) rfl (by kernel_rfl) (by kernel_rfl) (by kernel_rfl) (fun _ _ _ h => h) (by rfl) hS (fun w2 hw2 => ?ry8) ?rr8
      case ry8 => ((try dsimp only at hw2); go_simp <;> with_reducible rfl)
      simp only [Act.put, List.setIfInBounds_toArray, List.set_cons_zero, List.set_cons_succ]
      refine rg_take 6 (v := ?rv9) rfl (by kernel_rfl) (by kernel_rfl) (by kernel_rfl) (fun _ _ _ h => h) (by rfl) hS (fun w2 hw2 => ?ry9) ?rr9
      case ry9 => ((try dsimp only at hw2); go_simp <;> with_reducible rfl)
      simp only [Act.put, List.setIfInBounds_toArray, List.set_cons_zero, List.set_cons_succ]
      refine rg_take 8 (v := ?rv10) rfl (by kernel_rfl) (by kernel_rfl) (by kernel_rfl) (fun _ _ _ h => h) (by rfl) hS (fun w2 hw2 => ?ry10) ?rr10
      case ry10 => ((try dsimp only at hw2); go_simp <;> with_reducible rfl)
      simp only [Act.put, List.setIfInBounds_toArray, List.set_cons_zero, List.set_cons_succ]
      refine rg_take 4 (v := ?rv11) rfl (by kernel_rfl) (by kernel_rfl) (by kernel_rfl) (fun _ _ _ h => h) (by rfl) hS (fun w2 hw2 => ?ry11) ?rr11
      case ry11 => ((try dsimp only at hw2); go_simp <;> with_reducible rfl)
      simp only [Act.put, List.setIfInBounds_toArray, List.set_cons_zero, List.set_cons_succ]
      refine rg_take 7 (v := ?rv12) rfl (by kernel_rfl) (by kernel_rfl) (by kernel_rfl) (fun _ _ _ h => h) (by rfl) hS (fun w2 hw2 => ?ry12) ?rr12
      case ry12 => ((try dsimp only at hw2); go_simp <;> with_reducible rfl)
      simp only [Act.put, List.setIfInBounds_toArray, List.set_cons_zero, List.set_cons_succ]
      refine rg_take 9 (v := ?rv13) rfl (by kernel_rfl) (by kernel_rfl) (by kernel_rfl) (fun _ _ _ h => h) (by rfl) hS (fun w2 hw2 => ?ry13) ?rr13
      case ry13 => ((try dsimp only at hw2); go_simp <;> with_reducible rfl)
      simp only [Act.put, List.setIfInBounds_toArray, List.set_cons_zero, List.set_cons_succ]
      clear d21 d22 d23
      refine rg_step 5 rfl (by kernel_rfl) (by rfl) (fun K hK => ?_)
      go_simp
      refine (KR.out Wd hb0).mono ?_
      rintro e wa ⟨ba, rfl⟩
      replace hS : Two19 q q w5 wa := ⟨(ba.block q (by omega)).trans hS.1, (ba.block q (by omega)).trans hS.2⟩
      have hb1 : Below w.heap.size w wa := hb0.trans (ba.mono hb0.size)
      have hza := ba.size
      refine hK.out _ _ hS ?_
      clear hK K
      try simp only [Act.put, List.setIfInBounds_toArray, List.set_cons_zero, List.set_cons_succ]
      refine rg_step 10 rfl (by kernel_rfl) (by rfl) (fun K hK => ?_)
      go_simp
      refine (KP.out wa hb1).mono ?_
      rintro e wb ⟨bb, rfl⟩
      replace hS : Two19 q q w5 wb := ⟨(bb.block q (by omega)).trans hS.1, (bb.block q (by omega)).trans hS.2⟩
      have hb2 : Below w.heap.size w wb := hb1.trans (bb.mono hb1.size)
      have hzb := bb.size
      refine hK.out _ _ hS ?_
      clear hK K
      try simp only [Act.put, List.setIfInBounds_toArray, List.set_cons_zero, List.set_cons_succ]
      refine rg_step 11 rfl (by kernel_rfl) (by rfl) (fun K hK => ?_)
      go_simp
      have hg := gs_lit5 wb kwAllow kwNet tn pt po
      have hbc : Below wb.heap.size wb (wb.alloc (.cells #[.string (mkS kwAllow), .string (mkS kwNet), .string (mkS tn), .string (mkS pt), .string (mkS po)] 9)) := (Below.refl _ _).alloc (Nat.le_refl _) _
      have hb3 := hb2.trans (hbc.mono hb2.size)
      replace hS : Two19 q q w5 (wb.alloc (.cells #[.string (mkS kwAllow), .string (mkS kwNet), .string (mkS tn), .string (mkS pt), .string (mkS po)] 9)) := ⟨(hbc.block q (by omega)).trans hS.1, (hbc.block q (by omega)).trans hS.2⟩
      refine hK.out _ _ hS ?_
      clear hK K
      have HG := Lib.hid (And.intro hg hb3)
      clear hg hb3 hbc hb2 hb1 hb0 ba bb
      refine rg_take 12 (v := ?rv14) rfl (by kernel_rfl) (by kernel_rfl) (by kernel_rfl) (fun _ _ _ h => h) (by rfl) hS (fun w2 hw2 => ?ry14) ?rr14
      case ry14 => ((try dsimp only at hw2); go_simp <;> with_reducible rfl)
      simp only [Act.put, List.setIfInBounds_toArray, List.set_cons_zero, List.set_cons_succ]
      refine rg_done (by kernel_rfl) ?_
      go_wp2_with fail
      go_ret
      exact ⟨_, rfl, HG.out.1, HG.out.2⟩
    | false =>
      simp only [Bool.false_eq_true, if_false]
      go_enter Tryz.func47, Tryz.ntmps47
      go_wp2_with (rw [HW.out])
      have hS : Two19 q q W W.drew := ⟨rfl, rfl⟩
      have d1 : ∀ w', Two19 q q W w' → w'.cell? ⟨q, 1, none⟩ = some (.string ⟨#[]⟩) := fun w' h => HCE.out w' h.1 1 _ HC.out.1
      refine rg_begin (fun w' => Two19 q q W w') 4 (by kernel_rfl) rfl ?_
      have hb4 : Below w.heap.size w W.drew := HB.out.1.drew
      have hq4 : W.drew.heap[q]? = W.heap[q]? := rfl
      obtain ⟨W4, hW4⟩ : ∃ W4, W.drew = W4 := ⟨_, rfl⟩
      rw [hW4] at hS hb4 hq4 ⊢
      clear hW4
      refine rg_take 0 (v := ?rv15) rfl (by kernel_rfl) (by kernel_rfl) (by kernel_rfl) (fun _ _ _ h => h) (by rfl) hS (fun w2 hw2 => ?ry15) ?rr15
      case ry15 => ((try dsimp only at hw2); go_simp <;> with_reducible rfl)
      simp only [Act.put, List.setIfInBounds_toArray, List.set_cons_zero, List.set_cons_succ]
      refine rg_take 2 (v := ?rv16) rfl (by kernel_rfl) (by kernel_rfl) (by kernel_rfl) (fun _ _ _ h => h) (by rfl) hS (fun w2 hw2 => ?ry16) ?rr16
      case ry16 => ((try dsimp only at hw2); go_simp <;> with_reducible rfl)
      simp only [Act.put, List.setIfInBounds_toArray, List.set_cons_zero, List.set_cons_succ]
      refine rg_take 1 (v := ?rv17) rfl (by kernel_rfl) (by kernel_rfl) (by kernel_rfl) (fun _ _ _ h => h) (by rfl) hS (fun w2 hw2 => ?ry17) ?rr17
      case ry17 => ((try dsimp only at hw2); go_simp <;> with_reducible rfl)
      simp only [Act.put, List.setIfInBounds_toArray, List.set_cons_zero, List.set_cons_succ]
      refine rg_take 3 (v := ?rv18) rfl (by kernel_rfl) (by kernel_rfl) (by kernel_rfl) (fun _ _ _ h => h) (by rfl) hS (fun w2 hw2 => ?ry18) ?rr18
      case ry18 => ((try dsimp only at hw2); go_simp <;> with_reducible rfl)
      simp only [Act.put, List.setIfInBounds_toArray, List.set_cons_zero, List.set_cons_succ]
      refine rg_done (by kernel_rfl) ?_
      clear d1 hS
      have f1 := HCE.out W4 hq4 1 _ HC.out.1
      have f2 := HCE.out W4 hq4 2 _ c2
      have H4 := Lib.hid (And.intro hb4 hq4)
      clear hb4 hq4
      go_wp2_with (refine wpList_load_px' rfl (.tmp 14) rfl rfl HB.out.2.2.2 (fun j v hj => HCE.out W4 H4.out.2 (3 + j) v (HB.out.2.2.1 j v hj)) ?_)
      refine (KN.out W4 H4.out.1).mono ?_
      rintro e w5 ⟨rfl, b5⟩
      have H9 := Lib.hid (And.intro (H4.out.1.trans (b5.mono H4.out.1.size)) ((b5.block q (lt_cell f1)).trans H4.out.2))
      clear b5 f1 f2
      go_wp2_with fail
      have hS : Two19 q q w5 w5.drew := ⟨rfl, rfl⟩
      have hb9 := H9.out.1
      have e9 := H9.out.2
      have d21 : ∀ w', Two19 q q w5 w' → w'.cell? ⟨q, 21, none⟩ = some (.int .i64 pr) := fun w' h => HCE.out w' (h.1.trans e9) 21 _ HC.out.2.1
      have d22 : ∀ w', Two19 q q w5 w' → w'.cell? ⟨q, 22, none⟩ = some (.int .i64 lo) := fun w' h => HCE.out w' (h.1.trans e9) 22 _ HC.out.2.2.1
      have d23 : ∀ w', Two19 q q w5 w' → w'.cell? ⟨q, 23, none⟩ = some (.int .i64 hi) := fun w' h => HCE.out w' (h.1.trans e9) 23 _ HC.out.2.2.2
      have hqw : q < w5.heap.size := by
        rw [← hq]
        exact Nat.lt_of_lt_of_le (by rw [hq]; exact lt_cell (HCE.out w5 e9 21 _ HC.out.2.1)) (Nat.le_refl _)
      refine rg_begin (fun w' => Two19 q q w5 w') 13 (by kernel_rfl) rfl ?_
      have hb0 : Below w.heap.size w w5.drew := hb9.drew
      obtain ⟨Wd, hWd⟩ : ∃ Wd, w5.drew = Wd := ⟨_, rfl⟩
      have hsz : w5.heap.size = Wd.heap.size := by rw [← hWd]; rfl
      rw [hWd] at hS hb0 ⊢
      clear hWd
      refine rg_take 0 (v := ?rv19) rfl (by kernel_rfl) (by kernel_rfl) (by kernel_rfl) (fun _ _ _ h => h) (by rfl) hS (fun w2 hw2 => ?ry19) ?rr19
      case ry19 => ((try dsimp only at hw2); go_simp <;> with_reducible rfl)
      simp only [Act.put, List.setIfInBounds_toArray, List.set_cons_zero, List.set_cons_succ]
      refine rg_take 1 (v := ?rv20) rfl (by kernel_rfl) (by kernel_rfl) (by kernel_rfl) (fun _ _ _ h => h) (by rfl) hS (fun w2 hw2 => ?ry20) ?rr20
      case ry20 => ((try dsimp only at hw2); go_simp <;> with_reducible rfl)
      simp only [Act.put, List.setIfInBounds_toArray, List.set_cons_zero, List.set_cons_succ]
      refine rg_take 2 (v := ?rv21) rfl (by kernel_rfl) (by kernel_rfl) (by kernel_rfl) (fun _ _ _ h => h) (by rfl) hS (fun w2 hw2 => ?ry21) ?rr21
      case ry21 => ((try dsimp only at hw2); go_simp <;> with_reducible rfl)
      simp only [Act.put, List.setIfInBounds_toArray, List.set_cons_zero, List.set_cons_succ]
      refine rg_take 3 (v := ?rv22) rfl (by kernel_rfl) (by kernel_rfl) (by kernel_rfl) (fun _ _ _ h => h) (by rfl) hS (fun w2 hw2 => ?ry22) ?rr22
      case ry22 => ((try dsimp only at hw2); go_simp <;> with_reducible rfl)
      simp only [Act.put, List.setIfInBounds_toArray, List.set_cons_zero, List.set_cons_succ]
      refine rg_take 6 (v := ?rv23) rfl (by kernel_rfl) (by kernel_rfl) (by kernel_rfl) (fun _ _ _ h => h) (by rfl) hS (fun w2 hw2 => ?ry23) ?rr23
      case ry23 => ((try dsimp only at hw2); go_simp <;> with_reducible rfl)
      simp only [Act.put, List.setIfInBounds_toArray, List.set_cons_zero, List.set_cons_succ]
      refine rg_take 8 (v := ?rv24) rfl (by kernel_rfl) (by kernel_rfl) (by kernel_rfl) (fun _ _ _ h => h) (by rfl) hS (fun w2 hw2 => ?ry24) ?rr24
      case ry24 => ((try dsimp only at hw2); go_simp <;> with_reducible rfl)
      simp only [Act.put, List.setIfInBounds_toArray, List.set_cons_zero, List.set_cons_succ]
      refine rg_take 4 (v := ?rv25) rfl (by kernel_rfl) (by kernel_rfl) (by kernel_rfl) (fun _ _ _ h => h) (by rfl) hS (fun w2 hw2 => ?ry25) ?rr25
      case ry25 => ((try dsimp only at hw2); go_simp <;> with_reducible rfl)
      simp only [Act.put, List.setIfInBounds_toArray, List.set_cons_zero, List.set_cons_succ]
      refine rg_take 7 (v := ?rv26) rfl (by kernel_rfl) (by kernel_rfl) (by kernel_rfl) (fun _ _ _ h => h) (by rfl) hS (fun w2 hw2 => ?ry26) ?rr26
      case ry26 => ((try dsimp only at hw2); go_simp <;> with_reducible rfl)
      simp only [Act.put, List.setIfInBounds_toArray, List.set_cons_zero, List.set_cons_succ]
      refine rg_take 9 (v := ?rv27) rfl (by kernel_rfl) (by kernel_rfl) (by kernel_rfl) (fun _ _ _ h => h) (by rfl) hS (fun w2 hw2 => ?ry27) ?rr27
      case ry27 => ((try dsimp only at hw2); go_simp <;> with_reducible rfl)
      simp only [Act.put, List.setIfInBounds_toArray, List.set_cons_zero, List.set_cons_succ]
      clear d21 d22 d23
      refine rg_step 5 rfl (by kernel_rfl) (by rfl) (fun K hK => ?_)
      go_simp
      refine (KR.out Wd hb0).mono ?_
      rintro e wa ⟨ba, rfl⟩
      replace hS : Two19 q q w5 wa := ⟨(ba.block q (by omega)).trans hS.1, (ba.block q (by omega)).trans hS.2⟩
      have hb1 : Below w.heap.size w wa := hb0.trans (ba.mono hb0.size)
      have hza := ba.size
      refine hK.out _ _ hS ?_
      clear hK K
      try simp only [Act.put, List.setIfInBounds_toArray, List.set_cons_zero, List.set_cons_succ]
      refine rg_step 10 rfl (by kernel_rfl) (by rfl) (fun K hK => ?_)
      go_simp
      refine (KP.out wa hb1).mono ?_
      rintro e wb ⟨bb, rfl⟩
      replace hS : Two19 q q w5 wb := ⟨(bb.block q (by omega)).trans hS.1, (bb.block q (by omega)).trans hS.2⟩
      have hb2 : Below w.heap.size w wb := hb1.trans (bb.mono hb1.size)
      have hzb := bb.size
      refine hK.out _ _ hS ?_
      clear hK K
      try simp only [Act.put, List.setIfInBounds_toArray, List.set_cons_zero, List.set_cons_succ]
      refine rg_step 11 rfl (by kernel_rfl) (by rfl) (fun K hK => ?_)
      go_simp
      have hg := gs_lit5 wb kwDeny kwNet tn pt po
      have hbc : Below wb.heap.size wb (wb.alloc (.cells #[.string (mkS kwDeny), .string (mkS kwNet), .string (mkS tn), .string (mkS pt), .string (mkS po)] 9)) := (Below.refl _ _).alloc (Nat.le_refl _) _
      have hb3 := hb2.trans (hbc.mono hb2.size)
      replace hS : Two19 q q w5 (wb.alloc (.cells #[.string (mkS kwDeny), .string (mkS kwNet), .string (mkS tn), .string (mkS pt), .string (mkS po)] 9)) := ⟨(hbc.block q (by omega)).trans hS.1, (hbc.block q (by omega)).trans hS.2⟩
      refine hK.out _ _ hS ?_
      clear hK K
      have HG := Lib.hid (And.intro hg hb3)
      clear hg hb3 hbc hb2 hb1 hb0 ba bb
      refine rg_take 12 (v := ?rv28) rfl (by kernel_rfl) (by kernel_rfl) (by kernel_rfl) (fun _ _ _ h => h) (by rfl) hS (fun w2 hw2 => ?ry28) ?rr28
      case ry28 => ((try dsimp only at hw2); go_simp <;> with_reducible rfl)
      simp only [Act.put, List.setIfInBounds_toArray, List.set_cons_zero, List.set_cons_succ]
      refine rg_done (by kernel_rfl) ?_
      go_wp2_with fail
      go_ret
      exact ⟨_, rfl, HG.out.1, HG.out.2⟩
  · rw [if_neg h0, if_neg h0]
    obtain ⟨ne1, ne2⟩ := ne_list (t := nm) (k := []) h0
    have ne3 : (mkS nm).toList.isEmpty = false := by
      rw [Lib.toList_data, mkS_data]
      cases nm with
      | nil => exact absurd rfl h0
      | cons _ _ => rfl
    have hcat : (⟨#[42, 46]⟩ : ByteArray) ++ mkS nm = mkS (42 :: 46 :: nm) := mkS_cat [42, 46] nm
    have hsz' : (mkS nm).size ≤ 100000 := by rw [mkS_size]; exact hnm
    clear h0 hnm
    cases wd with
    | true =>
      simp only [if_true]
      cases al with
      | true =>
        simp only [if_true]
        go_enter Tryz.func47, Tryz.ntmps47
        go_wp2_with (rw [HW.out])
        have hS : Two19 q q W W.drew := ⟨rfl, rfl⟩
        have d1 : ∀ w', Two19 q q W w' → w'.cell? ⟨q, 1, none⟩ = some (.string (mkS nm)) := fun w' h => HCE.out w' h.1 1 _ HC.out.1
        refine rg_begin (fun w' => Two19 q q W w') 4 (by kernel_rfl) rfl ?_
        have hb4 : Below w.heap.size w W.drew := HB.out.1.drew
        have hq4 : W.drew.heap[q]? = W.heap[q]? := rfl
        obtain ⟨W4, hW4⟩ : ∃ W4, W.drew = W4 := ⟨_, rfl⟩
        rw [hW4] at hS hb4 hq4 ⊢
        clear hW4
        refine rg_take 0 (v := ?rv29) rfl (by kernel_rfl) (by kernel_rfl) (by kernel_rfl) (fun _ _ _ h => h) (by rfl) hS (fun w2 hw2 => ?ry29) ?rr29
        case ry29 => ((try dsimp only at hw2); go_simp <;> with_reducible rfl)
        simp only [Act.put, List.setIfInBounds_toArray, List.set_cons_zero, List.set_cons_succ]
        refine rg_take 2 (v := ?rv30) rfl (by kernel_rfl) (by kernel_rfl) (by kernel_rfl) (fun _ _ _ h => h) (by rfl) hS (fun w2 hw2 => ?ry30) ?rr30
        case ry30 => ((try dsimp only at hw2); go_simp <;> with_reducible rfl)
        simp only [Act.put, List.setIfInBounds_toArray, List.set_cons_zero, List.set_cons_succ]
        refine rg_take 1 (v := ?rv31) rfl (by kernel_rfl) (by kernel_rfl) (by kernel_rfl) (fun _ _ _ h => h) (by rfl) hS (fun w2 hw2 => ?ry31) ?rr31
        case ry31 => ((try dsimp only at hw2); go_simp <;> with_reducible rfl)
        simp only [Act.put, List.setIfInBounds_toArray, List.set_cons_zero, List.set_cons_succ]
        refine rg_take 3 (v := ?rv32) rfl (by kernel_rfl) (by kernel_rfl) (by kernel_rfl) (fun _ _ _ h => h) (by rfl) hS (fun w2 hw2 => ?ry32) ?rr32
        case ry32 => ((try dsimp only at hw2); go_simp <;> with_reducible rfl)
        simp only [Act.put, List.setIfInBounds_toArray, List.set_cons_zero, List.set_cons_succ]
        refine rg_done (by kernel_rfl) ?_
        clear d1 hS
        have f1 := HCE.out W4 hq4 1 _ HC.out.1
        have f2 := HCE.out W4 hq4 2 _ c2
        have H4 := Lib.hid (And.intro hb4 hq4)
        clear hb4 hq4
        go_wp2_with fail
        have H9 := H4
        clear f1 f2
        have hS : Two19 q q W4 W4.drew := ⟨rfl, rfl⟩
        have hb9 := H9.out.1
        have e9 := H9.out.2
        have d21 : ∀ w', Two19 q q W4 w' → w'.cell? ⟨q, 21, none⟩ = some (.int .i64 pr) := fun w' h => HCE.out w' (h.1.trans e9) 21 _ HC.out.2.1
        have d22 : ∀ w', Two19 q q W4 w' → w'.cell? ⟨q, 22, none⟩ = some (.int .i64 lo) := fun w' h => HCE.out w' (h.1.trans e9) 22 _ HC.out.2.2.1
        have d23 : ∀ w', Two19 q q W4 w' → w'.cell? ⟨q, 23, none⟩ = some (.int .i64 hi) := fun w' h => HCE.out w' (h.1.trans e9) 23 _ HC.out.2.2.2
        have hqw : q < W4.heap.size := by
          rw [← hq]
          exact Nat.lt_of_lt_of_le (by rw [hq]; exact lt_cell (HCE.out W4 e9 21 _ HC.out.2.1)) (Nat.le_refl _)
        refine rg_begin (fun w' => Two19 q q W4 w') 13 (by kernel_rfl) rfl ?_
        have hb0 : Below w.heap.size w W4.drew := hb9.drew
        obtain ⟨Wd, hWd⟩ : ∃ Wd, W4.drew = Wd := ⟨_, rfl⟩
        have hsz : W4.heap.size = Wd.heap.size := by rw [← hWd]; rfl
        rw [hWd] at hS hb0 ⊢
        clear hWd
        refine rg_take 0 (v := ?rv33) rfl (by kernel_rfl) (by kernel_rfl) (by kernel_rfl) (fun _ _ _ h => h) (by rfl) hS (fun w2 hw2 => ?ry33) ?rr33
        case ry33 => ((try dsimp only at hw2); go_simp <;> with_reducible rfl)
        simp only [Act.put, List.setIfInBounds_toArray, List.set_cons_zero, List.set_cons_succ]
        refine rg_take 1 (v := ?rv34) rfl (by kernel_rfl) (by kernel_rfl) (by kernel_rfl) (fun _ _ _ h => h) (by rfl) hS (fun w2 hw2 => ?ry34) ?rr34
        case ry34 => ((try dsimp only at hw2); go_simp <;> with_reducible rfl)
        simp only [Act.put, List.setIfInBounds_toArray, List.set_cons_zero, List.set_cons_succ]
        refine rg_take 2 (v := ?rv35) rfl (by kernel_rfl) (by kernel_rfl) (by kernel_rfl) (fun _ _ _ h => h) (by rfl) hS (fun w2 hw2 => ?ry35) ?rr35
        case ry35 => ((try dsimp only at hw2); go_simp <;> with_reducible rfl)
        simp only [Act.put, List.setIfInBounds_toArray, List.set_cons_zero, List.set_cons_succ]
        refine rg_take 3 (v := ?rv36) rfl (by kernel_rfl) (by kernel_rfl) (by kernel_rfl) (fun _ _ _ h => h) (by rfl) hS (fun w2 hw2 => ?ry36) ?rr36
        case ry36 => ((try dsimp only at hw2); go_simp <;> with_reducible rfl)
        simp only [Act.put, List.setIfInBounds_toArray, List.set_cons_zero, List.set_cons_succ]
        refine rg_take 6 (v := ?rv37) rfl (by kernel_rfl) (by kernel_rfl) (by kernel_rfl) (fun _ _ _ h => h) (by rfl) hS (fun w2 hw2 => ?ry37) ?rr37
        case ry37 => ((try dsimp only at hw2); go_simp <;> with_reducible rfl)
        simp only [Act.put, List.setIfInBounds_toArray, List.set_cons_zero, List.set_cons_succ]
        refine rg_take 8 (v := ?rv38) rfl (by kernel_rfl) (by kernel_rfl) (by kernel_rfl) (fun _ _ _ h => h) (by rfl) hS (fun w2 hw2 => ?ry38) ?rr38
        case ry38 => ((try dsimp only at hw2); go_simp <;> with_reducible rfl)
        simp only [Act.put, List.setIfInBounds_toArray, List.set_cons_zero, List.set_cons_succ]
        refine rg_take 4 (v := ?rv39) rfl (by kernel_rfl) (by kernel_rfl) (by kernel_rfl) (fun _ _ _ h => h) (by rfl) hS (fun w2 hw2 => ?ry39) ?rr39
        case ry39 => ((try dsimp only at hw2); go_simp <;> with_reducible rfl)
        simp only [Act.put, List.setIfInBounds_toArray, List.set_cons_zero, List.set_cons_succ]
        refine rg_take 7 (v := ?rv40) rfl (by kernel_rfl) (by kernel_rfl) (by kernel_rfl) (fun _ _ _ h => h) (by rfl) hS (fun w2 hw2 => ?ry40) ?rr40
        case ry40 => ((try dsimp only at hw2); go_simp <;> with_reducible rfl)
        simp only [Act.put, List.setIfInBounds_toArray, List.set_cons_zero, List.set_cons_succ]
        refine rg_take 9 (v := ?rv41) rfl (by kernel_rfl) (by kernel_rfl) (by kernel_rfl) (fun _ _ _ h => h) (by rfl) hS (fun w2 hw2 => ?ry41) ?rr41
        case ry41 => ((try dsimp only at hw2); go_simp <;> with_reducible rfl)
        simp only [Act.put, List.setIfInBounds_toArray, List.set_cons_zero, List.set_cons_succ]
        clear d21 d22 d23
        refine rg_step 5 rfl (by kernel_rfl) (by rfl) (fun K hK => ?_)
        go_simp
        refine (KR.out Wd hb0).mono ?_
        rintro e wa ⟨ba, rfl⟩
        replace hS : Two19 q q W4 wa := ⟨(ba.block q (by omega)).trans hS.1, (ba.block q (by omega)).trans hS.2⟩
        have hb1 : Below w.heap.size w wa := hb0.trans (ba.mono hb0.size)
        have hza := ba.size
        refine hK.out _ _ hS ?_
        clear hK K
        try simp only [Act.put, List.setIfInBounds_toArray, List.set_cons_zero, List.set_cons_succ]
        refine rg_step 10 rfl (by kernel_rfl) (by rfl) (fun K hK => ?_)
        go_simp
        refine (KP.out wa hb1).mono ?_
        rintro e wb ⟨bb, rfl⟩
        replace hS : Two19 q q W4 wb := ⟨(bb.block q (by omega)).trans hS.1, (bb.block q (by omega)).trans hS.2⟩
        have hb2 : Below w.heap.size w wb := hb1.trans (bb.mono hb1.size)
        have hzb := bb.size
        refine hK.out _ _ hS ?_
        clear hK K
        try simp only [Act.put, List.setIfInBounds_toArray, List.set_cons_zero, List.set_cons_succ]
        refine rg_step 11 rfl (by kernel_rfl) (by rfl) (fun K hK => ?_)
        go_simp
        have hg := gs_lit5 wb kwAllow kwName (42 :: 46 :: nm) pt po
        have hbc : Below wb.heap.size wb (wb.alloc (.cells #[.string (mkS kwAllow), .string (mkS kwName), .string (mkS (42 :: 46 :: nm)), .string (mkS pt), .string (mkS po)] 9)) := (Below.refl _ _).alloc (Nat.le_refl _) _
        have hb3 := hb2.trans (hbc.mono hb2.size)
        replace hS : Two19 q q W4 (wb.alloc (.cells #[.string (mkS kwAllow), .string (mkS kwName), .string (mkS (42 :: 46 :: nm)), .string (mkS pt), .string (mkS po)] 9)) := ⟨(hbc.block q (by omega)).trans hS.1, (hbc.block q (by omega)).trans hS.2⟩
        refine hK.out _ _ hS ?_
        clear hK K
        have HG := Lib.hid (And.intro hg hb3)
        clear hg hb3 hbc hb2 hb1 hb0 ba bb
        refine rg_take 12 (v := ?rv42) rfl (by kernel_rfl) (by kernel_rfl) (by kernel_rfl) (fun _ _ _ h => h) (by rfl) hS (fun w2 hw2 => ?ry42) ?rr42
        case ry42 => ((try dsimp only at hw2); go_simp <;> with_reducible rfl)
        simp only [Act.put, List.setIfInBounds_toArray, List.set_cons_zero, List.set_cons_succ]
        refine rg_done (by kernel_rfl) ?_
        go_wp2_with fail
        go_ret
        exact ⟨_, rfl, HG.out.1, HG.out.2⟩
      | false =>
        simp only [Bool.false_eq_true, if_false]
        go_enter Tryz.func47, Tryz.ntmps47
        go_wp2_with (rw [HW.out])
        have hS : Two19 q q W W.drew := ⟨rfl, rfl⟩
        have d1 : ∀ w', Two19 q q W w' → w'.cell? ⟨q, 1, none⟩ = some (.string (mkS nm)) := fun w' h => HCE.out w' h.1 1 _ HC.out.1
        refine rg_begin (fun w' => Two19 q q W w') 4 (by kernel_rfl) rfl ?_
        have hb4 : Below w.heap.size w W.drew := HB.out.1.drew
        have hq4 : W.drew.heap[q]? = W.heap[q]? := rfl
        obtain ⟨W4, hW4⟩ : ∃ W4, W.drew = W4 := ⟨_, rfl⟩
        rw [hW4] at hS hb4 hq4 ⊢
        clear hW4
        refine rg_take 0 (v := ?rv43) rfl (by kernel_rfl) (by kernel_rfl) (by kernel_rfl) (fun _ _ _ h => h) (by rfl) hS (fun w2 hw2 => ?ry43) ?rr43
        case ry43 => ((try dsimp only at hw2); go_simp <;> with_reducible rfl)
        simp only [Act.put, List.setIfInBounds_toArray, List.set_cons_zero, List.set_cons_succ]
        refine rg_take 2 (v := ?rv44) rfl (by kernel_rfl) (by kernel_rfl) (by kernel_rfl) (fun _ _ _ h => h) (by rfl) hS (fun w2 hw2 => ?ry44) ?rr44
        case ry44 => ((try dsimp only at hw2); go_simp <;> with_reducible rfl)
        simp only [Act.put, List.setIfInBounds_toArray, List.set_cons_zero, List.set_cons_succ]
        refine rg_take 1 (v := ?rv45) rfl (by kernel_rfl) (by kernel_rfl) (by kernel_rfl) (fun _ _ _ h => h) (by rfl) hS (fun w2 hw2 => ?ry45) ?rr45
        case ry45 => ((try dsimp only at hw2); go_simp <;> with_reducible rfl)
        simp only [Act.put, List.setIfInBounds_toArray, List.set_cons_zero, List.set_cons_succ]
        refine rg_take 3 (v := ?rv46) rfl (by kernel_rfl) (by kernel_rfl) (by kernel_rfl) (fun _ _ _ h => h) (by rfl) hS (fun w2 hw2 => ?ry46) ?rr46
        case ry46 => ((try dsimp only at hw2); go_simp <;> with_reducible rfl)
        simp only [Act.put, List.setIfInBounds_toArray, List.set_cons_zero, List.set_cons_succ]
        refine rg_done (by kernel_rfl) ?_
        clear d1 hS
        have f1 := HCE.out W4 hq4 1 _ HC.out.1
        have f2 := HCE.out W4 hq4 2 _ c2
        have H4 := Lib.hid (And.intro hb4 hq4)
        clear hb4 hq4
        go_wp2_with fail
        have H9 := H4
        clear f1 f2
        have hS : Two19 q q W4 W4.drew := ⟨rfl, rfl⟩
        have hb9 := H9.out.1
        have e9 := H9.out.2
        have d21 : ∀ w', Two19 q q W4 w' → w'.cell? ⟨q, 21, none⟩ = some (.int .i64 pr) := fun w' h => HCE.out w' (h.1.trans e9) 21 _ HC.out.2.1
        have d22 : ∀ w', Two19 q q W4 w' → w'.cell? ⟨q, 22, none⟩ = some (.int .i64 lo) := fun w' h => HCE.out w' (h.1.trans e9) 22 _ HC.out.2.2.1
        have d23 : ∀ w', Two19 q q W4 w' → w'.cell? ⟨q, 23, none⟩ = some (.int .i64 hi) := fun w' h => HCE.out w' (h.1.trans e9) 23 _ HC.out.2.2.2
        have hqw : q < W4.heap.size := by
          rw [← hq]
          exact Nat.lt_of_lt_of_le (by rw [hq]; exact lt_cell (HCE.out W4 e9 21 _ HC.out.2.1)) (Nat.le_refl _)
        refine rg_begin (fun w' => Two19 q q W4 w') 13 (by kernel_rfl) rfl ?_
        have hb0 : Below w.heap.size w W4.drew := hb9.drew
        obtain ⟨Wd, hWd⟩ : ∃ Wd, W4.drew = Wd := ⟨_, rfl⟩
        have hsz : W4.heap.size = Wd.heap.size := by rw [← hWd]; rfl
        rw [hWd] at hS hb0 ⊢
        clear hWd
        refine rg_take 0 (v := ?rv47) rfl (by kernel_rfl) (by kernel_rfl) (by kernel_rfl) (fun _ _ _ h => h) (by rfl) hS (fun w2 hw2 => ?ry47) ?rr47
        case ry47 => ((try dsimp only at hw2); go_simp <;> with_reducible rfl)
        simp only [Act.put, List.setIfInBounds_toArray, List.set_cons_zero, List.set_cons_succ]
        refine rg_take 1 (v := ?rv48) rfl (by kernel_rfl) (by kernel_rfl) (by kernel_rfl) (fun _ _ _ h => h) (by rfl) hS (fun w2 hw2 => ?ry48) ?rr48
        case ry48 => ((try dsimp only at hw2); go_simp <;> with_reducible rfl)
        simp only [Act.put, List.setIfInBounds_toArray, List.set_cons_zero, List.set_cons_succ]
        refine rg_take 2 (v := ?rv49) rfl (by kernel_rfl) (by kernel_rfl) (by kernel_rfl) (fun _ _ _ h => h) (by rfl) hS (fun w2 hw2 => ?ry49) ?rr49
        case ry49 => ((try dsimp only at hw2); go_simp <;> with_reducible rfl)
        simp only [Act.put, List.setIfInBounds_toArray, List.set_cons_zero, List.set_cons_succ]
        refine rg_take 3 (v := ?rv50) rfl (by kernel_rfl) (by kernel_rfl) (by kernel_rfl) (fun _ _ _ h => h) (by rfl) hS (fun w2 hw2 => ?ry50) ?rr50
        case ry50 => ((try dsimp only at hw2); go_simp <;> with_reducible rfl)
        simp only [Act.put, List.setIfInBounds_toArray, List.set_cons_zero, List.set_cons_succ]
        refine rg_take 6 (v := ?rv51) rfl (by kernel_rfl) (by kernel_rfl) (by kernel_rfl) (fun _ _ _ h => h) (by rfl) hS (fun w2 hw2 => ?ry51) ?rr51
        case ry51 => ((try dsimp only at hw2); go_simp <;> with_reducible rfl)
        simp only [Act.put, List.setIfInBounds_toArray, List.set_cons_zero, List.set_cons_succ]
        refine rg_take 8 (v := ?rv52) rfl (by kernel_rfl) (by kernel_rfl) (by kernel_rfl) (fun _ _ _ h => h) (by rfl) hS (fun w2 hw2 => ?ry52) ?rr52
        case ry52 => ((try dsimp only at hw2); go_simp <;> with_reducible rfl)
        simp only [Act.put, List.setIfInBounds_toArray, List.set_cons_zero, List.set_cons_succ]
        refine rg_take 4 (v := ?rv53) rfl (by kernel_rfl) (by kernel_rfl) (by kernel_rfl) (fun _ _ _ h => h) (by rfl) hS (fun w2 hw2 => ?ry53) ?rr53
        case ry53 => ((try dsimp only at hw2); go_simp <;> with_reducible rfl)
        simp only [Act.put, List.setIfInBounds_toArray, List.set_cons_zero, List.set_cons_succ]
        refine rg_take 7 (v := ?rv54) rfl (by kernel_rfl) (by kernel_rfl) (by kernel_rfl) (fun _ _ _ h => h) (by rfl) hS (fun w2 hw2 => ?ry54) ?rr54
        case ry54 => ((try dsimp only at hw2); go_simp <;> with_reducible rfl)
        simp only [Act.put, List.setIfInBounds_toArray, List.set_cons_zero, List.set_cons_succ]
        refine rg_take 9 (v := ?rv55) rfl (by kernel_rfl) (by kernel_rfl) (by kernel_rfl) (fun _ _ _ h => h) (by rfl) hS (fun w2 hw2 => ?ry55) ?rr55
        case ry55 => ((try dsimp only at hw2); go_simp <;> with_reducible rfl)
        simp only [Act.put, List.setIfInBounds_toArray, List.set_cons_zero, List.set_cons_succ]
        clear d21 d22 d23
        refine rg_step 5 rfl (by kernel_rfl) (by rfl) (fun K hK => ?_)
        go_simp
        refine (KR.out Wd hb0).mono ?_
        rintro e wa ⟨ba, rfl⟩
        replace hS : Two19 q q W4 wa := ⟨(ba.block q (by omega)).trans hS.1, (ba.block q (by omega)).trans hS.2⟩
        have hb1 : Below w.heap.size w wa := hb0.trans (ba.mono hb0.size)
        have hza := ba.size
        refine hK.out _ _ hS ?_
        clear hK K
        try simp only [Act.put, List.setIfInBounds_toArray, List.set_cons_zero, List.set_cons_succ]
        refine rg_step 10 rfl (by kernel_rfl) (by rfl) (fun K hK => ?_)
        go_simp
        refine (KP.out wa hb1).mono ?_
        rintro e wb ⟨bb, rfl⟩
        replace hS : Two19 q q W4 wb := ⟨(bb.block q (by omega)).trans hS.1, (bb.block q (by omega)).trans hS.2⟩
        have hb2 : Below w.heap.size w wb := hb1.trans (bb.mono hb1.size)
        have hzb := bb.size
        refine hK.out _ _ hS ?_
        clear hK K
        try simp only [Act.put, List.setIfInBounds_toArray, List.set_cons_zero, List.set_cons_succ]
        refine rg_step 11 rfl (by kernel_rfl) (by rfl) (fun K hK => ?_)
        go_simp
        have hg := gs_lit5 wb kwDeny kwName (42 :: 46 :: nm) pt po
        have hbc : Below wb.heap.size wb (wb.alloc (.cells #[.string (mkS kwDeny), .string (mkS kwName), .string (mkS (42 :: 46 :: nm)), .string (mkS pt), .string (mkS po)] 9)) := (Below.refl _ _).alloc (Nat.le_refl _) _
        have hb3 := hb2.trans (hbc.mono hb2.size)
        replace hS : Two19 q q W4 (wb.alloc (.cells #[.string (mkS kwDeny), .string (mkS kwName), .string (mkS (42 :: 46 :: nm)), .string (mkS pt), .string (mkS po)] 9)) := ⟨(hbc.block q (by omega)).trans hS.1, (hbc.block q (by omega)).trans hS.2⟩
        refine hK.out _ _ hS ?_
        clear hK K
        have HG := Lib.hid (And.intro hg hb3)
        clear hg hb3 hbc hb2 hb1 hb0 ba bb
        refine rg_take 12 (v := ?rv56) rfl (by kernel_rfl) (by kernel_rfl) (by kernel_rfl) (fun _ _ _ h => h) (by rfl) hS (fun w2 hw2 => ?ry56) ?rr56
        case ry56 => ((try dsimp only at hw2); go_simp <;> with_reducible rfl)
        simp only [Act.put, List.setIfInBounds_toArray, List.set_cons_zero, List.set_cons_succ]
        refine rg_done (by kernel_rfl) ?_
        go_wp2_with fail
        go_ret
        exact ⟨_, rfl, HG.out.1, HG.out.2⟩
    | false =>
      simp only [Bool.false_eq_true, if_false]
      cases al with
      | true =>
        simp only [if_true]
        go_enter Tryz.func47, Tryz.ntmps47
        go_wp2_with (rw [HW.out])
        have hS : Two19 q q W W.drew := ⟨rfl, rfl⟩
        have d1 : ∀ w', Two19 q q W w' → w'.cell? ⟨q, 1, none⟩ = some (.string (mkS nm)) := fun w' h => HCE.out w' h.1 1 _ HC.out.1
        refine rg_begin (fun w' => Two19 q q W w') 4 (by kernel_rfl) rfl ?_
        have hb4 : Below w.heap.size w W.drew := HB.out.1.drew
        have hq4 : W.drew.heap[q]? = W.heap[q]? := rfl
        obtain ⟨W4, hW4⟩ : ∃ W4, W.drew = W4 := ⟨_, rfl⟩
        rw [hW4] at hS hb4 hq4 ⊢
        clear hW4
        refine rg_take 0 (v := ?rv57) rfl (by kernel_rfl) (by kernel_rfl) (by kernel_rfl) (fun _ _ _ h => h) (by rfl) hS (fun w2 hw2 => ?ry57) ?rr57
        case ry57 => ((try dsimp only at hw2); go_simp <;> with_reducible rfl)
        simp only [Act.put, List.setIfInBounds_toArray, List.set_cons_zero, List.set_cons_succ]
        refine rg_take 2 (v := ?rv58) rfl (by kernel_rfl) (by kernel_rfl) (by kernel_rfl) (fun _ _ _ h => h) (by rfl) hS (fun w2 hw2 => ?ry58) ?rr58
        case ry58 => ((try dsimp only at hw2); go_simp <;> with_reducible rfl)
        simp only [Act.put, List.setIfInBounds_toArray, List.set_cons_zero, List.set_cons_succ]
        refine rg_take 1 (v := ?rv59) rfl (by kernel_rfl) (by kernel_rfl) (by kernel_rfl) (fun _ _ _ h => h) (by rfl) hS (fun w2 hw2 => ?ry59) ?rr59
        case ry59 => ((try dsimp only at hw2); go_simp <;> with_reducible rfl)
        simp only [Act.put, List.setIfInBounds_toArray, List.set_cons_zero, List.set_cons_succ]
        refine rg_take 3 (v := ?rv60) rfl (by kernel_rfl) (by kernel_rfl) (by kernel_rfl) (fun _ _ _ h => h) (by rfl) hS (fun w2 hw2 => ?ry60) ?rr60
        case ry60 => ((try dsimp only at hw2); go_simp <;> with_reducible rfl)
        simp only [Act.put, List.setIfInBounds_toArray, List.set_cons_zero, List.set_cons_succ]
        refine rg_done (by kernel_rfl) ?_
        clear d1 hS
        have f1 := HCE.out W4 hq4 1 _ HC.out.1
        have f2 := HCE.out W4 hq4 2 _ c2
        have H4 := Lib.hid (And.intro hb4 hq4)
        clear hb4 hq4
        go_wp2_with fail
        have H9 := H4
        clear f1 f2
        have hS : Two19 q q W4 W4.drew := ⟨rfl, rfl⟩
        have hb9 := H9.out.1
        have e9 := H9.out.2
        have d21 : ∀ w', Two19 q q W4 w' → w'.cell? ⟨q, 21, none⟩ = some (.int .i64 pr) := fun w' h => HCE.out w' (h.1.trans e9) 21 _ HC.out.2.1
        have d22 : ∀ w', Two19 q q W4 w' → w'.cell? ⟨q, 22, none⟩ = some (.int .i64 lo) := fun w' h => HCE.out w' (h.1.trans e9) 22 _ HC.out.2.2.1
        have d23 : ∀ w', Two19 q q W4 w' → w'.cell? ⟨q, 23, none⟩ = some (.int .i64 hi) := fun w' h => HCE.out w' (h.1.trans e9) 23 _ HC.out.2.2.2
        have hqw : q < W4.heap.size := by
          rw [← hq]
          exact Nat.lt_of_lt_of_le (by rw [hq]; exact lt_cell (HCE.out W4 e9 21 _ HC.out.2.1)) (Nat.le_refl _)
        refine rg_begin (fun w' => Two19 q q W4 w') 13 (by kernel_rfl) rfl ?_
        have hb0 : Below w.heap.size w W4.drew := hb9.drew
        obtain ⟨Wd, hWd⟩ : ∃ Wd, W4.drew = Wd := ⟨_, rfl⟩
        have hsz : W4.heap.size = Wd.heap.size := by rw [← hWd]; rfl
        rw [hWd] at hS hb0 ⊢
        clear hWd
        refine rg_take 0 (v := ?rv61) rfl (by kernel_rfl) (by kernel_rfl) (by kernel_rfl) (fun _ _ _ h => h) (by rfl) hS (fun w2 hw2 => ?ry61) ?rr61
        case ry61 => ((try dsimp only at hw2); go_simp <;> with_reducible rfl)
        simp only [Act.put, List.setIfInBounds_toArray, List.set_cons_zero, List.set_cons_succ]
        refine rg_take 1 (v := ?rv62) rfl (by kernel_rfl) (by kernel_rfl) (by kernel_rfl) (fun _ _ _ h => h) (by rfl) hS (fun w2 hw2 => ?ry62) ?rr62
        case ry62 => ((try dsimp only at hw2); go_simp <;> with_reducible rfl)
        simp only [Act.put, List.setIfInBounds_toArray, List.set_cons_zero, List.set_cons_succ]
        refine rg_take 2 (v := ?rv63) rfl (by kernel_rfl) (by kernel_rfl) (by kernel_rfl) (fun _ _ _ h => h) (by rfl) hS (fun w2 hw2 => ?ry63) ?rr63
        case ry63 => ((try dsimp only at hw2); go_simp <;> with_reducible rfl)
        simp only [Act.put, List.setIfInBounds_toArray, List.set_cons_zero, List.set_cons_succ]
        refine rg_take 3 (v := ?rv64) rfl (by kernel_rfl) (by kernel_rfl) (by kernel_rfl) (fun _ _ _ h => h) (by rfl) hS (fun w2 hw2 => ?ry64) ?rr64
        case ry64 => ((try dsimp only at hw2); go_simp <;> with_reducible rfl)
        simp only [Act.put, List.setIfInBounds_toArray, List.set_cons_zero, List.set_cons_succ]
        refine rg_take 6 (v := ?rv65) rfl (by kernel_rfl) (by kernel_rfl) (by kernel_rfl) (fun _ _ _ h => h) (by rfl) hS (fun w2 hw2 => ?ry65) ?rr65
        case ry65 => ((try dsimp only at hw2); go_simp <;> with_reducible rfl)
        simp only [Act.put, List.setIfInBounds_toArray, List.set_cons_zero, List.set_cons_succ]
        refine rg_take 8 (v := ?rv66) rfl (by kernel_rfl) (by kernel_rfl) (by kernel_rfl) (fun _ _ _ h => h) (by rfl) hS (fun w2 hw2 => ?ry66) ?rr66
        case ry66 => ((try dsimp only at hw2); go_simp <;> with_reducible rfl)
        simp only [Act.put, List.setIfInBounds_toArray, List.set_cons_zero, List.set_cons_succ]
        refine rg_take 4 (v := ?rv67) rfl (by kernel_rfl) (by kernel_rfl) (by kernel_rfl) (fun _ _ _ h => h) (by rfl) hS (fun w2 hw2 => ?ry67) ?rr67
        case ry67 => ((try dsimp only at hw2); go_simp <;> with_reducible rfl)
        simp only [Act.put, List.setIfInBounds_toArray, List.set_cons_zero, List.set_cons_succ]
        refine rg_take 7 (v := ?rv68) rfl (by kernel_rfl) (by kernel_rfl) (by kernel_rfl) (fun _ _ _ h => h) (by rfl) hS (fun w2 hw2 => ?ry68) ?rr68
        case ry68 => ((try dsimp only at hw2); go_simp <;> with_reducible rfl)
        simp only [Act.put, List.setIfInBounds_toArray, List.set_cons_zero, List.set_cons_succ]
        refine rg_take 9 (v := ?rv69) rfl (by kernel_rfl) (by kernel_rfl) (by kernel_rfl) (fun _ _ _ h => h) (by rfl) hS (fun w2 hw2 => ?ry69) ?rr69
        case ry69 => ((try dsimp only at hw2); go_simp <;> with_reducible rfl)
        simp only [Act.put, List.setIfInBounds_toArray, List.set_cons_zero, List.set_cons_succ]
        clear d21 d22 d23
        refine rg_step 5 rfl (by kernel_rfl) (by rfl) (fun K hK => ?_)
        go_simp
        refine (KR.out Wd hb0).mono ?_
        rintro e wa ⟨ba, rfl⟩
        replace hS : Two19 q q W4 wa := ⟨(ba.block q (by omega)).trans hS.1, (ba.block q (by omega)).trans hS.2⟩
        have hb1 : Below w.heap.size w wa := hb0.trans (ba.mono hb0.size)
        have hza := ba.size
        refine hK.out _ _ hS ?_
        clear hK K
        try simp only [Act.put, List.setIfInBounds_toArray, List.set_cons_zero, List.set_cons_succ]
        refine rg_step 10 rfl (by kernel_rfl) (by rfl) (fun K hK => ?_)
        go_simp
        refine (KP.out wa hb1).mono ?_
        rintro e wb ⟨bb, rfl⟩
        replace hS : Two19 q q W4 wb := ⟨(bb.block q (by omega)).trans hS.1, (bb.block q (by omega)).trans hS.2⟩
        have hb2 : Below w.heap.size w wb := hb1.trans (bb.mono hb1.size)
        have hzb := bb.size
        refine hK.out _ _ hS ?_
        clear hK K
        try simp only [Act.put, List.setIfInBounds_toArray, List.set_cons_zero, List.set_cons_succ]
        refine rg_step 11 rfl (by kernel_rfl) (by rfl) (fun K hK => ?_)
        go_simp
        have hg := gs_lit5 wb kwAllow kwName nm pt po
        have hbc : Below wb.heap.size wb (wb.alloc (.cells #[.string (mkS kwAllow), .string (mkS kwName), .string (mkS nm), .string (mkS pt), .string (mkS po)] 9)) := (Below.refl _ _).alloc (Nat.le_refl _) _
        have hb3 := hb2.trans (hbc.mono hb2.size)
        replace hS : Two19 q q W4 (wb.alloc (.cells #[.string (mkS kwAllow), .string (mkS kwName), .string (mkS nm), .string (mkS pt), .string (mkS po)] 9)) := ⟨(hbc.block q (by omega)).trans hS.1, (hbc.block q (by omega)).trans hS.2⟩
        refine hK.out _ _ hS ?_
        clear hK K
        have HG := Lib.hid (And.intro hg hb3)
        clear hg hb3 hbc hb2 hb1 hb0 ba bb
        refine rg_take 12 (v := ?rv70) rfl (by kernel_rfl) (by kernel_rfl) (by kernel_rfl) (fun _ _ _ h => h) (by rfl) hS (fun w2 hw2 => ?ry70) ?rr70
        case ry70 => ((try dsimp only at hw2); go_simp <;> with_reducible rfl)
        simp only [Act.put, List.setIfInBounds_toArray, List.set_cons_zero, List.set_cons_succ]
        refine rg_done (by kernel_rfl) ?_
        go_wp2_with fail
        go_ret
        exact ⟨_, rfl, HG.out.1, HG.out.2⟩
      | false =>
        simp only [Bool.false_eq_true, if_false]
        go_enter Tryz.func47, Tryz.ntmps47
        go_wp2_with (rw [HW.out])
        have hS : Two19 q q W W.drew := ⟨rfl, rfl⟩
        have d1 : ∀ w', Two19 q q W w' → w'.cell? ⟨q, 1, none⟩ = some (.string (mkS nm)) := fun w' h => HCE.out w' h.1 1 _ HC.out.1
        refine rg_begin (fun w' => Two19 q q W w') 4 (by kernel_rfl) rfl ?_
        have hb4 : Below w.heap.size w W.drew := HB.out.1.drew
        have hq4 : W.drew.heap[q]? = W.heap[q]? := rfl
        obtain ⟨W4, hW4⟩ : ∃ W4, W.drew = W4 := ⟨_, rfl⟩
        rw [hW4] at hS hb4 hq4 ⊢
        clear hW4
        refine rg_take 0 (v := ?rv71) rfl (by kernel_rfl) (by kernel_rfl) (by kernel_rfl) (fun _ _ _ h => h) (by rfl) hS (fun w2 hw2 => ?ry71) ?rr71
        case ry71 => ((try dsimp only at hw2); go_simp <;> with_reducible rfl)
        simp only [Act.put, List.setIfInBounds_toArray, List.set_cons_zero, List.set_cons_succ]
        refine rg_take 2 (v := ?rv72) rfl (by kernel_rfl) (by kernel_rfl) (by kernel_rfl) (fun _ _ _ h => h) (by rfl) hS (fun w2 hw2 => ?ry72) ?rr72
        case ry72 => ((try dsimp only at hw2); go_simp <;> with_reducible rfl)
        simp only [Act.put, List.setIfInBounds_toArray, List.set_cons_zero, List.set_cons_succ]
        refine rg_take 1 (v := ?rv73) rfl (by kernel_rfl) (by kernel_rfl) (by kernel_rfl) (fun _ _ _ h => h) (by rfl) hS (fun w2 hw2 => ?ry73) ?rr73
        case ry73 => ((try dsimp only at hw2); go_simp <;> with_reducible rfl)
        simp only [Act.put, List.setIfInBounds_toArray, List.set_cons_zero, List.set_cons_succ]
        refine rg_take 3 (v := ?rv74) rfl (by kernel_rfl) (by kernel_rfl) (by kernel_rfl) (fun _ _ _ h => h) (by rfl) hS (fun w2 hw2 => ?ry74) ?rr74
        case ry74 => ((try dsimp only at hw2); go_simp <;> with_reducible rfl)
        simp only [Act.put, List.setIfInBounds_toArray, List.set_cons_zero, List.set_cons_succ]
        refine rg_done (by kernel_rfl) ?_
        clear d1 hS
        have f1 := HCE.out W4 hq4 1 _ HC.out.1
        have f2 := HCE.out W4 hq4 2 _ c2
        have H4 := Lib.hid (And.intro hb4 hq4)
        clear hb4 hq4
        go_wp2_with fail
        have H9 := H4
        clear f1 f2
        have hS : Two19 q q W4 W4.drew := ⟨rfl, rfl⟩
        have hb9 := H9.out.1
        have e9 := H9.out.2
        have d21 : ∀ w', Two19 q q W4 w' → w'.cell? ⟨q, 21, none⟩ = some (.int .i64 pr) := fun w' h => HCE.out w' (h.1.trans e9) 21 _ HC.out.2.1
        have d22 : ∀ w', Two19 q q W4 w' → w'.cell? ⟨q, 22, none⟩ = some (.int .i64 lo) := fun w' h => HCE.out w' (h.1.trans e9) 22 _ HC.out.2.2.1
        have d23 : ∀ w', Two19 q q W4 w' → w'.cell? ⟨q, 23, none⟩ = some (.int .i64 hi) := fun w' h => HCE.out w' (h.1.trans e9) 23 _ HC.out.2.2.2
        have hqw : q < W4.heap.size := by
          rw [← hq]
          exact Nat.lt_of_lt_of_le (by rw [hq]; exact lt_cell (HCE.out W4 e9 21 _ HC.out.2.1)) (Nat.le_refl _)
        refine rg_begin (fun w' => Two19 q q W4 w') 13 (by kernel_rfl) rfl ?_
        have hb0 : Below w.heap.size w W4.drew := hb9.drew
        obtain ⟨Wd, hWd⟩ : ∃ Wd, W4.drew = Wd := ⟨_, rfl⟩
        have hsz : W4.heap.size = Wd.heap.size := by rw [← hWd]; rfl
        rw [hWd] at hS hb0 ⊢
        clear hWd
        refine rg_take 0 (v := ?rv75) rfl (by kernel_rfl) (by kernel_rfl) (by kernel_rfl) (fun _ _ _ h => h) (by rfl) hS (fun w2 hw2 => ?ry75) ?rr75
        case ry75 => ((try dsimp only at hw2); go_simp <;> with_reducible rfl)
        simp only [Act.put, List.setIfInBounds_toArray, List.set_cons_zero, List.set_cons_succ]
        refine rg_take 1 (v := ?rv76) rfl (by kernel_rfl) (by kernel_rfl) (by kernel_rfl) (fun _ _ _ h => h) (by rfl) hS (fun w2 hw2 => ?ry76) ?rr76
        case ry76 => ((try dsimp only at hw2); go_simp <;> with_reducible rfl)
        simp only [Act.put, List.setIfInBounds_toArray, List.set_cons_zero, List.set_cons_succ]
        refine rg_take 2 (v := ?rv77) rfl (by kernel_rfl) (by kernel_rfl) (by kernel_rfl) (fun _ _ _ h => h) (by rfl) hS (fun w2 hw2 => ?ry77) ?rr77
        case ry77 => ((try dsimp only at hw2); go_simp <;> with_reducible rfl)
        simp only [Act.put, List.setIfInBounds_toArray, List.set_cons_zero, List.set_cons_succ]
        refine rg_take 3 (v := ?rv78) rfl (by kernel_rfl) (by kernel_rfl) (by kernel_rfl) (fun _ _ _ h => h) (by rfl) hS (fun w2 hw2 => ?ry78) ?rr78
        case ry78 => ((try dsimp only at hw2); go_simp <;> with_reducible rfl)
        simp only [Act.put, List.setIfInBounds_toArray, List.set_cons_zero, List.set_cons_succ]
        refine rg_take 6 (v := ?rv79) rfl (by kernel_rfl) (by kernel_rfl) (by kernel_rfl) (fun _ _ _ h => h) (by rfl) hS (fun w2 hw2 => ?ry79) ?rr79
        case ry79 => ((try dsimp only at hw2); go_simp <;> with_reducible rfl)
        simp only [Act.put, List.setIfInBounds_toArray, List.set_cons_zero, List.set_cons_succ]
        refine rg_take 8 (v := ?rv80) rfl (by kernel_rfl) (by kernel_rfl) (by kernel_rfl) (fun _ _ _ h => h) (by rfl) hS (fun w2 hw2 => ?ry80) ?rr80
        case ry80 => ((try dsimp only at hw2); go_simp <;> with_reducible rfl)
        simp only [Act.put, List.setIfInBounds_toArray, List.set_cons_zero, List.set_cons_succ]
        refine rg_take 4 (v := ?rv81) rfl (by kernel_rfl) (by kernel_rfl) (by kernel_rfl) (fun _ _ _ h => h) (by rfl) hS (fun w2 hw2 => ?ry81) ?rr81
        case ry81 => ((try dsimp only at hw2); go_simp <;> with_reducible rfl)
        simp only [Act.put, List.setIfInBounds_toArray, List.set_cons_zero, List.set_cons_succ]
        refine rg_take 7 (v := ?rv82) rfl (by kernel_rfl) (by kernel_rfl) (by kernel_rfl) (fun _ _ _ h => h) (by rfl) hS (fun w2 hw2 => ?ry82) ?rr82
        case ry82 => ((try dsimp only at hw2); go_simp <;> with_reducible rfl)
        simp only [Act.put, List.setIfInBounds_toArray, List.set_cons_zero, List.set_cons_succ]
        refine rg_take 9 (v := ?rv83) rfl (by kernel_rfl) (by kernel_rfl) (by kernel_rfl) (fun _ _ _ h => h) (by rfl) hS (fun w2 hw2 => ?ry83) ?rr83
        case ry83 => ((try dsimp only at hw2); go_simp <;> with_reducible rfl)
        simp only [Act.put, List.setIfInBounds_toArray, List.set_cons_zero, List.set_cons_succ]
        clear d21 d22 d23
        refine rg_step 5 rfl (by kernel_rfl) (by rfl) (fun K hK => ?_)
        go_simp
        refine (KR.out Wd hb0).mono ?_
        rintro e wa ⟨ba, rfl⟩
        replace hS : Two19 q q W4 wa := ⟨(ba.block q (by omega)).trans hS.1, (ba.block q (by omega)).trans hS.2⟩
        have hb1 : Below w.heap.size w wa := hb0.trans (ba.mono hb0.size)
        have hza := ba.size
        refine hK.out _ _ hS ?_
        clear hK K
        try simp only [Act.put, List.setIfInBounds_toArray, List.set_cons_zero, List.set_cons_succ]
        refine rg_step 10 rfl (by kernel_rfl) (by rfl) (fun K hK => ?_)
        go_simp
        refine (KP.out wa hb1).mono ?_
        rintro e wb ⟨bb, rfl⟩
        replace hS : Two19 q q W4 wb := ⟨(bb.block q (by omega)).trans hS.1, (bb.block q (by omega)).trans hS.2⟩
        have hb2 : Below w.heap.size w wb := hb1.trans (bb.mono hb1.size)
        have hzb := bb.size
        refine hK.out _ _ hS ?_
        clear hK K
        try simp only [Act.put, List.setIfInBounds_toArray, List.set_cons_zero, List.set_cons_succ]
        refine rg_step 11 rfl (by kernel_rfl) (by rfl) (fun K hK => ?_)
        go_simp
        have hg := gs_lit5 wb kwDeny kwName nm pt po
        have hbc : Below wb.heap.size wb (wb.alloc (.cells #[.string (mkS kwDeny), .string (mkS kwName), .string (mkS nm), .string (mkS pt), .string (mkS po)] 9)) := (Below.refl _ _).alloc (Nat.le_refl _) _
        have hb3 := hb2.trans (hbc.mono hb2.size)
        replace hS : Two19 q q W4 (wb.alloc (.cells #[.string (mkS kwDeny), .string (mkS kwName), .string (mkS nm), .string (mkS pt), .string (mkS po)] 9)) := ⟨(hbc.block q (by omega)).trans hS.1, (hbc.block q (by omega)).trans hS.2⟩
        refine hK.out _ _ hS ?_
        clear hK K
        have HG := Lib.hid (And.intro hg hb3)
        clear hg hb3 hbc hb2 hb1 hb0 ba bb
        refine rg_take 12 (v := ?rv84) rfl (by kernel_rfl) (by kernel_rfl) (by kernel_rfl) (fun _ _ _ h => h) (by rfl) hS (fun w2 hw2 => ?ry84) ?rr84
        case ry84 => ((try dsimp only at hw2); go_simp <;> with_reducible rfl)
        simp only [Act.put, List.setIfInBounds_toArray, List.set_cons_zero, List.set_cons_succ]
        refine rg_done (by kernel_rfl) ?_
        go_wp2_with fail
        go_ret
        exact ⟨_, rfl, HG.out.1, HG.out.2⟩
end Go.Proofs.YtoagfmonfgagbaaGreatDoor

namespace Go.Proofs.YtoagfmonfgagbaaGreatDoor
open Go.RowKit
set_option maxRecDepth 100000
theorem part_ad (v : Bool) {a : List UInt8} (ha : a.length = 16) (n : Int) (w : World) : (part 51 (pxv v a n) 0).run Tryz.prog w = .ok (.agg (adv v a)) w := by
  obtain ⟨_, _, _, _, _, _, _, _, _, _, _, _, _, _, _, _, rfl⟩ := explicit16 ha
  kernel_rfl
theorem part_n (v : Bool) {a : List UInt8} (ha : a.length = 16) (n : Int) (w : World) : (part 3 (pxv v a n) 17).run Tryz.prog w = .ok (.int .i64 n) w := by
  obtain ⟨_, _, _, _, _, _, _, _, _, _, _, _, _, _, _, _, rfl⟩ := explicit16 ha
  kernel_rfl
theorem fields_px : ∃ f g : Field, (Tryz.prog.fieldsOf 53).toList = [f, g] ∧ (f.name ≠ "_") ∧ (g.name ≠ "_") ∧ f.type = 51 ∧ f.offset = 0 ∧ g.type = 3 ∧ g.offset = 17 := by
  refine ⟨(Tryz.prog.fieldsOf 53).toList.head!, (Tryz.prog.fieldsOf 53).toList.tail.head!, by kernel_rfl, ?_, ?_, by kernel_rfl, by kernel_rfl, by kernel_rfl, by kernel_rfl⟩
  · exact of_decide_eq_true (by kernel_rfl)
  · exact of_decide_eq_true (by kernel_rfl)
theorem eqIn_px (d : Nat) (v u : Bool) {a b : List UInt8} (ha : a.length = 16) (hb : b.length = 16) (n m : Int) (w : World) : (Op.equalIn (d + 4) 53 (.agg (pxv v a n)) (.agg (pxv u b m))).run Tryz.prog w = .ok ((v == u) && (a == b) && (n == m)) w := by
  rw [run_equalIn_struct w (d + 3) 53 _ _ (by kernel_rfl) (by kernel_rfl)]
  obtain ⟨f, g, hf, h1, h2, h3, h4, h5, h6⟩ := fields_px
  rw [hf]
  have e1 := eqIn_ad d v u ha hb w
  have e2 : (Op.equalIn (d + 3) 3 (.int .i64 n) (.int .i64 m)).run Tryz.prog w = .ok (n == m) w := by
    simp [Op.equalIn, run_underlying Tryz.underlying3]
  simp only [Op.eqFields, if_pos h1, if_pos h2, h3, h4, h5, h6, Sem.run_bind, part_ad v ha, part_ad u hb, part_n v ha, part_n u hb, e1, e2, Result.andThen_ok, Sem.run_ite, Sem.run_pure]
  cases ((v == u) && (a == b)) <;> cases (n == m) <;> rfl
theorem eql_px (v u : Bool) {a b : List UInt8} (ha : a.length = 16) (hb : b.length = 16) (n m : Int) (w : World) : (binOp .eql 53 (.agg (pxv v a n)) (.agg (pxv u b m))).run Tryz.prog w = .ok (.bool ((v == u) && (a == b) && (n == m))) w := by
  rw [run_eql_struct]
  have h := eqIn_px 9996 v u ha hb n m w
  rw [show (10000 : Nat) = 9996 + 4 from rfl] at *
  simp only [h]
  rfl
theorem part_q0 (al : Bool) (nm : List UInt8) (wd v6 : Bool) {ad : List UInt8} (ha : ad.length = 16) (bt pr lo hi : Int) (w : World) : (part 4 (rwv (⟨al, nm, wd, v6, ad, bt, pr, lo, hi⟩ : Rw)) 0).run Tryz.prog w = .ok (.bool (⟨al, nm, wd, v6, ad, bt, pr, lo, hi⟩ : Rw).allow) w := by
  obtain ⟨_, _, _, _, _, _, _, _, _, _, _, _, _, _, _, _, rfl⟩ := explicit16 ha
  kernel_rfl
theorem part_rw0 {x : Rw} (hx : x.ok) (w : World) : (part 4 (rwv x) 0).run Tryz.prog w = .ok (.bool x.allow) w :=
  part_q0 x.allow x.name x.wild x.v6 hx x.bits x.proto x.low x.high w
theorem part_q1 (al : Bool) (nm : List UInt8) (wd v6 : Bool) {ad : List UInt8} (ha : ad.length = 16) (bt pr lo hi : Int) (w : World) : (part 9 (rwv (⟨al, nm, wd, v6, ad, bt, pr, lo, hi⟩ : Rw)) 1).run Tryz.prog w = .ok (.string (mkS (⟨al, nm, wd, v6, ad, bt, pr, lo, hi⟩ : Rw).name)) w := by
  obtain ⟨_, _, _, _, _, _, _, _, _, _, _, _, _, _, _, _, rfl⟩ := explicit16 ha
  kernel_rfl
theorem part_rw1 {x : Rw} (hx : x.ok) (w : World) : (part 9 (rwv x) 1).run Tryz.prog w = .ok (.string (mkS x.name)) w :=
  part_q1 x.allow x.name x.wild x.v6 hx x.bits x.proto x.low x.high w
theorem part_q2 (al : Bool) (nm : List UInt8) (wd v6 : Bool) {ad : List UInt8} (ha : ad.length = 16) (bt pr lo hi : Int) (w : World) : (part 4 (rwv (⟨al, nm, wd, v6, ad, bt, pr, lo, hi⟩ : Rw)) 2).run Tryz.prog w = .ok (.bool (⟨al, nm, wd, v6, ad, bt, pr, lo, hi⟩ : Rw).wild) w := by
  obtain ⟨_, _, _, _, _, _, _, _, _, _, _, _, _, _, _, _, rfl⟩ := explicit16 ha
  kernel_rfl
theorem part_rw2 {x : Rw} (hx : x.ok) (w : World) : (part 4 (rwv x) 2).run Tryz.prog w = .ok (.bool x.wild) w :=
  part_q2 x.allow x.name x.wild x.v6 hx x.bits x.proto x.low x.high w
theorem part_q3 (al : Bool) (nm : List UInt8) (wd v6 : Bool) {ad : List UInt8} (ha : ad.length = 16) (bt pr lo hi : Int) (w : World) : (part 53 (rwv (⟨al, nm, wd, v6, ad, bt, pr, lo, hi⟩ : Rw)) 3).run Tryz.prog w = .ok (.agg (pxv (⟨al, nm, wd, v6, ad, bt, pr, lo, hi⟩ : Rw).v6 (⟨al, nm, wd, v6, ad, bt, pr, lo, hi⟩ : Rw).adr (⟨al, nm, wd, v6, ad, bt, pr, lo, hi⟩ : Rw).bits)) w := by
  obtain ⟨_, _, _, _, _, _, _, _, _, _, _, _, _, _, _, _, rfl⟩ := explicit16 ha
  kernel_rfl
theorem part_rw3 {x : Rw} (hx : x.ok) (w : World) : (part 53 (rwv x) 3).run Tryz.prog w = .ok (.agg (pxv x.v6 x.adr x.bits)) w :=
  part_q3 x.allow x.name x.wild x.v6 hx x.bits x.proto x.low x.high w
theorem part_q4 (al : Bool) (nm : List UInt8) (wd v6 : Bool) {ad : List UInt8} (ha : ad.length = 16) (bt pr lo hi : Int) (w : World) : (part 3 (rwv (⟨al, nm, wd, v6, ad, bt, pr, lo, hi⟩ : Rw)) 21).run Tryz.prog w = .ok (.int .i64 (⟨al, nm, wd, v6, ad, bt, pr, lo, hi⟩ : Rw).proto) w := by
  obtain ⟨_, _, _, _, _, _, _, _, _, _, _, _, _, _, _, _, rfl⟩ := explicit16 ha
  kernel_rfl
theorem part_rw4 {x : Rw} (hx : x.ok) (w : World) : (part 3 (rwv x) 21).run Tryz.prog w = .ok (.int .i64 x.proto) w :=
  part_q4 x.allow x.name x.wild x.v6 hx x.bits x.proto x.low x.high w
theorem part_q5 (al : Bool) (nm : List UInt8) (wd v6 : Bool) {ad : List UInt8} (ha : ad.length = 16) (bt pr lo hi : Int) (w : World) : (part 3 (rwv (⟨al, nm, wd, v6, ad, bt, pr, lo, hi⟩ : Rw)) 22).run Tryz.prog w = .ok (.int .i64 (⟨al, nm, wd, v6, ad, bt, pr, lo, hi⟩ : Rw).low) w := by
  obtain ⟨_, _, _, _, _, _, _, _, _, _, _, _, _, _, _, _, rfl⟩ := explicit16 ha
  kernel_rfl
theorem part_rw5 {x : Rw} (hx : x.ok) (w : World) : (part 3 (rwv x) 22).run Tryz.prog w = .ok (.int .i64 x.low) w :=
  part_q5 x.allow x.name x.wild x.v6 hx x.bits x.proto x.low x.high w
theorem part_q6 (al : Bool) (nm : List UInt8) (wd v6 : Bool) {ad : List UInt8} (ha : ad.length = 16) (bt pr lo hi : Int) (w : World) : (part 3 (rwv (⟨al, nm, wd, v6, ad, bt, pr, lo, hi⟩ : Rw)) 23).run Tryz.prog w = .ok (.int .i64 (⟨al, nm, wd, v6, ad, bt, pr, lo, hi⟩ : Rw).high) w := by
  obtain ⟨_, _, _, _, _, _, _, _, _, _, _, _, _, _, _, _, rfl⟩ := explicit16 ha
  kernel_rfl
theorem part_rw6 {x : Rw} (hx : x.ok) (w : World) : (part 3 (rwv x) 23).run Tryz.prog w = .ok (.int .i64 x.high) w :=
  part_q6 x.allow x.name x.wild x.v6 hx x.bits x.proto x.low x.high w
theorem fields_rw : ∃ f0 f1 f2 f3 f4 f5 f6 : Field, (Tryz.prog.fieldsOf 55).toList = [f0, f1, f2, f3, f4, f5, f6] ∧ (f0.name ≠ "_" ∧ f1.name ≠ "_" ∧ f2.name ≠ "_" ∧ f3.name ≠ "_" ∧ f4.name ≠ "_" ∧ f5.name ≠ "_" ∧ f6.name ≠ "_") ∧ (f0.type = 4 ∧ f1.type = 9 ∧ f2.type = 4 ∧ f3.type = 53 ∧ f4.type = 3 ∧ f5.type = 3 ∧ f6.type = 3) ∧ f0.offset = 0 ∧ f1.offset = 1 ∧ f2.offset = 2 ∧ f3.offset = 3 ∧ f4.offset = 21 ∧ f5.offset = 22 ∧ f6.offset = 23 := by
  refine ⟨(Tryz.prog.fieldsOf 55).toList.head!, (Tryz.prog.fieldsOf 55).toList.tail.head!, (Tryz.prog.fieldsOf 55).toList.tail.tail.head!, (Tryz.prog.fieldsOf 55).toList.tail.tail.tail.head!, (Tryz.prog.fieldsOf 55).toList.tail.tail.tail.tail.head!, (Tryz.prog.fieldsOf 55).toList.tail.tail.tail.tail.tail.head!, (Tryz.prog.fieldsOf 55).toList.tail.tail.tail.tail.tail.tail.head!, by kernel_rfl, ⟨?_, ?_, ?_, ?_, ?_, ?_, ?_⟩, ⟨by kernel_rfl, by kernel_rfl, by kernel_rfl, by kernel_rfl, by kernel_rfl, by kernel_rfl, by kernel_rfl⟩, by kernel_rfl, by kernel_rfl, by kernel_rfl, by kernel_rfl, by kernel_rfl, by kernel_rfl, by kernel_rfl⟩ <;> exact of_decide_eq_true (by kernel_rfl)
set_option maxHeartbeats 2000000 in
theorem eqIn_rw (d : Nat) {x y : Rw} (hx : x.ok) (hy : y.ok) (w : World) : (Op.equalIn (d + 5) 55 (.agg (rwv x)) (.agg (rwv y))).run Tryz.prog w = .ok ((x.allow == y.allow) && ((mkS x.name == mkS y.name) && ((x.wild == y.wild) && (((x.v6 == y.v6) && (x.adr == y.adr) && (x.bits == y.bits)) && ((x.proto == y.proto) && ((x.low == y.low) && (x.high == y.high))))))) w := by
  rw [run_equalIn_struct w (d + 4) 55 _ _ (by kernel_rfl) (by kernel_rfl)]
  obtain ⟨f0, f1, f2, f3, f4, f5, f6, hf, ⟨n0, n1, n2, n3, n4, n5, n6⟩, ⟨t0, t1, t2, t3, t4, t5, t6⟩, o0, o1, o2, o3, o4, o5, o6⟩ := fields_rw
  rw [hf]
  have e1 : ∀ x y : Int, (Op.equalIn (d + 4) 3 (.int .i64 x) (.int .i64 y)).run Tryz.prog w = .ok (x == y) w := fun x y => by
    simp [Op.equalIn, run_underlying Tryz.underlying3]
  have e2 : ∀ x y : ByteArray, (Op.equalIn (d + 4) 9 (.string x) (.string y)).run Tryz.prog w = .ok (x == y) w := fun x y => by
    simp [Op.equalIn, run_underlying Tryz.underlying9]
  have e3 : ∀ x y : Bool, (Op.equalIn (d + 4) 4 (.bool x) (.bool y)).run Tryz.prog w = .ok (x == y) w := fun x y => by
    simp [Op.equalIn, run_underlying Tryz.underlying4]
  have e4 := eqIn_px d x.v6 y.v6 hx hy x.bits y.bits w
  simp only [Op.eqFields, if_pos n0, if_pos n1, if_pos n2, if_pos n3, if_pos n4, if_pos n5, if_pos n6, t0, t1, t2, t3, t4, t5, t6, o0, o1, o2, o3, o4, o5, o6, Sem.run_bind, part_rw0 hx, part_rw0 hy, part_rw1 hx, part_rw1 hy, part_rw2 hx, part_rw2 hy, part_rw3 hx, part_rw3 hy, part_rw4 hx, part_rw4 hy, part_rw5 hx, part_rw5 hy, part_rw6 hx, part_rw6 hy, e1, e2, e3, e4, Result.andThen_ok, Sem.run_ite, Sem.run_pure]
  cases (x.allow == y.allow) <;> cases (mkS x.name == mkS y.name) <;> cases (x.wild == y.wild) <;> cases ((x.v6 == y.v6) && (x.adr == y.adr) && (x.bits == y.bits)) <;> cases (x.proto == y.proto) <;> cases (x.low == y.low) <;> cases (x.high == y.high) <;> rfl
theorem eqv_rw (x y : Rw) : ((x.allow == y.allow) && ((mkS x.name == mkS y.name) && ((x.wild == y.wild) && (((x.v6 == y.v6) && (x.adr == y.adr) && (x.bits == y.bits)) && ((x.proto == y.proto) && ((x.low == y.low) && (x.high == y.high))))))) = decide (x = y) := by
  rw [Bool.eq_iff_iff]
  rw [ba_beq]
  simp only [Bool.and_eq_true, beq_iff_eq, decide_eq_true_iff]
  constructor
  · rintro ⟨h0, h1, h2, ⟨⟨h3, h4⟩, h5⟩, h6, h7, h8⟩
    obtain ⟨al, nm, wd, v6, ad, bt, pr, lo, hi⟩ := x
    obtain ⟨al', nm', wd', v6', ad', bt', pr', lo', hi'⟩ := y
    dsimp only at h0 h1 h2 h3 h4 h5 h6 h7 h8
    have h9 := mkS_inj h1
    subst h0 h9 h2 h3 h4 h5 h6 h7 h8
    rfl
  · rintro rfl
    exact ⟨rfl, rfl, rfl, ⟨⟨rfl, rfl⟩, rfl⟩, rfl, rfl, rfl⟩
theorem eql_rw {x y : Rw} (hx : x.ok) (hy : y.ok) (w : World) : (binOp .eql 55 (.agg (rwv x)) (.agg (rwv y))).run Tryz.prog w = .ok (.bool (decide (x = y))) w := by
  rw [run_eql_struct]
  have h := eqIn_rw 9995 hx hy w
  rw [show (10000 : Nat) = 9995 + 5 from rfl] at *
  simp only [h]
  rw [eqv_rw]
  rfl
theorem neq_rw {x y : Rw} (hx : x.ok) (hy : y.ok) (w : World) : (binOp .neq 55 (.agg (rwv x)) (.agg (rwv y))).run Tryz.prog w = .ok (.bool (!decide (x = y))) w := by
  rw [run_neq_struct]
  have h := eqIn_rw 9995 hx hy w
  rw [show (10000 : Nat) = 9995 + 5 from rfl] at *
  simp only [h]
  rw [eqv_rw]
  rfl
theorem neq_a9 {x y : Ad19} (hx : A9ok x) (hy : A9ok y) (w : World) : (binOp .neq 51 (.agg (a9v x)) (.agg (a9v y))).run Tryz.prog w = .ok (.bool (!decide (x = y))) w := by
  rw [run_neq_struct]
  have h := eqIn_ad 9997 x.1 y.1 hx hy w
  rw [show (10000 : Nat) = 9997 + 3 from rfl] at *
  have e : ((x.1 == y.1) && (x.2 == y.2)) = decide (x = y) := by
    rw [Bool.eq_iff_iff, Bool.and_eq_true, beq_iff_eq, beq_iff_eq, decide_eq_true_iff, Prod.ext_iff]
  rw [e] at h
  unfold a9v
  simp only [h]
  rfl
theorem take_eq_next {α : Type} {xs ys : List α} {k : Nat} {x y : α} (h : xs.take k = ys.take k) (hx : xs[k]? = some x) (hy : ys[k]? = some y) (he : x = y) : xs.take (k + 1) = ys.take (k + 1) := by
  rw [List.take_add_one, List.take_add_one, h, hx, hy, he]
set_option maxHeartbeats 2000000 in
theorem equalA19 {A B : Option Addr} {n c m d : Nat} {xs ys : List Ad19} {w : World} (ha : A9S w A n c xs) (hb : A9S w B m d ys) : Calls Tryz.prog 31 #[.slice A n c, .slice B m d] w fun e w' => e = .returned (.bool (decide (xs = ys))) ∧ Below w.heap.size w w' := by
  have hmx : Tryz.prog.follows .mixedOrders = true := by kernel_rfl
  have ha1 := ha.cap
  have ha2 := ha.max
  have hb1 := hb.cap
  have hb2 := hb.max
  unfold maxLen at ha2 hb2
  have hla := ha.len
  have hlb := hb.len
  obtain ⟨R, hR⟩ : ∃ R, decide (xs = ys) = R := ⟨_, rfl⟩
  rw [hR]
  have HH := Lib.hid (And.intro ha (And.intro hb (And.intro hla (And.intro hlb hR))))
  clear ha hb hla hlb hR
  by_cases hnm : n = m
  · have hnm1 : ((n : Int) == (m : Int)) = true := by rw [beq_iff_eq]; omega
    have HM := Lib.hid hnm
    subst hnm
    clear HM hnm1
    go_enter Tryz.func31, Tryz.ntmps31
    go_wp2_with fail
    go_loopw [13] (fun i wr => ∃ k : Nat, k ≤ n ∧ i = .int .i64 k ∧ Hid (xs.take k = ys.take k) ∧ Below w.heap.size w wr) (fun i _ => n - (intOf i).toNat)
    case atStart => exact ⟨0, Nat.zero_le _, rfl, by simp [Hid], Below.refl _ _⟩
    case round =>
      obtain ⟨k, hk, rfl, HT, hbe⟩ := hrel
      by_cases hkn : k < n
      · obtain ⟨x, hxk⟩ : ∃ x, xs[k]? = some x := ⟨xs[k]'(by have := HH.out.2.2.1; omega), List.getElem?_eq_getElem _⟩
        obtain ⟨y, hyk⟩ : ∃ y, ys[k]? = some y := ⟨ys[k]'(by have := HH.out.2.2.2.1; omega), List.getElem?_eq_getElem _⟩
        obtain ⟨b, off, hA, hrx⟩ := (HH.out.1.later hbe (Nat.le_refl _)).here k x hxk
        obtain ⟨b', off', hB, hry⟩ := (HH.out.2.1.later hbe (Nat.le_refl _)).here k y hyk
        subst hA
        subst hB
        have hox := HH.out.1.ok x (List.mem_of_getElem? hxk)
        have hoy := HH.out.2.1.ok y (List.mem_of_getElem? hyk)
        have HX := Lib.hid (And.intro hxk (And.intro hyk (And.intro hbe (And.intro hrx (And.intro hry (And.intro hox hoy))))))
        have he : ∀ w, (binOp .neq 51 (.agg (a9v x)) (.agg (a9v y))).run Tryz.prog w = .ok (.bool (!decide (x = y))) w := fun w => neq_a9 hox hoy w
        obtain ⟨vx, hvx⟩ : ∃ vx, a9v x = vx := ⟨_, rfl⟩
        obtain ⟨vy, hvy⟩ : ∃ vy, a9v y = vy := ⟨_, rfl⟩
        obtain ⟨q, hq⟩ : ∃ q, (!decide (x = y)) = q := ⟨_, rfl⟩
        have hsx : (Tryz.prog.info? 51).map (·.size) = some vx.size := by rw [← hvx]; exact (ad_size x.1 hox)
        have hsy : (Tryz.prog.info? 51).map (·.size) = some vy.size := by rw [← hvy]; exact (ad_size y.1 hoy)
        rw [hvx, hvy, hq] at he
        have HV := Lib.hid (And.intro hvx (And.intro hvy (And.intro hq (And.intro hsx hsy))))
        have HE := Lib.hid he
        clear hxk hyk hbe hrx hry hox hoy hvx hvy hq hsx hsy he
        go_wp2_with fail
        have hS : Below wr.heap.size wr wr.drew := (Below.refl _ _).drew
        have he := HE.out
        refine rg_begin (fun w' => Below wr.heap.size wr w') 9 (by kernel_rfl) rfl ?_
        refine rg_take 0 (v := ?rv1) rfl (by kernel_rfl) (by kernel_rfl) (by kernel_rfl) (fun _ _ _ h => h) (by rfl) hS (fun w2 hw2 => ?ry1) ?rr1
        case ry1 => ((try dsimp only at hw2); go_simp <;> with_reducible rfl)
        simp only [Act.put, List.setIfInBounds_toArray, List.set_cons_zero, List.set_cons_succ]
        refine rg_take 1 (v := ?rv2) rfl (by kernel_rfl) (by kernel_rfl) (by kernel_rfl) (fun _ _ _ h => h) (by rfl) hS (fun w2 hw2 => ?ry2) ?rr2
        case ry2 => ((try dsimp only at hw2); go_simp <;> with_reducible rfl)
        simp only [Act.put, List.setIfInBounds_toArray, List.set_cons_zero, List.set_cons_succ]
        refine rg_take 4 (v := ?rv3) rfl (by kernel_rfl) (by kernel_rfl) (by kernel_rfl) (fun _ _ _ h => h) (by rfl) hS (fun w2 hw2 => ?ry3) ?rr3
        case ry3 => ((try dsimp only at hw2); go_simp <;> with_reducible rfl)
        simp only [Act.put, List.setIfInBounds_toArray, List.set_cons_zero, List.set_cons_succ]
        refine rg_take 5 (v := ?rv4) rfl (by kernel_rfl) (by kernel_rfl) (by kernel_rfl) (fun _ _ _ h => h) (by rfl) hS (fun w2 hw2 => ?ry4) ?rr4
        case ry4 => ((try dsimp only at hw2); go_simp <;> with_reducible rfl)
        simp only [Act.put, List.setIfInBounds_toArray, List.set_cons_zero, List.set_cons_succ]
        refine rg_take 2 (v := ?rv5) rfl (by kernel_rfl) (by kernel_rfl) (by kernel_rfl) (fun _ _ _ h => h) (by rfl) hS (fun w2 hw2 => ?ry5) ?rr5
        case ry5 => ((try dsimp only at hw2); go_simp <;> with_reducible rfl)
        simp only [Act.put, List.setIfInBounds_toArray, List.set_cons_zero, List.set_cons_succ]
        refine rg_take 6 (v := ?rv6) rfl (by kernel_rfl) (by kernel_rfl) (by kernel_rfl) (fun _ _ _ h => h) (by rfl) hS (fun w2 hw2 => ?ry6) ?rr6
        case ry6 => ((try dsimp only at hw2); go_simp <;> with_reducible rfl)
        simp only [Act.put, List.setIfInBounds_toArray, List.set_cons_zero, List.set_cons_succ]
        refine rg_load 3 rfl (by kernel_rfl) (by kernel_rfl) (by kernel_rfl) b (off + k * 17) vx (fun _ _ _ h => h) (by rfl) 51 (.tmp 18) rfl rfl hS (fun w2 h2 => by rw [← HV.out.1]; exact range_kept HX.out.2.2.2.1 h2 (Nat.le_refl _)) Tryz.underlying51 rfl HV.out.2.2.2.1 ?_
        simp only [Act.put, List.setIfInBounds_toArray, List.set_cons_zero, List.set_cons_succ]
        refine rg_load 7 rfl (by kernel_rfl) (by kernel_rfl) (by kernel_rfl) b' (off' + k * 17) vy (fun _ _ _ h => h) (by rfl) 51 (.tmp 22) rfl rfl hS (fun w2 h2 => by rw [← HV.out.2.1]; exact range_kept HX.out.2.2.2.2.1 h2 (Nat.le_refl _)) Tryz.underlying51 rfl HV.out.2.2.2.2 ?_
        simp only [Act.put, List.setIfInBounds_toArray, List.set_cons_zero, List.set_cons_succ]
        refine rg_take 8 (v := ?rv7) rfl (by kernel_rfl) (by kernel_rfl) (by kernel_rfl) (fun _ _ _ h => h) (by rfl) hS (fun w2 hw2 => ?ry7) ?rr7
        case ry7 => ((try dsimp only at hw2); go_simp <;> with_reducible rfl)
        simp only [Act.put, List.setIfInBounds_toArray, List.set_cons_zero, List.set_cons_succ]
        refine rg_done (by kernel_rfl) ?_
        cases q with
        | true =>
          have hne : x ≠ y := by
            have := HV.out.2.2.1
            simpa using this
          go_wp2_with fail
          go_ret
          refine ⟨?_, HX.out.2.2.1.trans (hS.mono HX.out.2.2.1.size)⟩
          rw [← HH.out.2.2.2.2, decide_eq_false (p := xs = ys) (by
            rintro rfl
            have h1 := HX.out.1
            rw [HX.out.2.1] at h1
            exact hne (Option.some.inj h1).symm)]
          rfl
        | false =>
          have heq : x = y := by
            have := HV.out.2.2.1
            simpa using this
          have HQ := Lib.hid heq
          clear heq
          go_wp2_with fail
          exact ⟨⟨k + 1, hkn, by go_num, take_eq_next HT.out HX.out.1 HX.out.2.1 HQ.out, HX.out.2.2.1.trans (hS.mono HX.out.2.2.1.size)⟩, by simp [intOf]; omega⟩
      · obtain rfl : k = n := by omega
        have HX := Lib.hid hbe
        clear hbe
        go_wp2_with fail
        go_ret
        refine ⟨?_, HX.out⟩
        have h1 := HT.out
        rw [List.take_of_length_le (Nat.le_of_eq HH.out.2.2.1), List.take_of_length_le (Nat.le_of_eq HH.out.2.2.2.1)] at h1
        rw [← HH.out.2.2.2.2, decide_eq_true h1]
        rfl
  · have hne : ((n : Int) == (m : Int)) = false := by rw [beq_eq_false_iff_ne]; omega
    have HM := Lib.hid hnm
    clear hnm
    go_enter Tryz.func31, Tryz.ntmps31
    go_wp2_with fail
    go_ret
    refine ⟨?_, Below.refl _ _⟩
    rw [← HH.out.2.2.2.2, decide_eq_false (p := xs = ys) (by
      rintro rfl
      exact HM.out (HH.out.2.2.1.symm.trans HH.out.2.2.2.1))]
    rfl
set_option maxHeartbeats 2000000 in
theorem equalR19 {A B : Option Addr} {n c m d : Nat} {xs ys : List Rw} {w : World} (ha : RwS w A n c xs) (hb : RwS w B m d ys) : Calls Tryz.prog 32 #[.slice A n c, .slice B m d] w fun e w' => e = .returned (.bool (decide (xs = ys))) ∧ Below w.heap.size w w' := by
  have hmx : Tryz.prog.follows .mixedOrders = true := by kernel_rfl
  have ha1 := ha.cap
  have ha2 := ha.max
  have hb1 := hb.cap
  have hb2 := hb.max
  unfold maxLen at ha2 hb2
  have hla := ha.len
  have hlb := hb.len
  obtain ⟨R, hR⟩ : ∃ R, decide (xs = ys) = R := ⟨_, rfl⟩
  rw [hR]
  have HH := Lib.hid (And.intro ha (And.intro hb (And.intro hla (And.intro hlb hR))))
  clear ha hb hla hlb hR
  by_cases hnm : n = m
  · have hnm1 : ((n : Int) == (m : Int)) = true := by rw [beq_iff_eq]; omega
    have HM := Lib.hid hnm
    subst hnm
    clear HM hnm1
    go_enter Tryz.func32, Tryz.ntmps32
    go_wp2_with fail
    go_loopw [13] (fun i wr => ∃ k : Nat, k ≤ n ∧ i = .int .i64 k ∧ Hid (xs.take k = ys.take k) ∧ Below w.heap.size w wr) (fun i _ => n - (intOf i).toNat)
    case atStart => exact ⟨0, Nat.zero_le _, rfl, by simp [Hid], Below.refl _ _⟩
    case round =>
      obtain ⟨k, hk, rfl, HT, hbe⟩ := hrel
      by_cases hkn : k < n
      · obtain ⟨x, hxk⟩ : ∃ x, xs[k]? = some x := ⟨xs[k]'(by have := HH.out.2.2.1; omega), List.getElem?_eq_getElem _⟩
        obtain ⟨y, hyk⟩ : ∃ y, ys[k]? = some y := ⟨ys[k]'(by have := HH.out.2.2.2.1; omega), List.getElem?_eq_getElem _⟩
        obtain ⟨b, off, hA, hrx⟩ := (HH.out.1.later hbe (Nat.le_refl _)).here k x hxk
        obtain ⟨b', off', hB, hry⟩ := (HH.out.2.1.later hbe (Nat.le_refl _)).here k y hyk
        subst hA
        subst hB
        have hox := HH.out.1.ok x (List.mem_of_getElem? hxk)
        have hoy := HH.out.2.1.ok y (List.mem_of_getElem? hyk)
        have HX := Lib.hid (And.intro hxk (And.intro hyk (And.intro hbe (And.intro hrx (And.intro hry (And.intro hox hoy))))))
        have he : ∀ w, (binOp .neq 55 (.agg (rwv x)) (.agg (rwv y))).run Tryz.prog w = .ok (.bool (!decide (x = y))) w := fun w => neq_rw hox hoy w
        obtain ⟨vx, hvx⟩ : ∃ vx, rwv x = vx := ⟨_, rfl⟩
        obtain ⟨vy, hvy⟩ : ∃ vy, rwv y = vy := ⟨_, rfl⟩
        obtain ⟨q, hq⟩ : ∃ q, (!decide (x = y)) = q := ⟨_, rfl⟩
        have hsx : (Tryz.prog.info? 55).map (·.size) = some vx.size := by rw [← hvx]; exact (rw_size hox)
        have hsy : (Tryz.prog.info? 55).map (·.size) = some vy.size := by rw [← hvy]; exact (rw_size hoy)
        rw [hvx, hvy, hq] at he
        have HV := Lib.hid (And.intro hvx (And.intro hvy (And.intro hq (And.intro hsx hsy))))
        have HE := Lib.hid he
        clear hxk hyk hbe hrx hry hox hoy hvx hvy hq hsx hsy he
        go_wp2_with fail
        have hS : Below wr.heap.size wr wr.drew := (Below.refl _ _).drew
        have he := HE.out
        refine rg_begin (fun w' => Below wr.heap.size wr w') 9 (by kernel_rfl) rfl ?_
        refine rg_take 0 (v := ?rv8) rfl (by kernel_rfl) (by kernel_rfl) (by kernel_rfl) (fun _ _ _ h => h) (by rfl) hS (fun w2 hw2 => ?ry8) ?rr8
        case ry8 => ((try dsimp only at hw2); go_simp <;> with_reducible rfl)
        simp only [Act.put, List.setIfInBounds_toArray, List.set_cons_zero, List.set_cons_succ]
        refine rg_take 1 (v := ?rv9) rfl (by kernel_rfl) (by kernel_rfl) (by kernel_rfl) (fun _ _ _ h => h) (by rfl) hS (fun w2 hw2 => ?ry9) ?rr9
        case ry9 => ((try dsimp only at hw2); go_simp <;> with_reducible rfl)
        simp only [Act.put, List.setIfInBounds_toArray, List.set_cons_zero, List.set_cons_succ]
        refine rg_take 4 (v := ?rv10) rfl (by kernel_rfl) (by kernel_rfl) (by kernel_rfl) (fun _ _ _ h => h) (by rfl) hS (fun w2 hw2 => ?ry10) ?rr10
        case ry10 => ((try dsimp only at hw2); go_simp <;> with_reducible rfl)
        simp only [Act.put, List.setIfInBounds_toArray, List.set_cons_zero, List.set_cons_succ]
        refine rg_take 5 (v := ?rv11) rfl (by kernel_rfl) (by kernel_rfl) (by kernel_rfl) (fun _ _ _ h => h) (by rfl) hS (fun w2 hw2 => ?ry11) ?rr11
        case ry11 => ((try dsimp only at hw2); go_simp <;> with_reducible rfl)
        simp only [Act.put, List.setIfInBounds_toArray, List.set_cons_zero, List.set_cons_succ]
        refine rg_take 2 (v := ?rv12) rfl (by kernel_rfl) (by kernel_rfl) (by kernel_rfl) (fun _ _ _ h => h) (by rfl) hS (fun w2 hw2 => ?ry12) ?rr12
        case ry12 => ((try dsimp only at hw2); go_simp <;> with_reducible rfl)
        simp only [Act.put, List.setIfInBounds_toArray, List.set_cons_zero, List.set_cons_succ]
        refine rg_take 6 (v := ?rv13) rfl (by kernel_rfl) (by kernel_rfl) (by kernel_rfl) (fun _ _ _ h => h) (by rfl) hS (fun w2 hw2 => ?ry13) ?rr13
        case ry13 => ((try dsimp only at hw2); go_simp <;> with_reducible rfl)
        simp only [Act.put, List.setIfInBounds_toArray, List.set_cons_zero, List.set_cons_succ]
        refine rg_load 3 rfl (by kernel_rfl) (by kernel_rfl) (by kernel_rfl) b (off + k * 24) vx (fun _ _ _ h => h) (by rfl) 55 (.tmp 18) rfl rfl hS (fun w2 h2 => by rw [← HV.out.1]; exact range_kept HX.out.2.2.2.1 h2 (Nat.le_refl _)) Tryz.underlying55 rfl HV.out.2.2.2.1 ?_
        simp only [Act.put, List.setIfInBounds_toArray, List.set_cons_zero, List.set_cons_succ]
        refine rg_load 7 rfl (by kernel_rfl) (by kernel_rfl) (by kernel_rfl) b' (off' + k * 24) vy (fun _ _ _ h => h) (by rfl) 55 (.tmp 22) rfl rfl hS (fun w2 h2 => by rw [← HV.out.2.1]; exact range_kept HX.out.2.2.2.2.1 h2 (Nat.le_refl _)) Tryz.underlying55 rfl HV.out.2.2.2.2 ?_
        simp only [Act.put, List.setIfInBounds_toArray, List.set_cons_zero, List.set_cons_succ]
        refine rg_take 8 (v := ?rv14) rfl (by kernel_rfl) (by kernel_rfl) (by kernel_rfl) (fun _ _ _ h => h) (by rfl) hS (fun w2 hw2 => ?ry14) ?rr14
        case ry14 => ((try dsimp only at hw2); go_simp <;> with_reducible rfl)
        simp only [Act.put, List.setIfInBounds_toArray, List.set_cons_zero, List.set_cons_succ]
        refine rg_done (by kernel_rfl) ?_
        cases q with
        | true =>
          have hne : x ≠ y := by
            have := HV.out.2.2.1
            simpa using this
          go_wp2_with fail
          go_ret
          refine ⟨?_, HX.out.2.2.1.trans (hS.mono HX.out.2.2.1.size)⟩
          rw [← HH.out.2.2.2.2, decide_eq_false (p := xs = ys) (by
            rintro rfl
            have h1 := HX.out.1
            rw [HX.out.2.1] at h1
            exact hne (Option.some.inj h1).symm)]
          rfl
        | false =>
          have heq : x = y := by
            have := HV.out.2.2.1
            simpa using this
          have HQ := Lib.hid heq
          clear heq
          go_wp2_with fail
          exact ⟨⟨k + 1, hkn, by go_num, take_eq_next HT.out HX.out.1 HX.out.2.1 HQ.out, HX.out.2.2.1.trans (hS.mono HX.out.2.2.1.size)⟩, by simp [intOf]; omega⟩
      · obtain rfl : k = n := by omega
        have HX := Lib.hid hbe
        clear hbe
        go_wp2_with fail
        go_ret
        refine ⟨?_, HX.out⟩
        have h1 := HT.out
        rw [List.take_of_length_le (Nat.le_of_eq HH.out.2.2.1), List.take_of_length_le (Nat.le_of_eq HH.out.2.2.2.1)] at h1
        rw [← HH.out.2.2.2.2, decide_eq_true h1]
        rfl
  · have hne : ((n : Int) == (m : Int)) = false := by rw [beq_eq_false_iff_ne]; omega
    have HM := Lib.hid hnm
    clear hnm
    go_enter Tryz.func32, Tryz.ntmps32
    go_wp2_with fail
    go_ret
    refine ⟨?_, Below.refl _ _⟩
    rw [← HH.out.2.2.2.2, decide_eq_false (p := xs = ys) (by
      rintro rfl
      exact HM.out (HH.out.2.2.1.symm.trans HH.out.2.2.2.1))]
    rfl
end Go.Proofs.YtoagfmonfgagbaaGreatDoor
