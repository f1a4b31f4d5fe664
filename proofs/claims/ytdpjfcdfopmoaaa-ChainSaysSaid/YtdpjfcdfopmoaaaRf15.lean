/-
  The document's own answer on chains: stockaderef12's alias, Follow. Conditions: those of the slices; a million of records at most.
-/
import Derived.Test.YtdpjfcdfopmoaaaHe15
import Derived.IntWalk
import Derived.Deep.DeepCutAuto
namespace Go.Proofs.Ytdpjfcdfopmoaaa
open Go.RowKit
set_option maxRecDepth 100000

theorem results_rk_tmp {fn : Func} {p u : Tmp} (h : fn.results = #[.cell p 42, .tmp u]) (tmps : Array Value) {w : World} {g : Nat} {r : Rk} (hp : tmps.getD p undef = .pointer (some ⟨g, 0, none⟩)) (hA : RkBox w g r) :
    (results fn tmps).run Try.prog w = .ok (.tuple #[.agg (rkv r), tmps.getD u undef]) w := by
  rw [results_cell_tmp h, hp]
  simp [asAddr, run_loadVar_row w g 42 42 (rkv r) (0, 0) _ hA.1 Try.underlying42 rfl (rk_size hA.2)]
theorem run_build_rk0 (w : World) : (Instr.build 42 #[]).run Try.prog w = .ok (.agg (rkv rk0)) w := by kernel_rfl
theorem wpList_build_rk0 {ops : Array Oper} {rest : List Oper} {o : Oper} {a : Act} {w : World} {Q : Exit → Act → World → Prop} (hgd : o.guard = none) (ho : o.op = .build 42 #[])
    (h : wpList Try.prog ops Q rest (a.put o.dst (.agg (rkv rk0))) w) : wpList Try.prog ops Q (o :: rest) a w :=
  wpList_plain hgd fun _ hK => by
    have hrun := run_build_rk0 w
    unfold Oper.wp execOp
    simp only [ho, Sem.run_bind, Sem.run_pure, Result.andThen_ok, List.map_toArray, List.map_nil, hrun]
    exact hK _ _ h
def AliasR (T : Option Rk) (w : World) (e : Ending) (w' : World) : Prop := match T with
  | none => e = .returned (.tuple #[.agg (rkv rk0), .bool false]) ∧ Below w.heap.size w w'
  | some r => e = .returned (.tuple #[.agg (rkv r), .bool true]) ∧ Below w.heap.size w w'
--<< alias
set_option maxHeartbeats 4000000 in
theorem alias_any {A : Option Addr} {n c : Nat} {xs : List Rk} {w : World} (hb : Rks w A n c xs) (s : ByteArray) : Calls Try.prog 19 #[.slice A n c, .string s] w (AliasR (xs.find? (fun x => leads x s)) w) := by
  have hcap := hb.cap
  have hmax := hb.max
  unfold maxLen at hmax
  have hlen := hb.len
  have HB := Lib.hid hb
  clear hb
  go_enter Try.func19, Try.ntmps19
  go_wp2_with (refine wpList_alloc_rk rfl rfl ?_; intro w1 a1 b1 s1; have H1 := Lib.hid (And.intro a1 (And.intro b1 (HB.out.later b1 (Nat.le_refl _)))); clear a1 b1)
  go_loop [6] (fun i => ∃ k : Nat, k ≤ n ∧ i = .int .i64 k ∧ (∀ (j : Nat) (x : Rk), j < k → xs[j]? = some x → leads x s = false)) (fun i => n - (intOf i).toNat)
  case atStart => exact ⟨0, Nat.zero_le _, rfl, fun j x h => absurd h (by omega)⟩
  case round =>
    obtain ⟨k, hk, rfl, hall⟩ := hrel
    by_cases hkn : k < n
    · obtain ⟨x, hxk⟩ : ∃ x, xs[k]? = some x := ⟨xs[k]'(by omega), List.getElem?_eq_getElem _⟩
      obtain ⟨b, off, rfl, hr⟩ := H1.out.2.2.here k x hxk
      have hok := HB.out.ok x (List.mem_of_getElem? hxk)
      obtain ⟨e0, e1, e2, _, _, _⟩ := rk_at hok hr
      have hd := str_dec x.name s
      obtain ⟨q1, hq1⟩ : ∃ q, x.kind = q := ⟨_, rfl⟩
      obtain ⟨q2, hq2⟩ : ∃ q, x.cls = q := ⟨_, rfl⟩
      have hle : leads x s = (decide (x.name = s) && ((q1 == 5) && (q2 == 1))) := by
        unfold leads
        rw [hq1, hq2]
        by_cases g1 : q1 = 5 <;> by_cases g2 : q2 = 1 <;> simp [g1, g2]
      rw [hq1] at e1
      rw [hq2] at e2
      have HX := Lib.hid (And.intro hxk (And.intro hall (And.intro hr hok)))
      clear hxk hall hr hok hq1 hq2
      have hno : leads x s = false → ∀ (j : Nat) (y : Rk), j < k + 1 → xs[j]? = some y → leads y s = false := fun hf j y hj hy => by
        by_cases hjk : j = k
        · subst hjk
          rw [HX.out.1] at hy
          obtain rfl := Option.some.inj hy
          exact hf
        · exact HX.out.2.1 j y (by omega) hy
      have HN := Lib.hid hno
      clear hno
      by_cases h1 : x.name = s
      · rw [decide_eq_true h1] at hd hle
        clear h1
        cases g1 : (q1 == 5) with
        | false =>
          rw [g1] at hle
          have HL := Lib.hid hle
          clear hle
          go_wp2_with fail
          go_round
          case rel => exact ⟨k + 1, hkn, by go_num, HN.out HL.out⟩
          case measure => simp [intOf]; omega
        | true =>
          rw [g1] at hle
          cases g2 : (q2 == 1) with
          | false =>
            rw [g2] at hle
            have HL := Lib.hid hle
            clear hle
            go_wp2_with fail
            go_round
            case rel => exact ⟨k + 1, hkn, by go_num, HN.out HL.out⟩
            case measure => simp [intOf]; omega
          | true =>
            rw [g2] at hle
            have HL := Lib.hid hle
            clear hle
            go_wp2_with (first
              | (refine wpList_load_rk rfl (.tmp 38) rfl rfl HX.out.2.2.2 HX.out.2.2.1 ?_)
              | (refine wpList_store_rk rfl (.tmp 4) (.tmp 39) rfl x rfl rfl HX.out.2.2.2 H1.out.1 ?_; intro w2 a2 _ s2 t2; have H2 := Lib.hid (And.intro a2 (t2 _ _ (Nat.le_refl _) H1.out.2.1)); clear a2 t2))
            rw [find_at HX.out.1 HL.out HX.out.2.1]
            exact bodyPost_ret (results_rk_tmp (by rfl) _ rfl H2.out.1) rfl ⟨rfl, H2.out.2⟩
      · rw [decide_eq_false h1] at hd hle
        have HL := Lib.hid hle
        clear h1 hle
        go_wp2_with fail
        go_round
        case rel => exact ⟨k + 1, hkn, by go_num, HN.out HL.out⟩
        case measure => simp [intOf]; omega
    · obtain rfl : k = n := by omega
      have HX := Lib.hid hall
      clear hall
      go_wp2_with (first
        | (refine wpList_build_rk0 rfl rfl ?_)
        | (refine wpList_store_rk rfl (.tmp 4) (.tmp 40) rfl rk0 rfl rfl rk0_ok H1.out.1 ?_; intro w2 a2 _ s2 t2; have H2 := Lib.hid (And.intro a2 (t2 _ _ (Nat.le_refl _) H1.out.2.1)); clear a2 t2))
      rw [find_no hlen HX.out]
      exact bodyPost_ret (results_rk_tmp (by rfl) _ rfl H2.out.1) rfl ⟨rfl, H2.out.2⟩
-->>
/-- The lesser of two numbers. -/
theorem wpList_minV {P : Program} {ops : Array Oper} {rest : List Oper} {o : Oper} {a : Act} {w : World} {Q : Exit → Act → World → Prop} (hgd : o.guard = none) (x y : Operand) (t : TypeId) (ho : o.op = .call { callee := .builtin .min, args := #[x, y], argTypes := #[t, t] }) (p q : Int) (hx : a.eval x = .int .u32 p) (hy : a.eval y = .int .u32 q)
    (h : wpList P ops Q rest (a.put o.dst (.int .u32 (min p q))) w) : wpList P ops Q (o :: rest) a w :=
  wpList_plain hgd fun _ hK => by
    have e : min p q = if q < p then q else p := by
      by_cases hl : q < p
      · rw [if_pos hl]; exact Int.min_eq_right (by omega)
      · rw [if_neg hl]; exact Int.min_eq_left (by omega)
    rw [e] at h
    unfold Oper.wp
    simp [execOp, ho, resolve, invoke, builtin, hx, hy, Result.andThen]
    exact hK _ _ h
theorem says_parts (r : Rk) (s : ByteArray) : says r s = (decide (r.name = s) && ((r.cls == 1) && ((r.kind == 1) || (r.kind == 28)))) := by
  unfold says
  by_cases g1 : r.cls = 1 <;> by_cases g2 : r.kind = 1 <;> by_cases g3 : r.kind = 28 <;> simp [g1, g2, g3]
--<< fol
theorem hasv_next {fs : List Fo} {j : Nat} {f : Fo} (h : fs[j]? = some f) (v : Bool) (a : List UInt8) : hasv (fs.take (j + 1)) v a = (hasv (fs.take j) v a || sameAd v a f) := by
  unfold hasv
  rw [List.take_add_one, h, List.any_append]
  simp
set_option maxHeartbeats 16000000 in
theorem refFollow_any {A : Option Addr} {n c : Nat} {xs : List Rk} {w : World} (hb : Rks w A n c xs) (hn : n ≤ 1000000) (v0 v1 v2 v3 v4 v5 v7 v8 : Value) (s : ByteArray) : Calls Try.prog 9 #[.agg #[v0, v1, v2, v3, v4, v5, .slice A n c, v7, v8], .string s] w (FollowR (followv xs s) w) := by
  have hcap := hb.cap
  have hmax := hb.max
  unfold maxLen at hmax
  have hlen := hb.len
  obtain ⟨W, hW⟩ : ∃ W, w.alloc (.cells #[v0, v1, v2, v3, v4, v5, .slice A n c, v7, v8] 25) = W := ⟨_, rfl⟩
  have hm : W.heap[w.heap.size]? = some (.cells #[v0, v1, v2, v3, v4, v5, .slice A n c, v7, v8] 25 (0, 0)) := by rw [← hW]; exact heap_alloc_last w _
  have b1 : Below w.heap.size w W := by rw [← hW]; exact (Below.refl _ _).alloc (Nat.le_refl _) _
  have e6 : ∀ w', Below W.heap.size W w' → w'.cell? ⟨w.heap.size, 6, none⟩ = some (.slice A n c) := fun w' h => by
    rw [cell_of_row w' w.heap.size 6 _ _ _ ((h.block _ (lt_of_block hm)).trans hm)]; rfl
  obtain ⟨T, hT⟩ : ∃ T, wayv xs 16 [s] 4294967295 s = T := ⟨_, rfl⟩
  have O0 := World.ownsRow_lit (base := W.heap.size) (e := 9) (size := 1) W #[.string s] 1 (Nat.le_refl _) (by unfold maxLen; omega) rfl
  have B0 : Below W.heap.size W (W.alloc (.cells #[.string s] 9)) := (Below.refl _ _).alloc (Nat.le_refl _) _
  have HT := Lib.hid hT
  have HW := Lib.hid hW
  have HM := Lib.hid (And.intro e6 b1)
  have HB := Lib.hid (hb.later b1 (Nat.le_refl _))
  have H0 := Lib.hid (And.intro O0 B0)
  clear hb hW hm b1 e6 hT O0 B0
  go_enter Try.func9, Try.ntmps9
  go_wp2_with (rw [HW.out])
  go_loopw [1, 6, 7] (fun z v l wr => ∃ (ns : List ByteArray) (left : Int) (cur : ByteArray), z = .string cur ∧ l = .int .u32 left ∧ NamesO wr W.heap.size v ns ∧ 1 ≤ ns.length ∧ ns.length ≤ 16 ∧ ns.getLast? = some cur ∧ wayv xs (17 - ns.length) ns left cur = T ∧ Below W.heap.size W wr) (fun _ v _ _ => 17 - lenOf v)
  case atStart => exact ⟨[s], 4294967295, s, rfl, rfl, H0.out.1, by simp, by simp, rfl, HT.out, H0.out.2⟩
  case round =>
    obtain ⟨ns, left, cur, rfl, rfl, ho, h1, h16, hgl, ht, hbe⟩ := hrel
    obtain ⟨C, d, rfl, hG⟩ := ho.gs
    have c6 := HM.out.1 wr hbe
    have K := Lib.hid (alias_any (HB.out.later hbe (Nat.le_refl _)) cur)
    have HR := Lib.hid (And.intro ho (And.intro hG (And.intro hgl (And.intro ht hbe))))
    clear ho hG hgl ht hbe
    go_wp2_with fail
    refine K.out.mono ?_
    rintro e w1 hr
    cases hf : xs.find? (fun x => leads x cur) with
    | none =>
      --<< none
      rw [hf] at hr
      obtain ⟨rfl, b2⟩ := hr
      obtain ⟨R0, hR0⟩ : ∃ R, rk0 = R := ⟨_, rfl⟩
      rw [hR0]
      have hok0 : R0.ok := hR0 ▸ rk0_ok
      have hT2 := HR.out.2.2.2.1
      rw [show 17 - ns.length = (16 - ns.length) + 1 by omega, wayv_end hf] at hT2
      have hF : followv xs s = (foundv xs cur left, ns) := by
        unfold followv
        rw [HT.out, ← hT2]
        show (foundv xs (ns.getLastD s) left, ns) = _
        rw [List.getLastD_eq_getLast?, HR.out.2.2.1]
        rfl
      have HF := Lib.hid hF
      have H1 := Lib.hid (And.intro (HR.out.1.later b2) (And.intro (HR.out.2.2.2.2.trans (b2.mono HR.out.2.2.2.2.size)) hok0))
      clear b2 hf hR0 hok0 hT2 hF
      go_wp2_with (first
        | (refine wpList_alloc_rk rfl rfl ?_; intro w2 a2 b2 s2; refine wpList_store_rk rfl (.tmp 8) (.tmp 22) rfl R0 rfl rfl H1.out.2.2 a2 ?_; intro w3 a3 _ s3 t3; have b3 := t3 _ _ (Nat.le_refl _) b2; have H3 := Lib.hid (And.intro (H1.out.1.later b3) (H1.out.2.1.trans (b3.mono H1.out.2.1.size))); clear a2 b2 a3 t3 b3))
      go_loopw [10, 11] (fun v i wx => ∃ k : Nat, k ≤ n ∧ i = .int .i64 k ∧ FoO wx w3.heap.size v (foundv (xs.take k) cur left) ∧ (foundv (xs.take k) cur left).length ≤ k ∧ Below w3.heap.size w3 wx) (fun _ i _ => n - (intOf i).toNat)
      case atStart => exact ⟨0, Nat.zero_le _, rfl, FoO.nil _ _, Nat.zero_le _, Below.refl _ _⟩
      case round =>
        obtain ⟨k, hk, rfl, ho, hfl, hbe⟩ := hrel
        have hbW : Below W.heap.size W wr := H3.out.2.trans (hbe.mono H3.out.2.size)
        have c6 := HM.out.1 wr hbW
        by_cases hkn : k < n
        · obtain ⟨x, hxk⟩ : ∃ x, xs[k]? = some x := ⟨xs[k]'(by omega), List.getElem?_eq_getElem _⟩
          obtain ⟨b, off, rfl, hr⟩ := (HB.out.later hbW (Nat.le_refl _)).here k x hxk
          have hok := HB.out.ok x (List.mem_of_getElem? hxk)
          have hnx := foundv_next hxk cur left
          obtain ⟨fs, hfs⟩ : ∃ fs, foundv (xs.take k) cur left = fs := ⟨_, rfl⟩
          rw [hfs] at ho hfl hnx
          have hl1 := fstep_len cur left fs x
          obtain ⟨B, d2, rfl, hS⟩ := Fos.of_own ho
          have HX := Lib.hid (And.intro hbe (And.intro hr hok))
          have HO := Lib.hid (And.intro ho (And.intro hfl hS))
          have HN := Lib.hid (And.intro hnx hl1)
          clear hxk ho hfl hfs hbe hr hok hnx hl1 hS hbW
          go_upto_region 14 with (first
            | (refine wpList_load_rk rfl (.tmp 55) rfl rfl HX.out.2.2 HX.out.2.1 ?_)
            | (refine wpList_alloc_rk rfl rfl ?_; intro w4 a4 b4 s4; refine wpList_store_rk rfl (.tmp 12) (.tmp 56) rfl x rfl rfl HX.out.2.2 a4 ?_; intro w5 a5 _ s5 t5; have H5 := Lib.hid (And.intro a5 (t5 _ _ (Nat.le_refl _) b4)); clear a4 b4 a5 t5))
          simp only [Act.put, List.setIfInBounds_toArray, List.set_cons_zero, List.set_cons_succ]
          go_cut [13] (fun t wy => t = .bool (!(says x cur)) ∧ wy = w5)
          case first =>
            have e0 := H5.out.1.name
            have e1 := H5.out.1.kind
            have e2 := H5.out.1.cls
            have hd := str_dec x.name cur
            have hle := says_parts x cur
            obtain ⟨q1, hq1⟩ : ∃ q, x.kind = q := ⟨_, rfl⟩
            obtain ⟨q2, hq2⟩ : ∃ q, x.cls = q := ⟨_, rfl⟩
            rw [hq1] at e1 hle
            rw [hq2] at e2 hle
            clear hq1 hq2
            by_cases h1 : x.name = cur
            · rw [decide_eq_true h1] at hd hle
              clear h1
              have n1 : (q1 != 1) = !(q1 == 1) := rfl
              have n2 : (q2 != 1) = !(q2 == 1) := rfl
              have n3 : (q1 != 28) = !(q1 == 28) := rfl
              cases g1 : (q1 == 1) with
              | true =>
                rw [g1] at hle n1
                cases g2 : (q2 == 1) with
                | true =>
                  rw [g2] at hle n2
                  have HL := Lib.hid hle
                  clear hle
                  go_wp2_with fail
                  go_meet
                  rw [HL.out]
                  exact ⟨rfl, rfl⟩
                | false =>
                  rw [g2] at hle n2
                  have HL := Lib.hid hle
                  clear hle
                  go_wp2_with fail
                  go_meet
                  rw [HL.out]
                  exact ⟨rfl, rfl⟩
              | false =>
                rw [g1] at hle n1
                cases g3 : (q1 == 28) with
                | true =>
                  rw [g3] at hle n3
                  cases g2 : (q2 == 1) with
                  | true =>
                    rw [g2] at hle n2
                    have HL := Lib.hid hle
                    clear hle
                    go_wp2_with fail
                    go_meet
                    rw [HL.out]
                    exact ⟨rfl, rfl⟩
                  | false =>
                    rw [g2] at hle n2
                    have HL := Lib.hid hle
                    clear hle
                    go_wp2_with fail
                    go_meet
                    rw [HL.out]
                    exact ⟨rfl, rfl⟩
                | false =>
                  rw [g3] at hle n3
                  have hle : says x cur = false := by rw [hle]; cases (q2 == 1) <;> rfl
                  have HL := Lib.hid hle
                  clear hle
                  go_wp2_with fail
                  go_meet
                  rw [HL.out]
                  exact ⟨rfl, rfl⟩
            · rw [decide_eq_false h1] at hd hle
              clear h1
              have HL := Lib.hid hle
              clear hle
              go_wp2_with fail
              go_meet
              rw [HL.out]
              exact ⟨rfl, rfl⟩
          case rest =>
          obtain ⟨rfl, hwc⟩ := hcut
          rw [hwc]
          clear hwc
          obtain ⟨t0, ht0⟩ : ∃ t, (!(says x cur)) = t := ⟨_, rfl⟩
          rw [ht0]
          have HT0 := Lib.hid ht0
          clear ht0
          have hw5 := H5.out.2
          have hg5 := H5.out.1
          have HS5 := Lib.hid (And.intro (HO.out.2.2.later hw5 (Nat.le_refl _)) (HO.out.1.later hw5))
          obtain ⟨g, hg⟩ : ∃ g, wr.heap.size = g := ⟨_, rfl⟩
          have HG5 := Lib.hid (hg ▸ hg5)
          rw [hg]
          clear hw5 hg5
          have HG := Lib.hid hg
          clear hg
          have hfl := HS5.out.1.len
          have hfm := Nat.le_trans HS5.out.1.cap HS5.out.1.max
          unfold maxLen at hfm
          go_wp2_with fail
          go_loopw [13, 14] (fun t j wy => ∃ q : Nat, q ≤ fs.length ∧ j = .int .i64 q ∧ t = .bool (t0 || hasv (fs.take q) x.v6 x.adr) ∧ Below w5.heap.size w5 wy) (fun _ j _ => fs.length - (intOf j).toNat)
          case atStart => exact ⟨0, Nat.zero_le _, rfl, by simp [hasv], Below.refl _ _⟩
          case round =>
            obtain ⟨q, hq, rfl, rfl, hbe⟩ := hrel
            by_cases hqn : q < fs.length
            · obtain ⟨f, hfq⟩ : ∃ f, fs[q]? = some f := ⟨fs[q], List.getElem?_eq_getElem _⟩
              have hnx := hasv_next hfq x.v6 x.adr
              obtain ⟨fb, fo, rfl, hfr⟩ := (HS5.out.1.later hbe (Nat.le_refl _)).here q f hfq
              have hfk := HS5.out.1.ok f (List.mem_of_getElem? hfq)
              obtain ⟨tt, htt⟩ : ∃ t, (t0 || hasv (fs.take q) x.v6 x.adr) = t := ⟨_, rfl⟩
              rw [htt]
              obtain ⟨X1, hX1⟩ : ∃ X, adv f.v6 f.adr = X := ⟨_, rfl⟩
              obtain ⟨X2, hX2⟩ : ∃ X, adv x.v6 x.adr = X := ⟨_, rfl⟩
              have heq := eql_adk f.v6 x.v6 hfk HG5.out.2.1
              have hr1 := (fo_at hfk hfr).1
              have hr2 := (HG5.out.later hbe (Nat.le_refl _)).adrR
              have hs1 : (Try.prog.info? 34).map (·.size) = some X1.size := by rw [← hX1]; exact ad_size f.v6 hfk
              have hs2 : (Try.prog.info? 34).map (·.size) = some X2.size := by rw [← hX2]; exact ad_size x.v6 HG5.out.2.1
              rw [hX1, hX2, show ((f.v6 == x.v6) && (f.adr == x.adr)) = sameAd x.v6 x.adr f from rfl] at heq
              rw [hX1] at hr1
              rw [hX2] at hr2
              obtain ⟨sb, hsb⟩ : ∃ s, sameAd x.v6 x.adr f = s := ⟨_, rfl⟩
              rw [hsb] at heq hnx
              have HE := Lib.hid (And.intro hbe (And.intro hnx htt))
              have HRR := Lib.hid (And.intro hr1 hr2)
              have HS := Lib.hid (And.intro hs1 hs2)
              have g0 : (0 : Int) ≤ (q : Int) := by omega
              have g1 : (q : Int) < (fs.length : Int) := by omega
              have hS : Below wr.heap.size wr wr.drew := (Below.refl _ _).drew
              clear hfq hnx hfr hfk hbe htt hX1 hX2 hr1 hr2 hs1 hs2 hsb
              cases tt with
              | true =>
                  go_wp2_with fail
                  refine rg_begin (fun w' => Below wr.heap.size wr w') 12 (by kernel_rfl) rfl ?_
                  refine rg_take 0 (v := ?rv1) rfl (by kernel_rfl) (by kernel_rfl) (by kernel_rfl) (fun _ _ _ h => h) (by rfl) hS (fun w2 hw2 => ?ry1) ?rr1
                  case ry1 => ((try dsimp only at hw2); go_simp <;> with_reducible rfl)
                  simp only [Act.put, List.setIfInBounds_toArray, List.set_cons_zero, List.set_cons_succ]
                  refine rg_take 1 (v := ?rv2) rfl (by kernel_rfl) (by kernel_rfl) (by kernel_rfl) (fun _ _ _ h => h) (by rfl) hS (fun w2 hw2 => ?ry2) ?rr2
                  case ry2 => ((try dsimp only at hw2); go_simp <;> with_reducible rfl)
                  simp only [Act.put, List.setIfInBounds_toArray, List.set_cons_zero, List.set_cons_succ]
                  refine rg_skip 2 rfl (by kernel_rfl) (by kernel_rfl) (by kernel_rfl) (fun _ _ _ h => h) (by rfl) hS ?_
                  simp only [Act.put, List.setIfInBounds_toArray, List.set_cons_zero, List.set_cons_succ]
                  refine rg_skip 3 rfl (by kernel_rfl) (by kernel_rfl) (by kernel_rfl) (fun _ _ _ h => h) (by rfl) hS ?_
                  simp only [Act.put, List.setIfInBounds_toArray, List.set_cons_zero, List.set_cons_succ]
                  refine rg_skip 4 rfl (by kernel_rfl) (by kernel_rfl) (by kernel_rfl) (fun _ _ _ h => h) (by rfl) hS ?_
                  simp only [Act.put, List.setIfInBounds_toArray, List.set_cons_zero, List.set_cons_succ]
                  refine rg_skip 5 rfl (by kernel_rfl) (by kernel_rfl) (by kernel_rfl) (fun _ _ _ h => h) (by rfl) hS ?_
                  simp only [Act.put, List.setIfInBounds_toArray, List.set_cons_zero, List.set_cons_succ]
                  refine rg_skip 6 rfl (by kernel_rfl) (by kernel_rfl) (by kernel_rfl) (fun _ _ _ h => h) (by rfl) hS ?_
                  simp only [Act.put, List.setIfInBounds_toArray, List.set_cons_zero, List.set_cons_succ]
                  refine rg_skip 7 rfl (by kernel_rfl) (by kernel_rfl) (by kernel_rfl) (fun _ _ _ h => h) (by rfl) hS ?_
                  simp only [Act.put, List.setIfInBounds_toArray, List.set_cons_zero, List.set_cons_succ]
                  refine rg_skip 8 rfl (by kernel_rfl) (by kernel_rfl) (by kernel_rfl) (fun _ _ _ h => h) (by rfl) hS ?_
                  simp only [Act.put, List.setIfInBounds_toArray, List.set_cons_zero, List.set_cons_succ]
                  refine rg_skip 9 rfl (by kernel_rfl) (by kernel_rfl) (by kernel_rfl) (fun _ _ _ h => h) (by rfl) hS ?_
                  simp only [Act.put, List.setIfInBounds_toArray, List.set_cons_zero, List.set_cons_succ]
                  refine rg_take 10 (v := ?rv3) rfl (by kernel_rfl) (by kernel_rfl) (by kernel_rfl) (fun _ _ _ h => h) (by rfl) hS (fun w2 hw2 => ?ry3) ?rr3
                  case ry3 => ((try dsimp only at hw2); go_simp <;> with_reducible rfl)
                  simp only [Act.put, List.setIfInBounds_toArray, List.set_cons_zero, List.set_cons_succ]
                  refine rg_take 11 (v := ?rv4) rfl (by kernel_rfl) (by kernel_rfl) (by kernel_rfl) (fun _ _ _ h => h) (by rfl) hS (fun w2 hw2 => ?ry4) ?rr4
                  case ry4 => ((try dsimp only at hw2); go_simp <;> with_reducible rfl)
                  simp only [Act.put, List.setIfInBounds_toArray, List.set_cons_zero, List.set_cons_succ]
                  refine rg_done (by kernel_rfl) ?_
                  go_wp2_with fail
                  refine ⟨⟨q + 1, hqn, by go_num, ?_, HE.out.1.drew⟩, by simp [intOf]; omega⟩
                  rw [HE.out.2.1, ← Bool.or_assoc, HE.out.2.2]
                  rfl
              | false =>
                  go_wp2_with fail
                  refine rg_begin (fun w' => Below wr.heap.size wr w') 12 (by kernel_rfl) rfl ?_
                  refine rg_take 0 (v := ?rv5) rfl (by kernel_rfl) (by kernel_rfl) (by kernel_rfl) (fun _ _ _ h => h) (by rfl) hS (fun w2 hw2 => ?ry5) ?rr5
                  case ry5 => ((try dsimp only at hw2); go_simp <;> with_reducible rfl)
                  simp only [Act.put, List.setIfInBounds_toArray, List.set_cons_zero, List.set_cons_succ]
                  refine rg_take 1 (v := ?rv6) rfl (by kernel_rfl) (by kernel_rfl) (by kernel_rfl) (fun _ _ _ h => h) (by rfl) hS (fun w2 hw2 => ?ry6) ?rr6
                  case ry6 => ((try dsimp only at hw2); go_simp <;> with_reducible rfl)
                  simp only [Act.put, List.setIfInBounds_toArray, List.set_cons_zero, List.set_cons_succ]
                  refine rg_take 2 (v := ?rv7) rfl (by kernel_rfl) (by kernel_rfl) (by kernel_rfl) (fun _ _ _ h => h) (by rfl) hS (fun w2 hw2 => ?ry7) ?rr7
                  case ry7 => ((try dsimp only at hw2); go_simp <;> with_reducible rfl)
                  simp only [Act.put, List.setIfInBounds_toArray, List.set_cons_zero, List.set_cons_succ]
                  refine rg_take 3 (v := ?rv8) rfl (by kernel_rfl) (by kernel_rfl) (by kernel_rfl) (fun _ _ _ h => h) (by rfl) hS (fun w2 hw2 => ?ry8) ?rr8
                  case ry8 => ((try dsimp only at hw2); go_simp <;> with_reducible rfl)
                  simp only [Act.put, List.setIfInBounds_toArray, List.set_cons_zero, List.set_cons_succ]
                  refine rg_take 7 (v := ?rv9) rfl (by kernel_rfl) (by kernel_rfl) (by kernel_rfl) (fun _ _ _ h => h) (by rfl) hS (fun w2 hw2 => ?ry9) ?rr9
                  case ry9 => ((try dsimp only at hw2); go_simp <;> with_reducible rfl)
                  simp only [Act.put, List.setIfInBounds_toArray, List.set_cons_zero, List.set_cons_succ]
                  refine rg_take 4 (v := ?rv10) rfl (by kernel_rfl) (by kernel_rfl) (by kernel_rfl) (fun _ _ _ h => h) (by rfl) hS (fun w2 hw2 => ?ry10) ?rr10
                  case ry10 => ((try dsimp only at hw2); go_simp <;> with_reducible rfl)
                  simp only [Act.put, List.setIfInBounds_toArray, List.set_cons_zero, List.set_cons_succ]
                  refine rg_load 8 rfl (by kernel_rfl) (by kernel_rfl) (by kernel_rfl) (g ) (4) (X2) (fun _ _ _ h => h) (by rfl) 34 (.tmp 89) rfl rfl hS (fun w2 h2 => rangeAt_kept HRR.out.2 h2 (Nat.le_refl _)) Try.underlying34 rfl (HS.out.2) ?_
                  simp only [Act.put, List.setIfInBounds_toArray, List.set_cons_zero, List.set_cons_succ]
                  refine rg_take 5 (v := ?rv11) rfl (by kernel_rfl) (by kernel_rfl) (by kernel_rfl) (fun _ _ _ h => h) (by rfl) hS (fun w2 hw2 => ?ry11) ?rr11
                  case ry11 => ((try dsimp only at hw2); go_simp <;> with_reducible rfl)
                  simp only [Act.put, List.setIfInBounds_toArray, List.set_cons_zero, List.set_cons_succ]
                  refine rg_load 6 rfl (by kernel_rfl) (by kernel_rfl) (by kernel_rfl) (fb) (fo + q * 18) (X1) (fun _ _ _ h => h) (by rfl) 34 (.tmp 87) rfl rfl hS (fun w2 h2 => rangeAt_kept HRR.out.1 h2 (Nat.le_refl _)) Try.underlying34 rfl (HS.out.1) ?_
                  simp only [Act.put, List.setIfInBounds_toArray, List.set_cons_zero, List.set_cons_succ]
                  refine rg_take 9 (v := ?rv12) rfl (by kernel_rfl) (by kernel_rfl) (by kernel_rfl) (fun _ _ _ h => h) (by rfl) hS (fun w2 hw2 => ?ry12) ?rr12
                  case ry12 => ((try dsimp only at hw2); go_simp <;> with_reducible rfl)
                  simp only [Act.put, List.setIfInBounds_toArray, List.set_cons_zero, List.set_cons_succ]
                  refine rg_take 10 (v := ?rv13) rfl (by kernel_rfl) (by kernel_rfl) (by kernel_rfl) (fun _ _ _ h => h) (by rfl) hS (fun w2 hw2 => ?ry13) ?rr13
                  case ry13 => ((try dsimp only at hw2); go_simp <;> with_reducible rfl)
                  simp only [Act.put, List.setIfInBounds_toArray, List.set_cons_zero, List.set_cons_succ]
                  refine rg_take 11 (v := ?rv14) rfl (by kernel_rfl) (by kernel_rfl) (by kernel_rfl) (fun _ _ _ h => h) (by rfl) hS (fun w2 hw2 => ?ry14) ?rr14
                  case ry14 => ((try dsimp only at hw2); go_simp <;> with_reducible rfl)
                  simp only [Act.put, List.setIfInBounds_toArray, List.set_cons_zero, List.set_cons_succ]
                  refine rg_done (by kernel_rfl) ?_
                  go_wp2_with fail
                  refine ⟨⟨q + 1, hqn, by go_num, ?_, HE.out.1.drew⟩, by simp [intOf]; omega⟩
                  rw [HE.out.2.1, ← Bool.or_assoc, HE.out.2.2]
                  rfl
            · obtain rfl : q = fs.length := by omega
              rw [List.take_length]
              have HE := Lib.hid hbe
              clear hbe
              cases hv : (t0 || hasv fs x.v6 x.adr) with
              | true =>
                have hno : fstep cur left fs x = fs := fstep_no (by
                  rcases Bool.or_eq_true_iff.1 hv with h | h
                  · exact .inl (by rw [← HT0.out] at h; simpa using h)
                  · exact .inr h)
                have HV := Lib.hid hno
                clear hv hno
                go_wp2_with fail
                refine ⟨⟨k + 1, hkn, by go_num, ?_, ?_, HX.out.1.trans ((H5.out.2.mono HX.out.1.size).trans (HE.out.mono (Nat.le_trans HX.out.1.size H5.out.2.size)))⟩, by simp [intOf]; omega⟩
                · rw [HN.out.1, HV.out]
                  exact HS5.out.2.later HE.out
                · rw [HN.out.1]; have := HN.out.2; have := HO.out.2.1; omega
              | false =>
                obtain ⟨hv1, hv2⟩ := Bool.or_eq_false_iff.1 hv
                have hsy : says x cur = true := by rw [← HT0.out] at hv1; simpa using hv1
                obtain ⟨f, hf⟩ : ∃ f : Fo, f = ⟨x.v6, x.adr, min left x.ttl⟩ := ⟨_, rfl⟩
                have hfk : f.ok := by rw [hf]; exact HG5.out.2.1
                have f1 : Value.agg (adv x.v6 x.adr) = .agg (adv f.v6 f.adr) := by rw [hf]
                have f2 : Value.int .u32 (min left x.ttl) = .int .u32 f.ttl := by rw [hf]
                have hff : fstep cur left fs x = fs ++ [f] := by rw [fstep_yes hsy hv2, hf]
                have HF2 := Lib.hid (And.intro hfk (And.intro f1 (And.intro f2 hff)))
                have HG6 := Lib.hid (HG5.out.later HE.out (Nat.le_refl _))
                have e3 := HG6.out.ttl
                have HO6 := Lib.hid (HS5.out.2.later HE.out)
                have HB6 := Lib.hid (HX.out.1.trans ((H5.out.2.mono HX.out.1.size).trans (HE.out.mono (Nat.le_trans HX.out.1.size H5.out.2.size))))
                clear hf hfk f1 f2 hff hv hv1 hv2 hsy
                go_wp2_with (first
                  | (refine wpList_load_adr rfl (.tmp 96) rfl rfl HG6.out.2.1 HG6.out.adrR ?_)
                  | (refine wpList_minV rfl (.tmp 98) (.tmp 100) 35 rfl left x.ttl rfl rfl ?_; rw [HF2.out.2.2.1])
                  | (refine wpList_build_fo rfl (.tmp 97) (.tmp 101) rfl f HF2.out.1 HF2.out.2.1 rfl ?_)
                  | (refine wpList_one15 rfl 27 37 (.tmp 102) rfl (fov f) rfl infoFo (fov_size HF2.out.1) (by decide) (by decide) Try.underlying27 ?_; have H7 := Lib.hid (And.intro (FoBox.new wr HF2.out.1) (And.intro (HO6.out.later ((Below.refl _ _).alloc (Nat.le_refl _) (.cells (fov f) 37))) (HB6.out.trans ((Below.refl _ wr).alloc HB6.out.size (.cells (fov f) 37))))); generalize wr.alloc (.cells (fov f) 37) = w7 at H7 ⊢)
                  | (refine wpList_push_fo rfl (.tmp 95) (.tmp 103) rfl w3.heap.size _ fs rfl H7.out.2.1 rfl H7.out.1 (by have := HO.out.2.1; omega) H7.out.2.2.size ?_; intro v8 w8 o8 g8; have H8 := Lib.hid (And.intro o8 (H7.out.2.2.grown g8 H7.out.2.2.size (fun x hx => (World.ownsRow.lt H7.out.2.1.1 x hx).1))); clear o8 g8))
                refine ⟨⟨k + 1, hkn, by go_num, ?_, ?_, H8.out.2⟩, by simp [intOf]; omega⟩
                · rw [HN.out.1, HF2.out.2.2.2]
                  exact H8.out.1
                · rw [HN.out.1]; have := HN.out.2; have := HO.out.2.1; omega
        · obtain rfl : k = n := by omega
          rw [List.take_of_length_le (by omega)] at ho
          obtain ⟨B, d2, rfl, hS⟩ := Fos.of_own ho
          have HX := Lib.hid (And.intro hS (And.intro (H3.out.1.later hbe) hbW))
          clear ho hfl hbe hS hbW
          go_wp2_with fail
          rw [HF.out]
          obtain ⟨C', d', hC, hG'⟩ := HX.out.2.1.gs
          cases hC
          exact bodyPost_ret (v := .tuple #[.slice B _ d2, .slice C ns.length d]) (by simp [results, Try.results9, go_sem]) rfl ⟨B, _, d2, C, _, d, rfl, HX.out.1, hG', HM.out.2.trans (HX.out.2.2.mono HM.out.2.size)⟩
      -->>
    | some x =>
      rw [hf] at hr
      obtain ⟨rfl, b2⟩ := hr
      have hxm : x ∈ xs := List.mem_of_find?_eq_some hf
      have hok := HB.out.ok x hxm
      have H1 := Lib.hid (And.intro (HR.out.1.later b2) (And.intro (HR.out.2.2.2.2.trans (b2.mono HR.out.2.2.2.2.size)) hok))
      have HF := Lib.hid hf
      clear b2 hf hxm hok
      go_wp2_with (first
        | (refine wpList_alloc_rk rfl rfl ?_; intro w2 a2 b2 s2; refine wpList_store_rk rfl (.tmp 8) (.tmp 22) rfl x rfl rfl H1.out.2.2 a2 ?_; intro w3 a3 _ s3 t3; have b3 := t3 _ _ (Nat.le_refl _) b2; have H3 := Lib.hid (And.intro a3 (And.intro (H1.out.1.later b3) (H1.out.2.1.trans (b3.mono H1.out.2.1.size)))); have e5 := a3.target; clear a2 b2 a3 t3 b3))
      clear s2 s3
      obtain ⟨C', d', hC, hG3⟩ := H3.out.2.1.gs
      cases hC
      refine (inT_any hG3 x.target).mono ?_
      rintro e w4 ⟨rfl, rfl⟩
      cases hin : inb x.target ns with
      | true =>
        have hT2 := HR.out.2.2.2.1
        rw [show 17 - ns.length = (16 - ns.length) + 1 by omega, wayv_no HF.out (.inl hin)] at hT2
        have HT2 := Lib.hid hT2
        clear hT2 hin hG3
        go_wp2_with fail
        rw [show followv xs s = ([], []) by unfold followv; rw [HT.out, ← HT2.out]]
        exact bodyPost_ret (v := .tuple #[.slice none 0 0, .slice none 0 0]) (by simp [results, Try.results9, go_sem]) rfl ⟨none, 0, 0, none, 0, 0, rfl, Fos.nil _, Gs.nil _, HM.out.2.trans (H3.out.2.2.mono HM.out.2.size)⟩
      | false =>
        by_cases hl : 16 ≤ ns.length
        · have hT2 := HR.out.2.2.2.1
          rw [show 17 - ns.length = (16 - ns.length) + 1 by omega, wayv_no HF.out (.inr (by omega))] at hT2
          have HT2 := Lib.hid hT2
          clear hT2 hin hG3
          go_wp2_with fail
          rw [show followv xs s = ([], []) by unfold followv; rw [HT.out, ← HT2.out]]
          exact bodyPost_ret (v := .tuple #[.slice none 0 0, .slice none 0 0]) (by simp [results, Try.results9, go_sem]) rfl ⟨none, 0, 0, none, 0, 0, rfl, Fos.nil _, Gs.nil _, HM.out.2.trans (H3.out.2.2.mono HM.out.2.size)⟩
        · have hT2 := HR.out.2.2.2.1
          rw [show 17 - ns.length = (16 - ns.length) + 1 by omega, wayv_on HF.out hin (by omega)] at hT2
          have HT2 := Lib.hid hT2
          have hS : Below w3.heap.size w3 w3.drew := (Below.refl _ _).drew
          have r1 : ∀ w', Below w3.heap.size w3 w' → w'.cell? ⟨w1.heap.size, 21, none⟩ = some (.string x.target) := fun w' h => (h.cell (p := ⟨w1.heap.size, 21, none⟩) H3.out.1.lt).trans H3.out.1.target
          have r2 : ∀ w', Below w3.heap.size w3 w' → w'.cell? ⟨w1.heap.size, 3, none⟩ = some (.int .u32 x.ttl) := fun w' h => (h.cell (p := ⟨w1.heap.size, 3, none⟩) H3.out.1.lt).trans H3.out.1.ttl
          have b5 : Below w3.heap.size w3 (w3.alloc (.cells #[.string x.target] 9)).drew := ((Below.refl _ _).alloc (Nat.le_refl _) _).drew
          have G5 : Gs (w3.alloc (.cells #[.string x.target] 9)).drew (some ⟨w3.heap.size, 0, none⟩) 1 1 [.string x.target] := (Gs.lit w3 [.string x.target] 1 rfl (by unfold maxLen; omega) #[.string x.target] rfl 9).later (Below.refl _ _).drew (Nat.le_refl _)
          have H5 := Lib.hid (And.intro (H3.out.2.1.later b5) (And.intro G5 (H3.out.2.2.trans (b5.mono H3.out.2.2.size))))
          clear hT2 hin hG3 b5 G5
          by_cases hlt : x.ttl < left
          · have hmn : min left x.ttl = x.ttl := Int.min_eq_right (by omega)
            have HM2 := Lib.hid hmn
            clear hmn
            go_wp2_with fail
            refine rg_begin (fun w' => Below w3.heap.size w3 w') 8 (by kernel_rfl) rfl ?_
            refine rg_take 0 (v := ?rv15) rfl (by kernel_rfl) (by kernel_rfl) (by kernel_rfl) (fun _ _ _ h => h) (by rfl) hS (fun w2 hw2 => ?ry15) ?rr15
            case ry15 => ((try dsimp only at hw2); go_simp <;> with_reducible rfl)
            simp only [Act.put, List.setIfInBounds_toArray, List.set_cons_zero, List.set_cons_succ]
            refine rg_take 2 (v := ?rv16) rfl (by kernel_rfl) (by kernel_rfl) (by kernel_rfl) (fun _ _ _ h => h) (by rfl) hS (fun w2 hw2 => ?ry16) ?rr16
            case ry16 => ((try dsimp only at hw2); go_simp <;> with_reducible rfl)
            simp only [Act.put, List.setIfInBounds_toArray, List.set_cons_zero, List.set_cons_succ]
            refine rg_take 3 (v := ?rv17) rfl (by kernel_rfl) (by kernel_rfl) (by kernel_rfl) (fun _ _ _ h => h) (by rfl) hS (fun w2 hw2 => ?ry17) ?rr17
            case ry17 => ((try dsimp only at hw2); go_simp <;> with_reducible rfl)
            simp only [Act.put, List.setIfInBounds_toArray, List.set_cons_zero, List.set_cons_succ]
            refine rg_take 1 (v := ?rv18) rfl (by kernel_rfl) (by kernel_rfl) (by kernel_rfl) (fun _ _ _ h => h) (by rfl) hS (fun w2 hw2 => ?ry18) ?rr18
            case ry18 => ((try dsimp only at hw2); go_simp <;> with_reducible rfl)
            simp only [Act.put, List.setIfInBounds_toArray, List.set_cons_zero, List.set_cons_succ]
            refine rg_take 4 (v := ?rv19) rfl (by kernel_rfl) (by kernel_rfl) (by kernel_rfl) (fun _ _ _ h => h) (by rfl) hS (fun w2 hw2 => ?ry19) ?rr19
            case ry19 => ((try dsimp only at hw2); go_simp <;> with_reducible rfl)
            simp only [Act.put, List.setIfInBounds_toArray, List.set_cons_zero, List.set_cons_succ]
            refine rg_take 5 (v := ?rv20) rfl (by kernel_rfl) (by kernel_rfl) (by kernel_rfl) (fun _ _ _ h => h) (by rfl) hS (fun w2 hw2 => ?ry20) ?rr20
            case ry20 => ((try dsimp only at hw2); go_simp <;> with_reducible rfl)
            simp only [Act.put, List.setIfInBounds_toArray, List.set_cons_zero, List.set_cons_succ]
            refine rg_take 6 (v := ?rv21) rfl (by kernel_rfl) (by kernel_rfl) (by kernel_rfl) (fun _ _ _ h => h) (by rfl) hS (fun w2 hw2 => ?ry21) ?rr21
            case ry21 => ((try dsimp only at hw2); go_simp <;> with_reducible rfl)
            simp only [Act.put, List.setIfInBounds_toArray, List.set_cons_zero, List.set_cons_succ]
            refine rg_take 7 (v := ?rv22) rfl (by kernel_rfl) (by kernel_rfl) (by kernel_rfl) (fun _ _ _ h => h) (by rfl) hS (fun w2 hw2 => ?ry22) ?rr22
            case ry22 => ((try dsimp only at hw2); go_simp <;> with_reducible rfl)
            simp only [Act.put, List.setIfInBounds_toArray, List.set_cons_zero, List.set_cons_succ]
            refine rg_done (by kernel_rfl) ?_
            have HLT := Lib.hid hlt
            clear hlt r1 r2 e5
            go_wp2_with (first
              | (at_builtin; refine wpList_append_gs rfl (.tmp 41) (.tmp 43) 28 rfl W.heap.size 9 infoStr rfl (by decide) Try.underlying28 _ ns.length (sv ns) rfl H5.out.1 (some ⟨w3.heap.size, 0, none⟩) 1 1 [.string x.target] rfl H5.out.2.1 (fun u hu => by obtain rfl := List.mem_singleton.1 hu; rfl) (by omega) H5.out.2.2.size ?_; intro v6 w6 o6 g6; have H6 := Lib.hid (And.intro o6 (H5.out.2.2.grown g6 H5.out.2.2.size (fun q hq => (World.ownsRow.lt H5.out.1 q hq).1))); clear o6 g6)
              )
            have o7 : NamesO w6 W.heap.size v6 (ns ++ [x.target]) := by
              unfold NamesO
              rw [List.length_append, sv_append]
              exact H6.out.1
            obtain ⟨C7, d7, rfl, _⟩ := o7.gs
            refine ⟨⟨ns ++ [x.target], x.ttl, x.target, rfl, rfl, o7, by simp, by simp; omega, by simp, ?_, H6.out.2⟩, by simp [lenOf]; omega⟩
            rw [← HT2.out, HM2.out, List.length_append]
            rw [show 17 - (ns.length + [x.target].length) = 16 - ns.length by have : [x.target].length = 1 := rfl; omega]
          · have hmn : min left x.ttl = left := Int.min_eq_left (by omega)
            have HM2 := Lib.hid hmn
            clear hmn
            go_wp2_with fail
            refine rg_begin (fun w' => Below w3.heap.size w3 w') 8 (by kernel_rfl) rfl ?_
            refine rg_take 0 (v := ?rv23) rfl (by kernel_rfl) (by kernel_rfl) (by kernel_rfl) (fun _ _ _ h => h) (by rfl) hS (fun w2 hw2 => ?ry23) ?rr23
            case ry23 => ((try dsimp only at hw2); go_simp <;> with_reducible rfl)
            simp only [Act.put, List.setIfInBounds_toArray, List.set_cons_zero, List.set_cons_succ]
            refine rg_take 2 (v := ?rv24) rfl (by kernel_rfl) (by kernel_rfl) (by kernel_rfl) (fun _ _ _ h => h) (by rfl) hS (fun w2 hw2 => ?ry24) ?rr24
            case ry24 => ((try dsimp only at hw2); go_simp <;> with_reducible rfl)
            simp only [Act.put, List.setIfInBounds_toArray, List.set_cons_zero, List.set_cons_succ]
            refine rg_take 3 (v := ?rv25) rfl (by kernel_rfl) (by kernel_rfl) (by kernel_rfl) (fun _ _ _ h => h) (by rfl) hS (fun w2 hw2 => ?ry25) ?rr25
            case ry25 => ((try dsimp only at hw2); go_simp <;> with_reducible rfl)
            simp only [Act.put, List.setIfInBounds_toArray, List.set_cons_zero, List.set_cons_succ]
            refine rg_take 1 (v := ?rv26) rfl (by kernel_rfl) (by kernel_rfl) (by kernel_rfl) (fun _ _ _ h => h) (by rfl) hS (fun w2 hw2 => ?ry26) ?rr26
            case ry26 => ((try dsimp only at hw2); go_simp <;> with_reducible rfl)
            simp only [Act.put, List.setIfInBounds_toArray, List.set_cons_zero, List.set_cons_succ]
            refine rg_take 4 (v := ?rv27) rfl (by kernel_rfl) (by kernel_rfl) (by kernel_rfl) (fun _ _ _ h => h) (by rfl) hS (fun w2 hw2 => ?ry27) ?rr27
            case ry27 => ((try dsimp only at hw2); go_simp <;> with_reducible rfl)
            simp only [Act.put, List.setIfInBounds_toArray, List.set_cons_zero, List.set_cons_succ]
            refine rg_take 5 (v := ?rv28) rfl (by kernel_rfl) (by kernel_rfl) (by kernel_rfl) (fun _ _ _ h => h) (by rfl) hS (fun w2 hw2 => ?ry28) ?rr28
            case ry28 => ((try dsimp only at hw2); go_simp <;> with_reducible rfl)
            simp only [Act.put, List.setIfInBounds_toArray, List.set_cons_zero, List.set_cons_succ]
            refine rg_take 6 (v := ?rv29) rfl (by kernel_rfl) (by kernel_rfl) (by kernel_rfl) (fun _ _ _ h => h) (by rfl) hS (fun w2 hw2 => ?ry29) ?rr29
            case ry29 => ((try dsimp only at hw2); go_simp <;> with_reducible rfl)
            simp only [Act.put, List.setIfInBounds_toArray, List.set_cons_zero, List.set_cons_succ]
            refine rg_take 7 (v := ?rv30) rfl (by kernel_rfl) (by kernel_rfl) (by kernel_rfl) (fun _ _ _ h => h) (by rfl) hS (fun w2 hw2 => ?ry30) ?rr30
            case ry30 => ((try dsimp only at hw2); go_simp <;> with_reducible rfl)
            simp only [Act.put, List.setIfInBounds_toArray, List.set_cons_zero, List.set_cons_succ]
            refine rg_done (by kernel_rfl) ?_
            have HLT := Lib.hid hlt
            clear hlt r1 r2 e5
            go_wp2_with (first
              | (at_builtin; refine wpList_append_gs rfl (.tmp 41) (.tmp 43) 28 rfl W.heap.size 9 infoStr rfl (by decide) Try.underlying28 _ ns.length (sv ns) rfl H5.out.1 (some ⟨w3.heap.size, 0, none⟩) 1 1 [.string x.target] rfl H5.out.2.1 (fun u hu => by obtain rfl := List.mem_singleton.1 hu; rfl) (by omega) H5.out.2.2.size ?_; intro v6 w6 o6 g6; have H6 := Lib.hid (And.intro o6 (H5.out.2.2.grown g6 H5.out.2.2.size (fun q hq => (World.ownsRow.lt H5.out.1 q hq).1))); clear o6 g6)
              )
            have o7 : NamesO w6 W.heap.size v6 (ns ++ [x.target]) := by
              unfold NamesO
              rw [List.length_append, sv_append]
              exact H6.out.1
            obtain ⟨C7, d7, rfl, _⟩ := o7.gs
            refine ⟨⟨ns ++ [x.target], left, x.target, rfl, by rw [if_neg (Int.not_lt.2 HLT.out)], o7, by simp, by simp; omega, by simp, ?_, H6.out.2⟩, by simp [lenOf]; omega⟩
            rw [← HT2.out, HM2.out, List.length_append]
            rw [show 17 - (ns.length + [x.target].length) = 16 - ns.length by have : [x.target].length = 1 := rfl; omega]
-->>
end Go.Proofs.Ytdpjfcdfopmoaaa
