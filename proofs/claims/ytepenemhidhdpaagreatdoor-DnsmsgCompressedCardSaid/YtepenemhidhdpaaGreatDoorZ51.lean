/-
  A message played may be written, is short enough, and is parsed as it was. No conditions.
  A message loaded behind a guard; stockadehelp.Code at what is told; what is parsed may be written as far as its length goes; numbers below. Conditions: errors.errorType holds the handle of the type error.
  stockadelaw14.DnsmsgCompressed answers true, whatever is handed in. Conditions: errors.errorType holds the handle of the type error; what the program's text has laid (internal/bytealg.MaxLen holds an int).
-/
import Derived.Test.YtepenemhidhdpaaGreatDoorZ50
import Derived.Test.YtepenemhidhdpaaGreatDoorZ26
import Derived.Test.YtepenemhidhdpaaGreatDoorZ47
import Derived.Test.YtepenemhidhdpaaGreatDoorZ17
import Derived.Test.YtepenemhidhdpaaGreatDoorZ23
import Derived.Test.YtepenemhidhdpaaGreatDoorZ16
import Derived.Test.YtepenemhidhdpaaGreatDoorZ33
import Derived.Test.YtepenemhidhdpaaGreatDoorZ44
import Derived.Test.YtepenemhidhdpaaGreatDoorZ32
import Derived.IntWalk
import Derived.Deep.DeepCutAuto
namespace Go.Proofs.YtepenemhidhdpaaGreatDoor
open Go.RowKit
set_option maxRecDepth 100000

theorem play1_fit {r : Rc} (h : Play1 r) : fitR r ∧ r.name.length ≤ 60 ∧ r.target.length ≤ 60 ∧ (writeRB r).length ≤ 134 := by
  obtain ⟨t, ht, hp⟩ := h
  have e := hp.time
  have h1 := hp.name
  have h2 := hp.target
  have h3 := hp.data
  have hd : (dataB r).length ≤ 62 := by
    unfold dataB
    split
    · rw [List.length_take]
      have hk : r.adr.length = 16 := hp.ok
      omega
    split
    · have hw := writeB_length r.target
      split at hw <;> omega
    · omega
  have hw := writeB_length r.name
  have hq := writeQB_length r.asks
  have hr := writeRB_length r
  have hn : r.asks.name = r.name := rfl
  rw [hn] at hq
  exact ⟨⟨hp.right, hp.ok, by omega, by omega⟩, h1, h2, by split at hw <;> omega⟩
theorem playRs_len : ∀ (rs : List Rc), (∀ r ∈ rs, Play1 r) → (rsB rs).length ≤ rs.length * 134
  | [], _ => by simp [rsB]
  | r :: rs, h => by
    have h1 := (play1_fit (h r (by simp))).2.2.2
    have ih := playRs_len rs (fun x hx => h x (by simp [hx]))
    rw [rsB_cons, List.length_append, List.length_cons]
    omega
theorem playQs_len : ∀ (qs : List Qs), (∀ q ∈ qs, Play1q q) → (qsB qs).length ≤ qs.length * 66
  | [], _ => by simp [qsB]
  | q :: qs, h => by
    have h1 := (h q (by simp)).2
    have ih := playQs_len qs (fun x hx => h x (by simp [hx]))
    have h2 := writeQB_length q
    have h3 := writeB_length q.name
    rw [qsB_cons, List.length_append, List.length_cons]
    split at h3 <;> omega
theorem playM_recs {m : Ms} (h : PlayM m) : ∀ r ∈ recs m, Play1 r := fun r hr => by
  unfold recs at hr
  rcases List.mem_append.1 hr with hr | hr
  · exact h.an.2 r hr
  rcases List.mem_append.1 hr with hr | hr
  · exact h.au.2 r hr
  · exact h.ex.2 r hr
theorem play_right {m : Ms} (h : PlayM m) : rightM m ∧ (∀ r ∈ recs m, fitR r) ∧ (msgB m).length ≤ 3492 ∧ MsOk m := by
  have hr := playM_recs h
  have hl : (recs m).length ≤ 24 := by
    unfold recs
    rw [List.length_append, List.length_append]
    have := h.an.1
    have := h.au.1
    have := h.ex.1
    omega
  have hq := h.qs.1
  refine ⟨⟨⟨h.h, by unfold countM; omega⟩, fun q hq => (h.qs.2 q hq).1, fun r hx => (play1_fit (hr r hx)).1.1⟩, fun r hx => (play1_fit (hr r hx)).1, ?_, ⟨fun q hq => ?_, fun r hx => ?_⟩⟩
  · have h1 := playRs_len (recs m) hr
    have h2 := playQs_len m.qs h.qs.2
    have hh : (headL m).length = 12 := by
      unfold headL
      simp only [List.length_append, putn_length]
    unfold msgB
    rw [List.length_append, List.length_append, hh]
    omega
  · have := (h.qs.2 q hq).2
    omega
  · obtain ⟨⟨_, _, t0, t1⟩, n1, n2, _⟩ := play1_fit (hr r hx)
    exact ⟨⟨by omega, by omega⟩, t0, t1⟩
end Go.Proofs.YtepenemhidhdpaaGreatDoor

namespace Go.Proofs.YtepenemhidhdpaaGreatDoor
open Go.RowKit
set_option maxRecDepth 100000

theorem rc_data_at {w : World} {b o : Nat} {r : Rc} {B : Option Addr} {k m : Nat} (hk : r.ok) (h : w.rangeAt b o (rcv r B k m).toList) : w.cell? ⟨b, o + 22, none⟩ = some (.slice B k m) := h 22 _ (by
  obtain ⟨_, _, _, _, _, _, _, _, _, _, _, _, _, _, _, _, e1⟩ := ex16 hk
  rw [rcv_list, e1]; rfl)
theorem wp_load_msg {o : Oper} {a : Act} {w : World} {K : Act → World → Prop} {Q : Exit → Act → World → Prop} (x : Operand) (ho : o.op = .load 26 x) {g : Nat} {mh : Mh} {sq sa su se : Sl} (hx : a.eval x = .pointer (some ⟨g, 0, none⟩)) (hA : MsBox w g mh sq sa su se)
    (h : K (a.put o.dst (.agg (msv mh sq sa su se))) w) : o.wp Tryz.prog a w K Q :=
  wp_load_mid (P := Tryz.prog) 26 x ho g 0 hx (msv mh sq sa su se).toList _ hA.range Tryz.underlying26 rfl (by simpa using ms_size mh sq sa su se) (by simpa using h)
theorem code_told {v : Value} {f : Fl} {w : World} (h : Tells w v f) (hc : f.code ≠ 0) (hg : Handle w) : Calls Tryz.prog 19 #[v] w fun e w' => e = .returned (.int .i64 f.code) ∧ Below w.heap.size w w' := by
  rcases h with ⟨h0, _⟩ | ⟨_, d, fs, hf, _⟩
  · exact absurd h0 hc
  · have hb : Below w.heap.size w (w.alloc (.cells #[.int .i64 0] 34)) := (Below.refl _ _).alloc (Nat.le_refl _) _
    have k3 := (As_E (hf.later hb (Nat.le_refl _)).chain (hg.later hb (Nat.le_refl _)) (t := ⟨w.heap.size, 0, none⟩) (old := .int .i64 0) (by simp) (by simp)).mono (R' := fun e w' => e = .returned (.bool true) ∧ Below w.heap.size w w' ∧ w'.cell? ⟨w.heap.size, 0, none⟩ = some (.int .i64 f.code)) (by
      rintro e w' ⟨he, w1, h1, rfl⟩
      refine ⟨he, (hb.trans (h1.mono hb.size)).setCell (p := ⟨w.heap.size, 0, none⟩) (Nat.le_refl _) _, ?_⟩
      exact World.cell?_setCell_same' _ _ _ (by rw [h1.cell (p := ⟨w.heap.size, 0, none⟩) (by simp)]; simp))
    have K3 := Lib.hid k3
    clear k3 hb hf hg hc
    go_enter Tryz.func19, Tryz.ntmps19
    go_wp2_with fail
    refine K3.out.mono ?_
    rintro e w1 ⟨rfl, b1, c1⟩
    have H1 := Lib.hid b1
    clear b1
    go_wp2_with fail
    go_ret
    exact ⟨rfl, H1.out⟩
/-- What is parsed may be written, as far as its length goes. -/
theorem ok_of_right {m : Ms} (h : rightM m) (h2 : ∀ r ∈ recs m, fitR r) : MsOk m :=
  ⟨fun q hq => by have := right_len (h.2.1 q hq).1; omega, fun r hr => by
    have h3 := h2 r hr
    have h4 := right_len h3.1.1.1
    have h5 := right_len h3.1.2.2.1
    exact ⟨⟨by have e : r.asks.name = r.name := rfl; rw [e] at h4; omega, by omega⟩, h3.2.2⟩⟩
theorem num_below (a : Int) {m : Nat} (h0 : 0 < m) (h1 : m ≤ 1000000) : ∃ k : Nat, k < m ∧ wrap64 ((IntKind.u64.wrap a).tmod (m : Int)) = (k : Int) := by
  have h2 : 0 ≤ IntKind.u64.wrap a := by show 0 ≤ a % 18446744073709551616; omega
  have h3 := Int.emod_nonneg (IntKind.u64.wrap a) (show (m : Int) ≠ 0 by omega)
  have h4 := Int.emod_lt_of_pos (IntKind.u64.wrap a) (show (0 : Int) < m by omega)
  rw [Int.tmod_eq_emod_of_nonneg h2]
  refine ⟨(IntKind.u64.wrap a % (m : Int)).toNat, by omega, ?_⟩
  unfold wrap64
  omega
end Go.Proofs.YtepenemhidhdpaaGreatDoor

namespace Go.Proofs.YtepenemhidhdpaaGreatDoor
open Go.RowKit
set_option maxRecDepth 100000

theorem run_build_msq (sq : Sl) (w : World) : (Instr.build 26 #[(0, .int .i64 9), (1, .bool true), (5, .slice sq.A sq.n sq.c)]).run Tryz.prog w = .ok (.agg (msv ⟨9, true, 0, 0, 0⟩ sq .zero .zero .zero)) w := by kernel_rfl
theorem wpList_build_msq {ops : Array Oper} {rest : List Oper} {o : Oper} {a : Act} {w : World} {Q : Exit → Act → World → Prop} (hgd : o.guard = none) (x0 x1 x2 : Operand) (ho : o.op = .build 26 #[(0, x0), (1, x1), (5, x2)]) (sq : Sl) (h0 : a.eval x0 = .int .i64 9) (h1 : a.eval x1 = .bool true) (h2 : a.eval x2 = .slice sq.A sq.n sq.c)
    (h : wpList Tryz.prog ops Q rest (a.put o.dst (.agg (msv ⟨9, true, 0, 0, 0⟩ sq .zero .zero .zero))) w) : wpList Tryz.prog ops Q (o :: rest) a w :=
  wpList_plain hgd fun _ hK => by
    have hrun := run_build_msq sq w
    unfold Oper.wp execOp
    simp only [ho, Sem.run_bind, Sem.run_pure, Result.andThen_ok, List.map_toArray, List.map_cons, List.map_nil, h0, h1, h2, hrun]
    exact hK _ _ h
theorem own_block {w w' : World} {base n size : Nat} {e : TypeId} {v : Value} {xs : List Value} (h : w.ownsRow base e size v n xs) (hh : ∀ b, v.ownBlock = some b → w'.heap[b]? = w.heap[b]?) : w'.ownsRow base e size v n xs := by
  refine ⟨h.1, ?_⟩
  rcases h.2 with h | ⟨g, cap, cur, e1, h1, h2, h3⟩
  · exact Or.inl h
  · exact Or.inr ⟨g, cap, cur, e1, h1, (hh g (by rw [e1]; rfl)).trans h2, h3⟩
/-- Records without data. -/
def zs (n : Nat) : List Sl := List.replicate n .zero
def RZ (w : World) (base : Nat) (v : Value) (xs : List Rc) : Prop := w.ownsRow base 54 23 v xs.length (rcC xs (zs xs.length))
theorem RZ.nil (w : World) (base : Nat) : RZ w base (.slice none 0 0) [] := World.ownsRow_nil _ _ _ _
theorem RZ.later {w w' : World} {base : Nat} {v : Value} {xs : List Rc} (h : RZ w base v xs) (hb : Below w.heap.size w w') : RZ w' base v xs := own_kept h hb
theorem RZ.rcs {w : World} {base : Nat} {v : Value} {xs : List Rc} (h : RZ w base v xs) (hk : ∀ r ∈ xs, r.ok ∧ r.data = []) : RcO 0 w base v xs (zs xs.length) :=
  ⟨h, by simp [zs], fun r hr => (hk r hr).1, fun i r s hr hs => by
    have e : s = .zero := by
      unfold zs at hs
      rw [List.getElem?_replicate] at hs
      split at hs
      · exact (Option.some.inj hs).symm
      · cases hs
    subst e
    rw [(hk r (List.mem_of_getElem? hr)).2]
    exact ⟨Bs.nil w, fun h => absurd h (by decide)⟩⟩
theorem wp_push_rz {o : Oper} {a : Act} {w : World} {K : Act → World → Prop} {Q : Exit → Act → World → Prop} (s x : Operand)
    (ho : o.op = .call { callee := .builtin .append, args := #[s, x], argTypes := #[24, 24] }) (base : Nat) (v : Value) (xs : List Rc) (hs : a.eval s = v) (hown : RZ w base v xs)
    {g : Nat} {r : Rc} (hx : a.eval x = .slice (some ⟨g, 0, none⟩) 1 1) (hq : RcBox w g r none 0 0) (hm : xs.length ≤ 1000000) (hbase : base ≤ w.heap.size)
    (h : ∀ v' w', RZ w' base v' (xs ++ [r]) → w.grownBy w' v.ownBlock → (v'.ownBlock = v.ownBlock ∨ v'.ownBlock = some w.heap.size) → K (a.put o.dst v') w') : o.wp Tryz.prog a w K Q := by
  obtain ⟨i, h1, h2, h3, h4⟩ := info_of infoR
  obtain ⟨v', w', hr, o', g', _, hat⟩ := run_append_own_at (P := Tryz.prog) w base 24 o.type 54 i _ 23 96 Tryz.underlying24 h1 h2 h3 h4 (by simpa [Value.cells] using rcv_size Rc.zero_ok none 0 0) (by decide) v xs.length _ hown ⟨g, 0, none⟩ 1 1 (rcv r none 0 0).toList (by rw [Array.length_toList, rcv_size hq.2]) (fun j u hj => by
    have := hq.range j u hj
    rw [add_plain]
    exact this) (fun u hu => by
    have := (Array.all_eq_true'.1 (rcv_one r none 0 0)) u (by simpa using hu)
    exact this) (by unfold maxLen; omega) (by omega) hbase
  unfold Oper.wp execOp
  simp only [ho, resolve, invoke, builtin, Sem.run_bind, Sem.run_pure, Result.andThen_ok, List.map_toArray, List.map_cons, List.map_nil, hs, hx, hr]
  refine h v' w' ?_ g' hat
  unfold RZ
  have e : zs (xs ++ [r]).length = zs xs.length ++ [.zero] := by
    unfold zs
    rw [List.length_append, show xs.length + [r].length = xs.length + 1 from rfl, List.replicate_succ']
  rw [e, rcC_snoc (by simp [zs]), List.length_append]
  exact o'
theorem run_build_zr (S : List UInt8) (tt d : Int) (b : UInt8) (hd : d = (b.toNat : Int)) (w : World) : (Instr.build 54 #[(0, .string (mkS S)), (1, .int .i64 1), (2, .int .i64 1), (3, .int .u32 tt), (4, .agg #[.bool false, .int .u8 1, .int .u8 2, .int .u8 3, .int .u8 d, .int .u8 0, .int .u8 0, .int .u8 0, .int .u8 0, .int .u8 0, .int .u8 0, .int .u8 0, .int .u8 0, .int .u8 0, .int .u8 0, .int .u8 0, .int .u8 0])]).run Tryz.prog w = .ok (.agg (rcv ⟨S, 1, 1, tt, false, [1, 2, 3, b] ++ zero12, [], []⟩ none 0 0)) w := by
  subst hd
  kernel_rfl
theorem wp_build_zr {o : Oper} {a : Act} {w : World} {K : Act → World → Prop} {Q : Exit → Act → World → Prop} (x0 x1 x2 x3 x4 : Operand) (ho : o.op = .build 54 #[(0, x0), (1, x1), (2, x2), (3, x3), (4, x4)]) (S : List UInt8) (tt d : Int) (b : UInt8) (hd : d = (b.toNat : Int)) (h0 : a.eval x0 = .string (mkS S)) (h1 : a.eval x1 = .int .i64 1) (h2 : a.eval x2 = .int .i64 1) (h3 : a.eval x3 = .int .u32 tt) (h4 : a.eval x4 = .agg #[.bool false, .int .u8 1, .int .u8 2, .int .u8 3, .int .u8 d, .int .u8 0, .int .u8 0, .int .u8 0, .int .u8 0, .int .u8 0, .int .u8 0, .int .u8 0, .int .u8 0, .int .u8 0, .int .u8 0, .int .u8 0, .int .u8 0])
    (h : K (a.put o.dst (.agg (rcv ⟨S, 1, 1, tt, false, [1, 2, 3, b] ++ zero12, [], []⟩ none 0 0))) w) : o.wp Tryz.prog a w K Q := by
  have hrun := run_build_zr S tt d b hd w
  unfold Oper.wp execOp
  simp only [ho, Sem.run_bind, Sem.run_pure, Result.andThen_ok, List.map_toArray, List.map_cons, List.map_nil, h0, h1, h2, h3, h4, hrun]
  exact h
/-- What holds ahead of round j. -/
structure CompI (S : List UInt8) (tt : Int) (t3 t2 t1 t0 : UInt8) (g4 gq g N0 : Nat) (L0 : List UInt8) (w4 : World) (j : Nat) (v : Value) (wr : World) : Prop where
  ex : ∃ A c, MsBox wr g ⟨9, true, 0, 0, 0⟩ ⟨some ⟨gq, 0, none⟩, 1, 1⟩ ⟨A, j, c⟩ .zero .zero ∧ RZ wr (g + 1) (.slice A j c) ((List.range' 0 j).map (zipR S tt)) ∧ (∀ b, v.ownBlock = some b → b ≠ gq ∧ b ≠ g ∧ (Value.slice A j c).ownBlock ≠ some b)
  ob : wr.ownsRow g4 5 1 v (N0 + 16 * j) (bv (L0 ++ ((List.range' 0 j).map (zipB t3 t2 t1 t0)).flatten))
  qb : QsBox wr gq ⟨S, 1, 1⟩
  be : Below g4 w4 wr
set_option maxHeartbeats 8000000 in
theorem dnsmsgCompressed (s : ByteArray) (hs : s.size ≤ 9223372036854775807) (nn tt : Int) (ht0 : 0 ≤ tt) (ht1 : tt < 4294967296) {w : World} (hE : Env w) (hg : Handle w) : Calls Tryz.prog 5 #[.string s, .int .i64 nn, .int .u32 tt] w fun e w' => e = .returned (.bool true) ∧ Below w.heap.size w w' := by
  obtain ⟨S, hS⟩ : ∃ S, playN s.data.toList = S := ⟨_, rfl⟩
  have hr := playN_right s.data.toList
  have KP := playName_any s hs w
  rw [hS] at hr KP
  obtain ⟨k, hk, ek⟩ := num_below nn (m := 20) (by omega) (by omega)
  have ek : wrap64 ((IntKind.u64.wrap nn).tmod 20) = (k : Int) := ek
  have hlit : (#[.int .u8 0, .int .u8 9, .int .u8 128, .int .u8 0, .int .u8 0, .int .u8 1, .int .u8 ((k : Int) / 256), .int .u8 (k : Int), .int .u8 0, .int .u8 0, .int .u8 0, .int .u8 0] : Array Value).toList = bv [0, 9, 128, 0, 0, 1, 0, UInt8.ofNat k, 0, 0, 0, 0] := by
    simp [bv]
    omega
  have HLIT := Lib.hid (fun (w : World) (_ : Unit) => (show World.ownsRow (w.alloc (.cells #[.int .u8 0, .int .u8 9, .int .u8 128, .int .u8 0, .int .u8 0, .int .u8 1, .int .u8 ((k : Int) / 256), .int .u8 (k : Int), .int .u8 0, .int .u8 0, .int .u8 0, .int .u8 0] 5)) w.heap.size 5 1 (.slice (some ⟨w.heap.size, 0, none⟩) 12 12) 12 (bv [0, 9, 128, 0, 0, 1, 0, UInt8.ofNat k, 0, 0, 0, 0]) from hlit ▸ World.ownsRow_lit (base := w.heap.size) (e := 5) (size := 1) w #[.int .u8 0, .int .u8 9, .int .u8 128, .int .u8 0, .int .u8 0, .int .u8 1, .int .u8 ((k : Int) / 256), .int .u8 (k : Int), .int .u8 0, .int .u8 0, .int .u8 0, .int .u8 0] 12 (Nat.le_refl _) (by unfold maxLen; omega) rfl))
  have hwb : (writeB S).length ≤ 62 := by
    have h1 := writeB_length S
    have h2 := hr.2
    rw [h1]
    split <;> omega
  clear hlit
  have HR := Lib.hid hr
  have HE := Lib.hid (And.intro hE hg)
  have KP := Lib.hid KP
  clear hS hr hE hg

  go_enter Tryz.func5, Tryz.ntmps5
  go_wp2_with fail
  refine KP.out.mono ?_
  clear KP
  rintro e w1 ⟨rfl, b1⟩
  have H1 := Lib.hid b1
  clear b1
  go_wp2_with fail
  refine (ref_write_row HR.out.1 w1).mono ?_
  rintro e w2 ⟨A2, c2, rfl, o2, b2⟩
  have H2 := Lib.hid (And.intro (Bs.own_later o2 fun _ _ => rfl) (H1.out.trans (b2.mono H1.out.size)))
  clear o2 b2
  go_upto_region 5 with (first
    | (refine wpList_store_fl rfl (.tmp 8) (.tmp 24) rfl 0 0 false rfl rfl H3.out.1 ?_; intro w4 a4 o4 z4 b4; have bb := b4 _ _ (Nat.le_refl _) H3.out.2; have H4 := Lib.hid (And.intro (H2.out.1.later bb (Nat.le_refl _)) (H2.out.2.trans (bb.mono H2.out.2.size))); clear a4 o4 z4 b4 bb)
    | (refine wpList_alloc_fl rfl rfl ?_; intro w3 a3 b3 z3; have H3 := Lib.hid (And.intro a3 b3); clear a3 b3 z3))
  have b5 : Below w4.heap.size w4 (w4.alloc (.cells #[.int .u8 0, .int .u8 9, .int .u8 128, .int .u8 0, .int .u8 0, .int .u8 1, .int .u8 ((k : Int) / 256), .int .u8 (k : Int), .int .u8 0, .int .u8 0, .int .u8 0, .int .u8 0] 5)) := (Below.refl _ _).alloc (Nat.le_refl _) _
  have H5 := Lib.hid (And.intro (HLIT.out w4 ()) (And.intro b5 (H4.out.1.later b5 (Nat.le_refl _))))
  have hs5 := b5.size
  clear b5
  generalize w4.alloc (.cells #[.int .u8 0, .int .u8 9, .int .u8 128, .int .u8 0, .int .u8 0, .int .u8 1, .int .u8 ((k : Int) / 256), .int .u8 (k : Int), .int .u8 0, .int .u8 0, .int .u8 0, .int .u8 0] 5) = w5 at H5 hs5 ⊢
  have HS5 := Lib.hid hs5
  clear hs5
  obtain ⟨g4, hg4⟩ : ∃ g, w4.heap.size = g := ⟨_, rfl⟩
  rw [hg4] at H5 HS5 ⊢
  have HG := Lib.hid hg4
  clear hg4
  go_upto_region 7 with (first
    | (at_builtin; refine wpList_append_bs rfl (.tmp 31) (.tmp 32) 22 rfl g4 5 info5 Tryz.underlying22 _ 12 _ rfl H5.out.1 A2 (writeB S).length c2 (writeB S) rfl H5.out.2.2 (by omega) HS5.out ?_; intro v6 w6 o6 g6 _ _; have H6 := Lib.hid (And.intro o6 (H5.out.2.1.grown g6 HS5.out (fun q hq => (World.ownsRow.lt H5.out.1 q hq).1))); clear o6 g6)
    | (at_builtin; have b7 : Below w6.heap.size w6 (w6.alloc (.cells #[.int .u8 0, .int .u8 1, .int .u8 0, .int .u8 1] 5)) := (Below.refl _ _).alloc (Nat.le_refl _) _; refine wpList_append_bs rfl (.tmp 33) (.tmp 34) 22 rfl g4 5 info5 Tryz.underlying22 _ (12 + (writeB S).length) _ rfl (own_kept H6.out.1 b7) _ 4 4 [0, 1, 0, 1] rfl (Bs.lit w6 _ 4 rfl (by unfold maxLen; omega) _ (by simp [bv]) _) (by omega) (by have h1 := H6.out.2.size; have h2 := b7.size; have h3 := HG.out; omega) ?_; intro v8 w8 o8 g8 _ _; have H8 := Lib.hid (And.intro o8 ((H6.out.2.trans (b7.mono (by have h1 := H6.out.2.size; have h3 := HG.out; omega))).grown g8 (by have h1 := H6.out.2.size; have h2 := b7.size; have h3 := HG.out; omega) (fun q hq => (World.ownsRow.lt H6.out.1 q hq).1))); clear b7 o8 g8)
    | (refine wpList_build_qs rfl (.tmp 36) (.const (.int .i64 1)) (.const (.int .i64 1)) rfl ⟨S, 1, 1⟩ rfl rfl rfl ?_)
    | (refine wpList_lit1 rfl 23 61 (.tmp 37) rfl (qsv ⟨S, 1, 1⟩) rfl infoQ rfl (by decide) (by decide) Tryz.underlying23 ?_; have b9 : Below w8.heap.size w8 (w8.alloc (.cells (qsv ⟨S, 1, 1⟩) 61)) := (Below.refl _ _).alloc (Nat.le_refl _) _; have H9 := Lib.hid (And.intro (QsBox.new w8 ⟨S, 1, 1⟩) b9); clear b9; generalize w8.alloc (.cells (qsv ⟨S, 1, 1⟩) 61) = w9 at H9 ⊢)
    | (refine wpList_build_msq rfl (.const (.int .i64 9)) (.const (.bool true)) (.tmp 38) rfl ⟨some ⟨w8.heap.size, 0, none⟩, 1, 1⟩ rfl rfl rfl ?_)
    | (refine wpList_alloc_ms rfl rfl ?_; intro w10 a10 b10 z10; have H10 := Lib.hid (And.intro a10 b10); clear a10 b10)
    | (refine wpList_store_ms rfl (.tmp 10) (.tmp 39) rfl ⟨9, true, 0, 0, 0⟩ ⟨some ⟨w8.heap.size, 0, none⟩, 1, 1⟩ .zero .zero .zero rfl rfl H10.out.1 ?_; intro w11 a11 o11 z11 g11; have H11 := Lib.hid (And.intro a11 (g11 _ _ (Nat.le_refl _) H10.out.2)); clear a11 o11 z11 g11))
  simp only [Act.put, List.setIfInBounds_toArray, List.set_cons_zero, List.set_cons_succ]
  obtain ⟨L0, hL0⟩ : ∃ L0, [0, 9, 128, 0, 0, 1, 0, UInt8.ofNat k, 0, 0, 0, 0] ++ writeB S ++ [0, 1, 0, 1] = L0 := ⟨_, rfl⟩
  obtain ⟨N0, hN0⟩ : ∃ N0, 12 + (writeB S).length + 4 = N0 := ⟨_, rfl⟩
  have hn0 : N0 ≤ 100 := by omega
  obtain ⟨gq, hgq⟩ : ∃ g, w8.heap.size = g := ⟨_, rfl⟩
  obtain ⟨g, hgg⟩ : ∃ g, w9.heap.size = g := ⟨_, rfl⟩
  have hqg : gq < g := by
    have := H9.out.1.lt
    omega
  obtain ⟨t3, h3⟩ : ∃ t : UInt8, (t.toNat : Int) = tt / 16777216 := ⟨UInt8.ofNat (tt / 16777216).toNat, by rw [UInt8.toNat_ofNat']; omega⟩
  obtain ⟨t2, h2⟩ : ∃ t : UInt8, (t.toNat : Int) = tt / 65536 % 256 := ⟨UInt8.ofNat (tt / 65536 % 256).toNat, by rw [UInt8.toNat_ofNat']; omega⟩
  obtain ⟨t1, h1⟩ : ∃ t : UInt8, (t.toNat : Int) = tt / 256 % 256 := ⟨UInt8.ofNat (tt / 256 % 256).toNat, by rw [UInt8.toNat_ofNat']; omega⟩
  obtain ⟨t0, h0⟩ : ∃ t : UInt8, (t.toNat : Int) = tt % 256 := ⟨UInt8.ofNat (tt % 256).toNat, by rw [UInt8.toNat_ofNat']; omega⟩
  have h4q : g4 ≤ gq := by
    have h1 := H8.out.2.size
    have h3 := HG.out
    omega
  have hb11 : Below w8.heap.size w8 w11 := H9.out.2.trans (H11.out.2.mono H9.out.2.size)
  have h11 : CompI S tt t3 t2 t1 t0 g4 gq g N0 L0 w4 0 v8 w11 := by
    refine ⟨⟨none, 0, hgg ▸ hgq ▸ H11.out.1, RZ.nil _ _, fun b hb => ?_⟩, ?_, hgq ▸ H9.out.1.later H11.out.2 (Nat.le_refl _), H8.out.2.trans (hb11.mono (by have h1 := H8.out.2.size; have h3 := HG.out; omega))⟩
    · have h4 := (World.ownsRow.lt H8.out.1 b hb).2
      exact ⟨by omega, by omega, fun e => by cases e⟩
    · have h5 := own_kept H8.out.1 hb11
      rw [hL0, hN0] at h5
      simpa using h5
  have HT := Lib.hid (And.intro h3 (And.intro h2 (And.intro h1 h0)))
  have HLN := Lib.hid (And.intro hL0 hN0)
  have HGG := Lib.hid (And.intro h4q hqg)
  have H12 := Lib.hid h11
  rw [hgq, hgg]
  clear h3 h2 h1 h0 hL0 hN0 hgq hgg hqg h4q hb11 h11
  go_wp2_with fail
  go_loopw [9, 11] (fun v i wx => ∃ j : Nat, j ≤ k ∧ i = .int .i64 j ∧ CompI S tt t3 t2 t1 t0 g4 gq g N0 L0 w4 j v wx) (fun _ i _ => k - (intOf i).toNat)
  case atStart => exact ⟨0, Nat.zero_le _, rfl, H12.out⟩
  case round =>
    obtain ⟨j, hj, rfl, hI⟩ := hrel
    have HI := Lib.hid hI
    clear hI
    by_cases hjk : j < k
    · obtain ⟨A, c, hM, hR, hNB⟩ := HI.out.ex
      have hjb : ((UInt8.ofNat j).toNat : Int) = (j : Int) := by rw [UInt8.toNat_ofNat']; omega
      have h16 : (#[.int .u8 192, .int .u8 12, .int .u8 0, .int .u8 1, .int .u8 0, .int .u8 1, .int .u8 (tt / 16777216), .int .u8 (tt / 65536 % 256), .int .u8 (tt / 256 % 256), .int .u8 (tt % 256), .int .u8 0, .int .u8 4, .int .u8 1, .int .u8 2, .int .u8 3, .int .u8 (j : Int)] : Array Value).toList = bv (zipB t3 t2 t1 t0 j) := by
        unfold zipB
        simp only [bv, List.map_cons, List.map_nil, HT.out.1, HT.out.2.1, HT.out.2.2.1, HT.out.2.2.2, hjb]
        rfl
      have b13 : Below wr.heap.size wr (wr.alloc (.cells #[.int .u8 192, .int .u8 12, .int .u8 0, .int .u8 1, .int .u8 0, .int .u8 1, .int .u8 (tt / 16777216), .int .u8 (tt / 65536 % 256), .int .u8 (tt / 256 % 256), .int .u8 (tt % 256), .int .u8 0, .int .u8 4, .int .u8 1, .int .u8 2, .int .u8 3, .int .u8 (j : Int)] 5)) := (Below.refl _ _).alloc (Nat.le_refl _) _
      have HB16 := Lib.hid (And.intro (Bs.lit wr (zipB t3 t2 t1 t0 j) 16 rfl (by unfold maxLen; omega) #[.int .u8 192, .int .u8 12, .int .u8 0, .int .u8 1, .int .u8 0, .int .u8 1, .int .u8 (tt / 16777216), .int .u8 (tt / 65536 % 256), .int .u8 (tt / 256 % 256), .int .u8 (tt % 256), .int .u8 0, .int .u8 4, .int .u8 1, .int .u8 2, .int .u8 3, .int .u8 (j : Int)] h16 5) b13)
      have HRM := Lib.hid (And.intro hM (And.intro hR (And.intro hNB hjb)))
      clear hM hR hNB hjb h16 b13
      go_upto_region 11 with (at_builtin; refine wpList_append_bs rfl (.tmp 45) (.tmp 59) 22 rfl g4 5 info5 Tryz.underlying22 _ (N0 + 16 * j) _ rfl (own_kept HI.out.ob HB16.out.2) _ 16 16 (zipB t3 t2 t1 t0 j) rfl HB16.out.1 (by omega) (by have h1 := HI.out.be.size; have h2 := HB16.out.2.size; have h3 := HG.out; omega) ?_; intro v14 w14 o14 g14 _ hat; have H14 := Lib.hid (And.intro o14 (And.intro g14 hat)); clear o14 g14 hat)
      have hsz : (wr.alloc (.cells #[.int .u8 192, .int .u8 12, .int .u8 0, .int .u8 1, .int .u8 0, .int .u8 1, .int .u8 (tt / 16777216), .int .u8 (tt / 65536 % 256), .int .u8 (tt / 256 % 256), .int .u8 (tt % 256), .int .u8 0, .int .u8 4, .int .u8 1, .int .u8 2, .int .u8 3, .int .u8 (j : Int)] 5)).heap.size = wr.heap.size + 1 := World.size_alloc _ _
      have hsame : ∀ b, b < wr.heap.size → u9.ownBlock ≠ some b → w14.heap[b]? = wr.heap[b]? := fun b hb hne => (H14.out.2.1.block b (by rw [hsz]; omega) (fun e => hne e.symm)).trans (HB16.out.2.block b hb)
      have hgl := HRM.out.1.lt
      have hM : MsBox w14 g ⟨9, true, 0, 0, 0⟩ ⟨some ⟨gq, 0, none⟩, 1, 1⟩ ⟨A, j, c⟩ .zero .zero := HRM.out.1.same (hsame g hgl (fun e => (HRM.out.2.2.1 g e).2.1 rfl))
      have hQ : QsBox w14 gq ⟨S, 1, 1⟩ := HI.out.qb.same (hsame gq HI.out.qb.lt (fun e => (HRM.out.2.2.1 gq e).1 rfl))
      have hR : RZ w14 (g + 1) (.slice A j c) ((List.range' 0 j).map (zipR S tt)) := own_block HRM.out.2.1 (fun b hb => hsame b (World.ownsRow.lt HRM.out.2.1 b hb).2 (fun e => (HRM.out.2.2.1 b e).2.2 hb))
      have hO := H14.out.1
      have hNB : ∀ b, v14.ownBlock = some b → b ≠ gq ∧ b ≠ g ∧ (Value.slice A j c).ownBlock ≠ some b := fun b hb => by
        rcases H14.out.2.2 with e | e
        · exact HRM.out.2.2.1 b (e ▸ hb)
        · rw [e, hsz] at hb
          have hbb := Option.some.inj hb
          have hq1 := HI.out.qb.lt
          exact ⟨by omega, by omega, fun e2 => by have := (World.ownsRow.lt HRM.out.2.1 b e2).2; omega⟩
      have hB : Below g4 w4 w14 := (HI.out.be.trans (HB16.out.2.mono (by have h1 := HI.out.be.size; have h3 := HG.out; omega))).grown H14.out.2.1 (by rw [hsz]; have h1 := HI.out.be.size; have h3 := HG.out; omega) (fun q hq => (World.ownsRow.lt HI.out.ob q hq).1)
      have hS : True := trivial
      have hwj : IntKind.u8.wrap (j : Int) = (j : Int) := by rw [IntKind.wrap_u8]; omega
      have HNB := Lib.hid (And.intro hNB HRM.out.2.2.2)
      clear hsame hgl hNB hsz
      have HO14 := Lib.hid hO
      clear hO
      have hO := own_kept HO14.out (Below.refl _ w14).drew
      replace hM := hM.later (Below.refl _ w14).drew (Nat.le_refl _)
      replace hQ := hQ.later (Below.refl _ w14).drew (Nat.le_refl _)
      replace hR := hR.later (Below.refl _ w14).drew
      replace hB := hB.drew
      go_wp2_with fail
      --<< tree
      refine rg_begin (fun _ => True) 12 (by kernel_rfl) rfl ?_
      refine rg_take 0 (v := ?rv1) rfl (by kernel_rfl) (by kernel_rfl) (by kernel_rfl) (fun _ _ _ h => h) (by rfl) hS (fun w2 hw2 => ?ry1) ?rr1
      case ry1 => ((try dsimp only at hw2); go_simp <;> with_reducible rfl)
      simp only [Act.put, List.setIfInBounds_toArray, List.set_cons_zero, List.set_cons_succ]
      refine rg_take 2 (v := ?rv2) rfl (by kernel_rfl) (by kernel_rfl) (by kernel_rfl) (fun _ _ _ h => h) (by rfl) hS (fun w2 hw2 => ?ry2) ?rr2
      case ry2 => ((try dsimp only at hw2); go_simp <;> with_reducible rfl)
      simp only [Act.put, List.setIfInBounds_toArray, List.set_cons_zero, List.set_cons_succ]
      refine rg_take 3 (v := ?rv3) rfl (by kernel_rfl) (by kernel_rfl) (by kernel_rfl) (fun _ _ _ h => h) (by rfl) hS (fun w2 hw2 => ?ry3) ?rr3
      case ry3 => ((try dsimp only at hw2); go_simp <;> with_reducible rfl)
      simp only [Act.put, List.setIfInBounds_toArray, List.set_cons_zero, List.set_cons_succ]
      refine rg_take 4 (v := ?rv4) rfl (by kernel_rfl) (by kernel_rfl) (by kernel_rfl) (fun _ _ _ h => h) (by rfl) hS (fun w2 hw2 => ?ry4) ?rr4
      case ry4 => ((try dsimp only at hw2); go_simp <;> with_reducible rfl)
      simp only [Act.put, List.setIfInBounds_toArray, List.set_cons_zero, List.set_cons_succ]
      refine rg_take 5 (v := ?rv5) rfl (by kernel_rfl) (by kernel_rfl) (by kernel_rfl) (fun _ _ _ h => h) (by rfl) hS (fun w2 hw2 => ?ry5) ?rr5
      case ry5 => ((try dsimp only at hw2); go_simp <;> with_reducible rfl)
      simp only [Act.put, List.setIfInBounds_toArray, List.set_cons_zero, List.set_cons_succ]
      refine rg_any [1, 6] (by kernel_rfl) (by simp) ?_
      refine rg_or 1 rfl (by rfl) (fun K hK => ?_) ?_
      · have kg : w14.drew.cell? ⟨g, 6, none⟩ = some (.slice A j c) := hM.cell 6
        go_simp
        clear kg
        refine hK.out _ _ hS ?_
        clear hK K
        try simp only [Act.put, List.setIfInBounds_toArray, List.set_cons_zero, List.set_cons_succ]
        refine rg_step 6 rfl (by kernel_rfl) (by rfl) (fun K hK => ?_)
        go_simp
        refine (v4_any 1 2 3 (j : Int) _).mono ?_
        rintro e v1_1 ⟨rfl, bK⟩
        replace hM := hM.later bK (Nat.le_refl _)
        replace hQ := hQ.later bK (Nat.le_refl _)
        replace hR := hR.later bK
        replace hO := own_kept hO bK
        replace hB := hB.trans (bK.mono (by have h1 := hB.size; have h3 := HG.out; omega))
        clear bK
        refine hK.out _ _ hS ?_
        clear hK K
        try simp only [Act.put, List.setIfInBounds_toArray, List.set_cons_zero, List.set_cons_succ]
        refine rg_step 7 rfl (by kernel_rfl) (by rfl) (fun K hK => ?_)
        refine wp_build_zr (.tmp 63) (.const (.int .i64 1)) (.const (.int .i64 1)) (.tmp 64) (.tmp 67) rfl S tt (j : Int) (UInt8.ofNat j) HNB.out.2.symm rfl rfl rfl rfl rfl ?_
        obtain ⟨Y, hY⟩ : ∃ Y : Value, Value.agg (rcv ⟨S, 1, 1, tt, false, [1, 2, 3, UInt8.ofNat j] ++ zero12, [], []⟩ none 0 0) = Y := ⟨_, rfl⟩
        rw [hY]
        have HY := Lib.hid hY
        clear hY
        refine hK.out _ _ hS ?_
        clear hK K
        try simp only [Act.put, List.setIfInBounds_toArray, List.set_cons_zero, List.set_cons_succ]
        refine rg_step 8 rfl (by kernel_rfl) (by rfl) (fun K hK => ?_)
        refine wp_lit1 24 54 (.tmp 68) rfl (rcv ⟨S, 1, 1, tt, false, [1, 2, 3, UInt8.ofNat j] ++ zero12, [], []⟩ none 0 0) HY.out.symm infoR (rcv_size (r := ⟨S, 1, 1, tt, false, [1, 2, 3, UInt8.ofNat j] ++ zero12, [], []⟩) (by rfl) none 0 0) (by decide) (by decide) Tryz.underlying24 ?_
        have bK : Below v1_1.heap.size v1_1 (v1_1.alloc (.cells (rcv ⟨S, 1, 1, tt, false, [1, 2, 3, UInt8.ofNat j] ++ zero12, [], []⟩ none 0 0) 54)) := (Below.refl _ _).alloc (Nat.le_refl _) _
        have hC := RcBox.new v1_1 (r := ⟨S, 1, 1, tt, false, [1, 2, 3, UInt8.ofNat j] ++ zero12, [], []⟩) (by rfl) none 0 0
        obtain ⟨v3_1, hu⟩ : ∃ u, v1_1.alloc (.cells (rcv ⟨S, 1, 1, tt, false, [1, 2, 3, UInt8.ofNat j] ++ zero12, [], []⟩ none 0 0) 54) = u := ⟨_, rfl⟩
        rw [hu] at bK hC ⊢
        clear hu
        replace hM := hM.later bK (Nat.le_refl _)
        replace hQ := hQ.later bK (Nat.le_refl _)
        replace hR := hR.later bK
        replace hO := own_kept hO bK
        replace hB := hB.trans (bK.mono (by have h1 := hB.size; have h3 := HG.out; omega))
        clear bK
        refine hK.out _ _ hS ?_
        clear hK K
        try simp only [Act.put, List.setIfInBounds_toArray, List.set_cons_zero, List.set_cons_succ]
        refine rg_step 9 rfl (by kernel_rfl) (by rfl) (fun K hK => ?_)
        refine wp_push_rz (.tmp 62) (.tmp 69) rfl (g + 1) _ _ rfl hR rfl hC (by simp; omega) (by have := hM.lt; omega) ?_
        intro v9 u9 R9 g9 hat9
        have hgl := hM.lt
        have hsz := (World.ownsRow.lt hR)
        have hM9 := hM.same (g9.block g hgl (fun e => by have := (hsz g e.symm).1; omega))
        have hQ9 := hQ.same (g9.block gq hQ.lt (fun e => by have := (hsz gq e.symm).1; have := HGG.out.2; omega))
        have hO9 := own_block hO (fun b hb => g9.block b (World.ownsRow.lt hO b hb).2 (fun e => (HNB.out.1 b hb).2.2 e.symm))
        have hB9 := hB.grown g9 (by have h1 := hB.size; have h3 := HG.out; omega) (fun q hq => by have := (hsz q hq).1; have := HGG.out; omega)
        have hN9 : ∀ b, v14.ownBlock = some b → v9.ownBlock ≠ some b := fun b hb e => by
          rcases hat9 with h | h
          · exact (HNB.out.1 b hb).2.2 (h ▸ e)
          · rw [h] at e; have := Option.some.inj e; have := (World.ownsRow.lt hO b hb).2; omega
        have hxl : ((List.range' 0 j).map (zipR S tt) ++ [(⟨S, 1, 1, tt, false, [1, 2, 3, UInt8.ofNat j] ++ zero12, [], []⟩ : Rc)]) = (List.range' 0 (j + 1)).map (zipR S tt) := by
          rw [List.range'_concat, List.map_append]
          simp [zipR]
        rw [hxl] at R9
        obtain ⟨A9, c9, hv9, _⟩ := RcS.of_own (lo := 0) (R9.rcs (fun r hr => by obtain ⟨i, _, rfl⟩ := List.mem_map.1 hr; exact ⟨rfl, rfl⟩)) (Nat.zero_le _)
        rw [show ((List.range' 0 (j + 1)).map (zipR S tt)).length = j + 1 by simp] at hv9
        subst hv9
        have HR9 := Lib.hid (And.intro R9 (And.intro hQ9 (And.intro hO9 (And.intro hB9 hN9))))
        clear R9 hQ9 hO9 hB9 hN9 hat9 hxl hsz g9
        refine hK.out _ _ hS ?_
        clear hK K
        try simp only [Act.put, List.setIfInBounds_toArray, List.set_cons_zero, List.set_cons_succ]
        refine rg_take 10 (v := ?rv6) rfl (by kernel_rfl) (by kernel_rfl) (by kernel_rfl) (fun _ _ _ h => h) (by rfl) hS (fun w2 hw2 => ?ry6) ?rr6
        case ry6 => ((try dsimp only at hw2); go_simp <;> with_reducible rfl)
        simp only [Act.put, List.setIfInBounds_toArray, List.set_cons_zero, List.set_cons_succ]
        refine rg_step 11 rfl (by kernel_rfl) (by rfl) (fun K hK => ?_)
        refine wp_put_ms 24 (.tmp 71) (.tmp 70) rfl 6 ⟨A9, j + 1, c9⟩ rfl rfl (by kernel_rfl) hM9 (by decide) (sq' := ⟨some ⟨gq, 0, none⟩, 1, 1⟩) (sa' := ⟨A9, j + 1, c9⟩) (su' := .zero) (se' := .zero) rfl ?_
        intro u10 a10 o10 g10
        have hI2 : CompI S tt t3 t2 t1 t0 g4 gq g N0 L0 w4 (j + 1) v14 u10 := by
          refine ⟨⟨A9, c9, a10, own_block HR9.out.1 (fun b hb => o10 b (by have := (World.ownsRow.lt HR9.out.1 b hb).1; omega)), fun b hb => ⟨(HNB.out.1 b hb).1, (HNB.out.1 b hb).2.1, HR9.out.2.2.2.2 b hb⟩⟩, ?_, HR9.out.2.1.same (o10 gq (by have := HGG.out.2; omega)), g10 _ _ (by have := HGG.out; omega) HR9.out.2.2.2.1⟩
          have h5 := own_block HR9.out.2.2.1 (fun b hb => o10 b (HNB.out.1 b hb).2.1)
          rw [List.range'_concat, List.map_append, List.flatten_append]
          rw [show N0 + 16 * (j + 1) = N0 + 16 * j + 16 by omega]
          simpa using h5
        have HI2 := Lib.hid hI2
        clear hI2 a10 o10 g10 hM9
        refine hK.out _ _ hS ?_
        clear hK K
        simp only [Act.put]
        refine rg_done (by kernel_rfl) ?_
        go_wp2_with fail
        refine ⟨⟨j + 1, hjk, by go_num, HI2.out⟩, by simp [intOf]; omega⟩
      refine rg_or 6 rfl (by rfl) (fun K hK => ?_) ?_
      · go_simp
        refine (v4_any 1 2 3 (j : Int) _).mono ?_
        rintro e v0_0 ⟨rfl, bK⟩
        replace hM := hM.later bK (Nat.le_refl _)
        replace hQ := hQ.later bK (Nat.le_refl _)
        replace hR := hR.later bK
        replace hO := own_kept hO bK
        replace hB := hB.trans (bK.mono (by have h1 := hB.size; have h3 := HG.out; omega))
        clear bK
        refine hK.out _ _ hS ?_
        clear hK K
        try simp only [Act.put, List.setIfInBounds_toArray, List.set_cons_zero, List.set_cons_succ]
        refine rg_any [1, 7] (by kernel_rfl) (by simp) ?_
        refine rg_or 1 rfl (by rfl) (fun K hK => ?_) ?_
        · have kg : v0_0.cell? ⟨g, 6, none⟩ = some (.slice A j c) := hM.cell 6
          go_simp
          clear kg
          refine hK.out _ _ hS ?_
          clear hK K
          try simp only [Act.put, List.setIfInBounds_toArray, List.set_cons_zero, List.set_cons_succ]
          refine rg_step 7 rfl (by kernel_rfl) (by rfl) (fun K hK => ?_)
          refine wp_build_zr (.tmp 63) (.const (.int .i64 1)) (.const (.int .i64 1)) (.tmp 64) (.tmp 67) rfl S tt (j : Int) (UInt8.ofNat j) HNB.out.2.symm rfl rfl rfl rfl rfl ?_
          obtain ⟨Y, hY⟩ : ∃ Y : Value, Value.agg (rcv ⟨S, 1, 1, tt, false, [1, 2, 3, UInt8.ofNat j] ++ zero12, [], []⟩ none 0 0) = Y := ⟨_, rfl⟩
          rw [hY]
          have HY := Lib.hid hY
          clear hY
          refine hK.out _ _ hS ?_
          clear hK K
          try simp only [Act.put, List.setIfInBounds_toArray, List.set_cons_zero, List.set_cons_succ]
          refine rg_step 8 rfl (by kernel_rfl) (by rfl) (fun K hK => ?_)
          refine wp_lit1 24 54 (.tmp 68) rfl (rcv ⟨S, 1, 1, tt, false, [1, 2, 3, UInt8.ofNat j] ++ zero12, [], []⟩ none 0 0) HY.out.symm infoR (rcv_size (r := ⟨S, 1, 1, tt, false, [1, 2, 3, UInt8.ofNat j] ++ zero12, [], []⟩) (by rfl) none 0 0) (by decide) (by decide) Tryz.underlying24 ?_
          have bK : Below v0_0.heap.size v0_0 (v0_0.alloc (.cells (rcv ⟨S, 1, 1, tt, false, [1, 2, 3, UInt8.ofNat j] ++ zero12, [], []⟩ none 0 0) 54)) := (Below.refl _ _).alloc (Nat.le_refl _) _
          have hC := RcBox.new v0_0 (r := ⟨S, 1, 1, tt, false, [1, 2, 3, UInt8.ofNat j] ++ zero12, [], []⟩) (by rfl) none 0 0
          obtain ⟨v3_1, hu⟩ : ∃ u, v0_0.alloc (.cells (rcv ⟨S, 1, 1, tt, false, [1, 2, 3, UInt8.ofNat j] ++ zero12, [], []⟩ none 0 0) 54) = u := ⟨_, rfl⟩
          rw [hu] at bK hC ⊢
          clear hu
          replace hM := hM.later bK (Nat.le_refl _)
          replace hQ := hQ.later bK (Nat.le_refl _)
          replace hR := hR.later bK
          replace hO := own_kept hO bK
          replace hB := hB.trans (bK.mono (by have h1 := hB.size; have h3 := HG.out; omega))
          clear bK
          refine hK.out _ _ hS ?_
          clear hK K
          try simp only [Act.put, List.setIfInBounds_toArray, List.set_cons_zero, List.set_cons_succ]
          refine rg_step 9 rfl (by kernel_rfl) (by rfl) (fun K hK => ?_)
          refine wp_push_rz (.tmp 62) (.tmp 69) rfl (g + 1) _ _ rfl hR rfl hC (by simp; omega) (by have := hM.lt; omega) ?_
          intro v9 u9 R9 g9 hat9
          have hgl := hM.lt
          have hsz := (World.ownsRow.lt hR)
          have hM9 := hM.same (g9.block g hgl (fun e => by have := (hsz g e.symm).1; omega))
          have hQ9 := hQ.same (g9.block gq hQ.lt (fun e => by have := (hsz gq e.symm).1; have := HGG.out.2; omega))
          have hO9 := own_block hO (fun b hb => g9.block b (World.ownsRow.lt hO b hb).2 (fun e => (HNB.out.1 b hb).2.2 e.symm))
          have hB9 := hB.grown g9 (by have h1 := hB.size; have h3 := HG.out; omega) (fun q hq => by have := (hsz q hq).1; have := HGG.out; omega)
          have hN9 : ∀ b, v14.ownBlock = some b → v9.ownBlock ≠ some b := fun b hb e => by
            rcases hat9 with h | h
            · exact (HNB.out.1 b hb).2.2 (h ▸ e)
            · rw [h] at e; have := Option.some.inj e; have := (World.ownsRow.lt hO b hb).2; omega
          have hxl : ((List.range' 0 j).map (zipR S tt) ++ [(⟨S, 1, 1, tt, false, [1, 2, 3, UInt8.ofNat j] ++ zero12, [], []⟩ : Rc)]) = (List.range' 0 (j + 1)).map (zipR S tt) := by
            rw [List.range'_concat, List.map_append]
            simp [zipR]
          rw [hxl] at R9
          obtain ⟨A9, c9, hv9, _⟩ := RcS.of_own (lo := 0) (R9.rcs (fun r hr => by obtain ⟨i, _, rfl⟩ := List.mem_map.1 hr; exact ⟨rfl, rfl⟩)) (Nat.zero_le _)
          rw [show ((List.range' 0 (j + 1)).map (zipR S tt)).length = j + 1 by simp] at hv9
          subst hv9
          have HR9 := Lib.hid (And.intro R9 (And.intro hQ9 (And.intro hO9 (And.intro hB9 hN9))))
          clear R9 hQ9 hO9 hB9 hN9 hat9 hxl hsz g9
          refine hK.out _ _ hS ?_
          clear hK K
          try simp only [Act.put, List.setIfInBounds_toArray, List.set_cons_zero, List.set_cons_succ]
          refine rg_take 10 (v := ?rv7) rfl (by kernel_rfl) (by kernel_rfl) (by kernel_rfl) (fun _ _ _ h => h) (by rfl) hS (fun w2 hw2 => ?ry7) ?rr7
          case ry7 => ((try dsimp only at hw2); go_simp <;> with_reducible rfl)
          simp only [Act.put, List.setIfInBounds_toArray, List.set_cons_zero, List.set_cons_succ]
          refine rg_step 11 rfl (by kernel_rfl) (by rfl) (fun K hK => ?_)
          refine wp_put_ms 24 (.tmp 71) (.tmp 70) rfl 6 ⟨A9, j + 1, c9⟩ rfl rfl (by kernel_rfl) hM9 (by decide) (sq' := ⟨some ⟨gq, 0, none⟩, 1, 1⟩) (sa' := ⟨A9, j + 1, c9⟩) (su' := .zero) (se' := .zero) rfl ?_
          intro u10 a10 o10 g10
          have hI2 : CompI S tt t3 t2 t1 t0 g4 gq g N0 L0 w4 (j + 1) v14 u10 := by
            refine ⟨⟨A9, c9, a10, own_block HR9.out.1 (fun b hb => o10 b (by have := (World.ownsRow.lt HR9.out.1 b hb).1; omega)), fun b hb => ⟨(HNB.out.1 b hb).1, (HNB.out.1 b hb).2.1, HR9.out.2.2.2.2 b hb⟩⟩, ?_, HR9.out.2.1.same (o10 gq (by have := HGG.out.2; omega)), g10 _ _ (by have := HGG.out; omega) HR9.out.2.2.2.1⟩
            have h5 := own_block HR9.out.2.2.1 (fun b hb => o10 b (HNB.out.1 b hb).2.1)
            rw [List.range'_concat, List.map_append, List.flatten_append]
            rw [show N0 + 16 * (j + 1) = N0 + 16 * j + 16 by omega]
            simpa using h5
          have HI2 := Lib.hid hI2
          clear hI2 a10 o10 g10 hM9
          refine hK.out _ _ hS ?_
          clear hK K
          simp only [Act.put]
          refine rg_done (by kernel_rfl) ?_
          go_wp2_with fail
          refine ⟨⟨j + 1, hjk, by go_num, HI2.out⟩, by simp [intOf]; omega⟩
        refine rg_or 7 rfl (by rfl) (fun K hK => ?_) ?_
        · refine wp_build_zr (.tmp 63) (.const (.int .i64 1)) (.const (.int .i64 1)) (.tmp 64) (.tmp 67) rfl S tt (j : Int) (UInt8.ofNat j) HNB.out.2.symm rfl rfl rfl rfl rfl ?_
          obtain ⟨Y, hY⟩ : ∃ Y : Value, Value.agg (rcv ⟨S, 1, 1, tt, false, [1, 2, 3, UInt8.ofNat j] ++ zero12, [], []⟩ none 0 0) = Y := ⟨_, rfl⟩
          rw [hY]
          have HY := Lib.hid hY
          clear hY
          refine hK.out _ _ hS ?_
          clear hK K
          try simp only [Act.put, List.setIfInBounds_toArray, List.set_cons_zero, List.set_cons_succ]
          refine rg_any [1, 8] (by kernel_rfl) (by simp) ?_
          refine rg_or 1 rfl (by rfl) (fun K hK => ?_) ?_
          · have kg : v0_0.cell? ⟨g, 6, none⟩ = some (.slice A j c) := hM.cell 6
            go_simp
            clear kg
            refine hK.out _ _ hS ?_
            clear hK K
            try simp only [Act.put, List.setIfInBounds_toArray, List.set_cons_zero, List.set_cons_succ]
            refine rg_step 8 rfl (by kernel_rfl) (by rfl) (fun K hK => ?_)
            refine wp_lit1 24 54 (.tmp 68) rfl (rcv ⟨S, 1, 1, tt, false, [1, 2, 3, UInt8.ofNat j] ++ zero12, [], []⟩ none 0 0) HY.out.symm infoR (rcv_size (r := ⟨S, 1, 1, tt, false, [1, 2, 3, UInt8.ofNat j] ++ zero12, [], []⟩) (by rfl) none 0 0) (by decide) (by decide) Tryz.underlying24 ?_
            have bK : Below v0_0.heap.size v0_0 (v0_0.alloc (.cells (rcv ⟨S, 1, 1, tt, false, [1, 2, 3, UInt8.ofNat j] ++ zero12, [], []⟩ none 0 0) 54)) := (Below.refl _ _).alloc (Nat.le_refl _) _
            have hC := RcBox.new v0_0 (r := ⟨S, 1, 1, tt, false, [1, 2, 3, UInt8.ofNat j] ++ zero12, [], []⟩) (by rfl) none 0 0
            obtain ⟨v3_1, hu⟩ : ∃ u, v0_0.alloc (.cells (rcv ⟨S, 1, 1, tt, false, [1, 2, 3, UInt8.ofNat j] ++ zero12, [], []⟩ none 0 0) 54) = u := ⟨_, rfl⟩
            rw [hu] at bK hC ⊢
            clear hu
            replace hM := hM.later bK (Nat.le_refl _)
            replace hQ := hQ.later bK (Nat.le_refl _)
            replace hR := hR.later bK
            replace hO := own_kept hO bK
            replace hB := hB.trans (bK.mono (by have h1 := hB.size; have h3 := HG.out; omega))
            clear bK
            refine hK.out _ _ hS ?_
            clear hK K
            try simp only [Act.put, List.setIfInBounds_toArray, List.set_cons_zero, List.set_cons_succ]
            refine rg_step 9 rfl (by kernel_rfl) (by rfl) (fun K hK => ?_)
            refine wp_push_rz (.tmp 62) (.tmp 69) rfl (g + 1) _ _ rfl hR rfl hC (by simp; omega) (by have := hM.lt; omega) ?_
            intro v9 u9 R9 g9 hat9
            have hgl := hM.lt
            have hsz := (World.ownsRow.lt hR)
            have hM9 := hM.same (g9.block g hgl (fun e => by have := (hsz g e.symm).1; omega))
            have hQ9 := hQ.same (g9.block gq hQ.lt (fun e => by have := (hsz gq e.symm).1; have := HGG.out.2; omega))
            have hO9 := own_block hO (fun b hb => g9.block b (World.ownsRow.lt hO b hb).2 (fun e => (HNB.out.1 b hb).2.2 e.symm))
            have hB9 := hB.grown g9 (by have h1 := hB.size; have h3 := HG.out; omega) (fun q hq => by have := (hsz q hq).1; have := HGG.out; omega)
            have hN9 : ∀ b, v14.ownBlock = some b → v9.ownBlock ≠ some b := fun b hb e => by
              rcases hat9 with h | h
              · exact (HNB.out.1 b hb).2.2 (h ▸ e)
              · rw [h] at e; have := Option.some.inj e; have := (World.ownsRow.lt hO b hb).2; omega
            have hxl : ((List.range' 0 j).map (zipR S tt) ++ [(⟨S, 1, 1, tt, false, [1, 2, 3, UInt8.ofNat j] ++ zero12, [], []⟩ : Rc)]) = (List.range' 0 (j + 1)).map (zipR S tt) := by
              rw [List.range'_concat, List.map_append]
              simp [zipR]
            rw [hxl] at R9
            obtain ⟨A9, c9, hv9, _⟩ := RcS.of_own (lo := 0) (R9.rcs (fun r hr => by obtain ⟨i, _, rfl⟩ := List.mem_map.1 hr; exact ⟨rfl, rfl⟩)) (Nat.zero_le _)
            rw [show ((List.range' 0 (j + 1)).map (zipR S tt)).length = j + 1 by simp] at hv9
            subst hv9
            have HR9 := Lib.hid (And.intro R9 (And.intro hQ9 (And.intro hO9 (And.intro hB9 hN9))))
            clear R9 hQ9 hO9 hB9 hN9 hat9 hxl hsz g9
            refine hK.out _ _ hS ?_
            clear hK K
            try simp only [Act.put, List.setIfInBounds_toArray, List.set_cons_zero, List.set_cons_succ]
            refine rg_take 10 (v := ?rv8) rfl (by kernel_rfl) (by kernel_rfl) (by kernel_rfl) (fun _ _ _ h => h) (by rfl) hS (fun w2 hw2 => ?ry8) ?rr8
            case ry8 => ((try dsimp only at hw2); go_simp <;> with_reducible rfl)
            simp only [Act.put, List.setIfInBounds_toArray, List.set_cons_zero, List.set_cons_succ]
            refine rg_step 11 rfl (by kernel_rfl) (by rfl) (fun K hK => ?_)
            refine wp_put_ms 24 (.tmp 71) (.tmp 70) rfl 6 ⟨A9, j + 1, c9⟩ rfl rfl (by kernel_rfl) hM9 (by decide) (sq' := ⟨some ⟨gq, 0, none⟩, 1, 1⟩) (sa' := ⟨A9, j + 1, c9⟩) (su' := .zero) (se' := .zero) rfl ?_
            intro u10 a10 o10 g10
            have hI2 : CompI S tt t3 t2 t1 t0 g4 gq g N0 L0 w4 (j + 1) v14 u10 := by
              refine ⟨⟨A9, c9, a10, own_block HR9.out.1 (fun b hb => o10 b (by have := (World.ownsRow.lt HR9.out.1 b hb).1; omega)), fun b hb => ⟨(HNB.out.1 b hb).1, (HNB.out.1 b hb).2.1, HR9.out.2.2.2.2 b hb⟩⟩, ?_, HR9.out.2.1.same (o10 gq (by have := HGG.out.2; omega)), g10 _ _ (by have := HGG.out; omega) HR9.out.2.2.2.1⟩
              have h5 := own_block HR9.out.2.2.1 (fun b hb => o10 b (HNB.out.1 b hb).2.1)
              rw [List.range'_concat, List.map_append, List.flatten_append]
              rw [show N0 + 16 * (j + 1) = N0 + 16 * j + 16 by omega]
              simpa using h5
            have HI2 := Lib.hid hI2
            clear hI2 a10 o10 g10 hM9
            refine hK.out _ _ hS ?_
            clear hK K
            simp only [Act.put]
            refine rg_done (by kernel_rfl) ?_
            go_wp2_with fail
            refine ⟨⟨j + 1, hjk, by go_num, HI2.out⟩, by simp [intOf]; omega⟩
          refine rg_or 8 rfl (by rfl) (fun K hK => ?_) ?_
          · refine wp_lit1 24 54 (.tmp 68) rfl (rcv ⟨S, 1, 1, tt, false, [1, 2, 3, UInt8.ofNat j] ++ zero12, [], []⟩ none 0 0) HY.out.symm infoR (rcv_size (r := ⟨S, 1, 1, tt, false, [1, 2, 3, UInt8.ofNat j] ++ zero12, [], []⟩) (by rfl) none 0 0) (by decide) (by decide) Tryz.underlying24 ?_
            have bK : Below v0_0.heap.size v0_0 (v0_0.alloc (.cells (rcv ⟨S, 1, 1, tt, false, [1, 2, 3, UInt8.ofNat j] ++ zero12, [], []⟩ none 0 0) 54)) := (Below.refl _ _).alloc (Nat.le_refl _) _
            have hC := RcBox.new v0_0 (r := ⟨S, 1, 1, tt, false, [1, 2, 3, UInt8.ofNat j] ++ zero12, [], []⟩) (by rfl) none 0 0
            obtain ⟨v2_0, hu⟩ : ∃ u, v0_0.alloc (.cells (rcv ⟨S, 1, 1, tt, false, [1, 2, 3, UInt8.ofNat j] ++ zero12, [], []⟩ none 0 0) 54) = u := ⟨_, rfl⟩
            rw [hu] at bK hC ⊢
            clear hu
            replace hM := hM.later bK (Nat.le_refl _)
            replace hQ := hQ.later bK (Nat.le_refl _)
            replace hR := hR.later bK
            replace hO := own_kept hO bK
            replace hB := hB.trans (bK.mono (by have h1 := hB.size; have h3 := HG.out; omega))
            clear bK
            refine hK.out _ _ hS ?_
            clear hK K
            try simp only [Act.put, List.setIfInBounds_toArray, List.set_cons_zero, List.set_cons_succ]
            refine rg_step 1 rfl (by kernel_rfl) (by rfl) (fun K hK => ?_)
            have kg : v2_0.cell? ⟨g, 6, none⟩ = some (.slice A j c) := hM.cell 6
            go_simp
            clear kg
            refine hK.out _ _ hS ?_
            clear hK K
            try simp only [Act.put, List.setIfInBounds_toArray, List.set_cons_zero, List.set_cons_succ]
            refine rg_step 9 rfl (by kernel_rfl) (by rfl) (fun K hK => ?_)
            refine wp_push_rz (.tmp 62) (.tmp 69) rfl (g + 1) _ _ rfl hR rfl hC (by simp; omega) (by have := hM.lt; omega) ?_
            intro v9 u9 R9 g9 hat9
            have hgl := hM.lt
            have hsz := (World.ownsRow.lt hR)
            have hM9 := hM.same (g9.block g hgl (fun e => by have := (hsz g e.symm).1; omega))
            have hQ9 := hQ.same (g9.block gq hQ.lt (fun e => by have := (hsz gq e.symm).1; have := HGG.out.2; omega))
            have hO9 := own_block hO (fun b hb => g9.block b (World.ownsRow.lt hO b hb).2 (fun e => (HNB.out.1 b hb).2.2 e.symm))
            have hB9 := hB.grown g9 (by have h1 := hB.size; have h3 := HG.out; omega) (fun q hq => by have := (hsz q hq).1; have := HGG.out; omega)
            have hN9 : ∀ b, v14.ownBlock = some b → v9.ownBlock ≠ some b := fun b hb e => by
              rcases hat9 with h | h
              · exact (HNB.out.1 b hb).2.2 (h ▸ e)
              · rw [h] at e; have := Option.some.inj e; have := (World.ownsRow.lt hO b hb).2; omega
            have hxl : ((List.range' 0 j).map (zipR S tt) ++ [(⟨S, 1, 1, tt, false, [1, 2, 3, UInt8.ofNat j] ++ zero12, [], []⟩ : Rc)]) = (List.range' 0 (j + 1)).map (zipR S tt) := by
              rw [List.range'_concat, List.map_append]
              simp [zipR]
            rw [hxl] at R9
            obtain ⟨A9, c9, hv9, _⟩ := RcS.of_own (lo := 0) (R9.rcs (fun r hr => by obtain ⟨i, _, rfl⟩ := List.mem_map.1 hr; exact ⟨rfl, rfl⟩)) (Nat.zero_le _)
            rw [show ((List.range' 0 (j + 1)).map (zipR S tt)).length = j + 1 by simp] at hv9
            subst hv9
            have HR9 := Lib.hid (And.intro R9 (And.intro hQ9 (And.intro hO9 (And.intro hB9 hN9))))
            clear R9 hQ9 hO9 hB9 hN9 hat9 hxl hsz g9
            refine hK.out _ _ hS ?_
            clear hK K
            try simp only [Act.put, List.setIfInBounds_toArray, List.set_cons_zero, List.set_cons_succ]
            refine rg_take 10 (v := ?rv9) rfl (by kernel_rfl) (by kernel_rfl) (by kernel_rfl) (fun _ _ _ h => h) (by rfl) hS (fun w2 hw2 => ?ry9) ?rr9
            case ry9 => ((try dsimp only at hw2); go_simp <;> with_reducible rfl)
            simp only [Act.put, List.setIfInBounds_toArray, List.set_cons_zero, List.set_cons_succ]
            refine rg_step 11 rfl (by kernel_rfl) (by rfl) (fun K hK => ?_)
            refine wp_put_ms 24 (.tmp 71) (.tmp 70) rfl 6 ⟨A9, j + 1, c9⟩ rfl rfl (by kernel_rfl) hM9 (by decide) (sq' := ⟨some ⟨gq, 0, none⟩, 1, 1⟩) (sa' := ⟨A9, j + 1, c9⟩) (su' := .zero) (se' := .zero) rfl ?_
            intro u10 a10 o10 g10
            have hI2 : CompI S tt t3 t2 t1 t0 g4 gq g N0 L0 w4 (j + 1) v14 u10 := by
              refine ⟨⟨A9, c9, a10, own_block HR9.out.1 (fun b hb => o10 b (by have := (World.ownsRow.lt HR9.out.1 b hb).1; omega)), fun b hb => ⟨(HNB.out.1 b hb).1, (HNB.out.1 b hb).2.1, HR9.out.2.2.2.2 b hb⟩⟩, ?_, HR9.out.2.1.same (o10 gq (by have := HGG.out.2; omega)), g10 _ _ (by have := HGG.out; omega) HR9.out.2.2.2.1⟩
              have h5 := own_block HR9.out.2.2.1 (fun b hb => o10 b (HNB.out.1 b hb).2.1)
              rw [List.range'_concat, List.map_append, List.flatten_append]
              rw [show N0 + 16 * (j + 1) = N0 + 16 * j + 16 by omega]
              simpa using h5
            have HI2 := Lib.hid hI2
            clear hI2 a10 o10 g10 hM9
            refine hK.out _ _ hS ?_
            clear hK K
            simp only [Act.put]
            refine rg_done (by kernel_rfl) ?_
            go_wp2_with fail
            refine ⟨⟨j + 1, hjk, by go_num, HI2.out⟩, by simp [intOf]; omega⟩
          exact AllReadyH.nil
        exact AllReadyH.nil
      exact AllReadyH.nil
      -->>
    · obtain rfl : j = k := by omega
      obtain ⟨A, c, hM, hR, hNB⟩ := HI.out.ex
      obtain ⟨Bz, cz, rfl, hBz⟩ := Bs.of_own HI.out.ob
      obtain ⟨ttl, htt⟩ : ∃ n : Nat, tt = (n : Int) := ⟨tt.toNat, by omega⟩
      have ht : ((t3.toNat * 256 + t2.toNat) * 256 + t1.toNat) * 256 + t0.toNat = ttl := by
        have h3 := HT.out.1
        have h2 := HT.out.2.1
        have h1 := HT.out.2.2.1
        have h0 := HT.out.2.2.2
        omega
      have hzl : L0 ++ ((List.range' 0 j).map (zipB t3 t2 t1 t0)).flatten = zipL S t3 t2 t1 t0 j := by
        rw [← HLN.out.1]
        unfold zipL
        simp only [List.append_assoc]
      rw [hzl] at hBz
      have hP := zip_parse HR.out.1 HR.out.2 ht hk hBz.len
      have hb' : Below w.heap.size w wr := H4.out.2.trans (HI.out.be.mono (by have h1 := H4.out.2.size; have h3 := HG.out; omega))
      have hMM : MsM 0 wr ⟨some ⟨gq, 0, none⟩, 1, 1⟩ ⟨A, j, c⟩ .zero .zero (zipM S ttl j) := by
        refine ⟨⟨rfl, Nat.le_refl _, by show 1 ≤ maxLen; unfold maxLen; omega, (fun h => by cases h), fun i q hq => ?_⟩, ?_, RcS.nil _ _, RcS.nil _ _⟩
        · match i, hq with
          | 0, hq =>
            cases hq
            exact ⟨gq, 0, rfl, by simpa using HI.out.qb.range, Nat.zero_le _⟩
        · obtain ⟨A', c', e, h⟩ := RcS.of_own (lo := 0) (hR.rcs (fun r hr => by obtain ⟨i, _, rfl⟩ := List.mem_map.1 hr; exact ⟨rfl, rfl⟩)) (Nat.zero_le _)
          rw [htt] at e h
          rw [show ((List.range' 0 j).map (zipR S (ttl : Int))).length = j by simp] at e h
          cases e
          exact h
      have KP := parse_any hBz (by omega) (Handle.later hb' (Nat.le_refl _) HE.out.2)
      rw [hP] at KP
      unfold ParseR at KP
      have KP := Lib.hid KP
      have H20 := Lib.hid (And.intro hM (And.intro hMM hb'))
      clear hM hR hNB hBz hP hb' hMM ht htt hzl
      go_wp2_with fail
      refine KP.out.mono ?_
      clear KP
      rintro e w21 ⟨yq, ya, yu, ye, v21, rfl, yq1, ya1, yu1, ye1, t21, b21⟩
      obtain rfl := t21.none' rfl
      have H21 := Lib.hid (And.intro (show MsM 0 w21 yq ya yu ye (zipM S ttl j) from ⟨yq1.low (Nat.zero_le _), ya1.low (Nat.zero_le _), yu1.low (Nat.zero_le _), ye1.low (Nat.zero_le _)⟩) (And.intro (H20.out.1.later b21 (Nat.le_refl _)) (And.intro (H20.out.2.1.later b21 (Nat.le_refl _)) (H20.out.2.2.trans (b21.mono H20.out.2.2.size)))))
      clear yq1 ya1 yu1 ye1 t21 b21
      go_wp2_with (first
        | (refine wpList_alloc_ms rfl rfl ?_; intro w22 a22 b22 z22; refine wpList_store_ms rfl (.tmp 12) (.tmp 75) rfl (zipM S ttl j).h yq ya yu ye rfl rfl a22 ?_; intro w23 a23 o23 z23 g23; have b23 := g23 _ _ (Nat.le_refl _) b22; have H23 := Lib.hid (And.intro (And.intro a23 (H21.out.1.later b23 (Nat.le_refl _))) (And.intro (H21.out.2.1.later b23 (Nat.le_refl _)) (And.intro (H21.out.2.2.1.later b23 (Nat.le_refl _)) (H21.out.2.2.2.trans (b23.mono H21.out.2.2.2.size))))); clear a22 b22 z22 a23 o23 z23 g23 b23))
      refine (awake14 (Env.later HE.out.1 H23.out.2.2.2 (Nat.le_refl _)) (Handle.later H23.out.2.2.2 (Nat.le_refl _) HE.out.2)).mono ?_
      rintro e w24 ⟨rfl, b24⟩
      have H24 := Lib.hid (And.intro (And.intro (H23.out.1.1.later b24 (Nat.le_refl _)) (H23.out.1.2.later b24 (Nat.le_refl _))) (And.intro (H23.out.2.1.later b24 (Nat.le_refl _)) (And.intro (H23.out.2.2.1.later b24 (Nat.le_refl _)) (H23.out.2.2.2.trans (b24.mono H23.out.2.2.2.size)))))
      clear b24
      go_wp2_with (first
        | (refine wpList_wanted (by rfl) (wp_load_msg (.tmp 12) rfl rfl H24.out.1.1 ?_))
        | (refine wpList_wanted (by rfl) (wp_load_msg (.tmp 10) rfl rfl H24.out.2.1 ?_)))
      refine (message_same H24.out.1.2 H24.out.2.2.1).mono ?_
      rintro e w25 ⟨rfl, b25⟩
      have H25 := Lib.hid (H24.out.2.2.2.trans (b25.mono H24.out.2.2.2.size))
      clear b25
      go_wp2_with fail
      go_ret
      exact ⟨rfl, H25.out⟩

end Go.Proofs.YtepenemhidhdpaaGreatDoor
