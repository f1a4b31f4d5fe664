/-
  
-/
import Derived.Test.YtoagfmonfgagbaaGreatDoorZ44
namespace Go.Proofs.YtoagfmonfgagbaaGreatDoor
open Go.RowKit
set_option maxRecDepth 100000
structure Now19 (w wi : World) (base g x : Nat) (A : Option Addr) (n c e : Nat) (ts : List Tk) (v1 v2 : Value) (r : Rs19) (Ai : Option Addr) (ni ci : Nat) (tsi : List Tk) : Prop where
  ln : LnB wi x Ai ni ci e
  rb : RB wi base g v1 v2 r
  fr : Fr (St x g v1 v2) w wi
  tl : ∀ w2, TkS w2 A n c ts → TkS w2 Ai ni ci tsi
section
variable {w wi w' : World} {base g x : Nat} {A : Option Addr} {n c e : Nat} {ts : List Tk} {v1 v2 : Value} {r : Rs19} {Ai : Option Addr} {ni ci : Nat} {tsi : List Tk}
theorem Pre.begin19 (h : Pre w base g x A n c e ts v1 v2 r) : Now19 w w base g x A n c e ts v1 v2 r A n c ts := ⟨h.ln, h.rb, Fr.refl _ _, fun _ h => h⟩
theorem Now19.tk (k : Now19 w wi base g x A n c e ts v1 v2 r Ai ni ci tsi) (h : Pre w base g x A n c e ts v1 v2 r) : TkS wi Ai ni ci tsi := k.tl _ (h.tk _ k.fr)
theorem Now19.env (k : Now19 w wi base g x A n c e ts v1 v2 r Ai ni ci tsi) (h : Pre w base g x A n c e ts v1 v2 r) {w1 : World} (hf : Fr (fun i => i = x) wi w1) : Env19 w1 := h.env _ (k.fr.trans hf fun _ _ e => .inl e)
theorem Now19.step {t : Tk} (k : Now19 w wi base g x A n c e ts v1 v2 r Ai ni ci (t :: tsi)) (h : Pre w base g x A n c e ts v1 v2 r) (hs : Step wi w' x Ai ni ci e t tsi) : ∃ A', Now19 w w' base g x A n c e ts v1 v2 r A' (ni - 1) (ci - 1) tsi := by
  obtain ⟨A', h1, h2, h3⟩ := hs
  exact ⟨A', h1, k.rb.keep fun i hi hs => h3.block i hi fun e => h.xg (e ▸ hs), k.fr.trans h3 fun _ _ e => .inl e, fun w2 h4 => h2 w2 (k.tl w2 h4)⟩
theorem Now19.after (k : Now19 w wi base g x A n c e ts v1 v2 r Ai ni ci tsi) (hb : Below wi.heap.size wi w') : Now19 w w' base g x A n c e ts v1 v2 r Ai ni ci tsi :=
  ⟨k.ln.later hb, k.rb.later hb, k.fr.trans (Fr.of_below (S := St x g v1 v2) hb) fun _ _ e => e, k.tl⟩
theorem Now19.put (k : Now19 w wi base g x A n c e ts v1 v2 r Ai ni ci tsi) (h : Pre w base g x A n c e ts v1 v2 r) {b : Nat} (hb : w.heap.size ≤ b) (o : Nat) (v : Value) : Now19 w (wi.setCell ⟨b, o, none⟩ v) base g x A n c e ts v1 v2 r Ai ni ci tsi := by
  have hfar : ∀ i, i ≠ b → (wi.setCell ⟨b, o, none⟩ v).heap[i]? = wi.heap[i]? := fun i hi => Below.heap_setCell wi ⟨b, o, none⟩ v i hi
  have hx : x ≠ b := Nat.ne_of_lt (Nat.lt_of_lt_of_le h.ln.lt hb)
  refine ⟨k.ln.same (hfar x hx), k.rb.keep fun i _ hs => hfar i fun e => by have := h.rb.sg_lt hs; omega, ⟨k.fr.os, k.fr.tape, k.fr.output, by rw [World.size_setCell]; exact k.fr.size, fun i hi hs => (hfar i (by omega)).trans (k.fr.block i hi hs)⟩, k.tl⟩
theorem Now19.stored (k : Now19 w wi base g x A n c e ts v1 v2 r Ai ni ci tsi) (h : Pre w base g x A n c e ts v1 v2 r) {b : Nat} (hb : w.heap.size ≤ b) (o : ∀ i, i ≠ b → w'.heap[i]? = wi.heap[i]?) (z : w'.heap.size = wi.heap.size) (bl : ∀ B w0, B ≤ b → Below B w0 wi → Below B w0 w') : Now19 w w' base g x A n c e ts v1 v2 r Ai ni ci tsi := by
  have hx : x ≠ b := Nat.ne_of_lt (Nat.lt_of_lt_of_le h.ln.lt hb)
  have h1 := bl b wi (Nat.le_refl _) (Below.refl _ _)
  exact ⟨k.ln.same (o x hx), k.rb.keep fun i _ hs => o i fun e => by have := h.rb.sg_lt hs; omega, ⟨h1.os.trans k.fr.os, h1.tape.trans k.fr.tape, h1.output.trans k.fr.output, by rw [z]; exact k.fr.size, fun i hi hs => (o i (by omega)).trans (k.fr.block i hi hs)⟩, k.tl⟩
theorem Now19.nil (k : Now19 w wi base g x A n c e ts v1 v2 r Ai ni ci []) (h : Pre w base g x A n c e ts v1 v2 r) : LnB wi x Ai 0 ci e := by
  have h2 : ni = 0 := (k.tk h).len.symm
  have h3 := k.ln
  rw [h2] at h3
  exact h3
theorem Now19.sz19 (h : Pre w base g x A n c e ts v1 v2 r) {t : Tk} (ht : t ∈ ts) : (mkS t.text).size ≤ 1000000 := by rw [mkS_size]; exact h.sz t ht
end
theorem RwBox.step {w w' : World} {x b : Nat} {q : Rw} (h : RwBox w b q) (hf : Fr (fun i => i = x) w w') (hx : x ≠ b) : RwBox w' b q := h.same (hf.block b h.lt (fun e => hx e.symm))
theorem err_ne19 {w : World} {ge b : Nat} {cs : Array Value} {q : Rw} (h : w.heap[ge]? = some (.cells cs 90 (0, 0))) (hb : RwBox w b q) : ge ≠ b := by
  rintro rfl
  have h1 := h.symm.trans hb.1
  injection h1 with h2
  injection h2 with _ h3 _
  exact absurd h3 (by decide)
set_option maxHeartbeats 8000000 in
theorem rule19 {w : World} {base g x : Nat} {A : Option Addr} {n c e : Nat} {ts : List Tk} {v1 v2 : Value} {r : Rs19} (h : Pre w base g x A n c e ts v1 v2 r) (allow : Bool) :
    Calls Tryz.prog 79 #[.pointer (some ⟨x, 0, none⟩), .pointer (some ⟨g, 0, none⟩), .bool allow] w (Done w base g x A n c e ts v1 v2 (ruleP r allow e ts)) := by
  obtain ⟨R, hR⟩ : ∃ R, ruleP r allow e ts = R := ⟨_, rfl⟩
  rw [hR]
  have HR := Lib.hid hR
  have HP := Lib.hid h
  have hmx : Tryz.prog.follows .mixedOrders = true := by kernel_rfl
  obtain ⟨A1, k1, hv2, _, _⟩ := RwS.of_own h.rb.u
  obtain ⟨m, hm⟩ : ∃ m, (r.rules.map rwR).length = m := ⟨_, rfl⟩
  rw [hm] at hv2
  subst hv2
  clear hm hR h
  go_enter Tryz.func79, Tryz.ntmps79
  go_wp2_with fail
  cases ts with
  | nil =>
    have e1 : R = .inl (15, e) := by rw [← HR.out]; rfl
    refine (read_subject_none HP.out.nil).mono ?_
    rintro r' w1 ⟨er, rfl, ⟨ge, rfl, hge⟩, b1⟩
    have H1 := Lib.hid (And.intro hge b1)
    clear hge b1
    go_wp2_with fail
    go_ret
    rw [e1]
    exact Done.err (Fr.of_below H1.out.2) ⟨ge, rfl, H1.out.1⟩
  | cons t ts =>
    cases hs : subjV t.text with
    | none =>
      have e1 : R = .inl (15, t.at_) := by rw [← HR.out]; show (match subjV t.text with | none => _ | some b => _) = _; rw [hs]
      refine (read_subject_err HP.out.ln HP.out.now (V := .nilFunc) (k := 15) fun w1 _ => subject_no (mkS t.text) (by rw [mkS_data]; exact hs) w1).mono ?_
      rintro r' w1 ⟨er, rfl, ⟨ge, rfl, hge⟩, hst⟩
      have H1 := Lib.hid (And.intro hge hst.fr)
      clear hge hst hs
      go_wp2_with fail
      go_ret
      rw [e1]
      exact Done.err (H1.out.2.mono fun i _ e => .inl e) ⟨ge, rfl, H1.out.1⟩
    | some b =>
      have e1 : R = ruleP2 r allow e b ts := by rw [← HR.out]; show (match subjV t.text with | none => _ | some b => _) = _; rw [hs]
      have HR2 := Lib.hid e1
      clear HR e1
      cases b with
      | true =>
        have ht : t.text = kwName := subj_true hs
        refine (read_subject_ok HP.out.ln HP.out.now (V := .func (.func 110) #[] #[]) fun w1 _ => by rw [ht]; exact subject_name w1).mono ?_
        rintro r' w1 ⟨rfl, hst⟩
        obtain ⟨A', hn1⟩ := HP.out.begin19.step HP.out hst
        have H1 := Lib.hid hn1
        clear hst hn1 hs ht
        go_wp2_with fail
        cases ts with
        | nil =>
          have e1 : R = .inl (15, e) := by rw [HR2.out]; rfl
          refine (read_pattern_none (H1.out.nil HP.out)).mono ?_
          rintro r' w2 ⟨er, rfl, ⟨ge, rfl, hge⟩, b2⟩
          have H2 := Lib.hid (And.intro hge (H1.out.after b2))
          clear hge b2
          go_wp2_with (first
            | (refine wpList_alloc_rulec rfl rfl ?_; intro w3 a3 b3 z3; have H3 := Lib.hid (And.intro a3 (And.intro (H2.out.2.after b3) ((b3.block _ (lt_blk H2.out.1)).trans H2.out.1))); have H3x := Lib.hid H2.out.2.fr.size; clear a3 b3 z3)
            | (refine wpList_store_rulec rfl (.tmp 9) (.tmp 23) rfl (rwv rw0) zero_rule (rwv_one rw0_ok) zero_rule rfl rfl H3.out.1 ?_; intro w4 a4 o4 z4 b4; have H4 := Lib.hid (And.intro (H3.out.2.1.stored HP.out H3x.out o4 z4 b4) ((o4 _ (Nat.ne_of_lt (lt_blk H2.out.1))).trans H3.out.2.2)); clear a4 o4 z4 b4))
          go_ret
          rw [e1]
          exact Done.err H4.out.1.fr ⟨ge, rfl, H4.out.2⟩
        | cons u ts =>
          have K : ∀ w2, Fr (fun i => i = x) w1 w2 → Calls Tryz.prog 110 #[.string (mkS u.text)] w2 (PatR ((patternV fx u.text).map .inl) 13 w2) := fun w2 hf => by
            have := pattern19 (mkS u.text) (Now19.sz19 HP.out (List.mem_cons_of_mem _ (List.mem_cons_self ..))) (H1.out.env HP.out hf)
            rw [mkS_data] at this
            exact this
          cases hp : patP true u.text with
          | none =>
            have hp2 : ((patternV fx u.text).map .inl : Option (Sum (List UInt8 × Bool) Nt19)) = none := hp
            rw [hp2] at K
            have e1 : R = .inl (13, u.at_) := by rw [HR2.out]; show (match patP true u.text with | none => _ | some q => _) = _; rw [hp]; rfl
            refine (read_pattern_err H1.out.ln (H1.out.tk HP.out) (V := rwv rw0) (k := 13) zero_rule (rwv_one rw0_ok) fun w2 hf => (K w2 hf).mono fun _ _ h => ⟨h.2, h.1⟩).mono ?_
            rintro r' w2 ⟨er, rfl, ⟨ge, rfl, hge⟩, hst⟩
            obtain ⟨A'', hn2⟩ := H1.out.step HP.out hst
            have H2 := Lib.hid (And.intro hge hn2)
            clear hge hst hn2 K hp hp2
            go_wp2_with (first
              | (refine wpList_alloc_rulec rfl rfl ?_; intro w3 a3 b3 z3; have H3 := Lib.hid (And.intro a3 (And.intro (H2.out.2.after b3) ((b3.block _ (lt_blk H2.out.1)).trans H2.out.1))); have H3x := Lib.hid H2.out.2.fr.size; clear a3 b3 z3)
              | (refine wpList_store_rulec rfl (.tmp 9) (.tmp 23) rfl (rwv rw0) zero_rule (rwv_one rw0_ok) zero_rule rfl rfl H3.out.1 ?_; intro w4 a4 o4 z4 b4; have H4 := Lib.hid (And.intro (H3.out.2.1.stored HP.out H3x.out o4 z4 b4) ((o4 _ (Nat.ne_of_lt (lt_blk H2.out.1))).trans H3.out.2.2)); clear a4 o4 z4 b4))
            go_ret
            rw [e1]
            exact Done.err H4.out.1.fr ⟨ge, rfl, H4.out.2⟩
          | some q =>
            have hp2 : ((patternV fx u.text).map .inl : Option (Sum (List UInt8 × Bool) Nt19)) = some q := hp
            rw [hp2] at K
            have hq : (rwOf false q 0 0 0).ok := patP_ok hp
            have e1 : R = ruleP3 r allow e q ts := by rw [HR2.out]; show (match patP true u.text with | none => _ | some q => _) = _; rw [hp]
            have HR3 := Lib.hid e1
            refine (read_pattern_ok H1.out.ln (H1.out.tk HP.out) (V := rwv (rwOf false q 0 0 0)) (rwv_size hq) (rwv_one hq) fun w2 hf => (K w2 hf).mono fun _ _ h => ⟨h.2.2, h.1⟩).mono ?_
            rintro r' w2 ⟨rfl, hst⟩
            obtain ⟨A'', hn2⟩ := H1.out.step HP.out hst
            have H2 := Lib.hid hn2
            have HQ := Lib.hid hq
            clear hst hn2 K hp hp2 hq e1 HR2
            go_wp2_with (first
              | (refine wpList_alloc_rulec rfl rfl ?_; intro w3 a3 b3 z3; have H3 := Lib.hid (And.intro a3 (H2.out.after b3)); have H3x := Lib.hid H2.out.fr.size; clear a3 b3 z3)
              | (refine wpList_store_rulec rfl (.tmp 9) (.tmp 23) rfl (rwv (rwOf false q 0 0 0)) (rwv_size HQ.out) (rwv_one HQ.out) zero_rule rfl rfl H3.out.1 ?_; intro w4 a4 o4 z4 b4; have H4 := Lib.hid (And.intro (H3.out.2.stored HP.out H3x.out o4 z4 b4) (show RwBox w4 w2.heap.size (rwOf false q 0 0 0) from ⟨a4, HQ.out⟩)); clear a4 o4 z4 b4))
            cases ts with
            | nil =>
              have e1 : R = .inl (15, e) := by rw [HR3.out]; rfl
              refine (read_proto_none (H4.out.1.nil HP.out)).mono ?_
              rintro r' w5 ⟨er, rfl, ⟨ge, rfl, hge⟩, b5⟩
              have hbx := H4.out.2.later b5 (Nat.le_refl _)
              have hne := err_ne19 hge hbx
              have k1 := hbx.cells.2.2.2.1
              have k2 := hbx.frozen 21
              have H5 := Lib.hid (And.intro hge (And.intro (H4.out.1.after b5) hne))
              clear hge b5 hbx hne
              go_wp2_with fail
              go_ret
              rw [e1]
              exact Done.err (H5.out.2.1.put HP.out H3x.out 21 _).fr ⟨ge, rfl, (Below.heap_setCell _ _ _ _ H5.out.2.2).trans H5.out.1⟩
            | cons u2 ts =>
              have K : ∀ w5, Fr (fun i => i = x) w4 w5 → Calls Tryz.prog 100 #[.string (mkS u2.text)] w5 fun e' w' => Below w5.heap.size w5 w' ∧ e' = .returned (numR (protoV u2.text) 15) := fun w5 hf => by
                have := proto19 (mkS u2.text) (H4.out.1.env HP.out hf)
                rw [mkS_data] at this
                exact this
              cases hp : protoV u2.text with
              | none =>
                rw [hp] at K
                have e1 : R = .inl (15, u2.at_) := by rw [HR3.out]; show (match protoV u2.text with | none => _ | some q => _) = _; rw [hp]
                refine (read_proto_err H4.out.1.ln (H4.out.1.tk HP.out) (V := .int .i64 0) (k := 15) fun w5 hf => (K w5 hf).mono fun _ _ h => ⟨h.2, h.1⟩).mono ?_
                rintro r' w5 ⟨er, rfl, ⟨ge, rfl, hge⟩, hst⟩
                have hbx := H4.out.2.step hst.fr (Nat.ne_of_lt (Nat.lt_of_lt_of_le HP.out.ln.lt H3x.out))
                have hne := err_ne19 hge hbx
                have k1 := hbx.cells.2.2.2.1
                have k2 := hbx.frozen 21
                obtain ⟨A5, hn5⟩ := H4.out.1.step HP.out hst
                have H5 := Lib.hid (And.intro hge (And.intro hn5 hne))
                clear hge hst hbx hne K hp hn5
                go_wp2_with fail
                go_ret
                rw [e1]
                exact Done.err (H5.out.2.1.put HP.out H3x.out 21 _).fr ⟨ge, rfl, (Below.heap_setCell _ _ _ _ H5.out.2.2).trans H5.out.1⟩
              | some n0 =>
                rw [hp] at K
                have e1 : R = ruleP4 r allow e q n0 ts := by rw [HR3.out]; show (match protoV u2.text with | none => _ | some q => _) = _; rw [hp]
                have HR4 := Lib.hid e1
                refine (read_proto_ok H4.out.1.ln (H4.out.1.tk HP.out) (V := .int .i64 n0) fun w5 hf => (K w5 hf).mono fun _ _ h => ⟨h.2, h.1⟩).mono ?_
                rintro r' w5 ⟨rfl, hst⟩
                have hbx := H4.out.2.step hst.fr (Nat.ne_of_lt (Nat.lt_of_lt_of_le HP.out.ln.lt H3x.out))
                have k1 := hbx.cells.2.2.2.1
                have k2 := hbx.frozen 21
                obtain ⟨A5, hn5⟩ := H4.out.1.step HP.out hst
                have H5 := Lib.hid (And.intro hn5 hbx)
                clear hst hbx K hp hn5 e1 HR3
                go_wp2_with fail
                have hn6 := H5.out.1.put HP.out H3x.out 21 (.int .i64 n0)
                have hb6 := H5.out.2.put21 n0
                obtain ⟨w6, hw6⟩ : ∃ w6, w5.setCell ⟨w2.heap.size, 21, none⟩ (.int .i64 n0) = w6 := ⟨_, rfl⟩
                rw [hw6] at hn6 hb6 ⊢
                have H6 := Lib.hid (And.intro hn6 hb6)
                clear hw6 hn6 hb6 k1 k2
                cases ts with
                | nil =>
                  have e1 : R = .inl (15, e) := by rw [HR4.out]; rfl
                  refine (read_ports_none (H6.out.1.nil HP.out)).mono ?_
                  rintro r' w7 ⟨er, rfl, ⟨ge, rfl, hge⟩, b7⟩
                  have H7 := Lib.hid (And.intro hge (H6.out.1.after b7))
                  clear hge b7
                  go_wp2_with (first
                    | (refine wpList_alloc_spanc rfl rfl ?_; intro w8 a8 b8 z8; have H8 := Lib.hid (And.intro a8 (And.intro (H7.out.2.after b8) ((b8.block _ (lt_blk H7.out.1)).trans H7.out.1))); have H8x := Lib.hid H7.out.2.fr.size; clear a8 b8 z8)
                    | (refine wpList_store_spanc rfl (.tmp 10) (.tmp 40) rfl (spv 0 0) zero_span (by simp [spv, Value.oneCell']) zero_span rfl rfl H8.out.1 ?_; intro w9 a9 o9 z9 b9; have H9 := Lib.hid (And.intro (H8.out.2.1.stored HP.out H8x.out o9 z9 b9) ((o9 _ (Nat.ne_of_lt (lt_blk H7.out.1))).trans H8.out.2.2)); clear a9 o9 z9 b9))
                  go_ret
                  rw [e1]
                  exact Done.err H9.out.1.fr ⟨ge, rfl, H9.out.2⟩
                | cons u3 ts =>
                  have K : ∀ w7, Fr (fun i => i = x) w6 w7 → Calls Tryz.prog 102 #[.string (mkS u3.text)] w7 (Spans (portsV u3.text) w7) := fun w7 hf => by
                    have := ports19 (mkS u3.text) (Now19.sz19 HP.out (List.mem_cons_of_mem _ (List.mem_cons_of_mem _ (List.mem_cons_of_mem _ (List.mem_cons_self ..))))) (H6.out.1.env HP.out hf)
                    rw [mkS_data] at this
                    exact this
                  cases hp : portsV u3.text with
                  | none =>
                    rw [hp] at K
                    have e1 : R = .inl (16, u3.at_) := by rw [HR4.out]; show (match portsV u3.text with | none => _ | some q => _) = _; rw [hp]
                    refine (read_ports_err H6.out.1.ln (H6.out.1.tk HP.out) (V := spv 0 0) (k := 16) zero_span (by simp [spv, Value.oneCell']) fun w7 hf => (K w7 hf).mono fun _ _ h => ⟨h.2, h.1⟩).mono ?_
                    rintro r' w7 ⟨er, rfl, ⟨ge, rfl, hge⟩, hst⟩
                    obtain ⟨A7, hn7⟩ := H6.out.1.step HP.out hst
                    have H7 := Lib.hid (And.intro hge hn7)
                    clear hge hst hn7 K hp
                    go_wp2_with (first
                      | (refine wpList_alloc_spanc rfl rfl ?_; intro w8 a8 b8 z8; have H8 := Lib.hid (And.intro a8 (And.intro (H7.out.2.after b8) ((b8.block _ (lt_blk H7.out.1)).trans H7.out.1))); have H8x := Lib.hid H7.out.2.fr.size; clear a8 b8 z8)
                      | (refine wpList_store_spanc rfl (.tmp 10) (.tmp 40) rfl (spv 0 0) zero_span (by simp [spv, Value.oneCell']) zero_span rfl rfl H8.out.1 ?_; intro w9 a9 o9 z9 b9; have H9 := Lib.hid (And.intro (H8.out.2.1.stored HP.out H8x.out o9 z9 b9) ((o9 _ (Nat.ne_of_lt (lt_blk H7.out.1))).trans H8.out.2.2)); clear a9 o9 z9 b9))
                    go_ret
                    rw [e1]
                    exact Done.err H9.out.1.fr ⟨ge, rfl, H9.out.2⟩
                  | some ab =>
                    obtain ⟨a, b⟩ := ab
                    rw [hp] at K
                    have e1 : R = .inr (⟨r.servers, r.rules ++ [⟨allow, q, n0, a, b⟩]⟩, ts) := by rw [HR4.out]; show (match portsV u3.text with | none => _ | some q => _) = _; rw [hp]
                    refine (read_ports_ok H6.out.1.ln (H6.out.1.tk HP.out) (V := spv a b) rfl (by simp [spv, Value.oneCell']) fun w7 hf => (K w7 hf).mono fun _ _ h => ⟨h.2.2.2, h.1⟩).mono ?_
                    rintro r' w7 ⟨rfl, hst⟩
                    have hbx := H6.out.2.step hst.fr (Nat.ne_of_lt (Nat.lt_of_lt_of_le HP.out.ln.lt H3x.out))
                    obtain ⟨A7, hn7⟩ := H6.out.1.step HP.out hst
                    have H7 := Lib.hid (And.intro hn7 hbx)
                    clear hst hn7 hbx K hp HR4
                    go_wp2_with (first
                      | (refine wpList_alloc_spanc rfl rfl ?_; intro w8 a8 b8 z8; have H8 := Lib.hid (And.intro a8 (And.intro (H7.out.1.after b8) (H7.out.2.later b8 (Nat.le_refl _)))); have H8x := Lib.hid H7.out.1.fr.size; clear a8 b8 z8)
                      | (refine wpList_store_spanc rfl (.tmp 10) (.tmp 40) rfl (spv a b) rfl (by simp [spv, Value.oneCell']) zero_span rfl rfl H8.out.1 ?_; intro w9 a9 o9 z9 b9; have H9 := Lib.hid (And.intro (show SpBox w9 w7.heap.size a b from a9) (And.intro (H8.out.2.1.stored HP.out H8x.out o9 z9 b9) (And.intro (H8.out.2.2.same (o9 _ (Nat.ne_of_lt H7.out.2.lt))) H7.out.2.lt))); clear a9 o9 z9 b9))
                    have hlt : w2.heap.size < w7.heap.size := H9.out.2.2.2
                    have hS : Two19 w7.heap.size w7.heap.size w9 w9.drew := ⟨rfl, rfl⟩
                    have c1 : ∀ w', Two19 w7.heap.size w7.heap.size w9 w' → w'.cell? ⟨w7.heap.size, 0, none⟩ = some (.int .i64 a) := fun w' h => h.cell 0 (H9.out.1.cell 0)
                    have c2 : ∀ w', Two19 w7.heap.size w7.heap.size w9 w' → w'.cell? ⟨w7.heap.size, 1, none⟩ = some (.int .i64 b) := fun w' h => h.cell 1 (H9.out.1.cell 1)
                    refine rg_begin (fun w' => Two19 w7.heap.size w7.heap.size w9 w') 11 (by kernel_rfl) rfl ?_
                    have hb9 : RwBox w9.drew w2.heap.size { rwOf false q 0 0 0 with proto := n0 } := H9.out.2.2.1
                    have hn9 := H9.out.2.1.after ((Below.refl _ w9).drew)
                    obtain ⟨W0, hW0⟩ : ∃ W0, w9.drew = W0 := ⟨_, rfl⟩
                    rw [hW0] at hS hb9 hn9 ⊢
                    clear hW0
                    refine rg_take 0 (v := ?rv1) rfl (by kernel_rfl) (by kernel_rfl) (by kernel_rfl) (fun _ _ _ h => h) (by rfl) hS (fun w2 hw2 => ?ry1) ?rr1
                    case ry1 => ((try dsimp only at hw2); go_simp <;> with_reducible rfl)
                    simp only [Act.put, List.setIfInBounds_toArray, List.set_cons_zero, List.set_cons_succ]
                    refine rg_take 1 (v := ?rv2) rfl (by kernel_rfl) (by kernel_rfl) (by kernel_rfl) (fun _ _ _ h => h) (by rfl) hS (fun w2 hw2 => ?ry2) ?rr2
                    case ry2 => ((try dsimp only at hw2); go_simp <;> with_reducible rfl)
                    simp only [Act.put, List.setIfInBounds_toArray, List.set_cons_zero, List.set_cons_succ]
                    refine rg_take 3 (v := ?rv3) rfl (by kernel_rfl) (by kernel_rfl) (by kernel_rfl) (fun _ _ _ h => h) (by rfl) hS (fun w2 hw2 => ?ry3) ?rr3
                    case ry3 => ((try dsimp only at hw2); go_simp <;> with_reducible rfl)
                    simp only [Act.put, List.setIfInBounds_toArray, List.set_cons_zero, List.set_cons_succ]
                    refine rg_take 2 (v := ?rv4) rfl (by kernel_rfl) (by kernel_rfl) (by kernel_rfl) (fun _ _ _ h => h) (by rfl) hS (fun w2 hw2 => ?ry4) ?rr4
                    case ry4 => ((try dsimp only at hw2); go_simp <;> with_reducible rfl)
                    simp only [Act.put, List.setIfInBounds_toArray, List.set_cons_zero, List.set_cons_succ]
                    refine rg_take 4 (v := ?rv5) rfl (by kernel_rfl) (by kernel_rfl) (by kernel_rfl) (fun _ _ _ h => h) (by rfl) hS (fun w2 hw2 => ?ry5) ?rr5
                    case ry5 => ((try dsimp only at hw2); go_simp <;> with_reducible rfl)
                    simp only [Act.put, List.setIfInBounds_toArray, List.set_cons_zero, List.set_cons_succ]
                    refine rg_take 5 (v := ?rv6) rfl (by kernel_rfl) (by kernel_rfl) (by kernel_rfl) (fun _ _ _ h => h) (by rfl) hS (fun w2 hw2 => ?ry6) ?rr6
                    case ry6 => ((try dsimp only at hw2); go_simp <;> with_reducible rfl)
                    simp only [Act.put, List.setIfInBounds_toArray, List.set_cons_zero, List.set_cons_succ]
                    clear c1 c2
                    have q1 := hb9.cells.1
                    have q2 := hb9.frozen 0
                    have hb10 := hb9.put0 allow
                    have hn10 := hn9.put HP.out H3x.out 0 (.bool allow)
                    refine rg_step 6 rfl (by kernel_rfl) (by rfl) (fun K hK => ?_)
                    go_simp
                    replace hS : Two19 w7.heap.size w7.heap.size w9 (W0.setCell ⟨w2.heap.size, 0, none⟩ (.bool allow)) := ⟨(Below.heap_setCell _ _ _ _ (Nat.ne_of_gt hlt)).trans hS.1, (Below.heap_setCell _ _ _ _ (Nat.ne_of_gt hlt)).trans hS.2⟩
                    obtain ⟨w10, hw10⟩ : ∃ w10, W0.setCell ⟨w2.heap.size, 0, none⟩ (.bool allow) = w10 := ⟨_, rfl⟩
                    rw [hw10] at hS hb10 hn10 ⊢
                    refine hK.out _ _ hS ?_
                    clear hK K hw10 hb9 hn9 q1 q2
                    refine rg_take 7 (v := ?rv7) rfl (by kernel_rfl) (by kernel_rfl) (by kernel_rfl) (fun _ _ _ h => h) (by rfl) hS (fun w2 hw2 => ?ry7) ?rr7
                    case ry7 => ((try dsimp only at hw2); go_simp <;> with_reducible rfl)
                    simp only [Act.put, List.setIfInBounds_toArray, List.set_cons_zero, List.set_cons_succ]
                    have q1 := hb10.cells.2.2.2.2.1
                    have q2 := hb10.frozen 22
                    have hb11 := hb10.put22 a
                    have hn11 := hn10.put HP.out H3x.out 22 (.int .i64 a)
                    refine rg_step 8 rfl (by kernel_rfl) (by rfl) (fun K hK => ?_)
                    go_simp
                    replace hS : Two19 w7.heap.size w7.heap.size w9 (w10.setCell ⟨w2.heap.size, 22, none⟩ (.int .i64 a)) := ⟨(Below.heap_setCell _ _ _ _ (Nat.ne_of_gt hlt)).trans hS.1, (Below.heap_setCell _ _ _ _ (Nat.ne_of_gt hlt)).trans hS.2⟩
                    obtain ⟨w11, hw11⟩ : ∃ w11, w10.setCell ⟨w2.heap.size, 22, none⟩ (.int .i64 a) = w11 := ⟨_, rfl⟩
                    rw [hw11] at hS hb11 hn11 ⊢
                    refine hK.out _ _ hS ?_
                    clear hK K hw11 hb10 hn10 q1 q2
                    refine rg_take 9 (v := ?rv8) rfl (by kernel_rfl) (by kernel_rfl) (by kernel_rfl) (fun _ _ _ h => h) (by rfl) hS (fun w2 hw2 => ?ry8) ?rr8
                    case ry8 => ((try dsimp only at hw2); go_simp <;> with_reducible rfl)
                    simp only [Act.put, List.setIfInBounds_toArray, List.set_cons_zero, List.set_cons_succ]
                    have q1 := hb11.cells.2.2.2.2.2.1
                    have q2 := hb11.frozen 23
                    have hb12 := hb11.put23 b
                    have hn12 := hn11.put HP.out H3x.out 23 (.int .i64 b)
                    refine rg_step 10 rfl (by kernel_rfl) (by rfl) (fun K hK => ?_)
                    go_simp
                    replace hS : Two19 w7.heap.size w7.heap.size w9 (w11.setCell ⟨w2.heap.size, 23, none⟩ (.int .i64 b)) := ⟨(Below.heap_setCell _ _ _ _ (Nat.ne_of_gt hlt)).trans hS.1, (Below.heap_setCell _ _ _ _ (Nat.ne_of_gt hlt)).trans hS.2⟩
                    obtain ⟨w12, hw12⟩ : ∃ w12, w11.setCell ⟨w2.heap.size, 23, none⟩ (.int .i64 b) = w12 := ⟨_, rfl⟩
                    rw [hw12] at hS hb12 hn12 ⊢
                    refine hK.out _ _ hS ?_
                    clear hK K hw12 hb11 hn11 q1 q2
                    refine rg_done (by kernel_rfl) ?_
                    have hrw : rwR ⟨allow, q, n0, a, b⟩ = ({ allow := allow, name := (rwOf false q 0 0 0).name, wild := (rwOf false q 0 0 0).wild, v6 := (rwOf false q 0 0 0).v6, adr := (rwOf false q 0 0 0).adr, bits := (rwOf false q 0 0 0).bits, proto := n0, low := a, high := b } : Rw) := by cases q <;> rfl
                    obtain ⟨rr, hrr0⟩ : ∃ rr : Rw, ({ allow := allow, name := (rwOf false q 0 0 0).name, wild := (rwOf false q 0 0 0).wild, v6 := (rwOf false q 0 0 0).v6, adr := (rwOf false q 0 0 0).adr, bits := (rwOf false q 0 0 0).bits, proto := n0, low := a, high := b } : Rw) = rr := ⟨_, rfl⟩
                    rw [hrr0] at hrw
                    have hb12' : RwBox w12 w2.heap.size rr := by rw [← hrr0]; exact hb12
                    have H12 := Lib.hid (And.intro hn12 (And.intro hb12' hrw))
                    have hrr : rr.ok := hb12'.2
                    clear hS hb12 hb12' hn12 hrw hrr0 hlt
                    go_wp2_with fail
                    have hrw := H12.out.2.2
                    have hS : Two19 w2.heap.size w2.heap.size w12 w12.drew := ⟨rfl, rfl⟩
                    refine rg_begin (fun w' => Two19 w2.heap.size w2.heap.size w12 w') 11 (by kernel_rfl) rfl ?_
                    refine rg_take 0 (v := ?rv9) rfl (by kernel_rfl) (by kernel_rfl) (by kernel_rfl) (fun _ _ _ h => h) (by rfl) hS (fun w2 hw2 => ?ry9) ?rr9
                    case ry9 => ((try dsimp only at hw2); go_simp <;> with_reducible rfl)
                    simp only [Act.put, List.setIfInBounds_toArray, List.set_cons_zero, List.set_cons_succ]
                    refine rg_take 1 (v := ?rv10) rfl (by kernel_rfl) (by kernel_rfl) (by kernel_rfl) (fun _ _ _ h => h) (by rfl) hS (fun w2 hw2 => ?ry10) ?rr10
                    case ry10 => ((try dsimp only at hw2); go_simp <;> with_reducible rfl)
                    simp only [Act.put, List.setIfInBounds_toArray, List.set_cons_zero, List.set_cons_succ]
                    refine rg_load 5 rfl (by kernel_rfl) (by kernel_rfl) (by kernel_rfl) w2.heap.size 0 (rwv rr) (fun _ _ _ h => h) (by rfl) 55 (.tmp 9) rfl rfl hS (fun w20 h2 => range_block (h2.1.trans H12.out.2.1.1)) Tryz.underlying55 rfl (rw_size hrr) ?_
                    simp only [Act.put, List.setIfInBounds_toArray, List.set_cons_zero, List.set_cons_succ]
                    refine rg_take 2 (v := ?rv11) rfl (by kernel_rfl) (by kernel_rfl) (by kernel_rfl) (fun _ _ _ h => h) (by rfl) hS (fun w2 hw2 => ?ry11) ?rr11
                    case ry11 => ((try dsimp only at hw2); go_simp <;> with_reducible rfl)
                    simp only [Act.put, List.setIfInBounds_toArray, List.set_cons_zero, List.set_cons_succ]
                    refine rg_take 3 (v := ?rv12) rfl (by kernel_rfl) (by kernel_rfl) (by kernel_rfl) (fun _ _ _ h => h) (by rfl) hS (fun w2 hw2 => ?ry12) ?rr12
                    case ry12 => ((try dsimp only at hw2); go_simp <;> with_reducible rfl)
                    simp only [Act.put, List.setIfInBounds_toArray, List.set_cons_zero, List.set_cons_succ]
                    refine rg_any [4, 6] (by kernel_rfl) (by simp) ?_
                    refine rg_or 4 rfl (by rfl) (fun K hK => ?_) ?_
                    · have q0 : w12.drew.cell? ⟨g, 1, none⟩ = some (.slice A1 m k1) := H12.out.1.rb.cell1
                      go_simp
                      refine hK.out _ _ hS ?_
                      clear hK K q0
                      refine rg_step 6 rfl (by kernel_rfl) (by rfl) (fun K hK => ?_)
                      refine wp_lit_rw (.tmp 58) rfl rr hrr rfl ?_
                      have b13 : Below w12.heap.size w12 (w12.drew.alloc (.cells (rwv rr) 55)) := ((Below.refl _ w12).drew).alloc (Nat.le_refl _) _
                      have l13 : (w12.drew.alloc (.cells (rwv rr) 55)).heap[w12.heap.size]? = some (.cells (rwv rr) 55 (0, 0)) := heap_alloc_last w12.drew _
                      have z13 : w12.drew.heap.size = w12.heap.size := rfl
                      obtain ⟨w13, hw13⟩ : ∃ w13, w12.drew.alloc (.cells (rwv rr) 55) = w13 := ⟨_, rfl⟩
                      rw [z13, hw13]
                      rw [hw13] at b13 l13
                      clear hw13 z13
                      replace hS : Two19 w2.heap.size w2.heap.size w12 w13 := ⟨b13.block _ (lt_blk H12.out.2.1.1), b13.block _ (lt_blk H12.out.2.1.1)⟩
                      refine hK.out _ _ hS ?_
                      clear hK K
                      simp only [Act.put, List.setIfInBounds_toArray, List.set_cons_zero, List.set_cons_succ]
                      have hp13 := H12.out.1.after b13
                      have hb9 := H3x.out
                      refine rg_step 7 rfl (by kernel_rfl) (by rfl) (fun K hK => ?_)
                      refine wp_push_rw (.tmp 57) (.tmp 59) rfl base (.slice A1 m k1) (r.rules.map rwR) rfl hp13.rb.u (g := w12.heap.size) rfl (range_block l13) hrr (by have := HP.out.big.2; rw [List.length_map]; omega) (Nat.le_trans hp13.rb.base_g (Nat.le_of_lt hp13.rb.lt)) ?_
                      intro v2' w14 ho hgr hfr
                      rw [← hrw] at ho
                      obtain ⟨hrb, hfr14⟩ := hp13.rb.push2 ho hgr hfr
                      have hsg : ∀ i, Sg g v1 (.slice A1 m k1) i → i < w.heap.size := fun i hi => HP.out.rb.sg_lt hi
                      have hgw : g < w.heap.size := hsg g (.inl rfl)
                      replace hS : Two19 w2.heap.size w2.heap.size w12 w14 := ⟨(hgr.block _ (Nat.lt_of_lt_of_le (lt_blk H12.out.2.1.1) b13.size) (fun e => absurd (hsg _ (.inr (.inr e.symm))) (by omega))).trans hS.1, (hgr.block _ (Nat.lt_of_lt_of_le (lt_blk H12.out.2.1.1) b13.size) (fun e => absurd (hsg _ (.inr (.inr e.symm))) (by omega))).trans hS.2⟩
                      have hg14 : w14.heap[g]? = some (.cells #[v1, .slice A1 m k1] 25 (0, 0)) := (hgr.block g hp13.rb.lt (fun e => hp13.rb.n2 e.symm)).trans hp13.rb.box
                      obtain ⟨A2, k2, hv', _, _⟩ := RwS.of_own ho
                      obtain ⟨m2, hm2⟩ : ∃ m2, (r.rules.map rwR ++ [rwR ⟨allow, q, n0, a, b⟩]).length = m2 := ⟨_, rfl⟩
                      rw [hm2] at hv'
                      subst hv'
                      have HF := Lib.hid (And.intro hrb (And.intro hfr14 (And.intro hfr b13)))
                      clear hrb hfr14 hfr ho hm2 l13
                      refine hK.out _ _ hS ?_
                      clear hK K
                      try simp only [Act.put, List.setIfInBounds_toArray, List.set_cons_zero, List.set_cons_succ]
                      refine rg_take 8 (v := ?rv13) rfl (by kernel_rfl) (by kernel_rfl) (by kernel_rfl) (fun _ _ _ h => h) (by rfl) hS (fun w2 hw2 => ?ry13) ?rr13
                      case ry13 => ((try dsimp only at hw2); go_simp <;> with_reducible rfl)
                      simp only [Act.put, List.setIfInBounds_toArray, List.set_cons_zero, List.set_cons_succ]
                      refine rg_take 9 (v := ?rv14) rfl (by kernel_rfl) (by kernel_rfl) (by kernel_rfl) (fun _ _ _ h => h) (by rfl) hS (fun w2 hw2 => ?ry14) ?rr14
                      case ry14 => ((try dsimp only at hw2); go_simp <;> with_reducible rfl)
                      simp only [Act.put, List.setIfInBounds_toArray, List.set_cons_zero, List.set_cons_succ]
                      have q1 : w14.cell? ⟨g, 1, none⟩ = some (.slice A1 m k1) := cell_of_row w14 g 1 _ _ _ hg14
                      have q2 : w14.frozen? ⟨g, 1, none⟩ = false := by simp [World.frozen?, hg14]
                      refine rg_step 10 rfl (by kernel_rfl) (by rfl) (fun K hK => ?_)
                      go_simp
                      replace hS : Two19 w2.heap.size w2.heap.size w12 (w14.setCell ⟨g, 1, none⟩ (.slice A2 m2 k2)) := ⟨(Below.heap_setCell _ _ _ _ (show w2.heap.size ≠ g by omega)).trans hS.1, (Below.heap_setCell _ _ _ _ (show w2.heap.size ≠ g by omega)).trans hS.2⟩
                      refine hK.out _ _ hS ?_
                      clear hK K
                      refine rg_done (by kernel_rfl) ?_
                      have hall : Fr (St x g v1 (.slice A1 m k1)) w (w14.setCell ⟨g, 1, none⟩ (.slice A2 m2 k2)) := hp13.fr.trans HF.out.2.1 fun _ _ e => .inr e
                      have hln := LnB.same hp13.ln (HF.out.2.1.block x hp13.ln.lt HP.out.xg)
                      have htl := hp13.tl
                      have hfresh : ∀ i, (Value.slice A2 m2 k2).ownBlock = some i → (Value.slice A1 m k1).ownBlock = some i ∨ w.heap.size ≤ i := fun i hi => by
                        rcases HF.out.2.2.1 with e2 | e2
                        · exact .inl (by rw [← e2]; exact hi)
                        · rw [e2] at hi
                          cases hi
                          exact .inr hp13.fr.size
                      have HA := Lib.hid (And.intro hall (And.intro hln (And.intro htl hfresh)))
                      clear hall hln hfresh htl hS q1 q2 hg14 hp13 hgr b13
                      go_wp2_with fail
                      go_ret
                      rw [e1]
                      exact Done.ok HA.out.1 HA.out.2.1 HA.out.2.2.1 HF.out.1 (fun i hi => .inl hi) HA.out.2.2.2
                    refine rg_or 6 rfl (by rfl) (fun K hK => ?_) AllReadyH.nil
                    · refine wp_lit_rw (.tmp 58) rfl rr hrr rfl ?_
                      have b13 : Below w12.heap.size w12 (w12.drew.alloc (.cells (rwv rr) 55)) := ((Below.refl _ w12).drew).alloc (Nat.le_refl _) _
                      have l13 : (w12.drew.alloc (.cells (rwv rr) 55)).heap[w12.heap.size]? = some (.cells (rwv rr) 55 (0, 0)) := heap_alloc_last w12.drew _
                      have z13 : w12.drew.heap.size = w12.heap.size := rfl
                      obtain ⟨w13, hw13⟩ : ∃ w13, w12.drew.alloc (.cells (rwv rr) 55) = w13 := ⟨_, rfl⟩
                      rw [z13, hw13]
                      rw [hw13] at b13 l13
                      clear hw13 z13
                      replace hS : Two19 w2.heap.size w2.heap.size w12 w13 := ⟨b13.block _ (lt_blk H12.out.2.1.1), b13.block _ (lt_blk H12.out.2.1.1)⟩
                      refine hK.out _ _ hS ?_
                      clear hK K
                      simp only [Act.put, List.setIfInBounds_toArray, List.set_cons_zero, List.set_cons_succ]
                      have q0 : w13.cell? ⟨g, 1, none⟩ = some (.slice A1 m k1) := (H12.out.1.after b13).rb.cell1
                      refine rg_step 4 rfl (by kernel_rfl) (by rfl) (fun K hK => ?_)
                      go_simp
                      refine hK.out _ _ hS ?_
                      clear hK K q0
                      have hp13 := H12.out.1.after b13
                      have hb9 := H3x.out
                      refine rg_step 7 rfl (by kernel_rfl) (by rfl) (fun K hK => ?_)
                      refine wp_push_rw (.tmp 57) (.tmp 59) rfl base (.slice A1 m k1) (r.rules.map rwR) rfl hp13.rb.u (g := w12.heap.size) rfl (range_block l13) hrr (by have := HP.out.big.2; rw [List.length_map]; omega) (Nat.le_trans hp13.rb.base_g (Nat.le_of_lt hp13.rb.lt)) ?_
                      intro v2' w14 ho hgr hfr
                      rw [← hrw] at ho
                      obtain ⟨hrb, hfr14⟩ := hp13.rb.push2 ho hgr hfr
                      have hsg : ∀ i, Sg g v1 (.slice A1 m k1) i → i < w.heap.size := fun i hi => HP.out.rb.sg_lt hi
                      have hgw : g < w.heap.size := hsg g (.inl rfl)
                      replace hS : Two19 w2.heap.size w2.heap.size w12 w14 := ⟨(hgr.block _ (Nat.lt_of_lt_of_le (lt_blk H12.out.2.1.1) b13.size) (fun e => absurd (hsg _ (.inr (.inr e.symm))) (by omega))).trans hS.1, (hgr.block _ (Nat.lt_of_lt_of_le (lt_blk H12.out.2.1.1) b13.size) (fun e => absurd (hsg _ (.inr (.inr e.symm))) (by omega))).trans hS.2⟩
                      have hg14 : w14.heap[g]? = some (.cells #[v1, .slice A1 m k1] 25 (0, 0)) := (hgr.block g hp13.rb.lt (fun e => hp13.rb.n2 e.symm)).trans hp13.rb.box
                      obtain ⟨A2, k2, hv', _, _⟩ := RwS.of_own ho
                      obtain ⟨m2, hm2⟩ : ∃ m2, (r.rules.map rwR ++ [rwR ⟨allow, q, n0, a, b⟩]).length = m2 := ⟨_, rfl⟩
                      rw [hm2] at hv'
                      subst hv'
                      have HF := Lib.hid (And.intro hrb (And.intro hfr14 (And.intro hfr b13)))
                      clear hrb hfr14 hfr ho hm2 l13
                      refine hK.out _ _ hS ?_
                      clear hK K
                      try simp only [Act.put, List.setIfInBounds_toArray, List.set_cons_zero, List.set_cons_succ]
                      refine rg_take 8 (v := ?rv15) rfl (by kernel_rfl) (by kernel_rfl) (by kernel_rfl) (fun _ _ _ h => h) (by rfl) hS (fun w2 hw2 => ?ry15) ?rr15
                      case ry15 => ((try dsimp only at hw2); go_simp <;> with_reducible rfl)
                      simp only [Act.put, List.setIfInBounds_toArray, List.set_cons_zero, List.set_cons_succ]
                      refine rg_take 9 (v := ?rv16) rfl (by kernel_rfl) (by kernel_rfl) (by kernel_rfl) (fun _ _ _ h => h) (by rfl) hS (fun w2 hw2 => ?ry16) ?rr16
                      case ry16 => ((try dsimp only at hw2); go_simp <;> with_reducible rfl)
                      simp only [Act.put, List.setIfInBounds_toArray, List.set_cons_zero, List.set_cons_succ]
                      have q1 : w14.cell? ⟨g, 1, none⟩ = some (.slice A1 m k1) := cell_of_row w14 g 1 _ _ _ hg14
                      have q2 : w14.frozen? ⟨g, 1, none⟩ = false := by simp [World.frozen?, hg14]
                      refine rg_step 10 rfl (by kernel_rfl) (by rfl) (fun K hK => ?_)
                      go_simp
                      replace hS : Two19 w2.heap.size w2.heap.size w12 (w14.setCell ⟨g, 1, none⟩ (.slice A2 m2 k2)) := ⟨(Below.heap_setCell _ _ _ _ (show w2.heap.size ≠ g by omega)).trans hS.1, (Below.heap_setCell _ _ _ _ (show w2.heap.size ≠ g by omega)).trans hS.2⟩
                      refine hK.out _ _ hS ?_
                      clear hK K
                      refine rg_done (by kernel_rfl) ?_
                      have hall : Fr (St x g v1 (.slice A1 m k1)) w (w14.setCell ⟨g, 1, none⟩ (.slice A2 m2 k2)) := hp13.fr.trans HF.out.2.1 fun _ _ e => .inr e
                      have hln := LnB.same hp13.ln (HF.out.2.1.block x hp13.ln.lt HP.out.xg)
                      have htl := hp13.tl
                      have hfresh : ∀ i, (Value.slice A2 m2 k2).ownBlock = some i → (Value.slice A1 m k1).ownBlock = some i ∨ w.heap.size ≤ i := fun i hi => by
                        rcases HF.out.2.2.1 with e2 | e2
                        · exact .inl (by rw [← e2]; exact hi)
                        · rw [e2] at hi
                          cases hi
                          exact .inr hp13.fr.size
                      have HA := Lib.hid (And.intro hall (And.intro hln (And.intro htl hfresh)))
                      clear hall hln hfresh htl hS q1 q2 hg14 hp13 hgr b13
                      go_wp2_with fail
                      go_ret
                      rw [e1]
                      exact Done.ok HA.out.1 HA.out.2.1 HA.out.2.2.1 HF.out.1 (fun i hi => .inl hi) HA.out.2.2.2
      | false =>
        have ht : t.text = kwNet := subj_false hs
        refine (read_subject_ok HP.out.ln HP.out.now (V := .func (.func 111) #[] #[]) fun w1 _ => by rw [ht]; exact subject_net w1).mono ?_
        rintro r' w1 ⟨rfl, hst⟩
        obtain ⟨A', hn1⟩ := HP.out.begin19.step HP.out hst
        have H1 := Lib.hid hn1
        clear hst hn1 hs ht
        go_wp2_with fail
        cases ts with
        | nil =>
          have e1 : R = .inl (15, e) := by rw [HR2.out]; rfl
          refine (read_net_none (H1.out.nil HP.out)).mono ?_
          rintro r' w2 ⟨er, rfl, ⟨ge, rfl, hge⟩, b2⟩
          have H2 := Lib.hid (And.intro hge (H1.out.after b2))
          clear hge b2
          go_wp2_with (first
            | (refine wpList_alloc_rulec rfl rfl ?_; intro w3 a3 b3 z3; have H3 := Lib.hid (And.intro a3 (And.intro (H2.out.2.after b3) ((b3.block _ (lt_blk H2.out.1)).trans H2.out.1))); have H3x := Lib.hid H2.out.2.fr.size; clear a3 b3 z3)
            | (refine wpList_store_rulec rfl (.tmp 9) (.tmp 23) rfl (rwv rw0) zero_rule (rwv_one rw0_ok) zero_rule rfl rfl H3.out.1 ?_; intro w4 a4 o4 z4 b4; have H4 := Lib.hid (And.intro (H3.out.2.1.stored HP.out H3x.out o4 z4 b4) ((o4 _ (Nat.ne_of_lt (lt_blk H2.out.1))).trans H3.out.2.2)); clear a4 o4 z4 b4))
          go_ret
          rw [e1]
          exact Done.err H4.out.1.fr ⟨ge, rfl, H4.out.2⟩
        | cons u ts =>
          have K : ∀ w2, Fr (fun i => i = x) w1 w2 → Calls Tryz.prog 111 #[.string (mkS u.text)] w2 (PatR ((parsenetv u.text).map .inr) 17 w2) := fun w2 hf => by
            have := net19 (mkS u.text) (Now19.sz19 HP.out (List.mem_cons_of_mem _ (List.mem_cons_self ..))) (H1.out.env HP.out hf)
            rw [mkS_data] at this
            exact this
          cases hp : patP false u.text with
          | none =>
            have hp2 : ((parsenetv u.text).map .inr : Option (Sum (List UInt8 × Bool) Nt19)) = none := hp
            rw [hp2] at K
            have e1 : R = .inl (17, u.at_) := by rw [HR2.out]; show (match patP false u.text with | none => _ | some q => _) = _; rw [hp]; rfl
            refine (read_net_err H1.out.ln (H1.out.tk HP.out) (V := rwv rw0) (k := 17) zero_rule (rwv_one rw0_ok) fun w2 hf => (K w2 hf).mono fun _ _ h => ⟨h.2, h.1⟩).mono ?_
            rintro r' w2 ⟨er, rfl, ⟨ge, rfl, hge⟩, hst⟩
            obtain ⟨A'', hn2⟩ := H1.out.step HP.out hst
            have H2 := Lib.hid (And.intro hge hn2)
            clear hge hst hn2 K hp hp2
            go_wp2_with (first
              | (refine wpList_alloc_rulec rfl rfl ?_; intro w3 a3 b3 z3; have H3 := Lib.hid (And.intro a3 (And.intro (H2.out.2.after b3) ((b3.block _ (lt_blk H2.out.1)).trans H2.out.1))); have H3x := Lib.hid H2.out.2.fr.size; clear a3 b3 z3)
              | (refine wpList_store_rulec rfl (.tmp 9) (.tmp 23) rfl (rwv rw0) zero_rule (rwv_one rw0_ok) zero_rule rfl rfl H3.out.1 ?_; intro w4 a4 o4 z4 b4; have H4 := Lib.hid (And.intro (H3.out.2.1.stored HP.out H3x.out o4 z4 b4) ((o4 _ (Nat.ne_of_lt (lt_blk H2.out.1))).trans H3.out.2.2)); clear a4 o4 z4 b4))
            go_ret
            rw [e1]
            exact Done.err H4.out.1.fr ⟨ge, rfl, H4.out.2⟩
          | some q =>
            have hp2 : ((parsenetv u.text).map .inr : Option (Sum (List UInt8 × Bool) Nt19)) = some q := hp
            rw [hp2] at K
            have hq : (rwOf false q 0 0 0).ok := patP_ok hp
            have e1 : R = ruleP3 r allow e q ts := by rw [HR2.out]; show (match patP false u.text with | none => _ | some q => _) = _; rw [hp]
            have HR3 := Lib.hid e1
            refine (read_net_ok H1.out.ln (H1.out.tk HP.out) (V := rwv (rwOf false q 0 0 0)) (rwv_size hq) (rwv_one hq) fun w2 hf => (K w2 hf).mono fun _ _ h => ⟨h.2.2, h.1⟩).mono ?_
            rintro r' w2 ⟨rfl, hst⟩
            obtain ⟨A'', hn2⟩ := H1.out.step HP.out hst
            have H2 := Lib.hid hn2
            have HQ := Lib.hid hq
            clear hst hn2 K hp hp2 hq e1 HR2
            go_wp2_with (first
              | (refine wpList_alloc_rulec rfl rfl ?_; intro w3 a3 b3 z3; have H3 := Lib.hid (And.intro a3 (H2.out.after b3)); have H3x := Lib.hid H2.out.fr.size; clear a3 b3 z3)
              | (refine wpList_store_rulec rfl (.tmp 9) (.tmp 23) rfl (rwv (rwOf false q 0 0 0)) (rwv_size HQ.out) (rwv_one HQ.out) zero_rule rfl rfl H3.out.1 ?_; intro w4 a4 o4 z4 b4; have H4 := Lib.hid (And.intro (H3.out.2.stored HP.out H3x.out o4 z4 b4) (show RwBox w4 w2.heap.size (rwOf false q 0 0 0) from ⟨a4, HQ.out⟩)); clear a4 o4 z4 b4))
            cases ts with
            | nil =>
              have e1 : R = .inl (15, e) := by rw [HR3.out]; rfl
              refine (read_proto_none (H4.out.1.nil HP.out)).mono ?_
              rintro r' w5 ⟨er, rfl, ⟨ge, rfl, hge⟩, b5⟩
              have hbx := H4.out.2.later b5 (Nat.le_refl _)
              have hne := err_ne19 hge hbx
              have k1 := hbx.cells.2.2.2.1
              have k2 := hbx.frozen 21
              have H5 := Lib.hid (And.intro hge (And.intro (H4.out.1.after b5) hne))
              clear hge b5 hbx hne
              go_wp2_with fail
              go_ret
              rw [e1]
              exact Done.err (H5.out.2.1.put HP.out H3x.out 21 _).fr ⟨ge, rfl, (Below.heap_setCell _ _ _ _ H5.out.2.2).trans H5.out.1⟩
            | cons u2 ts =>
              have K : ∀ w5, Fr (fun i => i = x) w4 w5 → Calls Tryz.prog 100 #[.string (mkS u2.text)] w5 fun e' w' => Below w5.heap.size w5 w' ∧ e' = .returned (numR (protoV u2.text) 15) := fun w5 hf => by
                have := proto19 (mkS u2.text) (H4.out.1.env HP.out hf)
                rw [mkS_data] at this
                exact this
              cases hp : protoV u2.text with
              | none =>
                rw [hp] at K
                have e1 : R = .inl (15, u2.at_) := by rw [HR3.out]; show (match protoV u2.text with | none => _ | some q => _) = _; rw [hp]
                refine (read_proto_err H4.out.1.ln (H4.out.1.tk HP.out) (V := .int .i64 0) (k := 15) fun w5 hf => (K w5 hf).mono fun _ _ h => ⟨h.2, h.1⟩).mono ?_
                rintro r' w5 ⟨er, rfl, ⟨ge, rfl, hge⟩, hst⟩
                have hbx := H4.out.2.step hst.fr (Nat.ne_of_lt (Nat.lt_of_lt_of_le HP.out.ln.lt H3x.out))
                have hne := err_ne19 hge hbx
                have k1 := hbx.cells.2.2.2.1
                have k2 := hbx.frozen 21
                obtain ⟨A5, hn5⟩ := H4.out.1.step HP.out hst
                have H5 := Lib.hid (And.intro hge (And.intro hn5 hne))
                clear hge hst hbx hne K hp hn5
                go_wp2_with fail
                go_ret
                rw [e1]
                exact Done.err (H5.out.2.1.put HP.out H3x.out 21 _).fr ⟨ge, rfl, (Below.heap_setCell _ _ _ _ H5.out.2.2).trans H5.out.1⟩
              | some n0 =>
                rw [hp] at K
                have e1 : R = ruleP4 r allow e q n0 ts := by rw [HR3.out]; show (match protoV u2.text with | none => _ | some q => _) = _; rw [hp]
                have HR4 := Lib.hid e1
                refine (read_proto_ok H4.out.1.ln (H4.out.1.tk HP.out) (V := .int .i64 n0) fun w5 hf => (K w5 hf).mono fun _ _ h => ⟨h.2, h.1⟩).mono ?_
                rintro r' w5 ⟨rfl, hst⟩
                have hbx := H4.out.2.step hst.fr (Nat.ne_of_lt (Nat.lt_of_lt_of_le HP.out.ln.lt H3x.out))
                have k1 := hbx.cells.2.2.2.1
                have k2 := hbx.frozen 21
                obtain ⟨A5, hn5⟩ := H4.out.1.step HP.out hst
                have H5 := Lib.hid (And.intro hn5 hbx)
                clear hst hbx K hp hn5 e1 HR3
                go_wp2_with fail
                have hn6 := H5.out.1.put HP.out H3x.out 21 (.int .i64 n0)
                have hb6 := H5.out.2.put21 n0
                obtain ⟨w6, hw6⟩ : ∃ w6, w5.setCell ⟨w2.heap.size, 21, none⟩ (.int .i64 n0) = w6 := ⟨_, rfl⟩
                rw [hw6] at hn6 hb6 ⊢
                have H6 := Lib.hid (And.intro hn6 hb6)
                clear hw6 hn6 hb6 k1 k2
                cases ts with
                | nil =>
                  have e1 : R = .inl (15, e) := by rw [HR4.out]; rfl
                  refine (read_ports_none (H6.out.1.nil HP.out)).mono ?_
                  rintro r' w7 ⟨er, rfl, ⟨ge, rfl, hge⟩, b7⟩
                  have H7 := Lib.hid (And.intro hge (H6.out.1.after b7))
                  clear hge b7
                  go_wp2_with (first
                    | (refine wpList_alloc_spanc rfl rfl ?_; intro w8 a8 b8 z8; have H8 := Lib.hid (And.intro a8 (And.intro (H7.out.2.after b8) ((b8.block _ (lt_blk H7.out.1)).trans H7.out.1))); have H8x := Lib.hid H7.out.2.fr.size; clear a8 b8 z8)
                    | (refine wpList_store_spanc rfl (.tmp 10) (.tmp 40) rfl (spv 0 0) zero_span (by simp [spv, Value.oneCell']) zero_span rfl rfl H8.out.1 ?_; intro w9 a9 o9 z9 b9; have H9 := Lib.hid (And.intro (H8.out.2.1.stored HP.out H8x.out o9 z9 b9) ((o9 _ (Nat.ne_of_lt (lt_blk H7.out.1))).trans H8.out.2.2)); clear a9 o9 z9 b9))
                  go_ret
                  rw [e1]
                  exact Done.err H9.out.1.fr ⟨ge, rfl, H9.out.2⟩
                | cons u3 ts =>
                  have K : ∀ w7, Fr (fun i => i = x) w6 w7 → Calls Tryz.prog 102 #[.string (mkS u3.text)] w7 (Spans (portsV u3.text) w7) := fun w7 hf => by
                    have := ports19 (mkS u3.text) (Now19.sz19 HP.out (List.mem_cons_of_mem _ (List.mem_cons_of_mem _ (List.mem_cons_of_mem _ (List.mem_cons_self ..))))) (H6.out.1.env HP.out hf)
                    rw [mkS_data] at this
                    exact this
                  cases hp : portsV u3.text with
                  | none =>
                    rw [hp] at K
                    have e1 : R = .inl (16, u3.at_) := by rw [HR4.out]; show (match portsV u3.text with | none => _ | some q => _) = _; rw [hp]
                    refine (read_ports_err H6.out.1.ln (H6.out.1.tk HP.out) (V := spv 0 0) (k := 16) zero_span (by simp [spv, Value.oneCell']) fun w7 hf => (K w7 hf).mono fun _ _ h => ⟨h.2, h.1⟩).mono ?_
                    rintro r' w7 ⟨er, rfl, ⟨ge, rfl, hge⟩, hst⟩
                    obtain ⟨A7, hn7⟩ := H6.out.1.step HP.out hst
                    have H7 := Lib.hid (And.intro hge hn7)
                    clear hge hst hn7 K hp
                    go_wp2_with (first
                      | (refine wpList_alloc_spanc rfl rfl ?_; intro w8 a8 b8 z8; have H8 := Lib.hid (And.intro a8 (And.intro (H7.out.2.after b8) ((b8.block _ (lt_blk H7.out.1)).trans H7.out.1))); have H8x := Lib.hid H7.out.2.fr.size; clear a8 b8 z8)
                      | (refine wpList_store_spanc rfl (.tmp 10) (.tmp 40) rfl (spv 0 0) zero_span (by simp [spv, Value.oneCell']) zero_span rfl rfl H8.out.1 ?_; intro w9 a9 o9 z9 b9; have H9 := Lib.hid (And.intro (H8.out.2.1.stored HP.out H8x.out o9 z9 b9) ((o9 _ (Nat.ne_of_lt (lt_blk H7.out.1))).trans H8.out.2.2)); clear a9 o9 z9 b9))
                    go_ret
                    rw [e1]
                    exact Done.err H9.out.1.fr ⟨ge, rfl, H9.out.2⟩
                  | some ab =>
                    obtain ⟨a, b⟩ := ab
                    rw [hp] at K
                    have e1 : R = .inr (⟨r.servers, r.rules ++ [⟨allow, q, n0, a, b⟩]⟩, ts) := by rw [HR4.out]; show (match portsV u3.text with | none => _ | some q => _) = _; rw [hp]
                    refine (read_ports_ok H6.out.1.ln (H6.out.1.tk HP.out) (V := spv a b) rfl (by simp [spv, Value.oneCell']) fun w7 hf => (K w7 hf).mono fun _ _ h => ⟨h.2.2.2, h.1⟩).mono ?_
                    rintro r' w7 ⟨rfl, hst⟩
                    have hbx := H6.out.2.step hst.fr (Nat.ne_of_lt (Nat.lt_of_lt_of_le HP.out.ln.lt H3x.out))
                    obtain ⟨A7, hn7⟩ := H6.out.1.step HP.out hst
                    have H7 := Lib.hid (And.intro hn7 hbx)
                    clear hst hn7 hbx K hp HR4
                    go_wp2_with (first
                      | (refine wpList_alloc_spanc rfl rfl ?_; intro w8 a8 b8 z8; have H8 := Lib.hid (And.intro a8 (And.intro (H7.out.1.after b8) (H7.out.2.later b8 (Nat.le_refl _)))); have H8x := Lib.hid H7.out.1.fr.size; clear a8 b8 z8)
                      | (refine wpList_store_spanc rfl (.tmp 10) (.tmp 40) rfl (spv a b) rfl (by simp [spv, Value.oneCell']) zero_span rfl rfl H8.out.1 ?_; intro w9 a9 o9 z9 b9; have H9 := Lib.hid (And.intro (show SpBox w9 w7.heap.size a b from a9) (And.intro (H8.out.2.1.stored HP.out H8x.out o9 z9 b9) (And.intro (H8.out.2.2.same (o9 _ (Nat.ne_of_lt H7.out.2.lt))) H7.out.2.lt))); clear a9 o9 z9 b9))
                    have hlt : w2.heap.size < w7.heap.size := H9.out.2.2.2
                    have hS : Two19 w7.heap.size w7.heap.size w9 w9.drew := ⟨rfl, rfl⟩
                    have c1 : ∀ w', Two19 w7.heap.size w7.heap.size w9 w' → w'.cell? ⟨w7.heap.size, 0, none⟩ = some (.int .i64 a) := fun w' h => h.cell 0 (H9.out.1.cell 0)
                    have c2 : ∀ w', Two19 w7.heap.size w7.heap.size w9 w' → w'.cell? ⟨w7.heap.size, 1, none⟩ = some (.int .i64 b) := fun w' h => h.cell 1 (H9.out.1.cell 1)
                    refine rg_begin (fun w' => Two19 w7.heap.size w7.heap.size w9 w') 11 (by kernel_rfl) rfl ?_
                    have hb9 : RwBox w9.drew w2.heap.size { rwOf false q 0 0 0 with proto := n0 } := H9.out.2.2.1
                    have hn9 := H9.out.2.1.after ((Below.refl _ w9).drew)
                    obtain ⟨W0, hW0⟩ : ∃ W0, w9.drew = W0 := ⟨_, rfl⟩
                    rw [hW0] at hS hb9 hn9 ⊢
                    clear hW0
                    refine rg_take 0 (v := ?rv17) rfl (by kernel_rfl) (by kernel_rfl) (by kernel_rfl) (fun _ _ _ h => h) (by rfl) hS (fun w2 hw2 => ?ry17) ?rr17
                    case ry17 => ((try dsimp only at hw2); go_simp <;> with_reducible rfl)
                    simp only [Act.put, List.setIfInBounds_toArray, List.set_cons_zero, List.set_cons_succ]
                    refine rg_take 1 (v := ?rv18) rfl (by kernel_rfl) (by kernel_rfl) (by kernel_rfl) (fun _ _ _ h => h) (by rfl) hS (fun w2 hw2 => ?ry18) ?rr18
                    case ry18 => ((try dsimp only at hw2); go_simp <;> with_reducible rfl)
                    simp only [Act.put, List.setIfInBounds_toArray, List.set_cons_zero, List.set_cons_succ]
                    refine rg_take 3 (v := ?rv19) rfl (by kernel_rfl) (by kernel_rfl) (by kernel_rfl) (fun _ _ _ h => h) (by rfl) hS (fun w2 hw2 => ?ry19) ?rr19
                    case ry19 => ((try dsimp only at hw2); go_simp <;> with_reducible rfl)
                    simp only [Act.put, List.setIfInBounds_toArray, List.set_cons_zero, List.set_cons_succ]
                    refine rg_take 2 (v := ?rv20) rfl (by kernel_rfl) (by kernel_rfl) (by kernel_rfl) (fun _ _ _ h => h) (by rfl) hS (fun w2 hw2 => ?ry20) ?rr20
                    case ry20 => ((try dsimp only at hw2); go_simp <;> with_reducible rfl)
                    simp only [Act.put, List.setIfInBounds_toArray, List.set_cons_zero, List.set_cons_succ]
                    refine rg_take 4 (v := ?rv21) rfl (by kernel_rfl) (by kernel_rfl) (by kernel_rfl) (fun _ _ _ h => h) (by rfl) hS (fun w2 hw2 => ?ry21) ?rr21
                    case ry21 => ((try dsimp only at hw2); go_simp <;> with_reducible rfl)
                    simp only [Act.put, List.setIfInBounds_toArray, List.set_cons_zero, List.set_cons_succ]
                    refine rg_take 5 (v := ?rv22) rfl (by kernel_rfl) (by kernel_rfl) (by kernel_rfl) (fun _ _ _ h => h) (by rfl) hS (fun w2 hw2 => ?ry22) ?rr22
                    case ry22 => ((try dsimp only at hw2); go_simp <;> with_reducible rfl)
                    simp only [Act.put, List.setIfInBounds_toArray, List.set_cons_zero, List.set_cons_succ]
                    clear c1 c2
                    have q1 := hb9.cells.1
                    have q2 := hb9.frozen 0
                    have hb10 := hb9.put0 allow
                    have hn10 := hn9.put HP.out H3x.out 0 (.bool allow)
                    refine rg_step 6 rfl (by kernel_rfl) (by rfl) (fun K hK => ?_)
                    go_simp
                    replace hS : Two19 w7.heap.size w7.heap.size w9 (W0.setCell ⟨w2.heap.size, 0, none⟩ (.bool allow)) := ⟨(Below.heap_setCell _ _ _ _ (Nat.ne_of_gt hlt)).trans hS.1, (Below.heap_setCell _ _ _ _ (Nat.ne_of_gt hlt)).trans hS.2⟩
                    obtain ⟨w10, hw10⟩ : ∃ w10, W0.setCell ⟨w2.heap.size, 0, none⟩ (.bool allow) = w10 := ⟨_, rfl⟩
                    rw [hw10] at hS hb10 hn10 ⊢
                    refine hK.out _ _ hS ?_
                    clear hK K hw10 hb9 hn9 q1 q2
                    refine rg_take 7 (v := ?rv23) rfl (by kernel_rfl) (by kernel_rfl) (by kernel_rfl) (fun _ _ _ h => h) (by rfl) hS (fun w2 hw2 => ?ry23) ?rr23
                    case ry23 => ((try dsimp only at hw2); go_simp <;> with_reducible rfl)
                    simp only [Act.put, List.setIfInBounds_toArray, List.set_cons_zero, List.set_cons_succ]
                    have q1 := hb10.cells.2.2.2.2.1
                    have q2 := hb10.frozen 22
                    have hb11 := hb10.put22 a
                    have hn11 := hn10.put HP.out H3x.out 22 (.int .i64 a)
                    refine rg_step 8 rfl (by kernel_rfl) (by rfl) (fun K hK => ?_)
                    go_simp
                    replace hS : Two19 w7.heap.size w7.heap.size w9 (w10.setCell ⟨w2.heap.size, 22, none⟩ (.int .i64 a)) := ⟨(Below.heap_setCell _ _ _ _ (Nat.ne_of_gt hlt)).trans hS.1, (Below.heap_setCell _ _ _ _ (Nat.ne_of_gt hlt)).trans hS.2⟩
                    obtain ⟨w11, hw11⟩ : ∃ w11, w10.setCell ⟨w2.heap.size, 22, none⟩ (.int .i64 a) = w11 := ⟨_, rfl⟩
                    rw [hw11] at hS hb11 hn11 ⊢
                    refine hK.out _ _ hS ?_
                    clear hK K hw11 hb10 hn10 q1 q2
                    refine rg_take 9 (v := ?rv24) rfl (by kernel_rfl) (by kernel_rfl) (by kernel_rfl) (fun _ _ _ h => h) (by rfl) hS (fun w2 hw2 => ?ry24) ?rr24
                    case ry24 => ((try dsimp only at hw2); go_simp <;> with_reducible rfl)
                    simp only [Act.put, List.setIfInBounds_toArray, List.set_cons_zero, List.set_cons_succ]
                    have q1 := hb11.cells.2.2.2.2.2.1
                    have q2 := hb11.frozen 23
                    have hb12 := hb11.put23 b
                    have hn12 := hn11.put HP.out H3x.out 23 (.int .i64 b)
                    refine rg_step 10 rfl (by kernel_rfl) (by rfl) (fun K hK => ?_)
                    go_simp
                    replace hS : Two19 w7.heap.size w7.heap.size w9 (w11.setCell ⟨w2.heap.size, 23, none⟩ (.int .i64 b)) := ⟨(Below.heap_setCell _ _ _ _ (Nat.ne_of_gt hlt)).trans hS.1, (Below.heap_setCell _ _ _ _ (Nat.ne_of_gt hlt)).trans hS.2⟩
                    obtain ⟨w12, hw12⟩ : ∃ w12, w11.setCell ⟨w2.heap.size, 23, none⟩ (.int .i64 b) = w12 := ⟨_, rfl⟩
                    rw [hw12] at hS hb12 hn12 ⊢
                    refine hK.out _ _ hS ?_
                    clear hK K hw12 hb11 hn11 q1 q2
                    refine rg_done (by kernel_rfl) ?_
                    have hrw : rwR ⟨allow, q, n0, a, b⟩ = ({ allow := allow, name := (rwOf false q 0 0 0).name, wild := (rwOf false q 0 0 0).wild, v6 := (rwOf false q 0 0 0).v6, adr := (rwOf false q 0 0 0).adr, bits := (rwOf false q 0 0 0).bits, proto := n0, low := a, high := b } : Rw) := by cases q <;> rfl
                    obtain ⟨rr, hrr0⟩ : ∃ rr : Rw, ({ allow := allow, name := (rwOf false q 0 0 0).name, wild := (rwOf false q 0 0 0).wild, v6 := (rwOf false q 0 0 0).v6, adr := (rwOf false q 0 0 0).adr, bits := (rwOf false q 0 0 0).bits, proto := n0, low := a, high := b } : Rw) = rr := ⟨_, rfl⟩
                    rw [hrr0] at hrw
                    have hb12' : RwBox w12 w2.heap.size rr := by rw [← hrr0]; exact hb12
                    have H12 := Lib.hid (And.intro hn12 (And.intro hb12' hrw))
                    have hrr : rr.ok := hb12'.2
                    clear hS hb12 hb12' hn12 hrw hrr0 hlt
                    go_wp2_with fail
                    have hrw := H12.out.2.2
                    have hS : Two19 w2.heap.size w2.heap.size w12 w12.drew := ⟨rfl, rfl⟩
                    refine rg_begin (fun w' => Two19 w2.heap.size w2.heap.size w12 w') 11 (by kernel_rfl) rfl ?_
                    refine rg_take 0 (v := ?rv25) rfl (by kernel_rfl) (by kernel_rfl) (by kernel_rfl) (fun _ _ _ h => h) (by rfl) hS (fun w2 hw2 => ?ry25) ?rr25
                    case ry25 => ((try dsimp only at hw2); go_simp <;> with_reducible rfl)
                    simp only [Act.put, List.setIfInBounds_toArray, List.set_cons_zero, List.set_cons_succ]
                    refine rg_take 1 (v := ?rv26) rfl (by kernel_rfl) (by kernel_rfl) (by kernel_rfl) (fun _ _ _ h => h) (by rfl) hS (fun w2 hw2 => ?ry26) ?rr26
                    case ry26 => ((try dsimp only at hw2); go_simp <;> with_reducible rfl)
                    simp only [Act.put, List.setIfInBounds_toArray, List.set_cons_zero, List.set_cons_succ]
                    refine rg_load 5 rfl (by kernel_rfl) (by kernel_rfl) (by kernel_rfl) w2.heap.size 0 (rwv rr) (fun _ _ _ h => h) (by rfl) 55 (.tmp 9) rfl rfl hS (fun w20 h2 => range_block (h2.1.trans H12.out.2.1.1)) Tryz.underlying55 rfl (rw_size hrr) ?_
                    simp only [Act.put, List.setIfInBounds_toArray, List.set_cons_zero, List.set_cons_succ]
                    refine rg_take 2 (v := ?rv27) rfl (by kernel_rfl) (by kernel_rfl) (by kernel_rfl) (fun _ _ _ h => h) (by rfl) hS (fun w2 hw2 => ?ry27) ?rr27
                    case ry27 => ((try dsimp only at hw2); go_simp <;> with_reducible rfl)
                    simp only [Act.put, List.setIfInBounds_toArray, List.set_cons_zero, List.set_cons_succ]
                    refine rg_take 3 (v := ?rv28) rfl (by kernel_rfl) (by kernel_rfl) (by kernel_rfl) (fun _ _ _ h => h) (by rfl) hS (fun w2 hw2 => ?ry28) ?rr28
                    case ry28 => ((try dsimp only at hw2); go_simp <;> with_reducible rfl)
                    simp only [Act.put, List.setIfInBounds_toArray, List.set_cons_zero, List.set_cons_succ]
                    refine rg_any [4, 6] (by kernel_rfl) (by simp) ?_
                    refine rg_or 4 rfl (by rfl) (fun K hK => ?_) ?_
                    · have q0 : w12.drew.cell? ⟨g, 1, none⟩ = some (.slice A1 m k1) := H12.out.1.rb.cell1
                      go_simp
                      refine hK.out _ _ hS ?_
                      clear hK K q0
                      refine rg_step 6 rfl (by kernel_rfl) (by rfl) (fun K hK => ?_)
                      refine wp_lit_rw (.tmp 58) rfl rr hrr rfl ?_
                      have b13 : Below w12.heap.size w12 (w12.drew.alloc (.cells (rwv rr) 55)) := ((Below.refl _ w12).drew).alloc (Nat.le_refl _) _
                      have l13 : (w12.drew.alloc (.cells (rwv rr) 55)).heap[w12.heap.size]? = some (.cells (rwv rr) 55 (0, 0)) := heap_alloc_last w12.drew _
                      have z13 : w12.drew.heap.size = w12.heap.size := rfl
                      obtain ⟨w13, hw13⟩ : ∃ w13, w12.drew.alloc (.cells (rwv rr) 55) = w13 := ⟨_, rfl⟩
                      rw [z13, hw13]
                      rw [hw13] at b13 l13
                      clear hw13 z13
                      replace hS : Two19 w2.heap.size w2.heap.size w12 w13 := ⟨b13.block _ (lt_blk H12.out.2.1.1), b13.block _ (lt_blk H12.out.2.1.1)⟩
                      refine hK.out _ _ hS ?_
                      clear hK K
                      simp only [Act.put, List.setIfInBounds_toArray, List.set_cons_zero, List.set_cons_succ]
                      have hp13 := H12.out.1.after b13
                      have hb9 := H3x.out
                      refine rg_step 7 rfl (by kernel_rfl) (by rfl) (fun K hK => ?_)
                      refine wp_push_rw (.tmp 57) (.tmp 59) rfl base (.slice A1 m k1) (r.rules.map rwR) rfl hp13.rb.u (g := w12.heap.size) rfl (range_block l13) hrr (by have := HP.out.big.2; rw [List.length_map]; omega) (Nat.le_trans hp13.rb.base_g (Nat.le_of_lt hp13.rb.lt)) ?_
                      intro v2' w14 ho hgr hfr
                      rw [← hrw] at ho
                      obtain ⟨hrb, hfr14⟩ := hp13.rb.push2 ho hgr hfr
                      have hsg : ∀ i, Sg g v1 (.slice A1 m k1) i → i < w.heap.size := fun i hi => HP.out.rb.sg_lt hi
                      have hgw : g < w.heap.size := hsg g (.inl rfl)
                      replace hS : Two19 w2.heap.size w2.heap.size w12 w14 := ⟨(hgr.block _ (Nat.lt_of_lt_of_le (lt_blk H12.out.2.1.1) b13.size) (fun e => absurd (hsg _ (.inr (.inr e.symm))) (by omega))).trans hS.1, (hgr.block _ (Nat.lt_of_lt_of_le (lt_blk H12.out.2.1.1) b13.size) (fun e => absurd (hsg _ (.inr (.inr e.symm))) (by omega))).trans hS.2⟩
                      have hg14 : w14.heap[g]? = some (.cells #[v1, .slice A1 m k1] 25 (0, 0)) := (hgr.block g hp13.rb.lt (fun e => hp13.rb.n2 e.symm)).trans hp13.rb.box
                      obtain ⟨A2, k2, hv', _, _⟩ := RwS.of_own ho
                      obtain ⟨m2, hm2⟩ : ∃ m2, (r.rules.map rwR ++ [rwR ⟨allow, q, n0, a, b⟩]).length = m2 := ⟨_, rfl⟩
                      rw [hm2] at hv'
                      subst hv'
                      have HF := Lib.hid (And.intro hrb (And.intro hfr14 (And.intro hfr b13)))
                      clear hrb hfr14 hfr ho hm2 l13
                      refine hK.out _ _ hS ?_
                      clear hK K
                      try simp only [Act.put, List.setIfInBounds_toArray, List.set_cons_zero, List.set_cons_succ]
                      refine rg_take 8 (v := ?rv29) rfl (by kernel_rfl) (by kernel_rfl) (by kernel_rfl) (fun _ _ _ h => h) (by rfl) hS (fun w2 hw2 => ?ry29) ?rr29
                      case ry29 => ((try dsimp only at hw2); go_simp <;> with_reducible rfl)
                      simp only [Act.put, List.setIfInBounds_toArray, List.set_cons_zero, List.set_cons_succ]
                      refine rg_take 9 (v := ?rv30) rfl (by kernel_rfl) (by kernel_rfl) (by kernel_rfl) (fun _ _ _ h => h) (by rfl) hS (fun w2 hw2 => ?ry30) ?rr30
                      case ry30 => ((try dsimp only at hw2); go_simp <;> with_reducible rfl)
                      simp only [Act.put, List.setIfInBounds_toArray, List.set_cons_zero, List.set_cons_succ]
                      have q1 : w14.cell? ⟨g, 1, none⟩ = some (.slice A1 m k1) := cell_of_row w14 g 1 _ _ _ hg14
                      have q2 : w14.frozen? ⟨g, 1, none⟩ = false := by simp [World.frozen?, hg14]
                      refine rg_step 10 rfl (by kernel_rfl) (by rfl) (fun K hK => ?_)
                      go_simp
                      replace hS : Two19 w2.heap.size w2.heap.size w12 (w14.setCell ⟨g, 1, none⟩ (.slice A2 m2 k2)) := ⟨(Below.heap_setCell _ _ _ _ (show w2.heap.size ≠ g by omega)).trans hS.1, (Below.heap_setCell _ _ _ _ (show w2.heap.size ≠ g by omega)).trans hS.2⟩
                      refine hK.out _ _ hS ?_
                      clear hK K
                      refine rg_done (by kernel_rfl) ?_
                      have hall : Fr (St x g v1 (.slice A1 m k1)) w (w14.setCell ⟨g, 1, none⟩ (.slice A2 m2 k2)) := hp13.fr.trans HF.out.2.1 fun _ _ e => .inr e
                      have hln := LnB.same hp13.ln (HF.out.2.1.block x hp13.ln.lt HP.out.xg)
                      have htl := hp13.tl
                      have hfresh : ∀ i, (Value.slice A2 m2 k2).ownBlock = some i → (Value.slice A1 m k1).ownBlock = some i ∨ w.heap.size ≤ i := fun i hi => by
                        rcases HF.out.2.2.1 with e2 | e2
                        · exact .inl (by rw [← e2]; exact hi)
                        · rw [e2] at hi
                          cases hi
                          exact .inr hp13.fr.size
                      have HA := Lib.hid (And.intro hall (And.intro hln (And.intro htl hfresh)))
                      clear hall hln hfresh htl hS q1 q2 hg14 hp13 hgr b13
                      go_wp2_with fail
                      go_ret
                      rw [e1]
                      exact Done.ok HA.out.1 HA.out.2.1 HA.out.2.2.1 HF.out.1 (fun i hi => .inl hi) HA.out.2.2.2
                    refine rg_or 6 rfl (by rfl) (fun K hK => ?_) AllReadyH.nil
                    · refine wp_lit_rw (.tmp 58) rfl rr hrr rfl ?_
                      have b13 : Below w12.heap.size w12 (w12.drew.alloc (.cells (rwv rr) 55)) := ((Below.refl _ w12).drew).alloc (Nat.le_refl _) _
                      have l13 : (w12.drew.alloc (.cells (rwv rr) 55)).heap[w12.heap.size]? = some (.cells (rwv rr) 55 (0, 0)) := heap_alloc_last w12.drew _
                      have z13 : w12.drew.heap.size = w12.heap.size := rfl
                      obtain ⟨w13, hw13⟩ : ∃ w13, w12.drew.alloc (.cells (rwv rr) 55) = w13 := ⟨_, rfl⟩
                      rw [z13, hw13]
                      rw [hw13] at b13 l13
                      clear hw13 z13
                      replace hS : Two19 w2.heap.size w2.heap.size w12 w13 := ⟨b13.block _ (lt_blk H12.out.2.1.1), b13.block _ (lt_blk H12.out.2.1.1)⟩
                      refine hK.out _ _ hS ?_
                      clear hK K
                      simp only [Act.put, List.setIfInBounds_toArray, List.set_cons_zero, List.set_cons_succ]
                      have q0 : w13.cell? ⟨g, 1, none⟩ = some (.slice A1 m k1) := (H12.out.1.after b13).rb.cell1
                      refine rg_step 4 rfl (by kernel_rfl) (by rfl) (fun K hK => ?_)
                      go_simp
                      refine hK.out _ _ hS ?_
                      clear hK K q0
                      have hp13 := H12.out.1.after b13
                      have hb9 := H3x.out
                      refine rg_step 7 rfl (by kernel_rfl) (by rfl) (fun K hK => ?_)
                      refine wp_push_rw (.tmp 57) (.tmp 59) rfl base (.slice A1 m k1) (r.rules.map rwR) rfl hp13.rb.u (g := w12.heap.size) rfl (range_block l13) hrr (by have := HP.out.big.2; rw [List.length_map]; omega) (Nat.le_trans hp13.rb.base_g (Nat.le_of_lt hp13.rb.lt)) ?_
                      intro v2' w14 ho hgr hfr
                      rw [← hrw] at ho
                      obtain ⟨hrb, hfr14⟩ := hp13.rb.push2 ho hgr hfr
                      have hsg : ∀ i, Sg g v1 (.slice A1 m k1) i → i < w.heap.size := fun i hi => HP.out.rb.sg_lt hi
                      have hgw : g < w.heap.size := hsg g (.inl rfl)
                      replace hS : Two19 w2.heap.size w2.heap.size w12 w14 := ⟨(hgr.block _ (Nat.lt_of_lt_of_le (lt_blk H12.out.2.1.1) b13.size) (fun e => absurd (hsg _ (.inr (.inr e.symm))) (by omega))).trans hS.1, (hgr.block _ (Nat.lt_of_lt_of_le (lt_blk H12.out.2.1.1) b13.size) (fun e => absurd (hsg _ (.inr (.inr e.symm))) (by omega))).trans hS.2⟩
                      have hg14 : w14.heap[g]? = some (.cells #[v1, .slice A1 m k1] 25 (0, 0)) := (hgr.block g hp13.rb.lt (fun e => hp13.rb.n2 e.symm)).trans hp13.rb.box
                      obtain ⟨A2, k2, hv', _, _⟩ := RwS.of_own ho
                      obtain ⟨m2, hm2⟩ : ∃ m2, (r.rules.map rwR ++ [rwR ⟨allow, q, n0, a, b⟩]).length = m2 := ⟨_, rfl⟩
                      rw [hm2] at hv'
                      subst hv'
                      have HF := Lib.hid (And.intro hrb (And.intro hfr14 (And.intro hfr b13)))
                      clear hrb hfr14 hfr ho hm2 l13
                      refine hK.out _ _ hS ?_
                      clear hK K
                      try simp only [Act.put, List.setIfInBounds_toArray, List.set_cons_zero, List.set_cons_succ]
                      refine rg_take 8 (v := ?rv31) rfl (by kernel_rfl) (by kernel_rfl) (by kernel_rfl) (fun _ _ _ h => h) (by rfl) hS (fun w2 hw2 => ?ry31) ?rr31
                      case ry31 => ((try dsimp only at hw2); go_simp <;> with_reducible rfl)
                      simp only [Act.put, List.setIfInBounds_toArray, List.set_cons_zero, List.set_cons_succ]
                      refine rg_take 9 (v := ?rv32) rfl (by kernel_rfl) (by kernel_rfl) (by kernel_rfl) (fun _ _ _ h => h) (by rfl) hS (fun w2 hw2 => ?ry32) ?rr32
                      case ry32 => ((try dsimp only at hw2); go_simp <;> with_reducible rfl)
                      simp only [Act.put, List.setIfInBounds_toArray, List.set_cons_zero, List.set_cons_succ]
                      have q1 : w14.cell? ⟨g, 1, none⟩ = some (.slice A1 m k1) := cell_of_row w14 g 1 _ _ _ hg14
                      have q2 : w14.frozen? ⟨g, 1, none⟩ = false := by simp [World.frozen?, hg14]
                      refine rg_step 10 rfl (by kernel_rfl) (by rfl) (fun K hK => ?_)
                      go_simp
                      replace hS : Two19 w2.heap.size w2.heap.size w12 (w14.setCell ⟨g, 1, none⟩ (.slice A2 m2 k2)) := ⟨(Below.heap_setCell _ _ _ _ (show w2.heap.size ≠ g by omega)).trans hS.1, (Below.heap_setCell _ _ _ _ (show w2.heap.size ≠ g by omega)).trans hS.2⟩
                      refine hK.out _ _ hS ?_
                      clear hK K
                      refine rg_done (by kernel_rfl) ?_
                      have hall : Fr (St x g v1 (.slice A1 m k1)) w (w14.setCell ⟨g, 1, none⟩ (.slice A2 m2 k2)) := hp13.fr.trans HF.out.2.1 fun _ _ e => .inr e
                      have hln := LnB.same hp13.ln (HF.out.2.1.block x hp13.ln.lt HP.out.xg)
                      have htl := hp13.tl
                      have hfresh : ∀ i, (Value.slice A2 m2 k2).ownBlock = some i → (Value.slice A1 m k1).ownBlock = some i ∨ w.heap.size ≤ i := fun i hi => by
                        rcases HF.out.2.2.1 with e2 | e2
                        · exact .inl (by rw [← e2]; exact hi)
                        · rw [e2] at hi
                          cases hi
                          exact .inr hp13.fr.size
                      have HA := Lib.hid (And.intro hall (And.intro hln (And.intro htl hfresh)))
                      clear hall hln hfresh htl hS q1 q2 hg14 hp13 hgr b13
                      go_wp2_with fail
                      go_ret
                      rw [e1]
                      exact Done.ok HA.out.1 HA.out.2.1 HA.out.2.2.1 HF.out.1 (fun i hi => .inl hi) HA.out.2.2.2
end Go.Proofs.YtoagfmonfgagbaaGreatDoor

namespace Go.Proofs.YtoagfmonfgagbaaGreatDoor
open Go.RowKit
set_option maxRecDepth 100000
def behindP (r : Rs19) (e : Nat) (t : Tk) (ts : List Tk) : Sum (Int × Nat) (Rs19 × List Tk) :=
  if t.text = kwResolver then serverP r e ts
  else if t.text = kwAllow then (if 200 ≤ r.rules.length then .inl (4, t.at_) else ruleP r true e ts)
  else if t.text = kwDeny then (if 200 ≤ r.rules.length then .inl (4, t.at_) else ruleP r false e ts)
  else .inl (15, t.at_)
theorem Done.after {w0 w w' : World} {base g x : Nat} {A : Option Addr} {n c e : Nat} {ts : List Tk} {v1 v2 : Value} {R : Sum (Int × Nat) (Rs19 × List Tk)} {res : Ending} (h : Done w base g x A n c e ts v1 v2 R res w') (hb : Below w0.heap.size w0 w) : Done w0 base g x A n c e ts v1 v2 R res w' := by
  obtain ⟨h1, h2⟩ := h
  refine ⟨(Fr.of_below (S := St x g v1 v2) hb).trans h1 fun _ _ e => e, ?_⟩
  cases R with
  | inl k => exact h2
  | inr q =>
    obtain ⟨h3, A', n', c', v1', v2', a1, a2, a3, a4, a5⟩ := h2
    exact ⟨h3, A', n', c', v1', v2', a1, a2, a3, fun b hb2 => (a4 b hb2).imp id fun h => Nat.le_trans hb.size h, fun b hb2 => (a5 b hb2).imp id fun h => Nat.le_trans hb.size h⟩
theorem Done.form {w w' : World} {base g x : Nat} {A : Option Addr} {n c e : Nat} {ts : List Tk} {v1 v2 : Value} {R : Sum (Int × Nat) (Rs19 × List Tk)} {res : Ending} (h : Done w base g x A n c e ts v1 v2 R res w') : ∃ v, res = .returned v ∧ Done w base g x A n c e ts v1 v2 R (.returned v) w' := by
  cases R with
  | inl k =>
    obtain ⟨h1, er, rfl, h2⟩ := h
    exact ⟨er, rfl, h1, er, rfl, h2⟩
  | inr q =>
    obtain ⟨h1, rfl, h2⟩ := h
    exact ⟨_, rfl, h1, rfl, h2⟩
theorem ne_list {t k : List UInt8} (h : t ≠ k) : ((mkS t).toList == k) = false ∧ (k == (mkS t).toList) = false := by
  refine ⟨?_, ?_⟩
  · rw [beq_eq_false_iff_ne, Lib.toList_data, mkS_data]; exact h
  · rw [beq_eq_false_iff_ne, Lib.toList_data, mkS_data]; exact fun e => h e.symm
set_option maxHeartbeats 4000000 in
theorem behind19 {w : World} {base g x : Nat} {A : Option Addr} {n c e : Nat} {ts : List Tk} {v1 v2 : Value} {r : Rs19} (h : Pre w base g x A n c e ts v1 v2 r) (t : Tk) :
    Calls Tryz.prog 51 #[.pointer (some ⟨x, 0, none⟩), .agg (tkv t), .pointer (some ⟨g, 0, none⟩)] w (Done w base g x A n c e ts v1 v2 (behindP r e t ts)) := by
  have hbox : Below w.heap.size w (w.alloc (.cells (tkv t) 96)) := (Below.refl _ w).alloc (Nat.le_refl _) _
  have ht := TkBox.new w t
  obtain ⟨W, hW⟩ : ∃ W, w.alloc (.cells (tkv t) 96) = W := ⟨_, rfl⟩
  rw [hW] at hbox ht
  obtain ⟨q, hq⟩ : ∃ q, w.heap.size = q := ⟨_, rfl⟩
  obtain ⟨vt, hvt⟩ : ∃ vt, tkv t = vt := ⟨_, rfl⟩
  have hp := h.after hbox
  obtain ⟨c1, c3⟩ := tk_text ht
  rw [hq] at c1 c3
  have HP := Lib.hid (And.intro hp hbox)
  obtain ⟨A1, k1, hv2, _, _⟩ := RwS.of_own h.rb.u
  obtain ⟨m, hm⟩ : ∃ m, (r.rules.map rwR).length = m := ⟨_, rfl⟩
  rw [hm] at hv2
  have hml : r.rules.length = m := by rw [← hm, List.length_map]
  subst hv2
  have hg1 := hp.rb.cell1
  have HW : Hid (w.alloc (.cells vt 96) = W) := by rw [← hvt]; exact hW
  have hsz := HP.out.2.size
  rw [hvt]
  clear h hbox hW ht hp hm hvt
  unfold behindP
  by_cases h1 : t.text = kwResolver
  · rw [if_pos h1]
    rw [h1, show mkS kwResolver = ⟨#[114, 101, 115, 111, 108, 118, 101, 114]⟩ from rfl] at c3
    have K := Lib.hid (server19 HP.out.1)
    clear h1 hml
    go_enter Tryz.func51, Tryz.ntmps51
    go_wp2_with (rw [HW.out])
    refine K.out.mono ?_
    rintro r' w1 hd
    obtain ⟨v, rfl, hd⟩ := hd.form
    have HD := Lib.hid (hd.after HP.out.2)
    clear hd
    go_wp2_with fail
    go_ret
    exact HD.out
  rw [if_neg h1]
  obtain ⟨n1, n2⟩ := ne_list h1
  rw [show kwResolver = [114, 101, 115, 111, 108, 118, 101, 114] from rfl] at n1 n2
  clear h1
  by_cases h2 : t.text = kwAllow
  · rw [if_pos h2]
    rw [h2] at n1 n2
    rw [h2, show mkS kwAllow = ⟨#[97, 108, 108, 111, 119]⟩ from rfl] at c3
    clear n1 n2 h2
    by_cases hbig : 200 ≤ m
    · rw [if_pos (by omega)]
      have hb2 : (200 : Int) ≤ (m : Int) := by omega
      clear hml
      go_enter Tryz.func51, Tryz.ntmps51
      go_wp2_with (rw [HW.out])
      refine (wrap_some _ _ _ _).mono ?_
      rintro r' w1 ⟨rfl, rfl⟩
      go_wp2_with fail
      go_ret
      exact Done.err (Fr.of_below (HP.out.2.alloc hsz _)) ⟨_, rfl, heap_alloc_last _ _⟩
    · rw [if_neg (by omega)]
      have hb2 : ¬ (200 : Int) ≤ (m : Int) := by omega
      have K := Lib.hid (rule19 HP.out.1 true)
      clear hml hbig
      go_enter Tryz.func51, Tryz.ntmps51
      go_wp2_with (rw [HW.out])
      refine K.out.mono ?_
      rintro r' w1 hd
      obtain ⟨v, rfl, hd⟩ := hd.form
      have HD := Lib.hid (hd.after HP.out.2)
      clear hd
      go_wp2_with fail
      go_ret
      exact HD.out
  rw [if_neg h2]
  obtain ⟨n3, n4⟩ := ne_list h2
  rw [show kwAllow = [97, 108, 108, 111, 119] from rfl] at n3 n4
  clear h2
  by_cases h3 : t.text = kwDeny
  · rw [if_pos h3]
    rw [h3] at n1 n2 n3 n4
    rw [h3, show mkS kwDeny = ⟨#[100, 101, 110, 121]⟩ from rfl] at c3
    clear n1 n2 n3 n4 h3
    by_cases hbig : 200 ≤ m
    · rw [if_pos (by omega)]
      have hb2 : (200 : Int) ≤ (m : Int) := by omega
      clear hml
      go_enter Tryz.func51, Tryz.ntmps51
      go_wp2_with (rw [HW.out])
      refine (wrap_some _ _ _ _).mono ?_
      rintro r' w1 ⟨rfl, rfl⟩
      go_wp2_with fail
      go_ret
      exact Done.err (Fr.of_below (HP.out.2.alloc hsz _)) ⟨_, rfl, heap_alloc_last _ _⟩
    · rw [if_neg (by omega)]
      have hb2 : ¬ (200 : Int) ≤ (m : Int) := by omega
      have K := Lib.hid (rule19 HP.out.1 false)
      clear hml hbig
      go_enter Tryz.func51, Tryz.ntmps51
      go_wp2_with (rw [HW.out])
      refine K.out.mono ?_
      rintro r' w1 hd
      obtain ⟨v, rfl, hd⟩ := hd.form
      have HD := Lib.hid (hd.after HP.out.2)
      clear hd
      go_wp2_with fail
      go_ret
      exact HD.out
  rw [if_neg h3]
  obtain ⟨n5, n6⟩ := ne_list h3
  rw [show kwDeny = [100, 101, 110, 121] from rfl] at n5 n6
  clear h3 hml
  go_enter Tryz.func51, Tryz.ntmps51
  go_wp2_with (rw [HW.out])
  refine (wrap_some _ _ _ _).mono ?_
  rintro r' w1 ⟨rfl, rfl⟩
  go_wp2_with fail
  go_ret
  exact Done.err (Fr.of_below (HP.out.2.alloc hsz _)) ⟨_, rfl, heap_alloc_last _ _⟩
end Go.Proofs.YtoagfmonfgagbaaGreatDoor

namespace Go.Proofs.YtoagfmonfgagbaaGreatDoor
open Go.RowKit
set_option maxRecDepth 100000
def tellP (r : Rs19) (e : Nat) : List Tk → Sum (Int × Nat) Rs19
  | [] => .inr r
  | t :: ts => match behindP r e t ts with
    | .inl x => .inl x
    | .inr (r', []) => .inr r'
    | .inr (_, m :: _) => .inl (15, m.at_)
def Told (w : World) (base g x : Nat) (v1 v2 : Value) (R : Sum (Int × Nat) Rs19) (res : Ending) (w' : World) : Prop := Fr (St x g v1 v2) w w' ∧ match R with
  | .inl (k, p) => ∃ er, res = .returned er ∧ ErrN w' er k p
  | .inr r' => res = .returned .nilIface ∧ ∃ v1' v2', RB w' base g v1' v2' r' ∧ (∀ b, v1'.ownBlock = some b → v1.ownBlock = some b ∨ w.heap.size ≤ b) ∧ (∀ b, v2'.ownBlock = some b → v2.ownBlock = some b ∨ w.heap.size ≤ b)
set_option maxHeartbeats 4000000 in
theorem tell_prog {w : World} {base g x : Nat} {A : Option Addr} {n c e : Nat} {ts : List Tk} {v1 v2 : Value} {r : Rs19} (h : Pre w base g x A n c e ts v1 v2 r) :
    Calls Tryz.prog 30 #[.pointer (some ⟨x, 0, none⟩), .pointer (some ⟨g, 0, none⟩)] w (Told w base g x v1 v2 (tellP r e ts)) := by
  obtain ⟨R, hR⟩ : ∃ R, tellP r e ts = R := ⟨_, rfl⟩
  rw [hR]
  have HR := Lib.hid hR
  have HP := Lib.hid h
  clear hR h
  go_enter Tryz.func30, Tryz.ntmps30
  go_wp2_with fail
  cases ts with
  | nil =>
    have e1 : R = .inr r := HR.out.symm
    refine (next_none19 HP.out.nil).mono ?_
    rintro r' w1 ⟨rfl, b1⟩
    have H1 := Lib.hid b1
    clear b1
    go_wp2_with (first
      | (refine wpList_alloc_tk rfl rfl ?_; intro w2 a2 b2 z2; have H2 := Lib.hid (And.intro a2 b2); clear a2 b2 z2)
      | (refine wpList_store_t4 rfl (.tmp 5) (.tmp 13) rfl tkZ rfl tkZ_one rfl rfl rfl H2.out.1 ?_; intro w3 a3 o3 z3 b3; have H3 := Lib.hid (H1.out.trans ((b3 w1.heap.size w1 (Nat.le_refl _) H2.out.2).mono H1.out.size)); clear a3 o3 z3 b3))
    go_ret
    rw [e1]
    exact ⟨Fr.of_below H3.out, rfl, v1, v2, HP.out.rb.later H3.out, fun b hb => .inl hb, fun b hb => .inl hb⟩
  | cons t ts =>
    refine (next_some19 HP.out.ln HP.out.now).mono ?_
    rintro r' w1 ⟨rfl, hst⟩
    obtain ⟨A', hp1, _⟩ := HP.out.step hst
    have hf1 := Step.fr hst
    have H1 := Lib.hid (And.intro hp1 (hf1.mono (S' := St x g v1 v2) fun i _ e => .inl e))
    clear hst hp1 hf1
    go_wp2_with (first
      | (refine wpList_alloc_tk rfl rfl ?_; intro w2 a2 b2 z2; have H2 := Lib.hid (And.intro a2 b2); clear a2 b2 z2)
      | (refine wpList_store_t4 rfl (.tmp 5) (.tmp 13) rfl (tkv t) (tkv_size t) (tkv_one t) rfl rfl rfl H2.out.1 ?_; intro w3 a3 o3 z3 b3; have b4 := b3 w1.heap.size w1 (Nat.le_refl _) H2.out.2; have H3 := Lib.hid (And.intro a3 (And.intro (H1.out.1.after b4) (H1.out.2.trans (Fr.of_below (S := St x g v1 v2) b4) fun _ _ e => e))); clear a3 o3 z3 b3 b4)
      | (refine wpList_load_tk rfl (.tmp 5) rfl rfl (TkBox.range (show TkBox w3 w1.heap.size t from H3.out.1)) ?_))
    have K := behind19 H3.out.2.1 t
    cases hb : behindP r e t ts with
    | inl kp =>
      obtain ⟨k, p⟩ := kp
      rw [hb] at K
      have e1 : R = .inl (k, p) := by rw [← HR.out]; show (match behindP r e t ts with | .inl x => _ | .inr (r', []) => _ | .inr (_, m :: _) => _) = _; rw [hb]
      refine K.mono ?_
      rintro r' w4 ⟨hf4, er, rfl, ⟨ge, rfl, hge⟩⟩
      have H4 := Lib.hid (And.intro (H3.out.2.2.trans hf4 fun _ _ e => e) hge)
      clear hf4 hge K hb
      go_wp2_with fail
      go_ret
      rw [e1]
      exact ⟨H4.out.1, _, rfl, ge, rfl, H4.out.2⟩
    | inr q =>
      obtain ⟨r2, ts'⟩ := q
      rw [hb] at K
      refine K.mono ?_
      rintro r' w4 ⟨hf4, rfl, A4, n4, c4, v1', v2', hl4, ht4, hr4, hu4, hv4⟩
      have htk := ht4 w4 (H3.out.2.1.tk w4 hf4)
      have hsz := H3.out.2.2.size
      have H4 := Lib.hid (And.intro (H3.out.2.2.trans hf4 fun _ _ e => e) (And.intro hl4 (And.intro htk (And.intro hr4 (And.intro (fun b hb => (hu4 b hb).imp id fun h => Nat.le_trans hsz h) (fun b hb => (hv4 b hb).imp id fun h => Nat.le_trans hsz h))))))
      have hb' := Lib.hid hb
      clear hf4 hl4 ht4 hr4 hu4 hv4 htk hsz K hb
      go_wp2_with fail
      cases ts' with
      | nil =>
        have e1 : R = .inr r2 := by rw [← HR.out]; show (match behindP r e t ts with | .inl x => _ | .inr (r', []) => _ | .inr (_, m :: _) => _) = _; rw [hb'.out]
        have hn : LnB w4 x A4 0 c4 e := by
          have h2 : n4 = 0 := H4.out.2.2.1.len.symm
          have h3 := H4.out.2.1
          rw [h2] at h3
          exact h3
        refine (next_none19 hn).mono ?_
        rintro r' w5 ⟨rfl, b5⟩
        have H5 := Lib.hid b5
        clear b5 hn
        go_wp2_with (first
          | (refine wpList_alloc_tk rfl rfl ?_; intro w6 a6 b6 z6; have H6 := Lib.hid (And.intro a6 b6); clear a6 b6 z6)
          | (refine wpList_store_t4 rfl (.tmp 8) (.tmp 27) rfl tkZ rfl tkZ_one rfl rfl rfl H6.out.1 ?_; intro w7 a7 o7 z7 b7; have H7 := Lib.hid (H5.out.trans ((b7 w5.heap.size w5 (Nat.le_refl _) H6.out.2).mono H5.out.size)); clear a7 o7 z7 b7))
        go_ret
        rw [e1]
        exact ⟨H4.out.1.trans (Fr.of_below (S := St x g v1 v2) H7.out) fun _ _ e => e, rfl, v1', v2', H4.out.2.2.2.1.later H7.out, H4.out.2.2.2.2.1, H4.out.2.2.2.2.2⟩
      | cons m ms =>
        have e1 : R = .inl (15, m.at_) := by rw [← HR.out]; show (match behindP r e t ts with | .inl x => _ | .inr (r', []) => _ | .inr (_, m :: _) => _) = _; rw [hb'.out]
        refine (next_some19 H4.out.2.1 H4.out.2.2.1).mono ?_
        rintro r' w5 ⟨rfl, hst⟩
        have hf5 := (Step.fr (t := m) (ts := ms) hst).mono (S' := St x g v1 v2) fun i _ e => .inl e
        have H5 := Lib.hid (H4.out.1.trans hf5 fun _ _ e => e)
        clear hst hf5
        go_wp2_with (first
          | (refine wpList_alloc_tk rfl rfl ?_; intro w6 a6 b6 z6; have H6 := Lib.hid (And.intro a6 b6); clear a6 b6 z6)
          | (refine wpList_store_t4 rfl (.tmp 8) (.tmp 27) rfl (tkv m) (tkv_size m) (tkv_one m) rfl rfl rfl H6.out.1 ?_; intro w7 a7 o7 z7 b7; have f7 := (tk_text a7).1; have H7 := Lib.hid (H5.out.trans (Fr.of_below (S := St x g v1 v2) (b7 w5.heap.size w5 (Nat.le_refl _) H6.out.2)) fun _ _ e => e); clear a7 o7 z7 b7))
        refine (wrap_some _ _ _ _).mono ?_
        rintro r' w8 ⟨rfl, rfl⟩
        go_wp2_with fail
        go_ret
        rw [e1]
        exact ⟨H7.out.trans (Fr.of_below (S := St x g v1 v2) ((Below.refl _ _).alloc (Nat.le_refl _) _)) fun _ _ e => e, _, rfl, _, rfl, heap_alloc_last _ _⟩
def fin19 : Sum (Int × Nat) (Rs19 × List Tk) → Sum (Int × Nat) Rs19
  | .inl x => .inl x
  | .inr (r', []) => .inr r'
  | .inr (_, m :: _) => .inl (15, m.at_)
theorem tellP_fin (r : Rs19) (e : Nat) (t : Tk) (ts : List Tk) : tellP r e (t :: ts) = fin19 (behindP r e t ts) := by
  show (match behindP r e t ts with | .inl x => _ | .inr (r', []) => _ | .inr (_, m :: _) => _) = _
  rcases behindP r e t ts with x | ⟨r', _ | ⟨m, ms⟩⟩ <;> rfl
def lineR (o : Option Rs19) (x : Int × Nat) : Sum (Int × Nat) Rs19 := match o with
  | some r' => .inr r'
  | none => .inl x
theorem lineV_R (r : Rs19) (ts : List Tk) (e : Nat) : lineV fx r ts e = lineR (lineT fx r (ts.map (·.text))) (lineE fx r e ts) := by
  unfold lineV lineR
  cases lineT fx r (ts.map (·.text)) <;> rfl
theorem serverE_cons (r : Rs19) (e : Nat) (a : Tk) (more : List Tk) : serverE fx r e (a :: more) = match fx.pa a.text with
    | none => (17, a.at_)
    | some x => if x ∈ r.servers then (19, a.at_) else if 20 ≤ r.servers.length then (4, a.at_) else match more with
      | [] => (0, 0)
      | m :: _ => (15, m.at_) := by
  unfold serverE
  dsimp only
  cases fx.pa a.text with
  | none => rfl
  | some x => cases more <;> rfl
theorem serverT_map (r : Rs19) (a : Tk) (more : List Tk) : serverT fx r ((a :: more).map (·.text)) = match more with
    | [] => (fx.pa a.text).bind fun x => if x ∈ r.servers ∨ 20 ≤ r.servers.length then none else some ⟨r.servers ++ [x], r.rules⟩
    | _ :: _ => none := by cases more <;> rfl
theorem server_line (r : Rs19) (e : Nat) (ts : List Tk) : fin19 (serverP r e ts) = lineR (serverT fx r (ts.map (·.text))) (serverE fx r e ts) := by
  cases ts with
  | nil => rfl
  | cons a more =>
    have h0 : serverP r e (a :: more) = match anotherV r.servers a.text with
      | .inl k => .inl (k, a.at_)
      | .inr x => .inr (⟨r.servers ++ [x], r.rules⟩, more) := rfl
    rw [h0, serverE_cons, serverT_map]
    cases hp : parsev a.text with
    | none =>
      have h1 : fx.pa a.text = none := hp
      have hV : anotherV r.servers a.text = .inl 17 := by unfold anotherV; rw [hp]
      rw [hV, h1]
      cases more <;> rfl
    | some x =>
      have h1 : fx.pa a.text = some x := hp
      rw [h1]
      by_cases h2 : x ∈ r.servers
      · have hV : anotherV r.servers a.text = .inl 19 := by unfold anotherV; rw [hp]; exact if_pos h2
        rw [hV]
        simp only [Option.bind_some, if_pos h2, if_pos (show x ∈ r.servers ∨ 20 ≤ r.servers.length from .inl h2)]
        cases more <;> rfl
      · by_cases h3 : 20 ≤ r.servers.length
        · have hV : anotherV r.servers a.text = .inl 4 := by unfold anotherV; rw [hp]; exact (if_neg h2).trans (if_pos h3)
          rw [hV]
          simp only [Option.bind_some, if_neg h2, if_pos h3, if_pos (show x ∈ r.servers ∨ 20 ≤ r.servers.length from .inr h3)]
          cases more <;> rfl
        · have hV : anotherV r.servers a.text = .inr x := by unfold anotherV; rw [hp]; exact (if_neg h2).trans (if_neg h3)
          rw [hV]
          simp only [Option.bind_some, if_neg h2, if_neg h3, if_neg (show ¬ (x ∈ r.servers ∨ 20 ≤ r.servers.length) from fun h => h.elim h2 h3)]
          cases more <;> rfl
theorem patT_P (b : Bool) (l : List UInt8) : patT fx (if b then kwName else kwNet) l = patP b l := by
  cases b with
  | true => rfl
  | false => rfl
theorem subj_kw {l : List UInt8} {b : Bool} (h : subjV l = some b) : l = if b then kwName else kwNet := by
  cases b with
  | true => exact subj_true h
  | false => exact subj_false h
theorem rule_line (r : Rs19) (allow : Bool) (first e : Nat) (ts : List Tk) (h200 : ¬ 200 ≤ r.rules.length) : fin19 (ruleP r allow e ts) = lineR (ruleT fx allow r (ts.map (·.text))) (ruleE fx r first e ts) := by
  unfold ruleE
  rw [if_neg h200]
  cases ts with
  | nil => rfl
  | cons k ts =>
    cases hs : subjV k.text with
    | none =>
      have h1 : ruleP r allow e (k :: ts) = .inl (15, k.at_) := by show (match subjV k.text with | none => _ | some b => _) = _; rw [hs]
      have hk : k.text ≠ kwName ∧ k.text ≠ kwNet := by
        unfold subjV at hs
        split at hs
        · cases hs
        · split at hs
          · cases hs
          · exact ⟨by assumption, by assumption⟩
      have hT : ruleT fx allow r ((k :: ts).map (·.text)) = none := by
        match ts with
        | [] => rfl
        | [_] => rfl
        | [_, _] => rfl
        | [p, pr, po] =>
          show ruleT fx allow r [k.text, p.text, pr.text, po.text] = none
          rw [ruleT_four, if_neg h200]
          unfold patT
          rw [if_neg hk.1, if_neg hk.2]
          rfl
        | _ :: _ :: _ :: _ :: _ => rfl
      rw [h1, hT]
      simp only [if_pos hk]
      rfl
    | some b =>
      have hkw := subj_kw hs
      have h1 : ruleP r allow e (k :: ts) = ruleP2 r allow e b ts := by show (match subjV k.text with | none => _ | some b => _) = _; rw [hs]
      have hk : ¬ (k.text ≠ kwName ∧ k.text ≠ kwNet) := by
        rintro ⟨a1, a2⟩
        cases b with
        | true => exact a1 hkw
        | false => exact a2 hkw
      rw [h1]
      simp only [if_neg hk]
      cases ts with
      | nil => rfl
      | cons p ts =>
        have hpt : patT fx k.text p.text = patP b p.text := by rw [hkw]; exact patT_P b p.text
        cases hp : patP b p.text with
        | none =>
          have h2 : ruleP2 r allow e b (p :: ts) = .inl (patK b, p.at_) := by show (match patP b p.text with | none => _ | some b => _) = _; rw [hp]
          have hT : ruleT fx allow r ((k :: p :: ts).map (·.text)) = none := by
            match ts with
            | [] => rfl
            | [_] => rfl
            | [pr, po] =>
              show ruleT fx allow r [k.text, p.text, pr.text, po.text] = none
              rw [ruleT_four, if_neg h200, hpt, hp]
              rfl
            | _ :: _ :: _ :: _ => rfl
          have hc : (if k.text = kwName then (13 : Int) else 17) = patK b := by
            rw [hkw]
            cases b with
            | true => rfl
            | false => rfl
          rw [h2, hT]
          simp only [hpt, hp, if_true, hc]
          rfl
        | some q =>
          have h2 : ruleP2 r allow e b (p :: ts) = ruleP3 r allow e q ts := by show (match patP b p.text with | none => _ | some b => _) = _; rw [hp]
          rw [h2]
          simp only [hpt, hp, reduceCtorEq, if_false]
          cases ts with
          | nil => rfl
          | cons pr ts =>
            cases hn : protoV pr.text with
            | none =>
              have h3 : ruleP3 r allow e q (pr :: ts) = .inl (15, pr.at_) := by show (match protoV pr.text with | none => _ | some b => _) = _; rw [hn]
              have hT : ruleT fx allow r ((k :: p :: pr :: ts).map (·.text)) = none := by
                match ts with
                | [] => rfl
                | [po] =>
                  show ruleT fx allow r [k.text, p.text, pr.text, po.text] = none
                  rw [ruleT_four, if_neg h200, hpt, hp, Option.bind_some, hn]
                  rfl
                | _ :: _ :: _ => rfl
              rw [h3, hT]
              simp only [hn, if_true]
              rfl
            | some n =>
              have h3 : ruleP3 r allow e q (pr :: ts) = ruleP4 r allow e q n ts := by show (match protoV pr.text with | none => _ | some b => _) = _; rw [hn]
              rw [h3]
              simp only [hn, reduceCtorEq, if_false]
              cases ts with
              | nil => rfl
              | cons po ts =>
                cases hx : portsV po.text with
                | none =>
                  have h4 : ruleP4 r allow e q n (po :: ts) = .inl (16, po.at_) := by show (match portsV po.text with | none => _ | some b => _) = _; rw [hx]
                  have hT : ruleT fx allow r ((k :: p :: pr :: po :: ts).map (·.text)) = none := by
                    match ts with
                    | [] =>
                      show ruleT fx allow r [k.text, p.text, pr.text, po.text] = none
                      rw [ruleT_four, if_neg h200, hpt, hp, Option.bind_some, hn, Option.bind_some, hx]
                      rfl
                    | _ :: _ => rfl
                  rw [h4, hT]
                  simp only [hx, if_true]
                  rfl
                | some x =>
                  have h4 : ruleP4 r allow e q n (po :: ts) = .inr (⟨r.servers, r.rules ++ [⟨allow, q, n, x.1, x.2⟩]⟩, ts) := by show (match portsV po.text with | none => _ | some b => _) = _; rw [hx]
                  rw [h4]
                  simp only [hx, reduceCtorEq, if_false]
                  cases ts with
                  | nil =>
                    show _ = lineR (ruleT fx allow r [k.text, p.text, pr.text, po.text]) _
                    rw [ruleT_four, if_neg h200, hpt, hp, Option.bind_some, hn, Option.bind_some, hx]
                    rfl
                  | cons m ms => rfl
theorem tell_line (r : Rs19) (e : Nat) (ts : List Tk) : tellP r e ts = lineV fx r ts e := by
  rw [lineV_R]
  cases ts with
  | nil => rfl
  | cons t ts =>
    rw [tellP_fin]
    unfold behindP
    show _ = lineR (lineT fx r (t.text :: ts.map (·.text))) _
    rw [lineT_cons]
    have hE : lineE fx r e (t :: ts) = if t.text = kwResolver then serverE fx r e ts else if t.text = kwAllow ∨ t.text = kwDeny then ruleE fx r t.at_ e ts else (15, t.at_) := rfl
    rw [hE]
    by_cases h1 : t.text = kwResolver
    · rw [if_pos h1, if_pos h1, if_pos h1]
      exact server_line r e ts
    rw [if_neg h1, if_neg h1, if_neg h1]
    have hbig : ∀ allow : Bool, 200 ≤ r.rules.length → ruleT fx allow r (ts.map (·.text)) = none ∧ ruleE fx r t.at_ e ts = (4, t.at_) := fun allow h => by
      constructor
      · match ts with
        | [] => rfl
        | [_] => rfl
        | [_, _] => rfl
        | [_, _, _] => rfl
        | [k, p, pr, po] =>
          show ruleT fx allow r [k.text, p.text, pr.text, po.text] = none
          rw [ruleT_four, if_pos h]
        | _ :: _ :: _ :: _ :: _ :: _ => rfl
      · unfold ruleE
        rw [if_pos h]
    by_cases h2 : t.text = kwAllow
    · rw [if_pos h2, if_pos h2, if_pos (show t.text = kwAllow ∨ t.text = kwDeny from .inl h2)]
      by_cases h3 : 200 ≤ r.rules.length
      · obtain ⟨a1, a2⟩ := hbig true h3
        rw [if_pos h3, a1, a2]
        rfl
      · rw [if_neg h3]
        exact rule_line r true t.at_ e ts h3
    rw [if_neg h2, if_neg h2]
    by_cases h4 : t.text = kwDeny
    · rw [if_pos h4, if_pos h4, if_pos (show t.text = kwAllow ∨ t.text = kwDeny from .inr h4)]
      by_cases h3 : 200 ≤ r.rules.length
      · obtain ⟨a1, a2⟩ := hbig false h3
        rw [if_pos h3, a1, a2]
        rfl
      · rw [if_neg h3]
        exact rule_line r false t.at_ e ts h3
    · rw [if_neg h4, if_neg h4, if_neg (show ¬ (t.text = kwAllow ∨ t.text = kwDeny) from fun h => h.elim h2 h4)]
      rfl
theorem tell19 {w : World} {base g x : Nat} {A : Option Addr} {n c e : Nat} {ts : List Tk} {v1 v2 : Value} {r : Rs19} (h : Pre w base g x A n c e ts v1 v2 r) :
    Calls Tryz.prog 30 #[.pointer (some ⟨x, 0, none⟩), .pointer (some ⟨g, 0, none⟩)] w (Told w base g x v1 v2 (lineV fx r ts e)) := by
  have := tell_prog h
  rw [tell_line] at this
  exact this
end Go.Proofs.YtoagfmonfgagbaaGreatDoor

namespace Go.Proofs.YtoagfmonfgagbaaGreatDoor
open Go.RowKit
set_option maxRecDepth 100000
theorem joinTail_len (s : UInt8) (m : Nat) : ∀ ps : List (List UInt8), (∀ p ∈ ps, p.length ≤ m) → (Lib.joinTail [s] ps).length ≤ (m + 1) * ps.length
  | [], _ => by rw [tail_nil]; exact Nat.zero_le _
  | p :: r, h => by
    have ih := joinTail_len s m r fun q hq => h q (List.mem_cons_of_mem _ hq)
    have h1 := h p (List.mem_cons_self ..)
    rw [tail_cons, List.length_cons, List.length_append, List.length_cons, Nat.mul_add]
    omega
theorem join_len19 (s : UInt8) (m : Nat) (ps : List (List UInt8)) (h : ∀ p ∈ ps, p.length ≤ m) : (Lib.join ps [s]).length ≤ (m + 1) * ps.length ∧ (ps ≠ [] → (Lib.join ps [s]).length + 1 ≤ (m + 1) * ps.length) := by
  cases ps with
  | nil => exact ⟨Nat.zero_le _, fun h => absurd rfl h⟩
  | cons p r =>
    have ih := joinTail_len s m r fun q hq => h q (List.mem_cons_of_mem _ hq)
    have h1 := h p (List.mem_cons_self ..)
    have e : Lib.join (p :: r) [s] = p ++ Lib.joinTail [s] r := Lib.join_cons p r [s]
    rw [e, List.length_append, List.length_cons, Nat.mul_add]
    exact ⟨by omega, fun _ => by omega⟩
theorem textv_39 (v6 : Bool) (bs : List UInt8) : (textv v6 bs).length ≤ 39 := by
  rw [textv_f]
  have hw : (w6 bs).length = 8 := by simp [w6]
  have h6 : ∀ x ∈ w6 bs, x.length ≤ 4 := fun x hx => by
    unfold w6 at hx
    obtain ⟨i, _, rfl⟩ := List.mem_map.1 hx
    exact hex4_len (grp bs i)
  unfold textf
  split
  · split
    · unfold text6f
      split
      · have := (join_len19 58 4 (w6 bs) h6).2 (fun e => by rw [e] at hw; cases hw)
        rw [hw] at this
        omega
      · rename_i hne
        have hok := lst_ok (z6 bs) (z6 bs).length
        have hz : (z6 bs).length = 8 := by unfold z6; rw [List.length_map, hw]
        rw [hz] at hok
        have hlong : longestv (z6 bs) = (lst (z6 bs) 8).2 := by unfold longestv; rw [hz]
        rw [← hlong] at hok
        have h1 := (join_len19 58 4 ((w6 bs).take (longestv (z6 bs)).1) (fun x hx => h6 x (List.mem_of_mem_take hx))).1
        have h2 := (join_len19 58 4 ((w6 bs).drop (longestv (z6 bs)).2) (fun x hx => h6 x (List.mem_of_mem_drop hx))).1
        rw [List.length_take, hw] at h1
        rw [List.length_drop, hw] at h2
        rw [List.length_append, List.length_append]
        simp only [List.length_cons, List.length_nil]
        obtain ⟨_, h3, h4⟩ := hok
        generalize (longestv (z6 bs)).1 = b at *
        generalize (longestv (z6 bs)).2 = c at *
        have : min b 8 = b := by omega
        rw [this] at h1
        omega
    · have h1 := (join_len19 46 3 ((bs.take 4).map fun b => dec3 b.toNat) (fun x hx => by
        obtain ⟨i, _, rfl⟩ := List.mem_map.1 hx
        exact dec3_len i.toNat)).1
      have h2 : ((bs.take 4).map fun b => dec3 b.toNat).length ≤ 4 := by rw [List.length_map, List.length_take]; omega
      omega
  · simp
theorem fx_ta (a : Ad19) : (fx.ta a).length ≤ 39 := textv_39 a.1 a.2
theorem fx_tn (p : Nt19) : (fx.tn p).length ≤ 43 := by
  show (textnetv p.1 p.2.1 p.2.2).length ≤ 43
  unfold textnetv
  split
  · rename_i h
    unfold rightnetv at h
    simp only [Bool.and_eq_true, decide_eq_true_eq] at h
    have h1 := wid_le p.1
    have h2 := textv_39 p.1 p.2.1
    have h3 := dec_len 3 p.2.2 (by omega) (by decide)
    rw [List.length_append, List.length_append, Int.toNat_natCast]
    simp only [List.length_cons, List.length_nil]
    omega
  · simp
theorem hd_word : ∀ a : Fin 16, wordB (hd a.val) = true := by decide +kernel
theorem hex_word {v : Nat} (h : v < 65536) : ∀ c ∈ hex4 v, wordB c = true := fun c hc => by
  have hh : ∀ a, a < 16 → wordB (hd a) = true := fun a ha => hd_word ⟨a, ha⟩
  unfold hex4 at hc
  split at hc
  · rename_i h1; obtain rfl := List.mem_singleton.1 hc; exact hh _ h1
  · split at hc
    · simp only [List.mem_cons, List.not_mem_nil, or_false] at hc
      rcases hc with rfl | rfl <;> exact hh _ (by omega)
    · split at hc
      · simp only [List.mem_cons, List.not_mem_nil, or_false] at hc
        rcases hc with rfl | rfl | rfl <;> exact hh _ (by omega)
      · simp only [List.mem_cons, List.not_mem_nil, or_false] at hc
        rcases hc with rfl | rfl | rfl | rfl <;> exact hh _ (by omega)
theorem join_word {s : UInt8} (hs : wordB s = true) {ps : List (List UInt8)} (h : ∀ p ∈ ps, ∀ c ∈ p, wordB c = true) : ∀ c ∈ Lib.join ps [s], wordB c = true := fun c hc => by
  rcases mem_join hc with rfl | ⟨p, hp, hcp⟩
  · exact hs
  · exact h p hp c hcp
theorem w6_word (bs : List UInt8) : ∀ p ∈ w6 bs, ∀ c ∈ p, wordB c = true := fun p hp => by
  unfold w6 at hp
  obtain ⟨i, _, rfl⟩ := List.mem_map.1 hp
  exact hex_word (grp_lt bs i)
theorem textv_chars (v6 : Bool) (bs : List UInt8) : ∀ c ∈ textv v6 bs, wordB c = true := by
  rw [textv_f]
  unfold textf
  split
  · split
    · unfold text6f
      split
      · exact join_word (by decide) (w6_word bs)
      · intro c hc
        rcases List.mem_append.1 hc with hc | hc
        · rcases List.mem_append.1 hc with hc | hc
          · exact join_word (by decide) (fun p hp => w6_word bs p (List.mem_of_mem_take hp)) c hc
          · have : c = 58 := by simpa using hc
            rw [this]; decide
        · exact join_word (by decide) (fun p hp => w6_word bs p (List.mem_of_mem_drop hp)) c hc
    · refine join_word (by decide) fun p hp => ?_
      obtain ⟨b, _, rfl⟩ := List.mem_map.1 hp
      rw [← dec3_eq (by have := b.toNat_lt; omega)]
      exact (dec_word _).2
  · intro c hc; cases hc
theorem ad_right {a : Ad19} (h : fx.ra a = true) : a.2.length = 16 ∧ rightv a.1 a.2 = true := by
  have h1 : (a.2.length == 16 && rightv a.1 a.2) = true := h
  simpa using h1
theorem nt_right {p : Nt19} (h : fx.rn p = true) : p.2.1.length = 16 ∧ rightnetv p.1 p.2.1 p.2.2 = true := by
  have h1 : (p.2.1.length == 16 && rightnetv p.1 p.2.1 p.2.2) = true := h
  simpa using h1
theorem textv_ne {a : Ad19} (h : fx.ra a = true) : textv a.1 a.2 ≠ [] := fun e => by
  obtain ⟨h1, h2⟩ := ad_right h
  have h3 := parse_text h1 h2
  rw [e] at h3
  have h4 : parsev [] = none := by decide +kernel
  rw [h4] at h3
  cases h3
theorem spl_mem {c s : UInt8} : ∀ (l : List UInt8) (k : Nat), c ∈ l → c = s ∨ ∃ x ∈ splN s l k, c ∈ x
  | [], _, h => by cases h
  | b :: r, 0, h => .inr ⟨b :: r, by rw [splN_zero]; exact List.mem_singleton.2 rfl, h⟩
  | b :: r, k + 1, h => by
    rw [splN_cons]
    by_cases hb : b = s
    · rw [if_pos hb]
      rcases List.mem_cons.1 h with rfl | h
      · exact .inl hb
      · rcases spl_mem r k h with e | ⟨x, hx, hc⟩
        · exact .inl e
        · exact .inr ⟨x, List.mem_cons_of_mem _ hx, hc⟩
    · rw [if_neg hb]
      have hone : ∀ ls : List (List UInt8), (c = b ∨ ∃ x ∈ ls, c ∈ x) → ∃ x ∈ onHead b ls, c ∈ x := fun ls h => by
        cases ls with
        | nil =>
          rcases h with rfl | ⟨x, hx, _⟩
          · exact ⟨[c], by simp [onHead], by simp⟩
          · cases hx
        | cons y t =>
          rcases h with rfl | ⟨x, hx, hc⟩
          · exact ⟨c :: y, by simp [onHead], by simp⟩
          · rcases List.mem_cons.1 hx with rfl | hx
            · exact ⟨b :: x, by simp [onHead], List.mem_cons_of_mem _ hc⟩
            · exact ⟨x, by simp [onHead, hx], hc⟩
      rcases List.mem_cons.1 h with rfl | h
      · exact .inr (hone _ (.inl rfl))
      · rcases spl_mem r (k + 1) h with e | hx
        · exact .inl e
        · exact .inr (hone _ (.inr hx))
theorem name_chars {l : List UInt8} (h : rightN l) : ∀ c ∈ l, 33 ≤ c.toNat ∧ c.toNat ≤ 126 := fun c hc => by
  have hne : l ≠ [] := by rintro rfl; cases hc
  have h1 := h.1
  unfold labsN at h1
  rw [if_neg hne] at h1
  rcases spl_mem (s := 46) l l.length hc with rfl | ⟨x, hx, hcx⟩
  · decide
  · have h2 := (h1 x hx).1 c hcx
    unfold sign at h2
    omega
theorem fx_ok : fx.ok where
  a1 := fun x h => by
    obtain ⟨h1, h2⟩ := ad_right h
    exact parse_text h1 h2
  a2 := fun l x h => by
    have h1 := parsev_len h
    have h2 := parse_right (v6 := x.1) (bs := x.2) h1 h
    show (x.2.length == 16 && rightv x.1 x.2) = true
    rw [h1, h2]; rfl
  a3 := fun x h => ⟨textv_ne h, textv_chars x.1 x.2⟩
  n1 := fun x h => by
    obtain ⟨h1, h2⟩ := nt_right h
    exact net_text h1 h2
  n2 := fun l x h => by
    have h1 := parsenetv_len h
    have h2 : rightnetv x.1 x.2.1 x.2.2 = true := by
      have h' : parsenetv l = some x := h
      unfold parsenetv at h'
      cases ha : parsev (Lib.cut l [47]).1 with
      | none => rw [ha] at h'; cases h'
      | some a =>
        cases hd : decv (Lib.cut l [47]).2.1 with
        | none => rw [ha, hd] at h'; cases h'
        | some n =>
          rw [ha, hd] at h'
          simp only [Option.bind_some] at h'
          split at h'
          · cases h'; assumption
          · cases h'
    show (x.2.1.length == 16 && rightnetv x.1 x.2.1 x.2.2) = true
    rw [h1, h2]; rfl
  n3 := fun x h => by
    obtain ⟨h1, h2⟩ := nt_right h
    show wordL (textnetv x.1 x.2.1 x.2.2)
    unfold textnetv
    rw [if_pos h2]
    refine ⟨by simp, fun c hc => ?_⟩
    rcases List.mem_append.1 hc with hc | hc
    · rcases List.mem_append.1 hc with hc | hc
      · exact textv_chars _ _ c hc
      · have : c = 47 := by simpa using hc
        rw [this]; decide
    · exact (dec_word _).2 c hc
  m1 := fun l h => name_chars (of_decide_eq_true h)
end Go.Proofs.YtoagfmonfgagbaaGreatDoor

namespace Go.Proofs.YtoagfmonfgagbaaGreatDoor
open Go.RowKit
set_option maxRecDepth 100000
theorem cut1_19 (t : Tk) (w : World) : Calls Tryz.prog 69 #[.agg (tkv t)] w fun e w' => e = .returned (.bool (!t.word)) ∧ Below w.heap.size w w' := by
  have ht := TkBox.new w t
  have hbox : Below w.heap.size w (w.alloc (.cells (tkv t) 96)) := (Below.refl _ w).alloc (Nat.le_refl _) _
  have c0 : (w.alloc (.cells (tkv t) 96)).cell? ⟨w.heap.size, 0, none⟩ = some (.int .i64 t.kind) := cell_of_row _ _ 0 _ _ _ ht
  obtain ⟨W, hW⟩ : ∃ W, w.alloc (.cells (tkv t) 96) = W := ⟨_, rfl⟩
  rw [hW] at hbox c0
  obtain ⟨vt, hvt⟩ : ∃ vt, tkv t = vt := ⟨_, rfl⟩
  have HW : Hid (w.alloc (.cells vt 96) = W) := by rw [← hvt]; exact hW
  have HB := Lib.hid hbox
  rw [hvt]
  clear hW hvt hbox ht
  unfold Tk.kind at c0
  cases hw : t.word with
  | true =>
    rw [hw, if_pos rfl] at c0
    clear hw
    go_enter Tryz.func69, Tryz.ntmps69
    go_wp2_with (rw [HW.out])
    go_ret
    exact ⟨rfl, HB.out⟩
  | false =>
    rw [hw, if_neg (by decide)] at c0
    clear hw
    go_enter Tryz.func69, Tryz.ntmps69
    go_wp2_with (rw [HW.out])
    go_ret
    exact ⟨rfl, HB.out⟩
def wlen : List Tk → Nat
  | [] => 0
  | t :: ts => if t.word then wlen ts + 1 else 0
theorem wlen_le : ∀ ts : List Tk, wlen ts ≤ ts.length
  | [] => Nat.le_refl _
  | t :: ts => by
    unfold wlen
    split
    · have := wlen_le ts; rw [List.length_cons]; omega
    · exact Nat.zero_le _
theorem wlen_at : ∀ (ts : List Tk) (k : Nat), (∀ (j : Nat) (t : Tk), j < k → ts[j]? = some t → t.word = true) → (∀ t, ts[k]? = some t → t.word = false) → k ≤ ts.length → wlen ts = k
  | [], k, _, _, hk => by simp at hk; rw [hk]; rfl
  | t :: ts, 0, _, h, _ => by
    have := h t rfl
    unfold wlen
    rw [this]
    rfl
  | t :: ts, k + 1, h1, h2, hk => by
    have h0 := h1 0 t (by omega) rfl
    unfold wlen
    rw [if_pos h0, wlen_at ts k (fun j u hj hu => h1 (j + 1) u (by omega) hu) (fun u hu => h2 u hu) (by rw [List.length_cons] at hk; omega)]
set_option maxHeartbeats 1000000 in
theorem indexT19 {A : Option Addr} {n c : Nat} {ts : List Tk} {w : World} (hb : TkS w A n c ts) : Calls Tryz.prog 68 #[.slice A n c, .func (.func 69) #[] #[]] w fun e w' =>
    e = .returned (.int .i64 (if wlen ts = n then -1 else (wlen ts : Int))) ∧ Below w.heap.size w w' := by
  have hcap := hb.cap
  have hmax := hb.max
  unfold maxLen at hmax
  have hlen := hb.len
  obtain ⟨R, hR⟩ : ∃ R : Int, (if wlen ts = n then -1 else (wlen ts : Int)) = R := ⟨_, rfl⟩
  rw [hR]
  have HB := Lib.hid (And.intro hb (And.intro hlen hR))
  clear hb hlen hR
  go_enter Tryz.func68, Tryz.ntmps68
  go_wp2_with fail
  go_loopw [8] (fun i wr => ∃ k : Nat, k ≤ n ∧ i = .int .i64 k ∧ Hid (∀ (j : Nat) t, j < k → ts[j]? = some t → t.word = true) ∧ Below w.heap.size w wr) (fun i _ => n - (intOf i).toNat)
  case atStart => exact ⟨0, Nat.zero_le _, rfl, fun j x h => absurd h (by omega), Below.refl _ _⟩
  case round =>
    obtain ⟨k, hk, rfl, hall, hbe⟩ := hrel
    by_cases hkn : k < n
    · obtain ⟨t, htk⟩ : ∃ t, ts[k]? = some t := ⟨ts[k]'(by have := HB.out.2.1; omega), List.getElem?_eq_getElem _⟩
      obtain ⟨b, off, rfl, hr⟩ := (HB.out.1.later hbe (Nat.le_refl _)).here k t htk
      have K := Lib.hid (cut1_19 t wr)
      have HX := Lib.hid (And.intro htk (And.intro hbe hr))
      clear htk hbe hr
      cases hw : t.word with
      | true =>
        rw [hw] at K
        have HW := Lib.hid hw
        clear hw
        go_wp2_with (refine wpList_load_tk rfl (.tmp 14) rfl rfl HX.out.2.2 ?_)
        refine K.out.mono ?_
        rintro e w' ⟨rfl, hb'⟩
        have HN := Lib.hid (HX.out.2.1.trans (hb'.mono HX.out.2.1.size))
        clear hb'
        go_wp2_with fail
        refine ⟨⟨k + 1, hkn, by go_num, fun j z hj hz => ?_, HN.out⟩, by simp [intOf]; omega⟩
        by_cases hjk : j = k
        · subst hjk
          rw [HX.out.1] at hz
          obtain rfl := Option.some.inj hz
          exact HW.out
        · exact hall.out j z (by omega) hz
      | false =>
        rw [hw] at K
        have HW := Lib.hid hw
        clear hw
        go_wp2_with (refine wpList_load_tk rfl (.tmp 14) rfl rfl HX.out.2.2 ?_)
        refine K.out.mono ?_
        rintro e w' ⟨rfl, hb'⟩
        have HN := Lib.hid (HX.out.2.1.trans (hb'.mono HX.out.2.1.size))
        clear hb'
        go_wp2_with fail
        go_ret
        have hwl : wlen ts = k := wlen_at ts k hall.out (fun u hu => by rw [HX.out.1] at hu; obtain rfl := Option.some.inj hu; exact HW.out) (by have := HB.out.2.1; omega)
        refine ⟨?_, HN.out⟩
        rw [← HB.out.2.2, hwl, if_neg (by omega)]
        rfl
    · obtain rfl : k = n := by omega
      have HX := Lib.hid hbe
      clear hbe
      go_wp2_with fail
      go_ret
      have hl := HB.out.2.1
      have hwl : wlen ts = k := wlen_at ts k hall.out (fun u hu => by have := (List.getElem?_eq_some_iff.1 hu).1; omega) (by omega)
      refine ⟨?_, HX.out⟩
      rw [← HB.out.2.2, if_pos hwl]
      rfl
theorem TkS.take {w : World} {A : Option Addr} {n c k : Nat} {ts : List Tk} (h : TkS w A n c ts) (hk : k ≤ n) : TkS w A k c (ts.take k) := by
  have hl := h.len
  have hc := h.cap
  refine ⟨by rw [List.length_take]; omega, by omega, h.max, h.none_, fun i t ht => ?_⟩
  rw [List.getElem?_take] at ht
  split at ht
  · exact h.here i t ht
  · cases ht
theorem TkS.drop {w : World} {b off n c k : Nat} {ts : List Tk} (h : TkS w (some ⟨b, off, none⟩) n c ts) (hk : k ≤ n) : TkS w (some ⟨b, off + k * 4, none⟩) (n - k) (c - k) (ts.drop k) := by
  have hl := h.len
  have hc := h.cap
  have hm := h.max
  refine ⟨by rw [List.length_drop]; omega, by omega, by omega, (fun e => by cases e), fun i t ht => ?_⟩
  rw [List.getElem?_drop] at ht
  obtain ⟨b', off', e, hr⟩ := h.here (k + i) t ht
  cases e
  exact ⟨b, off + k * 4, rfl, by rw [show off + k * 4 + i * 4 = off + (k + i) * 4 by omega]; exact hr⟩
theorem TkS.dropEnd {w : World} {b off n c k : Nat} {ts : List Tk} (h : TkS w (some ⟨b, off, none⟩) n c ts) (hk : k = n) (hc' : c = k) : TkS w (some ⟨b, off, none⟩) (n - k) (c - k) (ts.drop k) := by
  have hl := h.len
  have hm := h.max
  rw [List.drop_eq_nil_of_le (by omega)]
  refine ⟨by simp; omega, by omega, by omega, (fun e => by cases e), fun i t ht => by cases ht⟩
def lnv (A : Option Addr) (n c : Nat) (e : Int) : Array Value := #[.slice A n c, .int .i64 e]
theorem ln_size (A : Option Addr) (n c : Nat) (e : Int) : (Tryz.prog.info? 79).map (·.size) = some (lnv A n c e).size := by
  show _ = some 2
  kernel_rfl
section
variable {ops : Array Oper} {rest : List Oper} {o : Oper} {a : Act} {w : World} {Q : Exit → Act → World → Prop}
theorem wp_alloc_ln {K : Act → World → Prop} (ho : o.op = .alloc 79)
    (h : ∀ w', LnB w' w.heap.size none 0 0 0 → Below w.heap.size w w' → w'.heap.size = w.heap.size + 1 → K (a.put o.dst (.pointer (some ⟨w.heap.size, 0, none⟩))) w') : o.wp Tryz.prog a w K Q := by
  have h1 := h (w.alloc (.cells (lnv none 0 0 0) 79)) (heap_alloc_last w _) ((Below.refl _ w).alloc (Nat.le_refl _) _) (by simp)
  obtain ⟨dst, op, ty, pos, after, guard⟩ := o
  simp only at ho
  subst ho
  unfold lnv at h1
  go_simp
  exact h1
theorem wpList_alloc_ln (hgd : o.guard = none) (ho : o.op = .alloc 79)
    (h : ∀ w', LnB w' w.heap.size none 0 0 0 → Below w.heap.size w w' → w'.heap.size = w.heap.size + 1 → wpList Tryz.prog ops Q rest (a.put o.dst (.pointer (some ⟨w.heap.size, 0, none⟩))) w') : wpList Tryz.prog ops Q (o :: rest) a w :=
  wpList_plain hgd fun _ hK => wp_alloc_ln ho fun w' h1 h2 h3 => hK _ _ (h w' h1 h2 h3)
theorem wp_store_ln {K : Act → World → Prop} (x y : Operand) (ho : o.op = .store 79 x y) {g : Nat} (A : Option Addr) (n c : Nat) (e : Int) {A0 : Option Addr} {n0 c0 : Nat} {e0 : Int}
    (hx : a.eval x = .pointer (some ⟨g, 0, none⟩)) (hy : a.eval y = .agg (lnv A n c e)) (hA : LnB w g A0 n0 c0 e0)
    (h : ∀ w', LnB w' g A n c e → (∀ k, k ≠ g → w'.heap[k]? = w.heap[k]?) → w'.heap.size = w.heap.size → (∀ B w0, B ≤ g → Below B w0 w → Below B w0 w') → K (a.put o.dst undef) w') : o.wp Tryz.prog a w K Q :=
  wp_store_row 79 x y ho g (lnv A n c e) hx hy 79 _ hA (ln_size A n c e) rfl (by simp [lnv, Value.oneCell'])
    (h _ (setRow_heap w g _ _ _ _ hA) (fun k hk => setRow_other w g k _ hk) (size_setRow w g _) (fun B w0 hB hb => below_setRow hb hB _))
theorem wpList_store_ln (hgd : o.guard = none) (x y : Operand) (ho : o.op = .store 79 x y) {g : Nat} (A : Option Addr) (n c : Nat) (e : Int) {A0 : Option Addr} {n0 c0 : Nat} {e0 : Int}
    (hx : a.eval x = .pointer (some ⟨g, 0, none⟩)) (hy : a.eval y = .agg (lnv A n c e)) (hA : LnB w g A0 n0 c0 e0)
    (h : ∀ w', LnB w' g A n c e → (∀ k, k ≠ g → w'.heap[k]? = w.heap[k]?) → w'.heap.size = w.heap.size → (∀ B w0, B ≤ g → Below B w0 w → Below B w0 w') → wpList Tryz.prog ops Q rest (a.put o.dst undef) w') : wpList Tryz.prog ops Q (o :: rest) a w :=
  wpList_plain hgd fun _ hK => wp_store_ln x y ho A n c e hx hy hA fun w' h1 h2 h3 h4 => hK _ _ (h w' h1 h2 h3 h4)
end
theorem results_ln_tmp {fn : Func} {p u : Tmp} (h : fn.results = #[.cell p 79, .tmp u]) (tmps : Array Value) {w : World} {g : Nat} {A : Option Addr} {n c : Nat} {e : Int} (hp : tmps.getD p undef = .pointer (some ⟨g, 0, none⟩)) (hA : LnB w g A n c e) :
    (results fn tmps).run Tryz.prog w = .ok (.tuple #[.agg (lnv A n c e), tmps.getD u undef]) w := by
  rw [results_cell_tmp h, hp]
  simp [asAddr, run_loadVar_row w g 79 79 (lnv A n c e) (0, 0) _ hA Tryz.underlying79 rfl (ln_size A n c e)]
theorem cut_all19 {A : Option Addr} {n c : Nat} {ts : List Tk} {w : World} (hb : TkS w A n c ts) (hw : wlen ts = n) : Calls Tryz.prog 44 #[.slice A n c] w fun e w' => e = .returned (.tuple #[.agg (lnv A n c 0), .slice none 0 0]) ∧ Below w.heap.size w w' := by
  have K := Lib.hid (fun w1 (h1 : Below w.heap.size w w1) => indexT19 (hb.later h1 (Nat.le_refl _)))
  rw [if_pos hw] at K
  clear hb hw
  go_enter Tryz.func44, Tryz.ntmps44
  go_wp2_with (refine wpList_alloc_ln rfl rfl ?_; intro w1 a1 b1 z1; have H1 := Lib.hid (And.intro a1 b1); clear a1 b1 z1)
  refine (K.out _ H1.out.2).mono ?_
  rintro e w2 ⟨rfl, b2⟩
  have H2 := Lib.hid (And.intro (H1.out.1.later b2) (H1.out.2.trans (b2.mono H1.out.2.size)))
  clear b2
  go_wp2_with (refine wpList_store_ln rfl (.tmp 2) (.tmp 10) rfl A n c 0 rfl rfl H2.out.1 ?_; intro w3 a3 o3 z3 b3; have H3 := Lib.hid (And.intro a3 (b3 w.heap.size w (Nat.le_refl _) H2.out.2)); clear a3 o3 z3 b3)
  exact bodyPost_ret (results_ln_tmp rfl _ rfl H3.out.1) rfl ⟨rfl, H3.out.2⟩
end Go.Proofs.YtoagfmonfgagbaaGreatDoor

namespace Go.Proofs.YtoagfmonfgagbaaGreatDoor
open Go.RowKit
set_option maxRecDepth 100000
theorem tk_first19 (b off n c k : Nat) (w : World) (hk : k ≤ c) : (Instr.sliceAt 62 (.slice (some ⟨b, off, none⟩) n c) none (some (.int .i64 k)) none).run Tryz.prog w = .ok (.slice (some ⟨b, off, none⟩) k c) w := by
  have h1 : (k : Int) ≤ (c : Int) := by omega
  go_simp
theorem exec_first19 {f : Operand → Value} {o : Oper} (x y : Operand) (ho : o.op = .slice 62 x none (some y) none) {b off n c k : Nat} (hx : f x = .slice (some ⟨b, off, none⟩) n c) (hy : f y = .int .i64 k) (hk : k ≤ c) (w : World) : (execOp f o).run Tryz.prog w = .ok (.value (.slice (some ⟨b, off, none⟩) k c)) w := by
  have h := tk_first19 b off n c k w hk
  unfold execOp
  simp only [ho, Option.map, hx, hy, Sem.run_bind, Sem.run_pure, h, Result.andThen_ok]
theorem tk_tail19 (b off n c j : Nat) (h1 : j ≤ n) (h2 : n ≤ c) : ∃ A', (∀ w, (Instr.sliceAt 62 (.slice (some ⟨b, off, none⟩) n c) (some (.int .i64 j)) none none).run Tryz.prog w = .ok (.slice A' (n - j) (c - j)) w) ∧ ∀ w2 ts, TkS w2 (some ⟨b, off, none⟩) n c ts → TkS w2 A' (n - j) (c - j) (ts.drop j) := by
  have h4 : (j : Int) ≤ (n : Int) := by omega
  have h5 : (n : Int) ≤ (c : Int) := by omega
  by_cases hc : c = j
  · have hn : n = j := by omega
    refine ⟨some ⟨b, off, none⟩, fun w => ?_, fun w2 ts h => h.dropEnd hn.symm hc⟩
    subst hc
    subst hn
    go_simp
  · refine ⟨some ⟨b, off + j * 4, none⟩, fun w => ?_, fun w2 ts h => h.drop h1⟩
    go_simp
theorem exec_tail19 {f : Operand → Value} {o : Oper} (x y : Operand) (ho : o.op = .slice 62 x (some y) none none) {b off n c j : Nat} {V : Value} (hx : f x = .slice (some ⟨b, off, none⟩) n c) (hy : f y = .int .i64 j) (w : World) (h : (Instr.sliceAt 62 (.slice (some ⟨b, off, none⟩) n c) (some (.int .i64 j)) none none).run Tryz.prog w = .ok V w) : (execOp f o).run Tryz.prog w = .ok (.value V) w := by
  unfold execOp
  simp only [ho, Option.map, hx, hy, Sem.run_bind, Sem.run_pure, h, Result.andThen_ok]
set_option maxHeartbeats 2000000 in
theorem cut_some19 {A : Option Addr} {n c : Nat} {ts : List Tk} {w : World} (hb : TkS w A n c ts) {k : Nat} (hw : wlen ts = k) (hk : k < n) {t : Tk} (ht : ts[k]? = some t) : Calls Tryz.prog 44 #[.slice A n c] w fun e w' => ∃ A', e = .returned (.tuple #[.agg (lnv A k c t.at_), .slice A' (n - (k + 1)) (c - (k + 1))]) ∧ (∀ w2, TkS w2 A n c ts → TkS w2 A' (n - (k + 1)) (c - (k + 1)) (ts.drop (k + 1))) ∧ Below w.heap.size w w' := by
  have K := Lib.hid (fun w1 (h1 : Below w.heap.size w w1) => indexT19 (hb.later h1 (Nat.le_refl _)))
  rw [hw, if_neg (show ¬ k = n by omega)] at K
  obtain ⟨b, off, rfl, hr⟩ := hb.here k t ht
  have hcap := hb.cap
  have hmax := hb.max
  unfold maxLen at hmax
  have hbl : b < w.heap.size := lt_cell (tk_at hr).2.1
  have HT := Lib.hid (And.intro (tk_at hr).2.1 hbl)
  clear hb hw hr ht hbl
  have hmx : Tryz.prog.follows .mixedOrders = true := by kernel_rfl
  have hk0 : ¬ ((k : Int) < 0) := by omega
  have g3 : IntKind.i64.wrap ((k : Int) + 1) = ((k + 1 : Nat) : Int) := by
    rw [IntKind.wrap_i64]
    omega
  have g4 : k ≤ c := by omega
  have g5 : k + 1 ≤ n := hk
  have g6 : k + 1 ≤ c := by omega
  obtain ⟨A', hrun, htl⟩ := tk_tail19 b off n c (k + 1) g5 hcap
  have hlt : (k : Int) < (n : Int) := by omega
  go_enter Tryz.func44, Tryz.ntmps44
  go_wp2_with (refine wpList_alloc_ln rfl rfl ?_; intro w1 a1 b1 z1; have H1 := Lib.hid (And.intro a1 b1); clear a1 b1 z1)
  refine (K.out _ H1.out.2).mono ?_
  rintro e w2 ⟨rfl, b2⟩
  have H2 := Lib.hid (And.intro (H1.out.1.later b2) (H1.out.2.trans (b2.mono H1.out.2.size)))
  clear b2
  go_wp2_with fail
  have hS : Two19 b b w2 w2.drew := ⟨rfl, rfl⟩
  have c1 : ∀ w', Two19 b b w2 w' → w'.cell? ⟨b, off + k * 4 + 1, none⟩ = some (.int .i64 t.at_) := fun w' h => (World.cell?_of_block (w := w2) h.1).trans ((H2.out.2.cell (p := ⟨b, off + k * 4 + 1, none⟩) HT.out.2).trans HT.out.1)
  refine rg_begin (fun w' => Two19 b b w2 w') 15 (by kernel_rfl) rfl ?_
  refine rg_take 0 (v := ?rv1) rfl (by kernel_rfl) (by kernel_rfl) (by kernel_rfl) (fun _ _ _ h => h) (by rfl) hS (fun w2 hw2 => ?ry1) ?rr1
  case ry1 => ((try dsimp only at hw2); go_simp <;> with_reducible rfl)
  simp only [Act.put, List.setIfInBounds_toArray, List.set_cons_zero, List.set_cons_succ]
  refine rg_take 1 (v := ?rv2) rfl (by kernel_rfl) (by kernel_rfl) (by kernel_rfl) (fun _ _ _ h => h) (by rfl) hS (fun w2 hw2 => ?ry2) ?rr2
  case ry2 => ((try dsimp only at hw2); go_simp <;> with_reducible rfl)
  simp only [Act.put, List.setIfInBounds_toArray, List.set_cons_zero, List.set_cons_succ]
  refine rg_take 3 (v := ?rv3) rfl (by kernel_rfl) (by kernel_rfl) (by kernel_rfl) (fun _ _ _ h => h) (by rfl) hS (fun w2 hw2 => ?ry3) ?rr3
  case ry3 => ((try dsimp only at hw2); go_simp <;> with_reducible rfl)
  simp only [Act.put, List.setIfInBounds_toArray, List.set_cons_zero, List.set_cons_succ]
  refine rg_take 4 (v := ?rv4) rfl (by kernel_rfl) (by kernel_rfl) (by kernel_rfl) (fun _ _ _ h => h) (by rfl) hS (fun w2 hw2 => ?ry4) ?rr4
  case ry4 => ((try dsimp only at hw2); go_simp <;> with_reducible rfl)
  simp only [Act.put, List.setIfInBounds_toArray, List.set_cons_zero, List.set_cons_succ]
  refine rg_take 9 (v := ?rv5) rfl (by kernel_rfl) (by kernel_rfl) (by kernel_rfl) (fun _ _ _ h => h) (by rfl) hS (fun w2 hw2 => ?ry5) ?rr5
  case ry5 => ((try dsimp only at hw2); go_simp <;> with_reducible rfl)
  simp only [Act.put, List.setIfInBounds_toArray, List.set_cons_zero, List.set_cons_succ]
  refine rg_take 10 (v := ?rv6) rfl (by kernel_rfl) (by kernel_rfl) (by kernel_rfl) (fun _ _ _ h => h) (by rfl) hS (fun w2 hw2 => ?ry6) ?rr6
  case ry6 => ((try dsimp only at hw2); go_simp <;> with_reducible rfl)
  simp only [Act.put, List.setIfInBounds_toArray, List.set_cons_zero, List.set_cons_succ]
  refine rg_take 2 (v := .slice (some ⟨b, off, none⟩) k c) rfl (by kernel_rfl) (by kernel_rfl) (by kernel_rfl) (fun _ _ _ h => h) (by rfl) hS (fun w9 hw9 => ?ryA) ?rrA
  case ryA => exact exec_first19 (.tmp 11) (.tmp 12) rfl rfl rfl g4 w9
  simp only [Act.put, List.setIfInBounds_toArray, List.set_cons_zero, List.set_cons_succ]
  refine rg_take 5 (v := ?rv7) rfl (by kernel_rfl) (by kernel_rfl) (by kernel_rfl) (fun _ _ _ h => h) (by rfl) hS (fun w2 hw2 => ?ry7) ?rr7
  case ry7 => ((try dsimp only at hw2); go_simp <;> with_reducible rfl)
  simp only [Act.put, List.setIfInBounds_toArray, List.set_cons_zero, List.set_cons_succ]
  refine rg_take 11 (v := .int .i64 ((k + 1 : Nat) : Int)) rfl (by kernel_rfl) (by kernel_rfl) (by kernel_rfl) (fun _ _ _ h => h) (by rfl) hS (fun w9 hw9 => ?ryB) ?rrB
  case ryB => ((try dsimp only at hw9); go_simp; (try rw [g3]); (try rfl))
  simp only [Act.put, List.setIfInBounds_toArray, List.set_cons_zero, List.set_cons_succ]
  refine rg_take 6 (v := ?rv8) rfl (by kernel_rfl) (by kernel_rfl) (by kernel_rfl) (fun _ _ _ h => h) (by rfl) hS (fun w2 hw2 => ?ry8) ?rr8
  case ry8 => ((try dsimp only at hw2); go_simp <;> with_reducible rfl)
  simp only [Act.put, List.setIfInBounds_toArray, List.set_cons_zero, List.set_cons_succ]
  refine rg_take 12 (v := .slice A' (n - (k + 1)) (c - (k + 1))) rfl (by kernel_rfl) (by kernel_rfl) (by kernel_rfl) (fun _ _ _ h => h) (by rfl) hS (fun w9 hw9 => ?ryC) ?rrC
  case ryC => exact exec_tail19 (.tmp 20) (.tmp 22) rfl rfl rfl w9 (hrun w9)
  simp only [Act.put, List.setIfInBounds_toArray, List.set_cons_zero, List.set_cons_succ]
  refine rg_take 7 (v := ?rv9) rfl (by kernel_rfl) (by kernel_rfl) (by kernel_rfl) (fun _ _ _ h => h) (by rfl) hS (fun w2 hw2 => ?ry9) ?rr9
  case ry9 => ((try dsimp only at hw2); go_simp <;> with_reducible rfl)
  simp only [Act.put, List.setIfInBounds_toArray, List.set_cons_zero, List.set_cons_succ]
  refine rg_take 8 (v := ?rv10) rfl (by kernel_rfl) (by kernel_rfl) (by kernel_rfl) (fun _ _ _ h => h) (by rfl) hS (fun w2 hw2 => ?ry10) ?rr10
  case ry10 => ((try dsimp only at hw2); go_simp <;> with_reducible rfl)
  simp only [Act.put, List.setIfInBounds_toArray, List.set_cons_zero, List.set_cons_succ]
  refine rg_step 13 rfl (by kernel_rfl) (by rfl) (fun K hK => ?_)
  refine wp_store_ln (.tmp 2) (.tmp 19) rfl (some ⟨b, off, none⟩) k c t.at_ rfl rfl (show LnB w2.drew w.heap.size none 0 0 0 from H2.out.1) ?_
  intro w3 a3 o3 z3 b3
  replace hS : Two19 b b w2 w3 := ⟨(o3 b (Nat.ne_of_lt HT.out.2)).trans hS.1, (o3 b (Nat.ne_of_lt HT.out.2)).trans hS.2⟩
  refine hK.out _ _ hS ?_
  clear hK K
  simp only [Act.put]
  refine rg_take 14 (v := ?rv11) rfl (by kernel_rfl) (by kernel_rfl) (by kernel_rfl) (fun _ _ _ h => h) (by rfl) hS (fun w2 hw2 => ?ry11) ?rr11
  case ry11 => ((try dsimp only at hw2); go_simp <;> with_reducible rfl)
  simp only [Act.put, List.setIfInBounds_toArray, List.set_cons_zero, List.set_cons_succ]
  refine rg_done (by kernel_rfl) ?_
  have HE := Lib.hid (And.intro a3 (b3 w.heap.size w (Nat.le_refl _) H2.out.2.drew))
  clear a3 o3 z3 b3 hS c1
  go_wp2_with fail
  exact bodyPost_ret (results_ln_tmp rfl _ rfl HE.out.1) rfl ⟨_, rfl, fun w2 h2 => htl w2 ts h2, HE.out.2⟩
end Go.Proofs.YtoagfmonfgagbaaGreatDoor
