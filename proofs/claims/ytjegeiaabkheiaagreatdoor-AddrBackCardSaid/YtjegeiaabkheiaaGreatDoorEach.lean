/-
  Package addr's each, at octet and at group. Conditions: what the program's text has laid (Env).
-/
import Derived.Test.YtjegeiaabkheiaaGreatDoorNum
import Derived.Test.YtjegeiaabkheiaaGreatDoorRow
import Derived.Deep.OwnRows
namespace Go.Proofs.YtjegeiaabkheiaaGreatDoor
open Go.RowKit
set_option maxRecDepth 100000

theorem infoInt : (Tryz.prog.info? 3).map (fun i => (i.zero, i.size, i.bytes)) = some (some (Value.int IntKind.i64 0), 1, 8) := by kernel_rfl
theorem infoStr : (Tryz.prog.info? 9).map (fun i => (i.zero, i.size, i.bytes)) = some (some (Value.string ByteArray.empty), 1, 16) := by kernel_rfl
theorem makeInts (n : Nat) (hn : n ≤ 1000000) (w : World) : (Instr.makeSlice 79 (.int .i64 (n : Int)) (.int .i64 (n : Int))).run Tryz.prog w = .ok (.slice (some ⟨w.heap.size, 0, none⟩) n n) (w.alloc (.cells (madeCells #[.int .i64 0] n) 3)) :=
  run_make_row' (P := Tryz.prog) 79 3 (.int .i64 0) 8 Tryz.underlying79 infoInt rfl .i64 .i64 n (by omega) (by omega) w
theorem makeStrs (n : Nat) (hn : n ≤ 1000000) (w : World) : (Instr.makeSlice 54 (.int .i64 (n : Int)) (.int .i64 (n : Int))).run Tryz.prog w = .ok (.slice (some ⟨w.heap.size, 0, none⟩) n n) (w.alloc (.cells (madeCells #[.string ByteArray.empty] n) 9)) :=
  run_make_row' (P := Tryz.prog) 54 9 (.string ByteArray.empty) 16 Tryz.underlying54 infoStr rfl .i64 .i64 n (by omega) (by omega) w

/-- A slice of texts, as it is read. -/
structure Ss (w : World) (b : Nat) (xs : List ByteArray) : Prop where
  at_ : ∀ (i : Nat) x, xs[i]? = some x → w.cell? ⟨b, i, none⟩ = some (.string x)
  lt : b < w.heap.size
theorem Ss.later {w w' : World} {b : Nat} {xs : List ByteArray} (h : Ss w b xs) {B : Nat} (hb : Below B w w') (hB : w.heap.size ≤ B) : Ss w' b xs :=
  ⟨fun i x hx => by rw [hb.cell (p := ⟨b, i, none⟩) (by have := h.lt; show b < B; omega)]; exact h.at_ i x hx, by have := hb.size; have := h.lt; omega⟩

/-- An error that says where in a list something is wrong. -/
inductive Dead (w : World) : Value → Prop
  | mk (b : Nat) (at_ : Int) (v : Value) : Row w b 71 [.int .i64 at_, v] → Bad w v → Dead w (.iface 66 (.pointer (some ⟨b, 0, none⟩)))
theorem Dead.later {w w' : World} {v : Value} (h : Dead w v) {B : Nat} (hb : Below B w w') (hB : w.heap.size ≤ B) : Dead w' v := by
  cases h with
  | mk b at_ v h1 h2 => exact .mk b at_ v (h1.later hb hB) (h2.later hb hB)

theorem wrap_bad (at_ : Int) (T : TypeId) (x : Value) (w : World) : Calls Tryz.prog 65 #[.int .i64 at_, .iface T x] w fun e w' =>
    e = .returned (.iface 66 (.pointer (some ⟨w.heap.size, 0, none⟩))) ∧ w.alloc (.cells #[.int .i64 at_, .iface T x] 71) = w' := by
  go_enter Tryz.func65, Tryz.ntmps65
  go_wp2
  go_ret
  exact ⟨rfl, rfl⟩

/-- What a list of numbers is handed back as. -/
def Nums (r : Option (List Nat)) (w : World) (e : Ending) (w' : World) : Prop :=
  Below w.heap.size w w' ∧ match r with
    | some ns => ∃ g, e = .returned (.tuple #[.slice (some ⟨g, 0, none⟩) ns.length ns.length, .nilIface]) ∧ w.heap.size ≤ g ∧ Row w' g 3 (iv ns)
    | none => ∃ er, e = .returned (.tuple #[.slice none 0 0, er]) ∧ Dead w' er

set_option maxHeartbeats 1000000 in
theorem each_octet (b : Nat) (xs : List ByteArray) (cap : Nat) (hn : xs.length ≤ 1000) (hc : xs.length ≤ cap) (hcm : cap ≤ maxLen) (hx : ∀ x ∈ xs, x.size ≤ maxLen) {w : World} (hE : Env w) (hs : Ss w b xs) :
    Calls Tryz.prog 47 #[.slice (some ⟨b, 0, none⟩) xs.length cap, .func (.func 48) #[] #[]] w (Nums (allv octetv (xs.map fun x => x.data.toList)) w) := by
  unfold maxLen at hcm
  have HX := Lib.hid hx
  have HE := Lib.hid hE
  have HS := Lib.hid hs
  clear hx hE hs
  have hmk := makeInts xs.length (by omega)
  go_enter Tryz.func47, Tryz.ntmps47
  go_wp2_with fail
  have r1 := Row.new' w 3 (iv_made xs.length)
  have b1 : Below w.heap.size w (w.alloc (.cells (madeCells #[.int .i64 0] xs.length) 3)) := (Below.refl _ _).alloc (Nat.le_refl _) _
  generalize hW : w.alloc (.cells (madeCells #[.int .i64 0] xs.length) 3) = W at r1 b1 ⊢
  clear hW hmk
  have H1 := Lib.hid (And.intro r1 b1)
  clear r1 b1
  have HG := Lib.hid (Nat.le_refl w.heap.size)
  go_loopw [16] (fun i wr => ∃ (k : Nat) (done : List Nat), i = .int .i64 k ∧ k ≤ xs.length ∧ Hid (allv octetv ((xs.take k).map fun x => x.data.toList) = some done ∧ Row wr w.heap.size 3 (iv (done ++ List.replicate (xs.length - k) 0)) ∧ Below w.heap.size w wr)) (fun i _ => xs.length - (intOf i).toNat)
  case atStart => exact ⟨0, [], rfl, Nat.zero_le _, Lib.hid ⟨rfl, H1.out.1, H1.out.2⟩⟩
  case round =>
    obtain ⟨k, done, rfl, hk, hh⟩ := hrel
    by_cases hlt : k < xs.length
    · obtain ⟨x, hxk⟩ : ∃ x, xs[k]? = some x := ⟨_, List.getElem?_eq_getElem hlt⟩
      have hxm := HX.out x (List.mem_of_getElem? hxk)
      have hsn : (xs.take (k + 1)).map (fun x => x.data.toList) = (xs.take k).map (fun x => x.data.toList) ++ [x.data.toList] := by
        rw [List.take_add_one, hxk]; simp
      have hdl : done.length = k := by
        rw [allv_length hh.out.1]; simp; omega
      have hcell := ((HS.out).later hh.out.2.2 (Nat.le_refl _)).at_ k x hxk
      have hbl := HS.out.lt
      have kx := octet_any x hxm (HE.out.later hh.out.2.2 (Nat.le_refl _))
      have hrow := hh.out.2.1.cell (i := k) (v := .int .i64 0) (by
        apply iv_at (n := 0)
        rw [List.getElem?_append_right (by omega), hdl, Nat.sub_self, List.getElem?_replicate, if_pos (by omega)])
      have hfr := hh.out.2.1.frozen k
      cases hr : octetv x.data.toList with
      | some n =>
        rw [hr] at kx
        have hsn2 : allv octetv ((xs.take (k + 1)).map fun x => x.data.toList) = some (done ++ [n]) := by
          rw [hsn, allv_append, hh.out.1]
          simp [allv, hr]
        have KX := Lib.hid kx
        have HSN := Lib.hid hsn2
        have HDL := Lib.hid hdl
        have HFR := Lib.hid (And.intro hrow hfr)
        clear kx hsn hsn2 hr hdl hxk hrow hfr
        go_wp2_with fail
        refine KX.out.mono ?_
        rintro e w1 ⟨b1, rfl⟩
        have c1 := b1.cell (p := ⟨w.heap.size, k, none⟩) (by exact lt_cell HFR.out.1)
        have f1 := b1.frozen (p := ⟨w.heap.size, k, none⟩) (by exact lt_cell HFR.out.1)
        rw [HFR.out.1] at c1
        rw [HFR.out.2] at f1
        have r2 : Row (w1.setCell ⟨w.heap.size, k, none⟩ (.int .i64 n)) w.heap.size 3 (iv ((done ++ [n]) ++ List.replicate (xs.length - (k + 1)) 0)) := by
          have := (hh.out.2.1.later b1 (Nat.le_refl _)).put k (.int .i64 n)
          rw [iv_set, show xs.length - k = (xs.length - (k + 1)) + 1 by omega] at this
          have e := set_done done n (xs.length - (k + 1))
          rw [HDL.out] at e
          rw [e] at this
          exact this
        have b2 : Below w.heap.size w (w1.setCell ⟨w.heap.size, k, none⟩ (.int .i64 n)) := (hh.out.2.2.trans (b1.mono hh.out.2.2.size)).setCell (Nat.le_refl _) _
        have H2 := Lib.hid (And.intro HSN.out (And.intro r2 b2))
        clear b1 r2 b2
        go_wp2_with fail
        go_roundw
        case rel => exact ⟨k + 1, done ++ [n], by go_num, by omega, H2⟩
        case measure => simp [intOf]; omega
      | none =>
        rw [hr] at kx
        have hno : allv octetv (xs.map fun x => x.data.toList) = none := by
          have e : xs.map (fun x => x.data.toList) = (xs.take (k + 1)).map (fun x => x.data.toList) ++ (xs.drop (k + 1)).map (fun x => x.data.toList) := by rw [← List.map_append, List.take_append_drop]
          rw [e, allv_append, hsn, allv_append, hh.out.1]
          simp [allv, hr]
        have KX := Lib.hid kx
        have HNO := Lib.hid hno
        clear kx hsn hno hr hdl hxk hrow hfr
        go_wp2_with fail
        refine KX.out.mono ?_
        rintro e w1 ⟨b1, er, rfl, d1⟩
        obtain ⟨T, xv, rfl⟩ := d1.held
        have b2 := hh.out.2.2.trans (b1.mono hh.out.2.2.size)
        have H2 := Lib.hid (And.intro d1 b2)
        clear d1 b1 b2
        go_wp2_with fail
        refine (wrap_bad _ _ _ _).mono ?_
        rintro e w2 ⟨rfl, rfl⟩
        have b3 : Below w.heap.size w (w1.alloc (.cells #[.int .i64 k, .iface T xv] 71)) := H2.out.2.alloc H2.out.2.size _
        have d3 : Dead (w1.alloc (.cells #[.int .i64 k, .iface T xv] 71)) (.iface 66 (.pointer (some ⟨w1.heap.size, 0, none⟩))) := .mk w1.heap.size k _ (Row.new w1 _ _) (H2.out.1.later ((Below.refl _ _).alloc (Nat.le_refl _) _) (Nat.le_refl _))
        have H3 := Lib.hid (And.intro b3 d3)
        clear b3 d3
        go_wp2_with fail
        go_ret2
        rw [HNO.out]
        exact ⟨H3.out.1, _, rfl, H3.out.2⟩
    · obtain rfl : k = xs.length := by omega
      have h1 := hh.out.1
      rw [List.take_length] at h1
      have hl := allv_length h1
      rw [List.length_map] at hl
      have H2 := Lib.hid (And.intro hl h1)
      clear h1 hl
      go_wp2_with fail
      go_ret2
      rw [H2.out.2]
      exact ⟨hh.out.2.2, w.heap.size, by rw [H2.out.1]; rfl, Nat.le_refl _, by simpa using hh.out.2.1⟩
set_option maxHeartbeats 1000000 in
theorem each_group (b : Nat) (xs : List ByteArray) (cap : Nat) (hn : xs.length ≤ 1000) (hc : xs.length ≤ cap) (hcm : cap ≤ maxLen) (hx : ∀ x ∈ xs, x.size ≤ maxLen) {w : World} (hE : Env w) (hs : Ss w b xs) :
    Calls Tryz.prog 47 #[.slice (some ⟨b, 0, none⟩) xs.length cap, .func (.func 66) #[] #[]] w (Nums (allv groupv (xs.map fun x => x.data.toList)) w) := by
  unfold maxLen at hcm
  have HX := Lib.hid hx
  have HE := Lib.hid hE
  have HS := Lib.hid hs
  clear hx hE hs
  have hmk := makeInts xs.length (by omega)
  go_enter Tryz.func47, Tryz.ntmps47
  go_wp2_with fail
  have r1 := Row.new' w 3 (iv_made xs.length)
  have b1 : Below w.heap.size w (w.alloc (.cells (madeCells #[.int .i64 0] xs.length) 3)) := (Below.refl _ _).alloc (Nat.le_refl _) _
  generalize hW : w.alloc (.cells (madeCells #[.int .i64 0] xs.length) 3) = W at r1 b1 ⊢
  clear hW hmk
  have H1 := Lib.hid (And.intro r1 b1)
  clear r1 b1
  have HG := Lib.hid (Nat.le_refl w.heap.size)
  go_loopw [16] (fun i wr => ∃ (k : Nat) (done : List Nat), i = .int .i64 k ∧ k ≤ xs.length ∧ Hid (allv groupv ((xs.take k).map fun x => x.data.toList) = some done ∧ Row wr w.heap.size 3 (iv (done ++ List.replicate (xs.length - k) 0)) ∧ Below w.heap.size w wr)) (fun i _ => xs.length - (intOf i).toNat)
  case atStart => exact ⟨0, [], rfl, Nat.zero_le _, Lib.hid ⟨rfl, H1.out.1, H1.out.2⟩⟩
  case round =>
    obtain ⟨k, done, rfl, hk, hh⟩ := hrel
    by_cases hlt : k < xs.length
    · obtain ⟨x, hxk⟩ : ∃ x, xs[k]? = some x := ⟨_, List.getElem?_eq_getElem hlt⟩
      have hxm := HX.out x (List.mem_of_getElem? hxk)
      have hsn : (xs.take (k + 1)).map (fun x => x.data.toList) = (xs.take k).map (fun x => x.data.toList) ++ [x.data.toList] := by
        rw [List.take_add_one, hxk]; simp
      have hdl : done.length = k := by
        rw [allv_length hh.out.1]; simp; omega
      have hcell := ((HS.out).later hh.out.2.2 (Nat.le_refl _)).at_ k x hxk
      have hbl := HS.out.lt
      have kx := group_any x hxm (HE.out.later hh.out.2.2 (Nat.le_refl _))
      have hrow := hh.out.2.1.cell (i := k) (v := .int .i64 0) (by
        apply iv_at (n := 0)
        rw [List.getElem?_append_right (by omega), hdl, Nat.sub_self, List.getElem?_replicate, if_pos (by omega)])
      have hfr := hh.out.2.1.frozen k
      cases hr : groupv x.data.toList with
      | some n =>
        rw [hr] at kx
        have hsn2 : allv groupv ((xs.take (k + 1)).map fun x => x.data.toList) = some (done ++ [n]) := by
          rw [hsn, allv_append, hh.out.1]
          simp [allv, hr]
        have KX := Lib.hid kx
        have HSN := Lib.hid hsn2
        have HDL := Lib.hid hdl
        have HFR := Lib.hid (And.intro hrow hfr)
        clear kx hsn hsn2 hr hdl hxk hrow hfr
        go_wp2_with fail
        refine KX.out.mono ?_
        rintro e w1 ⟨b1, rfl⟩
        have c1 := b1.cell (p := ⟨w.heap.size, k, none⟩) (by exact lt_cell HFR.out.1)
        have f1 := b1.frozen (p := ⟨w.heap.size, k, none⟩) (by exact lt_cell HFR.out.1)
        rw [HFR.out.1] at c1
        rw [HFR.out.2] at f1
        have r2 : Row (w1.setCell ⟨w.heap.size, k, none⟩ (.int .i64 n)) w.heap.size 3 (iv ((done ++ [n]) ++ List.replicate (xs.length - (k + 1)) 0)) := by
          have := (hh.out.2.1.later b1 (Nat.le_refl _)).put k (.int .i64 n)
          rw [iv_set, show xs.length - k = (xs.length - (k + 1)) + 1 by omega] at this
          have e := set_done done n (xs.length - (k + 1))
          rw [HDL.out] at e
          rw [e] at this
          exact this
        have b2 : Below w.heap.size w (w1.setCell ⟨w.heap.size, k, none⟩ (.int .i64 n)) := (hh.out.2.2.trans (b1.mono hh.out.2.2.size)).setCell (Nat.le_refl _) _
        have H2 := Lib.hid (And.intro HSN.out (And.intro r2 b2))
        clear b1 r2 b2
        go_wp2_with fail
        go_roundw
        case rel => exact ⟨k + 1, done ++ [n], by go_num, by omega, H2⟩
        case measure => simp [intOf]; omega
      | none =>
        rw [hr] at kx
        have hno : allv groupv (xs.map fun x => x.data.toList) = none := by
          have e : xs.map (fun x => x.data.toList) = (xs.take (k + 1)).map (fun x => x.data.toList) ++ (xs.drop (k + 1)).map (fun x => x.data.toList) := by rw [← List.map_append, List.take_append_drop]
          rw [e, allv_append, hsn, allv_append, hh.out.1]
          simp [allv, hr]
        have KX := Lib.hid kx
        have HNO := Lib.hid hno
        clear kx hsn hno hr hdl hxk hrow hfr
        go_wp2_with fail
        refine KX.out.mono ?_
        rintro e w1 ⟨b1, er, rfl, d1⟩
        obtain ⟨T, xv, rfl⟩ := d1.held
        have b2 := hh.out.2.2.trans (b1.mono hh.out.2.2.size)
        have H2 := Lib.hid (And.intro d1 b2)
        clear d1 b1 b2
        go_wp2_with fail
        refine (wrap_bad _ _ _ _).mono ?_
        rintro e w2 ⟨rfl, rfl⟩
        have b3 : Below w.heap.size w (w1.alloc (.cells #[.int .i64 k, .iface T xv] 71)) := H2.out.2.alloc H2.out.2.size _
        have d3 : Dead (w1.alloc (.cells #[.int .i64 k, .iface T xv] 71)) (.iface 66 (.pointer (some ⟨w1.heap.size, 0, none⟩))) := .mk w1.heap.size k _ (Row.new w1 _ _) (H2.out.1.later ((Below.refl _ _).alloc (Nat.le_refl _) _) (Nat.le_refl _))
        have H3 := Lib.hid (And.intro b3 d3)
        clear b3 d3
        go_wp2_with fail
        go_ret2
        rw [HNO.out]
        exact ⟨H3.out.1, _, rfl, H3.out.2⟩
    · obtain rfl : k = xs.length := by omega
      have h1 := hh.out.1
      rw [List.take_length] at h1
      have hl := allv_length h1
      rw [List.length_map] at hl
      have H2 := Lib.hid (And.intro hl h1)
      clear h1 hl
      go_wp2_with fail
      go_ret2
      rw [H2.out.2]
      exact ⟨hh.out.2.2, w.heap.size, by rw [H2.out.1]; rfl, Nat.le_refl _, by simpa using hh.out.2.1⟩
end Go.Proofs.YtjegeiaabkheiaaGreatDoor
