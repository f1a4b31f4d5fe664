/-
  
-/
import Derived.Shelf.Strings.BuilderK
import Derived.Test.YtoagfmonfgagbaaGreatDoorZ13
import Derived.Test.YtoagfmonfgagbaaGreatDoorZ48
namespace Go.Proofs.YtoagfmonfgagbaaGreatDoor
open Go.RowKit Go.Shelf
set_option maxRecDepth 100000
theorem laysW19 : Go.Proofs.Lays.n166 Tryz.prog Tryz.lays156_ren := {
  mixed := Tryz.lays156.mixed,
  f166 := Tryz.lays156.f166,
  f240 := Tryz.lays156.f240,
  f276 := Tryz.lays156.f276,
  t0 := Tryz.lays156.t0,
  a0 := Tryz.lays156.a0,
  z0 := Tryz.lays156.z0,
  v0 := Tryz.lays156.v0,
  t3 := Tryz.lays156.t3,
  a3 := Tryz.lays156.a3,
  z3 := Tryz.lays156.z3,
  v3 := Tryz.lays156.v3,
  t4 := Tryz.lays156.t4,
  a4 := Tryz.lays156.a4,
  z4 := Tryz.lays156.z4,
  v4 := Tryz.lays156.v4,
  t9 := Tryz.lays156.t9,
  a9 := Tryz.lays156.a9,
  z9 := Tryz.lays156.z9,
  v9 := Tryz.lays156.v9,
  t20 := Tryz.lays156.t20,
  a20 := Tryz.lays156.a20,
  z20 := Tryz.lays156.z20,
  v20 := Tryz.lays156.v20,
  t37 := Tryz.lays156.t37,
  a37 := Tryz.lays156.a37,
  z37 := Tryz.lays156.z37,
  v37 := Tryz.lays156.v37,
  t70 := Tryz.lays156.t70,
  a70 := Tryz.lays156.a70,
  z70 := Tryz.lays156.z70,
  v70 := Tryz.lays156.v70,
  t72 := Tryz.lays156.t72,
  a72 := Tryz.lays156.a72,
  z72 := Tryz.lays156.z72,
  v72 := Tryz.lays156.v72,
  t75 := Tryz.lays156.t75,
  a75 := Tryz.lays156.a75,
  z75 := Tryz.lays156.z75,
  v75 := Tryz.lays156.v75,
  t164 := Tryz.lays156.t164,
  a164 := Tryz.lays156.a164,
  z164 := Tryz.lays156.z164,
  v164 := Tryz.lays156.v164 }
theorem laysS19 : Go.Proofs.Lays.n169 Tryz.prog Tryz.lays156_ren := {
  mixed := Tryz.lays156.mixed,
  f169 := Tryz.lays156.f169,
  t0 := Tryz.lays156.t0,
  a0 := Tryz.lays156.a0,
  z0 := Tryz.lays156.z0,
  v0 := Tryz.lays156.v0,
  t3 := Tryz.lays156.t3,
  a3 := Tryz.lays156.a3,
  z3 := Tryz.lays156.z3,
  v3 := Tryz.lays156.v3,
  t9 := Tryz.lays156.t9,
  a9 := Tryz.lays156.a9,
  z9 := Tryz.lays156.z9,
  v9 := Tryz.lays156.v9,
  t37 := Tryz.lays156.t37,
  a37 := Tryz.lays156.a37,
  z37 := Tryz.lays156.z37,
  v37 := Tryz.lays156.v37,
  t70 := Tryz.lays156.t70,
  a70 := Tryz.lays156.a70,
  z70 := Tryz.lays156.z70,
  v70 := Tryz.lays156.v70,
  t72 := Tryz.lays156.t72,
  a72 := Tryz.lays156.a72,
  z72 := Tryz.lays156.z72,
  v72 := Tryz.lays156.v72,
  t127 := Tryz.lays156.t127,
  a127 := Tryz.lays156.a127,
  z127 := Tryz.lays156.z127,
  v127 := Tryz.lays156.v127 }
abbrev Bd (b : Nat) (l : List UInt8) (w : World) : Prop := Lib.IsBuilderF 69 5 b b (Lib.byteCells l) w
theorem write19 (b : Nat) (l m : List UInt8) (w : World) (h : Bd b l w) (hlen : l.length + m.length ≤ 140737488355328) (hb : b ≤ w.heap.size) :
    Calls Tryz.prog 26 #[.pointer (some ⟨b, 0, none⟩), .string (mkS m)] w fun e w' => e = .returned (.tuple #[.int .i64 (mkS m).size, .nilIface]) ∧ Bd b (l ++ m) w' ∧ Below b w w' ∧ Lib.OthersKept 5 (some b) w w' := by
  refine (Any.Builder_WriteString_k laysW19 Tryz.Builder_Extra_156 b b (Lib.byteCells l) (mkS m) w h (by rw [Lib.byteCells_length, mkS_size]; exact hlen) hb).mono ?_
  rintro e w' ⟨he, h1, h2, h3⟩
  refine ⟨he, .inr ?_, h2, h3⟩
  rw [Lib.strCells_eq, mkS_data, ← Lib.byteCells_append] at h1
  exact h1
theorem told19 (b : Nat) (l : List UInt8) (w : World) (h : Bd b l w) (hb : b ≤ w.heap.size) :
    Calls Tryz.prog 28 #[.pointer (some ⟨b, 0, none⟩)] w fun e w' => e = .returned (.string (mkS l)) ∧ Below b w w' ∧ Lib.OthersKept 5 (some b) w w' :=
  (Any.Builder_String_any_k laysS19 Tryz.Builder_Extra_156 b b l w h hb).mono fun _ _ ⟨he, _, h2, h3⟩ => ⟨he, h2, h3⟩
theorem Bd.keep {b : Nat} {l : List UInt8} {X Y : World} {row : Option Nat} (h : Bd b l X) (hgr : X.grownBy Y row) (hr : ∀ j, row = some j → ∃ o : Obj, X.heap[j]? = some o ∧ o.isCells = false) : Bd b l Y := by
  have one : ∀ p, Lib.BuilderAtF 69 5 b b p (Lib.byteCells l) X → Lib.BuilderAtF 69 5 b b p (Lib.byteCells l) Y := by
    rintro p ⟨hB, v, hb, hown, hne⟩
    refine ⟨hB, v, (grownBy_keeps_cells hgr hr hb rfl).trans hb, hown.kept hgr ?_, hne⟩
    cases hv : v.ownBlock with
    | none => exact .inl rfl
    | some g =>
      refine .inr fun e => ?_
      obtain ⟨o, ho, hc⟩ := hr g e.symm
      obtain ⟨c, fz, hg⟩ := Lib.ownsRowF_kind hown g hv
      rw [ho] at hg
      cases hg
      cases hc
  exact h.imp (one _) (one _)
theorem Bd.later {b : Nat} {l : List UInt8} {X Y : World} (h : Bd b l X) (hb : Below X.heap.size X Y) : Bd b l Y := h.keep (below_grown hb) fun j e => by cases e
theorem Bd.box {b : Nat} {l : List UInt8} {X : World} (h : Bd b l X) : ∃ p v, X.heap[b]? = some (.cells #[p, v] 69 (0, 0)) := by
  rcases h with ⟨_, v, hb, _⟩ | ⟨_, v, hb, _⟩
  · exact ⟨_, v, hb⟩
  · exact ⟨_, v, hb⟩
theorem Bd.new (w : World) : Bd w.heap.size [] (w.alloc (.cells #[.pointer none, .slice none 0 0] 69)) :=
  .inl ⟨Nat.le_refl _, .slice none 0 0, World.alloc_heap_new w _, World.ownsRowF_nil _ _ _ _, by simp [Value.ownBlock]⟩
theorem join_sp : ∀ ws : List (List UInt8), Lib.join ws [32] = joinSp ws
  | [] => rfl
  | [w] => Lib.join_one w [32]
  | w :: v :: ws => by
    have ih := join_sp (v :: ws)
    rw [Lib.join_cons] at ih ⊢
    rw [joinSp_cons, ← ih]
    simp [Lib.joinTail]
theorem joinSp_le {ws : List (List UInt8)} {m : Nat} (h : ∀ u ∈ ws, u.length ≤ m) : (joinSp ws).length ≤ (m + 1) * ws.length := by
  have h1 := joinSp_len ws
  have h2 : ∀ l : List (List UInt8), (∀ u ∈ l, u.length ≤ m) → sizeW l ≤ m * l.length := fun l => by
    induction l with
    | nil => intro _; exact Nat.zero_le _
    | cons x l ih =>
      intro hx
      rw [sizeW_cons, List.length_cons, Nat.mul_succ]
      have := ih fun u hu => hx u (List.mem_cons_of_mem _ hu)
      have := hx x (List.mem_cons_self ..)
      omega
  have h3 := h2 ws h
  rw [Nat.add_mul]
  omega
theorem join19 {ws : List (List UInt8)} {W : World} {g n : Nat} (hn : ws.length = n) (h0 : 0 < n) (h1 : n ≤ 1000) (hs : ∀ u ∈ ws, u.length ≤ 1000000) (hg : Gs W (some ⟨g, 0, none⟩) n n (sv (mkSs ws))) :
    Calls Tryz.prog 27 #[.slice (some ⟨g, 0, none⟩) n n, .string (mkS [32])] W fun e w' => e = .returned (.string (mkS (joinSp ws))) ∧ Below W.heap.size W w' := by
  have hl : (mkSs ws).length = n := by unfold mkSs; rw [List.length_map]; exact hn
  have hd : (mkSs ws).map (·.data.toList) = ws := by
    unfold mkSs
    rw [List.map_map]
    have e : (fun x : ByteArray => x.data.toList) ∘ mkS = id := by funext l; exact mkS_data l
    rw [e, List.map_id]
  obtain ⟨b, off, e, hx⟩ := hg.here h0
  cases e
  have hc : ∀ (j : Nat) x, (mkSs ws)[j]? = some x → W.cell? ⟨g, 0 + j, none⟩ = some (.string x) := fun j x hj => hx j _ (by unfold sv; rw [List.getElem?_map, hj]; rfl)
  have hlt : g < W.heap.size := by
    obtain ⟨x, hx0⟩ : ∃ x, (mkSs ws)[0]? = some x := ⟨_, List.getElem?_eq_getElem (by omega)⟩
    exact lt_cell (hc 0 x hx0)
  have hJ := joinSp_le hs
  have hm : (1000000 + 1) * ws.length ≤ (1000000 + 1) * 1000 := Nat.mul_le_mul_left _ (by omega)
  have K := Tryz.strings_Join g 0 n (mkSs ws) (mkS [32]) W hc hlt (by omega) (by omega) (by rw [hd, mkS_data, join_sp]; omega)
  rw [hd, mkS_data, join_sp, hl] at K
  exact K
end Go.Proofs.YtoagfmonfgagbaaGreatDoor

namespace Go.Proofs.YtoagfmonfgagbaaGreatDoor
open Go.RowKit Go.Shelf
set_option maxRecDepth 100000
attribute [local go_sem] Oper.semAt_some
def InvT (w1 : World) (b : Nat) (pre : List (List (List UInt8))) (W : World) : Prop := Bd b (pre.flatMap lineB) W ∧ Below b w1 W ∧ W.heap[b + 1]? = w1.heap[b + 1]?
theorem invT_own {w1 : World} {b : Nat} {o1 : Obj} (hg : w1.heap[b + 1]? = some o1) (hc : o1.isCells = true) {B : Nat} (hgs : b ≤ w1.heap.size) (hB : b ≤ B) : OwnFrom B (InvT w1 b) := fun s X Y row hs hgr hr => by
  obtain ⟨h1, h2, h3⟩ := hs
  have hr2 : ∀ j, row = some j → ∃ o : Obj, X.heap[j]? = some o ∧ o.isCells = false := fun j e => (hr j e).2
  exact ⟨h1.keep hgr hr2, ownFrom_below (β := Unit) hgs hB () X Y row h2 hgr hr, (grownBy_keeps_cells hgr hr2 (h3.trans hg) hc).trans h3⟩
def NoT (_ : List (List (List UInt8))) (_ : World) : Prop := False
theorem noT_own (B : Nat) : OwnFrom B NoT := fun _ _ _ _ hs _ _ => hs.elim
def RdT (L : List (List (List UInt8))) (pre : List (List (List UInt8))) (ws : List (List UInt8)) (v : Value) (W : World) : Prop := RdW ws v W ∧ ∃ k, pre = L.take k ∧ L[k]? = some ws
theorem line_small {ws : List (List UInt8)} (h1 : ws.length ≤ 1000) (h2 : ∀ u ∈ ws, u.length ≤ 1000000) : (lineB ws).length ≤ 1001000001 := by
  have h3 := joinSp_le h2
  have h4 : (1000000 + 1) * ws.length ≤ (1000000 + 1) * 1000 := Nat.mul_le_mul_left _ h1
  unfold lineB
  rw [List.length_append]
  simp only [List.length_cons, List.length_nil]
  omega
theorem words_few (x : Rw) : (wordsW x).length = 5 := rfl
theorem lines_small {ss : List Ad19} {us : List Rw} (hf : ∀ x ∈ us, x.fit) : ∀ ws ∈ linesW ss us, (lineB ws).length ≤ 1001000001 := fun ws hws => by
  unfold linesW at hws
  rcases List.mem_append.1 hws with h | h
  · obtain ⟨a, _, rfl⟩ := List.mem_map.1 h
    exact line_small (show 2 ≤ 1000 by decide) (s_small a)
  · obtain ⟨x, hx, rfl⟩ := List.mem_map.1 h
    exact line_small (by rw [words_few]; decide) (r_small (hf x hx))
theorem pre_small {ss : List Ad19} {us : List Rw} (hf : ∀ x ∈ us, x.fit) (hn : (linesW ss us).length ≤ 300) (k : Nat) : (((linesW ss us).take k).flatMap lineB).length ≤ 300300000300 := by
  have h1 := flat_len lineB 1001000001 ((linesW ss us).take k) fun ws hws => lines_small hf ws (List.mem_of_mem_take hws)
  have h2 : ((linesW ss us).take k).length * 1001000001 ≤ 300 * 1001000001 := Nat.mul_le_mul_right _ (by rw [List.length_take]; omega)
  omega
set_option maxHeartbeats 8000000 in
theorem text19_in {A1 A2 : Option Addr} {n1 c1 n2 c2 : Nat} {ss : List Ad19} {us : List Rw} {w : World} (h1 : A9S w A1 n1 c1 ss) (h2 : RwS w A2 n2 c2 us) (hE : Env19 w) (hf : ∀ x ∈ us, x.fit) (hr : rightW ss us = true) (hn : (linesW ss us).length ≤ 300) :
    CallsIn Fence.wide 3 Tryz.prog 12 #[.agg (rsv (.slice A1 n1 c1) (.slice A2 n2 c2))] w fun e W2 => e = .returned (.string (mkS ((linesW ss us).flatMap lineB))) ∧ Below w.heap.size w W2 := by
  obtain ⟨s, hs⟩ : ∃ s, w.heap.size = s := ⟨_, rfl⟩
  have KR := fun (w1 : World) (hb : Below w.heap.size w w1) => right19 (h1.later hb (Nat.le_refl _)) (h2.later hb (Nat.le_refl _)) (hE.later hb (Nat.le_refl _)) hf
  rw [hr, hs] at KR
  obtain ⟨va, hva⟩ : ∃ va, Value.slice A1 n1 c1 = va := ⟨_, rfl⟩
  obtain ⟨vb, hvb⟩ : ∃ vb, Value.slice A2 n2 c2 = vb := ⟨_, rfl⟩
  rw [hva, hvb] at KR
  have HKR := Lib.hid KR
  have HSS := Lib.hid (And.intro (And.intro h1 (And.intro h2 (And.intro hE hf))) (And.intro (And.intro hva hvb) hn))
  rw [hva, hvb]
  clear KR h1 h2 hE hf hr hva hvb hn
  have one1 : va.oneCell' = true := by rw [← HSS.out.2.1.1]; rfl
  have one2 : vb.oneCell' = true := by rw [← HSS.out.2.1.2]; rfl
  have a0 : (w.alloc (.cells (rsv va vb) 25)).heap[s]? = some (.cells (rsv va vb) 25 (0, 0)) := by rw [← hs]; exact World.alloc_heap_new w _
  have b0 : Below s w (w.alloc (.cells (rsv va vb) 25)) := (Below.refl s w).alloc (by omega) _
  have H0 := Lib.hid (And.intro a0 b0)
  clear a0 b0
  refine callsIn_of_wp_marks Tryz.func12 rfl trivial ?_ rfl
  simp only [Tryz.ntmps12, List.size_toArray, List.length_cons, List.length_nil, Nat.reduceAdd, Nat.reduceSub, Array.replicate_succ, Array.replicate_zero, List.push_toArray, List.append_toArray, List.nil_append, List.cons_append]
  gi_wp2_with (first
    | (refine wpListIn_w rfl fun _ hK => wp_load_rs (g := s) (p := va) (q := vb) (.tmp 1) rfl (by rw [← hs]; rfl) H0.out.1 (hK _ _ ?_); clear hK)
    | (refine ⟨trivial, ?_⟩; gi_at_call 13; refine (callsIn_wide.2 (HKR.out _ H0.out.2)).mono ?_; rintro e w1 ⟨rfl, b1⟩; have H1 := Lib.hid (And.intro ((b1.block s (lt_blk H0.out.1)).trans H0.out.1) (H0.out.2.trans (b1.mono (by have := H0.out.2.size; omega)))); clear b1)
    | (refine wpListIn_w rfl fun _ hK => wp_load_rs (g := s) (p := va) (q := vb) (.tmp 1) rfl rfl ((Below.heap_alloc _ _ _ (lt_blk H1.out.1)).trans H1.out.1) (hK _ _ ?_); clear hK)
    | (refine ⟨trivial, ?_⟩; gi_at_call 25; refine (lines_in _ _ _ _).mono ?_; rintro e w' ⟨rfl, rfl⟩))
  obtain ⟨b, hbz⟩ : ∃ b, w1.heap.size = b := ⟨_, rfl⟩
  obtain ⟨W1, hW1⟩ : ∃ W1, (w1.alloc (.cells #[.pointer none, .slice none 0 0] 69)).alloc (.cells (rsv va vb) 25) = W1 := ⟨_, rfl⟩
  have hz : W1.heap.size = b + 2 := by rw [← hW1]; simp [hbz]
  have hb1 : Below b w1 W1 := by
    rw [← hW1]
    exact ((Below.refl b w1).alloc (by omega) _).alloc (by simp; omega) _
  have hsb : s ≤ b := by rw [← hbz, ← hs]; exact H1.out.2.size
  have xB : Bd b [] W1 := by
    have h := Bd.new w1
    rw [hbz] at h
    rw [← hW1]
    exact h.later ((Below.refl _ _).alloc (Nat.le_refl _) _)
  have xq : RsBox W1 (b + 1) va vb := by
    show W1.heap[b + 1]? = _
    have h := World.alloc_heap_new (w1.alloc (.cells #[.pointer none, .slice none 0 0] 69)) (.cells (rsv va vb) 25)
    rw [World.size_alloc, hbz] at h
    rw [← hW1]
    exact h
  have hwW : Below s w W1 := H1.out.2.trans (hb1.mono hsb)
  have HX := Lib.hid (And.intro xq (And.intro hb1 (And.intro hz (And.intro hsb hwW))))
  have hands := lines_handsP (N := 2) (b + 1) (w0 := w) (w := W1) ⟨HSS.out.1.1, HSS.out.1.2.1, HSS.out.1.2.2.1, by omega, HSS.out.1.2.2.2⟩ (by rw [hs]; exact hwW) (by rw [HSS.out.2.1.1, HSS.out.2.1.2]; exact xq)
  rw [hs] at hands
  rw [hbz, hW1]
  have h0 : InvT W1 b [] W1 := ⟨xB, Below.refl _ _, rfl⟩
  clear hW1 hwW
  refine range_handsP (F := Fence.wide) (n := 3) rfl (by decide) (f := 45) (lb := #[.pointer (some ⟨b + 1, 0, none⟩)]) rfl trivial (enters_of Tryz.func45 (by kernel_rfl) rfl)
    (Rd := RdT (linesW ss us)) (fun pre ws v W l o o2 _ hl ho h => ⟨gs_of_rdw h.1 l hl ho, h.2⟩) (Kp := KpL s (b + 1)) (fun A B C h k => h.trans k) (fun W l o o2 hl ho _ => kpl_put (by omega) (by omega) ho)
    hands (Below.refl _ _) (InvT W1 b) NoT (invT_own xq rfl (by omega) (by omega)) (noT_own _) h0
    (fun v => { tmps := #[.agg (rsv va vb), .pointer (some ⟨s, 0, none⟩), .string ⟨#[]⟩, .pointer (some ⟨b, 0, none⟩), v, .agg (rsv va vb), .bool true, .bool false, .agg (rsv va vb), .func (.func 45) #[] #[.pointer (some ⟨b + 1, 0, none⟩)], v, undef, undef, undef, undef, undef], defers := [] }) ?assign ?body ?done ?stop
  case assign =>
    intro l v W K hK
    clear xB xq hands h0
    gi_wp2
    exact hK
  case body =>
    intro l pre ws v W hI hx
    clear xB xq hands h0
    obtain ⟨i1, i2, i3⟩ := hI
    obtain ⟨⟨gg, rfl, hpos, hgs, hle, hsm⟩, k, rfl, hk⟩ := hx
    obtain ⟨n, hn⟩ : ∃ n, ws.length = n := ⟨_, rfl⟩
    rw [hn] at hpos hgs hle ⊢
    have hpl := pre_small HSS.out.1.2.2.2 HSS.out.2.2 k
    have hll := line_small (by omega) hsm
    have hjl : (joinSp ws).length ≤ 1001000001 := by
      have h : (lineB ws).length = (joinSp ws).length + 1 := by unfold lineB; rw [List.length_append]; rfl
      omega
    obtain ⟨xp, xv, hbox⟩ := i1.box
    have hbW : b < W.heap.size := lt_blk hbox
    have KJ := join19 hn hpos hle hsm hgs
    have KW := fun (w4 : World) (h4 : Below W.heap.size W w4) => write19 b _ (lineB ws) w4 (i1.later h4) (by omega) (by have := h4.size; omega)
    obtain ⟨J, hJ⟩ : ∃ J, mkS (joinSp ws) = J := ⟨_, rfl⟩
    obtain ⟨J1, hJ1⟩ : ∃ J, mkS (lineB ws) = J := ⟨_, rfl⟩
    have hcat : J ++ (⟨#[10]⟩ : ByteArray) = J1 := by rw [← hJ, ← hJ1]; exact mkS_cat _ [10]
    have lJ : J.size ≤ 1001000001 := by rw [← hJ, mkS_size]; exact hjl
    rw [hJ] at KJ
    rw [hJ1] at KW
    have HJ := Lib.hid KJ
    have HW := Lib.hid KW
    have HI := Lib.hid (And.intro (And.intro hbox hbW) (And.intro i2 i3))
    clear i1 i2 i3 KJ KW hgs hpos hle hsm hn hpl hll hjl hbox hbW hJ hJ1 hb1
    gi_wp2_with (first
      | (refine ⟨trivial, ?_⟩; gi_at_call 27; refine (CallsIn.inRound l (callsIn_wide.2 HJ.out)).mono ?_; rintro e w4 ⟨rfl, b4⟩; have H4 := Lib.hid b4; clear b4)
      | (refine ⟨trivial, ?_⟩; gi_at_call 26; refine (CallsIn.inRound l (callsIn_wide.2 (HW.out _ H4.out))).mono ?_; rintro e w5 ⟨rfl, h5, b5, k5⟩; have H5 := Lib.hid (And.intro h5 (And.intro b5 k5)); clear h5 b5 k5))
    have hbW := HI.out.1.2
    have h4 := H4.out
    have q4 : w4.heap[b + 1]? = some (.cells (rsv va vb) 25 (0, 0)) := (h4.block (b + 1) (lt_blk (HI.out.2.2.trans HX.out.1))).trans (HI.out.2.2.trans HX.out.1)
    have q5 := H5.out.2.2 (b + 1) _ q4 (fun e => by have := Option.some.inj e; omega) (fun c fz e => by cases e)
    have hbb : Below b W w5 := (h4.mono (by omega)).trans H5.out.2.1
    refine ⟨⟨hbb.size, fun i o _ hi ho => H5.out.2.2 i o ((h4.block i (lt_blk hi)).trans hi) (fun e => ?_) (fun c fz e => by rw [e] at ho; cases ho)⟩, ⟨hbb.mono HX.out.2.2.2.1, ?_⟩, ?_, HI.out.2.1.trans hbb, ?_⟩
    · obtain rfl := Option.some.inj e
      rw [HI.out.1.1] at hi
      cases hi
      cases ho
    · exact q5.trans (HI.out.2.2.trans HX.out.1).symm
    · rw [List.flatMap_append]
      have e : [ws].flatMap lineB = lineB ws := by simp
      rw [e]
      exact H5.out.1
    · exact q5.trans (show W1.heap[b + 1]? = _ from HX.out.1).symm
  case done =>
    rintro D xs W hD rfl ⟨i1, i2, i3⟩ hK
    clear xB xq hands h0
    obtain ⟨xp, xv, hbox⟩ := i1.box
    have hbW : b < W.heap.size := lt_blk hbox
    have HT := Lib.hid (told19 b _ W i1 (by omega))
    obtain ⟨J, hJ⟩ : ∃ J, mkS ((linesW ss us).flatMap lineB) = J := ⟨_, rfl⟩
    rw [hJ] at HT
    have hDb : D ≠ b := by omega
    have HI := Lib.hid (And.intro hK (And.intro i2 (And.intro hDb (And.intro hD hJ))))
    clear i1 i2 i3 hbox hb1 hK hD hDb hJ
    gi_wp2
    refine ⟨trivial, ?_⟩
    refine (callsIn_wide.2 HT.out).mono ?_
    rintro e wA ⟨rfl, bA, kA⟩
    have hKA := kA D _ HI.out.1 (fun e => HI.out.2.2.1 (Option.some.inj e)) (fun c fz e => by cases e)
    have HA := Lib.hid (And.intro bA hKA)
    clear bA kA hKA
    gi_wp2
    refine ⟨by simp, .inl ⟨_, _, rfl, run_takeDeferred HA.out.2, ?_⟩⟩
    refine ⟨.string J, by simp [results, Tryz.results12, go_sem], by rw [HI.out.2.2.2.2], ?_⟩
    rw [hs]
    have hsb2 := HX.out.2.2.2.1
    have hDD := HI.out.2.2.2.1
    have hz2 := HX.out.2.2.1
    have hw1 : Below s w W := HX.out.2.2.2.2.trans (HI.out.2.1.mono hsb2)
    exact (hw1.trans (HA.out.1.mono hsb2)).trans (belowK_b (w := w) (Nat.le_of_eq hs.symm) wA D _ _ (by omega) HA.out.2 rfl rfl)
  case stop =>
    intro D xs W _ _ hx _
    exact hx.elim
theorem text19 {A1 A2 : Option Addr} {n1 c1 n2 c2 : Nat} {ss : List Ad19} {us : List Rw} {w : World} (h1 : A9S w A1 n1 c1 ss) (h2 : RwS w A2 n2 c2 us) (hE : Env19 w) (hf : ∀ x ∈ us, x.fit) (hr : rightW ss us = true) (hn : (linesW ss us).length ≤ 300) :
    Calls Tryz.prog 12 #[.agg (rsv (.slice A1 n1 c1) (.slice A2 n2 c2))] w fun e W2 => e = .returned (.string (mkS ((linesW ss us).flatMap lineB))) ∧ Below w.heap.size w W2 :=
  callsIn_wide.1 (text19_in h1 h2 hE hf hr hn)
end Go.Proofs.YtoagfmonfgagbaaGreatDoor
