/-
  Parts of addresses put together; what is thought ahead of some bytes (sum.ahead). No conditions.
  stockadeplay.Addr. No conditions.
-/
import Derived.Test.YtkeggeiliachgaaDoorZ14
import Derived.Test.YtkeggeiliachgaaDoorZ05
import Derived.Laws.CopyOwn
namespace Go.Proofs.YtkeggeiliachgaaDoor
open Go.RowKit

/-- Some parts, their headers just laid. -/
theorem pieces_new {w : World} (ps : List Piece) (h : ∀ p ∈ ps, Bs w p.A p.n p.c p.l) (cs : Array Value) (hcs : cs.toList = ps.map Piece.v) (U : TypeId) : Pieces (w.alloc (.cells cs U)) w.heap.size ps := by
  have hb1 : Below w.heap.size w (w.alloc (.cells cs U)) := (Below.refl _ _).alloc (Nat.le_refl _) _
  intro i p hp
  refine ⟨?_, (h p (List.mem_of_getElem? hp)).later hb1 (Nat.le_refl _)⟩
  rw [World.cell?_alloc_at _ _ _ _ rfl, ← Array.getElem?_toList, hcs, List.getElem?_map, hp]
  rfl

theorem putn_wrap32 (n : Int) : putn (n % 4294967296) 4 = putn n 4 := by
  have h : ∀ k, k < 4 → n % 4294967296 / 2 ^ (8 * k) % 256 = n / 2 ^ (8 * k) % 256 := by
    intro k hk
    match k, hk with
    | 0, _ => simp
    | 1, _ => simp; omega
    | 2, _ => simp; omega
    | 3, _ => simp; omega
  simp only [putn, h 0 (by omega), h 1 (by omega), h 2 (by omega), h 3 (by omega)]
theorem wrap_u32' (n : Int) : IntKind.u32.wrap n = n % 4294967296 := rfl
/-- What is thought ahead of some bytes. -/
def aheadL (v6 : Bool) (a b : List UInt8) (proto : Int) (n : Nat) : List UInt8 :=
  if v6 then a ++ b ++ putn n 4 ++ [0, 0, 0, UInt8.ofNat (proto % 256).toNat] else a.take 4 ++ b.take 4 ++ [0, UInt8.ofNat (proto % 256).toNat] ++ putn n 2

set_option maxRecDepth 100000 in
set_option maxHeartbeats 1000000 in
theorem ahead_any (v1 v2 : Bool) (a b : List UInt8) (ha : a.length = 16) (hb : b.length = 16) (proto : Int) (n : Nat) (w : World) :
    Calls Tryd.prog 41 #[.agg (adv v1 a), .agg (adv v2 b), .int .i64 proto, .int .i64 n] w fun e w' =>
      ∃ v', e = .returned v' ∧ w'.ownsRow w.heap.size 5 1 v' (aheadL v1 a b proto n).length (bv (aheadL v1 a b proto n)) ∧ Below w.heap.size w w' := by
  have A1 := Lib.hid ((AdBox.new w v1 ha).later ((Below.refl _ _).alloc (Nat.le_refl _) (.cells (adv v2 b) 25)) (Nat.le_refl _))
  have A2 := Lib.hid (AdBox.new (w.alloc (.cells (adv v1 a) 25)) v2 hb)
  have B2 := Lib.hid (((Below.refl _ w).alloc (Nat.le_refl _) (.cells (adv v1 a) 25)).alloc (by simp) (.cells (adv v2 b) 25))
  have c1 := A1.out.v6_cell
  cases v1
  · go_enter Tryd.func41, Tryd.ntmps41
    go_wp2_with fail
    generalize hW : (w.alloc (Obj.cells (adv false a) 25)).alloc (Obj.cells (adv v2 b) 25) = W at A1 A2 B2 c1 ⊢
    rw [World.size_alloc] at A2
    have hWd : Below W.heap.size W (W.alloc (.cells #[.int .u8 0, .int .u8 (proto % 256)] 5)) := (Below.refl _ _).alloc (Nat.le_refl _) _
    have hl := Bs.lit W [0, UInt8.ofNat (proto % 256).toNat] 2 rfl (by unfold maxLen; omega) #[.int .u8 0, .int .u8 (proto % 256)] (by simp [bv]; omega) 5
    have hp := pieces_new (w := W.alloc (.cells #[.int .u8 0, .int .u8 (proto % 256)] 5)) [⟨some ⟨w.heap.size, 1, none⟩, 4, 16, a.take 4⟩, ⟨some ⟨w.heap.size + 1, 1, none⟩, 4, 16, b.take 4⟩, ⟨some ⟨W.heap.size, 0, none⟩, 2, 2, [0, UInt8.ofNat (proto % 256).toNat]⟩] (by simp; exact ⟨A1.out.bytes4.later hWd (Nat.le_refl _), A2.out.bytes4.later hWd (Nat.le_refl _), hl⟩) #[.slice (some ⟨w.heap.size, 1, none⟩) 4 16, .slice (some ⟨w.heap.size + 1, 1, none⟩) 4 16, .slice (some ⟨W.heap.size, 0, none⟩) 2 2] rfl 22
    rw [World.size_alloc] at hp
    have hc := concat_any (W.heap.size + 1) 3 3 _ _ rfl (by omega) (hp.later (Below.refl _ _).drew (Nat.le_refl _)) (by simp [total])
    simp only [total, flat, List.map_cons, List.map_nil, List.sum_cons, List.sum_nil, List.flatMap_cons, List.flatMap_nil, List.append_nil, Nat.reduceAdd, World.size_drew, World.size_alloc] at hc
    have HC := Lib.hid hc
    clear hW hp hc hl hWd
    go_region_with (first
      | (go_at_call 25; refine HC.out.mono ?_; rintro e w1 ⟨v1, rfl, o1, b1⟩; obtain ⟨A', c', rfl, hB⟩ := Bs.of_own o1; have H1 := Lib.hid (And.intro hB b1); clear o1 b1 hB)
      | (go_at_call 24; refine (put16_any H1.out.1 _ (by omega)).mono ?_; rintro e w2 ⟨v2', rfl, o2, b2⟩; have H2 := Lib.hid (And.intro o2 b2); clear o2 b2))
    have b3 : Below w.heap.size w w2 := by
      have hb1 : Below w.heap.size w w1 := ((B2.out.alloc B2.out.size _).alloc (by simp; have := B2.out.size; omega) _).drew.trans (H1.out.2.mono (by have := B2.out.size; omega))
      exact hb1.trans (H2.out.2.mono hb1.size)
    have o3 := owns_base (base' := w.heap.size) H2.out.1 (Nat.le_trans B2.out.size (Nat.le_trans (by simp; omega) H1.out.2.size))
    have H3 := Lib.hid (And.intro o3 b3)
    clear o3 b3
    go_wp2_with fail
    go_ret
    exact ⟨v2', rfl, owns_n (n := 12) (by simp [aheadL, putn_length, ha, hb]) (by simpa [aheadL] using H3.out.1), H3.out.2⟩
  · go_enter Tryd.func41, Tryd.ntmps41
    go_wp2_with fail
    generalize hW : (w.alloc (Obj.cells (adv true a) 25)).alloc (Obj.cells (adv v2 b) 25) = W at A1 A2 B2 c1 ⊢
    rw [World.size_alloc] at A2
    have hp := pieces_new (w := W) [⟨some ⟨w.heap.size, 1, none⟩, 16, 16, a⟩, ⟨some ⟨w.heap.size + 1, 1, none⟩, 16, 16, b⟩] (by simp; exact ⟨A1.out.bytes, A2.out.bytes⟩) #[.slice (some ⟨w.heap.size, 1, none⟩) 16 16, .slice (some ⟨w.heap.size + 1, 1, none⟩) 16 16] rfl 22
    have hc := concat_any W.heap.size 2 2 _ _ rfl (by omega) (hp.later (Below.refl _ _).drew (Nat.le_refl _)) (by simp [total])
    simp only [total, flat, List.map_cons, List.map_nil, List.sum_cons, List.sum_nil, List.flatMap_cons, List.flatMap_nil, List.append_nil, Nat.reduceAdd, World.size_drew, World.size_alloc] at hc
    have HC := Lib.hid hc
    have HV := Lib.hid (show 0 ≤ IntKind.u32.wrap (n : Int) ∧ IntKind.u32.wrap (n : Int) < 4294967296 by rw [wrap_u32']; omega)
    clear hW hp hc
    go_region_with (first
      | (go_at_call 25; refine HC.out.mono ?_; rintro e w1 ⟨v1, rfl, o1, b1⟩; obtain ⟨A', c', rfl, hB⟩ := Bs.of_own o1; have H1 := Lib.hid (And.intro hB b1); clear o1 b1 hB)
      | (go_at_call 52; refine (put32_any H1.out.1 _ HV.out.1 HV.out.2 (by omega)).mono ?_; rintro e w2 ⟨v2', rfl, o2, b2⟩; have H2 := Lib.hid (And.intro o2 b2); clear o2 b2))
    have o3 : (w2.alloc (.cells #[.int .u8 0, .int .u8 0, .int .u8 0, .int .u8 (proto % 256)] 5)).ownsRow w.heap.size 5 1 v2' 36 (bv (a ++ b ++ putn (n : Int) 4)) := by
      have h := own_kept H2.out.1 ((Below.refl w2.heap.size w2).alloc (Nat.le_refl _) (.cells #[.int .u8 0, .int .u8 0, .int .u8 0, .int .u8 (proto % 256)] 5))
      rw [wrap_u32', putn_wrap32] at h
      exact owns_base h (Nat.le_trans B2.out.size (Nat.le_trans (by simp) H1.out.2.size))
    have b3 : Below w.heap.size w (w2.alloc (.cells #[.int .u8 0, .int .u8 0, .int .u8 0, .int .u8 (proto % 256)] 5)) := by
      have hb1 : Below w.heap.size w w1 := (B2.out.alloc B2.out.size _).drew.trans (H1.out.2.mono (by have := B2.out.size; omega))
      exact (hb1.trans (H2.out.2.mono hb1.size)).alloc (hb1.trans (H2.out.2.mono hb1.size)).size _
    have H3 := Lib.hid (And.intro o3 b3)
    clear o3 b3
    go_wp2_with (at_builtin; refine wpList_append_bs rfl (.tmp 21) (.tmp 24) 22 rfl w.heap.size 5 info5 Tryd.underlying22 _ 36 _ rfl H3.out.1 _ 4 4 [0, 0, 0, UInt8.ofNat (proto % 256).toNat] rfl (Bs.lit w2 _ 4 rfl (by unfold maxLen; omega) _ (by simp [bv]; omega) _) (by omega) H3.out.2.size ?_; intro v4 w4 o4 g4 _ _; have H4 := Lib.hid (And.intro o4 (H3.out.2.grown g4 H3.out.2.size (fun q hq => (H3.out.1.lt q hq).1))); clear o4 g4)
    go_ret
    exact ⟨v4, rfl, owns_n (n := 40) (by simp [aheadL, putn_length, ha, hb]) (by simpa [aheadL] using H4.out.1), H4.out.2⟩
end Go.Proofs.YtkeggeiliachgaaDoor

namespace Go.Proofs.YtkeggeiliachgaaDoor
open Go.RowKit

/-- The bytes of an address that is right. -/
def norm (v6 : Bool) (a : List UInt8) : List UInt8 := if v6 then a else a.take 4 ++ List.replicate 12 0
theorem norm_len (v6 : Bool) {a : List UInt8} (h : a.length = 16) : (norm v6 a).length = 16 := by cases v6 <;> simp [norm, h]
/-- Zeros from the fifth byte up to a place. -/
def zeroed (a : List UInt8) (j : Nat) : List UInt8 := a.take 4 ++ List.replicate (j - 4) 0 ++ a.drop j
theorem zeroed_set {a : List UInt8} (h : a.length = 16) {j : Nat} (h4 : 4 ≤ j) (h16 : j < 16) : (zeroed a j).set j 0 = zeroed a (j + 1) := by
  apply List.ext_getElem?
  intro i
  rw [List.getElem?_set]
  simp only [zeroed, List.getElem?_append, List.length_append, List.length_take, List.length_replicate, List.getElem?_take, List.getElem?_replicate, List.getElem?_drop, List.length_drop, h]
  grind

set_option maxRecDepth 100000 in
set_option maxHeartbeats 1000000 in
theorem play_addr (v1 v6 : Bool) (a : List UInt8) (ha : a.length = 16) (w : World) : Calls Tryd.prog 15 #[.agg (adv v1 a), .bool v6] w fun e w' =>
    e = .returned (.agg (adv v6 (norm v6 a))) ∧ Below w.heap.size w w' := by
  go_enter Tryd.func15, Tryd.ntmps15
  go_wp2_with fail
  rw [adv_set0]
  have A1 := (AdBox.new w v6 ha).later ((Below.refl _ _).alloc (Nat.le_refl _) (.cells (adv false (List.replicate 16 0)) 25)) (Nat.le_refl _)
  have A2 := AdBox.new (w.alloc (.cells (adv v6 a) 25)) false (bs := List.replicate 16 0) rfl
  rw [World.size_alloc] at A2
  have B2 := ((Below.refl _ w).alloc (Nat.le_refl _) (.cells (adv v6 a) 25)).alloc (by simp) (.cells (adv false (List.replicate 16 0)) 25)
  have hz : adv false (List.replicate 16 0) = #[Value.bool false, Value.int IntKind.u8 0, Value.int IntKind.u8 0, Value.int IntKind.u8 0, Value.int IntKind.u8 0, Value.int IntKind.u8 0, Value.int IntKind.u8 0, Value.int IntKind.u8 0, Value.int IntKind.u8 0, Value.int IntKind.u8 0, Value.int IntKind.u8 0, Value.int IntKind.u8 0, Value.int IntKind.u8 0, Value.int IntKind.u8 0, Value.int IntKind.u8 0, Value.int IntKind.u8 0, Value.int IntKind.u8 0] := rfl
  rw [← hz]
  generalize hW : (w.alloc (Obj.cells (adv v6 a) 25)).alloc (Obj.cells (adv false (List.replicate 16 0)) 25) = W at A1 A2 B2 ⊢
  have H0 := Lib.hid (And.intro A1 (And.intro A2 B2))
  clear hz hW A1 A2 B2
  cases v6
  · have HA := Lib.hid ha
    clear ha
    go_loopw [5] (fun i wr => ∃ j : Nat, 4 ≤ j ∧ j ≤ 16 ∧ i = .int .i64 j ∧ AdBox wr w.heap.size false (zeroed a j) ∧ AdBox wr (w.heap.size + 1) false (List.replicate 16 0) ∧ Below w.heap.size w wr) (fun i _ => 16 - (intOf i).toNat)
    case atStart => exact ⟨4, by omega, by omega, rfl, by simpa [zeroed] using H0.out.1, H0.out.2.1, H0.out.2.2⟩
    case round =>
      obtain ⟨j, h4, h16, rfl, a1, a2, hb⟩ := hrel
      by_cases hlt : j < 16
      · obtain ⟨x, _, hc⟩ := a1.there j hlt
        have hf := a1.frozen (1 + j)
        have a3 := a1.put j 0
        rw [zeroed_set HA.out h4 hlt] at a3
        have H1 := Lib.hid (And.intro a3 (And.intro (a2.far (p := ⟨w.heap.size, 1 + j, none⟩) (by simp) (.int .u8 (0 : UInt8).toNat)) (hb.setCell (p := ⟨w.heap.size, 1 + j, none⟩) (Nat.le_refl _) (.int .u8 (0 : UInt8).toNat))))
        clear a1 a2 a3 hb
        go_wp2_with fail
        go_roundw
        case rel => exact ⟨j + 1, by omega, by omega, by go_num, H1.out⟩
        case measure => simp [intOf]; omega
      · obtain rfl : j = 16 := by omega
        have hz : zeroed a 16 = norm false a := by simp [zeroed, norm, List.drop_of_length_le (Nat.le_of_eq HA.out)]
        rw [hz] at a1
        have H1 := Lib.hid (And.intro a1 (And.intro a2 hb))
        clear a1 a2 hb hz
        go_wp2_with (first
          | (refine wpList_load_ad rfl (.tmp 2) rfl rfl H1.out.1 ?_)
          | (refine wpList_store_row rfl 25 (.tmp 4) (.tmp 19) rfl (w.heap.size + 1) _ rfl rfl 25 _ H1.out.2.1.1 (ad_size _ (norm_len false HA.out)) (by rw [adv_size _ H1.out.2.1.2, adv_size _ (norm_len false HA.out)]) (adv_one _ _) ?_))
        exact bodyPost_ret (v := .agg (adv false (norm false a))) (results_cell_row rfl _ _ (w.heap.size + 1) 25 _ (0, 0) _ rfl (setRow_heap _ _ _ _ _ _ H1.out.2.1.1) Tryd.underlying25 rfl (ad_size _ (norm_len false HA.out))) rfl ⟨rfl, below_setRow H1.out.2.2 (by omega) _⟩
  · go_loopw [5] (fun i wr => i = .int .i64 4 ∧ wr = W) (fun _ _ => 0)
    case atStart => exact ⟨rfl, rfl⟩
    case round =>
      obtain ⟨rfl, rfl⟩ := hrel
      go_wp2_with (first
          | (refine wpList_load_ad rfl (.tmp 2) rfl rfl H0.out.1 ?_)
          | (refine wpList_store_row rfl 25 (.tmp 4) (.tmp 19) rfl (w.heap.size + 1) _ rfl rfl 25 _ H0.out.2.1.1 (ad_size _ ha) (by rw [adv_size _ H0.out.2.1.2, adv_size _ ha]) (adv_one _ _) ?_))
      exact bodyPost_ret (v := .agg (adv true (norm true a))) (results_cell_row rfl _ _ (w.heap.size + 1) 25 _ (0, 0) _ rfl (setRow_heap _ _ _ _ _ _ H0.out.2.1.1) Tryd.underlying25 rfl (ad_size _ ha)) rfl ⟨rfl, below_setRow H0.out.2.2 (by omega) _⟩
end Go.Proofs.YtkeggeiliachgaaDoor
