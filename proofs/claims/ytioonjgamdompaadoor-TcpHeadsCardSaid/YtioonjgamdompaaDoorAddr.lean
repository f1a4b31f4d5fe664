/-
  Parts of addresses put together; what is thought ahead of some bytes (sum.ahead). No conditions.
-/
import Derived.Test.YtioonjgamdompaaDoorPut
import Derived.Test.YtioonjgamdompaaDoorAdr
namespace Go.Proofs.YtioonjgamdompaaDoor
open Go.RowKit

/-- Some parts, their headers just laid. -/
theorem pieces_new {w : World} (ps : List Piece) (h : ∀ p ∈ ps, Bs w p.A p.n p.c p.l) (cs : Array Value) (hcs : cs.toList = ps.map Piece.v) (U : TypeId) : Pieces (w.alloc (.cells cs U)) w.heap.size ps := by
  have hb1 : Below w.heap.size w (w.alloc (.cells cs U)) := (Below.refl _ _).alloc (Nat.le_refl _) _
  intro i p hp
  refine ⟨?_, (h p (List.mem_of_getElem? hp)).later hb1 (Nat.le_refl _)⟩
  rw [World.cell?_alloc_at _ _ _ _ rfl, ← Array.getElem?_toList, hcs, List.getElem?_map, hp]
  rfl

theorem putn_wrap32 (n : Int) : putn (n % 4294967296) 4 = putn n 4 := by
  have h : ∀ k, k < 4 → n % 4294967296 / 2 ^ (8 * k) % 256 = n / 2 ^ (8 * k) % 256 := by
    intro k hk
    match k, hk with
    | 0, _ => simp
    | 1, _ => simp; omega
    | 2, _ => simp; omega
    | 3, _ => simp; omega
  simp only [putn, h 0 (by omega), h 1 (by omega), h 2 (by omega), h 3 (by omega)]
theorem wrap_u32' (n : Int) : IntKind.u32.wrap n = n % 4294967296 := rfl
/-- What is thought ahead of some bytes. -/
def aheadL (v6 : Bool) (a b : List UInt8) (proto : Int) (n : Nat) : List UInt8 :=
  if v6 then a ++ b ++ putn n 4 ++ [0, 0, 0, UInt8.ofNat (proto % 256).toNat] else a.take 4 ++ b.take 4 ++ [0, UInt8.ofNat (proto % 256).toNat] ++ putn n 2

set_option maxRecDepth 100000 in
set_option maxHeartbeats 1000000 in
theorem ahead_any (v1 v2 : Bool) (a b : List UInt8) (ha : a.length = 16) (hb : b.length = 16) (proto : Int) (n : Nat) (w : World) :
    Calls Tryd.prog 38 #[.agg (adv v1 a), .agg (adv v2 b), .int .i64 proto, .int .i64 n] w fun e w' =>
      ∃ v', e = .returned v' ∧ w'.ownsRow w.heap.size 5 1 v' (aheadL v1 a b proto n).length (bv (aheadL v1 a b proto n)) ∧ Below w.heap.size w w' := by
  have A1 := Lib.hid ((AdBox.new w v1 ha).later ((Below.refl _ _).alloc (Nat.le_refl _) (.cells (adv v2 b) 25)) (Nat.le_refl _))
  have A2 := Lib.hid (AdBox.new (w.alloc (.cells (adv v1 a) 25)) v2 hb)
  have B2 := Lib.hid (((Below.refl _ w).alloc (Nat.le_refl _) (.cells (adv v1 a) 25)).alloc (by simp) (.cells (adv v2 b) 25))
  have c1 := A1.out.v6_cell
  cases v1
  · go_enter Tryd.func38, Tryd.ntmps38
    go_wp2_with fail
    generalize hW : (w.alloc (Obj.cells (adv false a) 25)).alloc (Obj.cells (adv v2 b) 25) = W at A1 A2 B2 c1 ⊢
    rw [World.size_alloc] at A2
    have hWd : Below W.heap.size W (W.alloc (.cells #[.int .u8 0, .int .u8 (proto % 256)] 5)) := (Below.refl _ _).alloc (Nat.le_refl _) _
    have hl := Bs.lit W [0, UInt8.ofNat (proto % 256).toNat] 2 rfl (by unfold maxLen; omega) #[.int .u8 0, .int .u8 (proto % 256)] (by simp [bv]; omega) 5
    have hp := pieces_new (w := W.alloc (.cells #[.int .u8 0, .int .u8 (proto % 256)] 5)) [⟨some ⟨w.heap.size, 1, none⟩, 4, 16, a.take 4⟩, ⟨some ⟨w.heap.size + 1, 1, none⟩, 4, 16, b.take 4⟩, ⟨some ⟨W.heap.size, 0, none⟩, 2, 2, [0, UInt8.ofNat (proto % 256).toNat]⟩] (by simp; exact ⟨A1.out.bytes4.later hWd (Nat.le_refl _), A2.out.bytes4.later hWd (Nat.le_refl _), hl⟩) #[.slice (some ⟨w.heap.size, 1, none⟩) 4 16, .slice (some ⟨w.heap.size + 1, 1, none⟩) 4 16, .slice (some ⟨W.heap.size, 0, none⟩) 2 2] rfl 22
    rw [World.size_alloc] at hp
    have hc := concat_any (W.heap.size + 1) 3 3 _ _ rfl (by omega) (hp.later (Below.refl _ _).drew (Nat.le_refl _)) (by simp [total])
    simp only [total, flat, List.map_cons, List.map_nil, List.sum_cons, List.sum_nil, List.flatMap_cons, List.flatMap_nil, List.append_nil, Nat.reduceAdd, World.size_drew, World.size_alloc] at hc
    have HC := Lib.hid hc
    clear hW hp hc hl hWd
    go_region_with (first
      | (go_at_call 28; refine HC.out.mono ?_; rintro e w1 ⟨v1, rfl, o1, b1⟩; obtain ⟨A', c', rfl, hB⟩ := Bs.of_own o1; have H1 := Lib.hid (And.intro hB b1); clear o1 b1 hB)
      | (go_at_call 26; refine (put16_any H1.out.1 _ (by omega)).mono ?_; rintro e w2 ⟨v2', rfl, o2, b2⟩; have H2 := Lib.hid (And.intro o2 b2); clear o2 b2))
    have b3 : Below w.heap.size w w2 := by
      have hb1 : Below w.heap.size w w1 := ((B2.out.alloc B2.out.size _).alloc (by simp; have := B2.out.size; omega) _).drew.trans (H1.out.2.mono (by have := B2.out.size; omega))
      exact hb1.trans (H2.out.2.mono hb1.size)
    have o3 := owns_base (base' := w.heap.size) H2.out.1 (Nat.le_trans B2.out.size (Nat.le_trans (by simp; omega) H1.out.2.size))
    have H3 := Lib.hid (And.intro o3 b3)
    clear o3 b3
    go_wp2_with fail
    go_ret
    exact ⟨v2', rfl, owns_n (n := 12) (by simp [aheadL, putn_length, ha, hb]) (by simpa [aheadL] using H3.out.1), H3.out.2⟩
  · go_enter Tryd.func38, Tryd.ntmps38
    go_wp2_with fail
    generalize hW : (w.alloc (Obj.cells (adv true a) 25)).alloc (Obj.cells (adv v2 b) 25) = W at A1 A2 B2 c1 ⊢
    rw [World.size_alloc] at A2
    have hp := pieces_new (w := W) [⟨some ⟨w.heap.size, 1, none⟩, 16, 16, a⟩, ⟨some ⟨w.heap.size + 1, 1, none⟩, 16, 16, b⟩] (by simp; exact ⟨A1.out.bytes, A2.out.bytes⟩) #[.slice (some ⟨w.heap.size, 1, none⟩) 16 16, .slice (some ⟨w.heap.size + 1, 1, none⟩) 16 16] rfl 22
    have hc := concat_any W.heap.size 2 2 _ _ rfl (by omega) (hp.later (Below.refl _ _).drew (Nat.le_refl _)) (by simp [total])
    simp only [total, flat, List.map_cons, List.map_nil, List.sum_cons, List.sum_nil, List.flatMap_cons, List.flatMap_nil, List.append_nil, Nat.reduceAdd, World.size_drew, World.size_alloc] at hc
    have HC := Lib.hid hc
    have HV := Lib.hid (show 0 ≤ IntKind.u32.wrap (n : Int) ∧ IntKind.u32.wrap (n : Int) < 4294967296 by rw [wrap_u32']; omega)
    clear hW hp hc
    go_region_with (first
      | (go_at_call 28; refine HC.out.mono ?_; rintro e w1 ⟨v1, rfl, o1, b1⟩; obtain ⟨A', c', rfl, hB⟩ := Bs.of_own o1; have H1 := Lib.hid (And.intro hB b1); clear o1 b1 hB)
      | (go_at_call 27; refine (put32_any H1.out.1 _ HV.out.1 HV.out.2 (by omega)).mono ?_; rintro e w2 ⟨v2', rfl, o2, b2⟩; have H2 := Lib.hid (And.intro o2 b2); clear o2 b2))
    have o3 : (w2.alloc (.cells #[.int .u8 0, .int .u8 0, .int .u8 0, .int .u8 (proto % 256)] 5)).ownsRow w.heap.size 5 1 v2' 36 (bv (a ++ b ++ putn (n : Int) 4)) := by
      have h := own_kept H2.out.1 ((Below.refl w2.heap.size w2).alloc (Nat.le_refl _) (.cells #[.int .u8 0, .int .u8 0, .int .u8 0, .int .u8 (proto % 256)] 5))
      rw [wrap_u32', putn_wrap32] at h
      exact owns_base h (Nat.le_trans B2.out.size (Nat.le_trans (by simp) H1.out.2.size))
    have b3 : Below w.heap.size w (w2.alloc (.cells #[.int .u8 0, .int .u8 0, .int .u8 0, .int .u8 (proto % 256)] 5)) := by
      have hb1 : Below w.heap.size w w1 := (B2.out.alloc B2.out.size _).drew.trans (H1.out.2.mono (by have := B2.out.size; omega))
      exact (hb1.trans (H2.out.2.mono hb1.size)).alloc (hb1.trans (H2.out.2.mono hb1.size)).size _
    have H3 := Lib.hid (And.intro o3 b3)
    clear o3 b3
    go_wp2_with (at_builtin; refine wpList_append_bs rfl (.tmp 21) (.tmp 24) 22 rfl w.heap.size 5 info5 Tryd.underlying22 _ 36 _ rfl H3.out.1 _ 4 4 [0, 0, 0, UInt8.ofNat (proto % 256).toNat] rfl (Bs.lit w2 _ 4 rfl (by unfold maxLen; omega) _ (by simp [bv]; omega) _) (by omega) H3.out.2.size ?_; intro v4 w4 o4 g4 _ _; have H4 := Lib.hid (And.intro o4 (H3.out.2.grown g4 H3.out.2.size (fun q hq => (H3.out.1.lt q hq).1))); clear o4 g4)
    go_ret
    exact ⟨v4, rfl, owns_n (n := 40) (by simp [aheadL, putn_length, ha, hb]) (by simpa [aheadL] using H4.out.1), H4.out.2⟩
end Go.Proofs.YtioonjgamdompaaDoor
