/-
  The texts that stockadelaw04.AddrRefuses names, reckoned; texts without a recursion on a number. No conditions.
-/
import Derived.Test.YtcdomcccdbdmhaaGreatDoorAwake04
import Derived.Test.YtcdomcccdbdmhaaGreatDoorPNet
import Derived.Test.YtcdomcccdbdmhaaGreatDoorTell
import Derived.Test.YtcdomcccdbdmhaaGreatDoorEqA
import Derived.Outline
namespace Go.Proofs.YtcdomcccdbdmhaaGreatDoor
open Go.RowKit
set_option maxRecDepth 100000

/-- The texts that the law names. -/
def noAd : List (List UInt8) := [[], [49, 46, 50, 46, 51], [49, 46, 50, 46, 51, 46, 52, 46, 53], [49, 46, 50, 46, 51, 46, 50, 53, 54], [48, 49, 46, 50, 46, 51, 46, 52], [49, 46, 50, 46, 51, 46], [49, 58, 50, 58, 51, 58, 52, 58, 53, 58, 54, 58, 55], [49, 58, 58, 50, 58, 58, 51], [58, 58, 58], [49, 58, 50, 58, 51, 58, 52, 58, 53, 58, 54, 58, 55, 58, 56, 58, 57], [49, 50, 51, 52, 53, 58, 58], [103, 58, 58], [49, 58, 50, 58, 51, 58, 52, 58, 53, 58, 54, 58, 55, 58, 58, 56], [58, 49, 58, 58], [49, 46, 50, 46, 51, 46, 52, 32]]
def yesAd : List (List UInt8) := [[48, 46, 48, 46, 48, 46, 48], [49, 46, 50, 46, 51, 46, 52], [50, 53, 53, 46, 50, 53, 53, 46, 50, 53, 53, 46, 50, 53, 53], [58, 58], [58, 58, 49], [49, 58, 58], [49, 58, 50, 58, 51, 58, 52, 58, 53, 58, 54, 58, 55, 58, 56], [49, 58, 50, 58, 51, 58, 52, 58, 53, 58, 54, 58, 55, 58, 58], [65, 58, 58, 98], [48, 58, 48, 58, 48, 58, 48, 58, 48, 58, 48, 58, 48, 58, 48], [58, 58, 50, 58, 51, 58, 52, 58, 53, 58, 54, 58, 55, 58, 56], [49, 58, 48, 58, 48, 58, 50, 58, 58], [102, 102, 102, 102, 58, 58, 102, 102, 102, 102], [49, 48, 46, 48, 46, 48, 46, 49], [102, 101, 56, 48, 58, 58, 49]]
def noNet : List (List UInt8) := [[49, 46, 50, 46, 51, 46, 52], [49, 46, 50, 46, 51, 46, 52, 47, 51, 51], [49, 46, 50, 46, 51, 46, 52, 47, 56], [49, 46, 50, 46, 51, 46, 52, 47], [49, 46, 50, 46, 51, 46, 52, 47, 48, 51, 50], [58, 58, 47, 49, 50, 57], [58, 58, 49, 47, 49, 50, 55], [49, 46, 48, 46, 48, 46, 48, 47, 56, 47, 56], [120, 47, 56], [49, 46, 50, 46, 51, 46, 52, 47, 45, 49]]
theorem noAd_all : ∀ l ∈ noAd, parsev l = none := by decide +kernel
theorem yesAd_all : ∀ l ∈ yesAd, (parsev l).isSome = true := by decide +kernel
theorem noNet_all : ∀ l ∈ noNet, parsenetv l = none := by decide +kernel
def bsv (ls : List (List UInt8)) : List ByteArray := ls.map fun l => ⟨l.toArray⟩
/-- The digits of small numbers, without a recursion on the number. -/
def dec3 (n : Nat) : List UInt8 := if n < 10 then [UInt8.ofNat (48 + n)] else if n < 100 then [UInt8.ofNat (48 + n / 10), UInt8.ofNat (48 + n % 10)] else [UInt8.ofNat (48 + n / 100), UInt8.ofNat (48 + n / 10 % 10), UInt8.ofNat (48 + n % 10)]
theorem dec3_eq {n : Nat} (h : n < 1000) : Lib.decDigits n = dec3 n := by
  have hd : ∀ m, Lib.decDigits m = if m < 10 then [UInt8.ofNat (48 + m)] else Lib.decDigits (m / 10) ++ [UInt8.ofNat (48 + m % 10)] := fun m => by
    rw [Lib.decDigits]; split <;> rfl
  unfold dec3
  rw [hd n]
  split
  · rfl
  · rw [hd (n / 10)]
    by_cases h2 : n < 100
    · rw [if_pos (by omega), if_pos h2]; rfl
    · rw [if_neg (by omega), if_neg h2, hd (n / 10 / 10), if_pos (by omega), Nat.div_div_eq_div_mul]; rfl
def hex4 (v : Nat) : List UInt8 := if v < 16 then [hd v] else if v < 256 then [hd (v / 16), hd (v % 16)] else if v < 4096 then [hd (v / 256), hd (v / 16 % 16), hd (v % 16)] else [hd (v / 4096), hd (v / 256 % 16), hd (v / 16 % 16), hd (v % 16)]
theorem hex4_eq {v : Nat} (h : v < 65536) : hexL v = hex4 v := by
  have hh : ∀ m, hexL m = if m < 16 then [hd m] else hexL (m / 16) ++ [hd (m % 16)] := fun m => by
    rw [hexL]; split <;> rfl
  unfold hex4
  rw [hh v]
  split
  · rfl
  · rw [hh (v / 16)]
    by_cases h2 : v < 256
    · rw [if_pos (by omega), if_pos h2]; rfl
    · rw [if_neg (by omega), if_neg h2, hh (v / 16 / 16)]
      by_cases h3 : v < 4096
      · rw [if_pos (by omega), if_pos h3, Nat.div_div_eq_div_mul]; rfl
      · rw [if_neg (by omega), if_neg h3, hh (v / 16 / 16 / 16), if_pos (by omega)]; simp [Nat.div_div_eq_div_mul]
/-- The texts again, so reckoned. -/
def w6 (bs : List UInt8) : List (List UInt8) := (List.range 8).map fun i => hex4 (grp bs i)
def z6 (bs : List UInt8) : List Bool := (w6 bs).map fun l => decide (l = [48])
def text6f (bs : List UInt8) : List UInt8 :=
  if (longestv (z6 bs)).1 = (longestv (z6 bs)).2 then Lib.join (w6 bs) [58]
  else Lib.join ((w6 bs).take (longestv (z6 bs)).1) [58] ++ [58, 58] ++ Lib.join ((w6 bs).drop (longestv (z6 bs)).2) [58]
def textf (v6 : Bool) (bs : List UInt8) : List UInt8 := if rightv v6 bs then (if v6 then text6f bs else Lib.join ((bs.take 4).map fun b => dec3 b.toNat) [46]) else []
theorem words6_f (bs : List UInt8) : (words6 bs).map (fun x => x.data.toList) = w6 bs := by
  unfold words6 w6
  rw [List.map_map]
  apply List.map_congr_left
  intro i _
  show (mkS (hexL (grp bs i))).data.toList = _
  rw [mkS_data, hex4_eq (grp_lt bs i)]
theorem words6_z (bs : List UInt8) : (words6 bs).map isZ = z6 bs := by
  unfold z6
  rw [← words6_f, List.map_map]
  apply List.map_congr_left
  intro x _
  show decide (x = mkS [48]) = decide (x.data.toList = [48])
  rw [decide_eq_decide]
  exact ⟨fun h => by rw [h, mkS_data], fun h => bytes_inj' (h.trans (mkS_data [48]).symm)⟩
theorem textv_f (v6 : Bool) (bs : List UInt8) : textv v6 bs = textf v6 bs := by
  unfold textv textf
  have h6 : text6v bs = text6f bs := by
    unfold text6v text6f
    rw [words6_z, List.map_take, List.map_drop, words6_f]
  have h4 : text4v bs = Lib.join ((bs.take 4).map fun b => dec3 b.toNat) [46] := by
    unfold text4v
    congr 1
    apply List.map_congr_left
    intro b _
    have : b.toNat < 256 := b.toNat_lt
    exact dec3_eq (by omega)
  rw [h6, h4]
/-- What the law asks of a text that is an address. -/
def yesOk (l : List UInt8) : Bool := match parsev l with
  | some (v6, bs) => parsenetv (textf v6 bs ++ [47, 48]) == (if bs = List.replicate 16 0 then some (v6, bs, 0) else none)
  | none => false
theorem yesAd_ok : ∀ l ∈ yesAd, yesOk l = true := by decide +kernel

theorem num_mod4 (a : Int) (m : Int) (h0 : 0 < m) (h1 : m ≤ 1000000) : 0 ≤ wrap64 ((IntKind.u64.wrap a).tmod m) ∧ wrap64 ((IntKind.u64.wrap a).tmod m) < m := by
  have h2 : 0 ≤ IntKind.u64.wrap a := by rw [IntKind.wrap_u64]; omega
  rw [Int.tmod_eq_emod_of_nonneg h2]
  have h3 := Int.emod_nonneg (IntKind.u64.wrap a) (show m ≠ 0 by omega)
  have h4 := Int.emod_lt_of_pos (IntKind.u64.wrap a) h0
  generalize IntKind.u64.wrap a % m = x at h3 h4
  unfold wrap64
  omega
/-- Three rows just laid: the world by a letter. -/
theorem three_rows {P : Program} {c : Code} {Q : Exit → Act → World → Prop} {a : Act} {w : World} {cs0 cs1 cs2 : Array Value} {T : TypeId} (vs0 vs1 vs2 : List Value) (h0 : cs0.toList = vs0) (h1 : cs1.toList = vs1) (h2 : cs2.toList = vs2)
    (h : ∀ W, Row W w.heap.size T vs0 → Row W (w.heap.size + 1) T vs1 → Row W (w.heap.size + 1 + 1) T vs2 → Below w.heap.size w W → c.wp P Q a W) : c.wp P Q a (((w.alloc (.cells cs0 T)).alloc (.cells cs1 T)).alloc (.cells cs2 T)) := by
  have r0 := Row.new' w T h0
  have r1 := Row.new' (w.alloc (.cells cs0 T)) T h1
  have r2 := Row.new' ((w.alloc (.cells cs0 T)).alloc (.cells cs1 T)) T h2
  rw [World.size_alloc] at r1
  rw [World.size_alloc, World.size_alloc] at r2
  have b1 : Below (w.alloc (.cells cs0 T)).heap.size (w.alloc (.cells cs0 T)) (((w.alloc (.cells cs0 T)).alloc (.cells cs1 T)).alloc (.cells cs2 T)) := ((Below.refl _ _).alloc (Nat.le_refl _) _).alloc (by simp) _
  exact h _ (r0.later b1 (Nat.le_refl _)) (r1.later ((Below.refl _ _).alloc (Nat.le_refl _) _) (Nat.le_refl _)) r2 (((Below.refl _ _).alloc (Nat.le_refl _) _).trans (b1.mono (by simp)))
theorem bsv_at {ls : List (List UInt8)} {i : Nat} {l : List UInt8} (h : ls[i]? = some l) : (sv (bsv ls))[i]? = some (.string (mkS l)) := by
  apply sv_at; unfold bsv; rw [List.getElem?_map, h]; rfl
theorem yesAd_len : ∀ l ∈ yesAd, l.length ≤ 100 := by decide
theorem noAd_len : ∀ l ∈ noAd, l.length ≤ 100 := by decide
theorem noNet_len : ∀ l ∈ noNet, l.length ≤ 100 := by decide
def txtLen (l : List UInt8) : Bool := match parsev l with
  | some (v6, bs) => decide ((textf v6 bs).length ≤ 100) && decide (bs.length = 16)
  | none => false
theorem yesAd_txt : ∀ l ∈ yesAd, txtLen l = true := by decide +kernel
theorem mkS_size (l : List UInt8) : (mkS l).size = l.length := by rw [Lib.size_eq, mkS_data]
theorem eqlNilE (T : TypeId) (x : Value) (w : World) : (binOp .eql 29 (.iface T x) .nilIface).run Tryz.prog w = .ok (.bool false) w := by
  kernel_rfl

end Go.Proofs.YtcdomcccdbdmhaaGreatDoor
