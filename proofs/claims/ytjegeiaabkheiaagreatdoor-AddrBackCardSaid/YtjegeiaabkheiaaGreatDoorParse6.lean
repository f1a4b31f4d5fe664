/-
  Package addr's groups and parse6. Conditions: what the program's text has laid (Env).
-/
import Derived.Test.YtjegeiaabkheiaaGreatDoorParse4
import Derived.Test.YtjegeiaabkheiaaGreatDoorCatI
namespace Go.Proofs.YtjegeiaabkheiaaGreatDoor
open Go.RowKit
set_option maxRecDepth 100000

/-- Groups with ":" between; none of nothing. -/
def groupsv (l : List UInt8) : Option (List Nat) := if l = [] then some [] else allv groupv (splN 58 l 7)
theorem groupsv_len {l : List UInt8} {ns : List Nat} (h : groupsv l = some ns) : ns.length ≤ 8 := by
  unfold groupsv at h
  split at h
  · obtain rfl := Option.some.inj h; simp
  · rw [allv_length h]; exact splN_len _ _ _
theorem groupsv_lt {l : List UInt8} {ns : List Nat} (h : groupsv l = some ns) : ∀ n ∈ ns, n < 65536 := by
  unfold groupsv at h
  split at h
  · obtain rfl := Option.some.inj h; simp
  · exact allv_lt (fun l n h => groupv_lt h) h
def Grps (r : Option (List Nat)) (w : World) (e : Ending) (w' : World) : Prop :=
  Below w.heap.size w w' ∧ match r with
    | some ns => ∃ A c, e = .returned (.tuple #[.slice A ns.length c, .nilIface]) ∧ Gs w' A ns.length c (iv ns)
    | none => ∃ er, e = .returned (.tuple #[.slice none 0 0, er]) ∧ Dead w' er
theorem toList_empty (s : ByteArray) (h : s.size = 0) : s.data.toList = [] := List.eq_nil_of_length_eq_zero (by rw [← Lib.size_eq]; exact h)

theorem groups_any (s : ByteArray) (hs : s.size < 4294967281) {w : World} (hE : Env w) : Calls Tryz.prog 51 #[.string s] w (Grps (groupsv s.data.toList) w) := by
  have HE := Lib.hid hE
  clear hE
  by_cases h0 : s.size = 0
  · have ht : s = ⟨#[]⟩ := by
      obtain ⟨⟨l⟩⟩ := s
      cases l with
      | nil => rfl
      | cons _ _ => simp [ByteArray.size] at h0
    subst ht
    clear h0
    go_enter Tryz.func51, Tryz.ntmps51
    go_wp2
    go_ret2
    exact ⟨Below.refl _ _, none, 0, rfl, Gs.nil _⟩
  · have hemp : s.toList.isEmpty = false := by
      rw [← decide_eq_emptyBytes]
      exact decide_eq_false (fun h => h0 (by rw [h]; rfl))
    have hr : groupsv s.data.toList = allv groupv (splN 58 s.data.toList 7) := by
      unfold groupsv
      rw [if_neg]
      intro h
      have := Lib.size_eq s
      rw [h] at this
      exact h0 this
    have hl : s.data.toList.length = s.size := (Lib.size_eq s).symm
    have HL := Lib.hid (And.intro hl hr)
    clear hl hr h0
    go_enter Tryz.func51, Tryz.ntmps51
    go_wp2_with fail
    refine (splitN_any 58 8 (by omega) (by omega) s hs HE.out).mono ?_
    rintro e w2 ⟨b, xs, cap, rfl, hxc, hc1, hx, hss, b2⟩
    have hxlen : ∀ x ∈ xs, x.size ≤ maxLen := fun x hx' => by
      have h1 : x.data.toList ∈ splN 58 s.data.toList 7 := by rw [← hx]; exact List.mem_map_of_mem hx'
      have h2 := splN_mem_len 58 _ _ _ h1
      rw [← Lib.size_eq] at h2
      have h3 := HL.out.1
      unfold maxLen
      omega
    have k := each_group b xs cap (by omega) hxc (by unfold maxLen; omega) hxlen (HE.out.later b2 (Nat.le_refl _)) hss
    rw [hx] at k
    have K := Lib.hid k
    have H2 := Lib.hid b2
    clear hx hss b2 hxlen k
    cases ha : allv groupv (splN 58 s.data.toList (8 - 1)) with
    | none =>
      rw [ha] at K
      have HA := Lib.hid (HL.out.2.trans ha)
      clear ha
      go_wp2_with fail
      refine K.out.mono ?_
      rintro e w3 ⟨b3, er, rfl, d3⟩
      have H3 := Lib.hid (And.intro (H2.out.trans (b3.mono H2.out.size)) d3)
      clear b3 d3
      go_wp2_with fail
      go_ret2
      rw [HA.out]
      exact ⟨H3.out.1, _, rfl, H3.out.2⟩
    | some ns =>
      rw [ha] at K
      have HA := Lib.hid (HL.out.2.trans ha)
      clear ha
      go_wp2_with fail
      refine K.out.mono ?_
      rintro e w3 ⟨b3, g3, rfl, hg3, r3⟩
      have H3 := Lib.hid (And.intro (H2.out.trans (b3.mono H2.out.size)) r3)
      clear b3 r3 hg3
      go_wp2_with fail
      go_ret2
      rw [HA.out]
      have h8 := groupsv_len HA.out
      exact ⟨H3.out.1, _, _, rfl, Gs.of_row H3.out.2 (iv_length _) (by unfold maxLen; omega)⟩

/-- Groups as bytes. -/
def g2 (ns : List Nat) : List UInt8 := ns.flatMap fun n => [UInt8.ofNat (n / 256), UInt8.ofNat (n % 256)]
/-- An address of version 6. -/
def six (l : List UInt8) : Option (List UInt8) :=
  (groupsv (Lib.cut l [58, 58]).1).bind fun x => (groupsv (Lib.cut l [58, 58]).2.1).bind fun y =>
    if x.length + y.length ≤ 8 ∧ (Lib.cut l [58, 58]).2.2 = decide (x.length + y.length < 8) then some (g2 (x ++ List.replicate (8 - x.length - y.length) 0 ++ y)) else none
def P6 (r : Option (List UInt8)) (w : World) (e : Ending) (w' : World) : Prop :=
  Below w.heap.size w w' ∧ match r with
    | some bs => bs.length = 16 ∧ e = .returned (.tuple #[.agg (adv true bs), .nilIface])
    | none => ∃ T x, e = .returned (.tuple #[.agg (adv false (List.replicate 16 0)), .iface T x])
theorem Dead.held {w : World} {v : Value} (h : Dead w v) : ∃ T x, v = .iface T x := by cases h; exact ⟨_, _, rfl⟩
theorem g2_len (ns : List Nat) : (g2 ns).length = 2 * ns.length := by
  induction ns with
  | nil => rfl
  | cons n r ih => simp only [g2, List.flatMap_cons] at ih ⊢; rw [List.length_append, ih]; simp; omega
theorem g2_snoc (a : List Nat) (n : Nat) : g2 (a ++ [n]) = g2 a ++ [UInt8.ofNat (n / 256), UInt8.ofNat (n % 256)] := by simp [g2]
/-- The bytes behind so many groups. -/
def g2z (ns : List Nat) (k : Nat) : List UInt8 := g2 (ns.take k) ++ List.replicate (16 - 2 * k) 0
theorem g2z_len {ns : List Nat} {k : Nat} (h : ns.length = 8) (hk : k ≤ 8) : (g2z ns k).length = 16 := by
  unfold g2z; rw [List.length_append, g2_len, List.length_take, List.length_replicate]; omega
theorem g2z_set {ns : List Nat} {k n : Nat} (h : ns.length = 8) (hk : ns[k]? = some n) : ((g2z ns k).set (2 * k) (UInt8.ofNat (n / 256))).set (2 * k + 1) (UInt8.ofNat (n % 256)) = g2z ns (k + 1) := by
  have hlt := (List.getElem?_eq_some_iff.1 hk).1
  have h2 : ns.take (k + 1) = ns.take k ++ [n] := by rw [List.take_add_one, hk]; rfl
  have hl : (g2 (ns.take k)).length = 2 * k := by rw [g2_len, List.length_take]; omega
  unfold g2z
  rw [h2, g2_snoc, show 16 - 2 * k = (16 - 2 * (k + 1)) + 1 + 1 by omega, List.replicate_succ, List.replicate_succ, List.set_append_right _ _ (by omega), hl, Nat.sub_self, List.set_append_right _ _ (by omega), hl, show 2 * k + 1 - 2 * k = 1 by omega]
  simp
end Go.Proofs.YtjegeiaabkheiaaGreatDoor
