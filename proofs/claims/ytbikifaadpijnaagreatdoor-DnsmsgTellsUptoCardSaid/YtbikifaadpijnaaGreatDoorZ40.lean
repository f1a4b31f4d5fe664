/-
  stockaderef12.Read: the document's own answer. Conditions: those of the slice; a million bytes at most.
  stockaderef12.Read of any place, and Write: the document's own answers. Conditions: those of the slice; a million bytes, a thousand letters at most.
  stockaderef12.ReadQuestion: the document's own answer. Conditions: those of the slice; a million bytes at most.
-/
import Derived.Test.YtbikifaadpijnaaGreatDoorZ39
import Derived.Test.YtbikifaadpijnaaGreatDoorZ28
import Derived.IntWalk
import Derived.Test.YtbikifaadpijnaaGreatDoorZ10
import Derived.Test.YtbikifaadpijnaaGreatDoorZ07
import Derived.Test.YtbikifaadpijnaaGreatDoorZ31
import Derived.Test.YtbikifaadpijnaaGreatDoorZ33
import Derived.Test.YtbikifaadpijnaaGreatDoorZ25
namespace Go.Proofs.YtbikifaadpijnaaGreatDoor
open Go.RowKit
set_option maxRecDepth 100000

/-- How the reference's loop holds it. -/
structure RfOk (s : Rs) : Prop where
  size : s.size ≤ 255
  one : 1 ≤ s.size
  len : s.name.length + 1 ≤ s.size
  next : ∀ v, s.next = some v → 2 ≤ v ∧ v ≤ 9223372036854775807
  big : s.at_ ≤ 9223372036854775807
  bel : s.below ≤ 9223372036854775807
def nextV (o : Option Nat) : Int := match o with | none => -1 | some v => (v : Int)
/-- What the reference hands back. -/
def RefR (r : Rd) (w : World) (e : Ending) (w' : World) : Prop := e = .returned (.tuple #[.string (mkS r.name), .int .i64 r.next, .agg #[.int .i64 r.f.code, .int .i64 r.f.at_, .bool r.f.placed]]) ∧ Below w.heap.size w w'
theorem mkS_empty {l : List UInt8} (h : l = []) : (mkS l).toList.isEmpty = true := by rw [h, Lib.toList_data, mkS_data]; rfl
theorem mkS_some {l : List UInt8} (h : l ≠ []) : (mkS l).toList.isEmpty = false := by
  rw [Lib.toList_data, mkS_data]
  cases l with
  | nil => exact absurd rfl h
  | cons _ _ => rfl
theorem num_two {A : Option Addr} {n c : Nat} {l : List UInt8} {w : World} (hb : Bs w A n c l) (at_ : Nat) (h : at_ + 2 ≤ n) : Calls Tryz.prog 23 #[.slice A n c, .int .i64 at_, .int .i64 2] w fun e w' => e = .returned (.int .i64 (num2 l at_ : Nat)) ∧ w = w' := by
  have k := num_any hb at_ 2 h (by omega)
  exact k
set_option maxHeartbeats 3000000 in
theorem ref_read_from {A : Option Addr} {n c : Nat} {l : List UInt8} {w : World} (hb : Bs w A n c l) (hn : n ≤ 1000000) (at_ : Nat) (ha : at_ ≤ 9223372036854775807) : Calls Tryz.prog 54 #[.slice A n c, .int .i64 at_] w (RefR (readS l n ⟨at_, at_, 1, [], none⟩) w) := by
  have hl := hb.len
  have hcap := hb.cap
  have hmax := hb.max
  unfold maxLen at hmax
  obtain ⟨R, hR⟩ : ∃ R, readS l n ⟨at_, at_, 1, [], none⟩ = R := ⟨_, rfl⟩
  rw [hR]
  have HB := Lib.hid hb
  have HR := Lib.hid hR
  have HL := Lib.hid hl
  have hb0 := Box.new w 0 0 false
  have hw0 : Below w.heap.size w (w.alloc (.cells #[.int .i64 0, .int .i64 0, .bool false] 36)) := (Below.refl _ _).alloc (Nat.le_refl _) _
  have H0 := Lib.hid (And.intro hb0 hw0)
  clear hb hR hl hb0 hw0
  go_enter Tryz.func54, Tryz.ntmps54
  go_wp2_with fail
  generalize w.alloc (.cells #[.int .i64 0, .int .i64 0, .bool false] 36) = W at H0 ⊢
  go_loopw [1, 7, 8, 9, 10] (fun a nm sz nx b wr => ∃ s : Rs, RfOk s ∧ a = .int .i64 s.at_ ∧ b = .int .i64 s.below ∧ sz = .int .i64 ((s.size : Nat) : Int) ∧ nx = .int .i64 (nextV s.next) ∧ nm = .string (mkS s.name) ∧ readS l n s = R ∧ Box wr w.heap.size ⟨0, 0, false⟩ ∧ Below w.heap.size w wr) (fun _ _ sz _ b _ => (256 - (intOf sz).toNat) + (intOf b).toNat)
  case atStart => exact ⟨⟨at_, at_, 1, [], none⟩, ⟨(show (1 : Nat) ≤ 255 by omega), Nat.le_refl _, Nat.le_refl _, (fun v h => by cases h), ha, ha⟩, rfl, rfl, rfl, rfl, rfl, HR.out, H0.out.1, H0.out.2⟩
  case round =>
    obtain ⟨s, hok, rfl, rfl, rfl, rfl, rfl, hs, hbx, hbe⟩ := hrel
    have HO := Lib.hid (And.intro hbx (And.intro hbe (And.intro hok hs)))
    have h255 := hok.size
    have h1 := hok.one
    have hbig := hok.big
    have hbel := hok.bel
    have hlen := hok.len
    have hbw : w.heap.size < wr.heap.size := (Array.getElem?_eq_some_iff.1 hbx).1
    clear hbx hbe hs hok
    by_cases hn0 : n ≤ s.at_
    · have hE0 := hn0
      have hst : rstep l n s = .inr (.bad 3 s.at_) := by unfold rstep; rw [if_pos hn0]
      have hend := (readS_end hst).symm.trans HO.out.2.2.2
      have HE := Lib.hid hend
      clear hst hend
      clear hE0
      go_wp2_with fail
      refine (help_at 3 s.at_ wr).mono ?_
      rintro e w9 ⟨rfl, b9⟩
      have hbx := (HO.out.1).later b9 (Nat.le_refl _)
      obtain ⟨c0, c1, c2⟩ := hbx.cells
      have f0 : w9.frozen? ⟨w.heap.size, 0, none⟩ = false := by unfold Box at hbx; simp [World.frozen?, hbx]
      have f1 : w9.frozen? ⟨w.heap.size, 1, none⟩ = false := by unfold Box at hbx; simp [World.frozen?, hbx]
      have f2 : w9.frozen? ⟨w.heap.size, 2, none⟩ = false := by unfold Box at hbx; simp [World.frozen?, hbx]
      have H9 := Lib.hid ((HO.out.2.1).trans (b9.mono (HO.out.2.1).size))
      clear hbx b9
      go_wp2_with fail
      rw [← HE.out]
      exact bodyPost_ret (v := .tuple #[.string ⟨#[]⟩, .int .i64 0, .agg #[.int .i64 3, .int .i64 s.at_, .bool true]]) (by simp [results, Tryz.results54, go_sem, c0, c1, c2]) rfl ⟨rfl, ((H9.out.setCell (p := ⟨w.heap.size, 0, none⟩) (Nat.le_refl _) _).setCell (p := ⟨w.heap.size, 1, none⟩) (Nat.le_refl _) _).setCell (p := ⟨w.heap.size, 2, none⟩) (Nat.le_refl _) _⟩
    · obtain ⟨x, hx, hxb⟩ := bat_some (i := s.at_) HL.out (by omega)
      have hxl := x.toNat_lt
      obtain ⟨b, off, rfl, hc⟩ := (HB.out.later HO.out.2.1 (Nat.le_refl _)).here (by omega)
      have hcx := hc s.at_ x hx
      have HX := Lib.hid (And.intro hx hxb)
      clear hx hxb hc
      by_cases h0 : x.toNat = 0
      · have hxz : bat l s.at_ = 0 := by rw [HX.out.2]; exact h0
        have hst : rstep l n s = .inr (.ok s.name (s.next.getD (s.at_ + 1))) := by unfold rstep; rw [if_neg hn0, if_pos hxz]
        have hend := (readS_end hst).symm.trans HO.out.2.2.2
        have HE := Lib.hid hend
        clear hst hend
        obtain ⟨c0, c1, c2⟩ := HO.out.1.cells
        have hbx := HO.out.1
        have f0 : wr.frozen? ⟨w.heap.size, 0, none⟩ = false := by unfold Box at hbx; simp [World.frozen?, hbx]
        have f1 : wr.frozen? ⟨w.heap.size, 1, none⟩ = false := by unfold Box at hbx; simp [World.frozen?, hbx]
        have f2 : wr.frozen? ⟨w.heap.size, 2, none⟩ = false := by unfold Box at hbx; simp [World.frozen?, hbx]
        have hnx := HO.out.2.2.1.next
        clear hxz hbx
        cases hnn : s.next with
        | none =>
          rw [hnn] at HE
          rw [show nextV none = -1 from rfl]
          clear hnx hnn
          go_wp2_with fail
          rw [← HE.out]
          exact bodyPost_ret (v := .tuple #[.string (mkS s.name), .int .i64 ((s.at_ + 1 : Nat) : Int), .agg #[.int .i64 0, .int .i64 0, .bool false]]) (by simp [results, Tryz.results54, go_sem, c0, c1, c2]) rfl ⟨rfl, ((HO.out.2.1.setCell (p := ⟨w.heap.size, 0, none⟩) (Nat.le_refl _) _).setCell (p := ⟨w.heap.size, 1, none⟩) (Nat.le_refl _) _).setCell (p := ⟨w.heap.size, 2, none⟩) (Nat.le_refl _) _⟩
        | some v =>
          have hv := hnx v hnn
          rw [hnn] at HE
          rw [show nextV (some v) = (v : Int) from rfl]
          clear hnx hnn
          go_wp2_with fail
          rw [← HE.out]
          exact bodyPost_ret (v := .tuple #[.string (mkS s.name), .int .i64 ((v : Nat) : Int), .agg #[.int .i64 0, .int .i64 0, .bool false]]) (by simp [results, Tryz.results54, go_sem, c0, c1, c2]) rfl ⟨rfl, ((HO.out.2.1.setCell (p := ⟨w.heap.size, 0, none⟩) (Nat.le_refl _) _).setCell (p := ⟨w.heap.size, 1, none⟩) (Nat.le_refl _) _).setCell (p := ⟨w.heap.size, 2, none⟩) (Nat.le_refl _) _⟩
      · by_cases h63 : x.toNat ≤ 63
        · by_cases hsh : n < s.at_ + 1 + x.toNat
          · have hb0 : bat l s.at_ ≠ 0 := by rw [HX.out.2]; exact h0
            have hb1 : bat l s.at_ ≤ 63 := by rw [HX.out.2]; exact h63
            have hb2 : n < s.at_ + 1 + bat l s.at_ := by rw [HX.out.2]; exact hsh
            have hst : rstep l n s = .inr (.bad 3 s.at_) := by unfold rstep; rw [if_neg hn0, if_neg hb0, if_pos hb1, if_pos hb2]
            have hend := (readS_end hst).symm.trans HO.out.2.2.2
            have HE := Lib.hid hend
            clear hst hend
            clear hb0 hb1 hb2
            go_wp2_with fail
            refine (help_at 3 s.at_ wr).mono ?_
            rintro e w9 ⟨rfl, b9⟩
            have hbx := (HO.out.1).later b9 (Nat.le_refl _)
            obtain ⟨c0, c1, c2⟩ := hbx.cells
            have f0 : w9.frozen? ⟨w.heap.size, 0, none⟩ = false := by unfold Box at hbx; simp [World.frozen?, hbx]
            have f1 : w9.frozen? ⟨w.heap.size, 1, none⟩ = false := by unfold Box at hbx; simp [World.frozen?, hbx]
            have f2 : w9.frozen? ⟨w.heap.size, 2, none⟩ = false := by unfold Box at hbx; simp [World.frozen?, hbx]
            have H9 := Lib.hid ((HO.out.2.1).trans (b9.mono (HO.out.2.1).size))
            clear hbx b9
            go_wp2_with fail
            rw [← HE.out]
            exact bodyPost_ret (v := .tuple #[.string ⟨#[]⟩, .int .i64 0, .agg #[.int .i64 3, .int .i64 s.at_, .bool true]]) (by simp [results, Tryz.results54, go_sem, c0, c1, c2]) rfl ⟨rfl, ((H9.out.setCell (p := ⟨w.heap.size, 0, none⟩) (Nat.le_refl _) _).setCell (p := ⟨w.heap.size, 1, none⟩) (Nat.le_refl _) _).setCell (p := ⟨w.heap.size, 2, none⟩) (Nat.le_refl _) _⟩
          · have hcut := (HB.out.later HO.out.2.1 (Nat.le_refl _)).cut (i := s.at_ + 1) (k := x.toNat) (by omega) (A' := some ⟨b, off + (s.at_ + 1), none⟩) (fun _ => by simp [Addr.add]) (fun h => by cases h)
            have KLo := Lib.hid (ref_lower hcut (by omega))
            have hlen1 : (lowL ((l.drop (s.at_ + 1)).take x.toNat)).length = x.toNat := by rw [lowL_length, List.length_take, List.length_drop, HL.out]; omega
            have KLa := Lib.hid (fun w1 => ref_label (mkS (lowL ((l.drop (s.at_ + 1)).take x.toNat))) (by rw [mkS_size, hlen1]; omega) w1)
            rw [mkS_data] at KLa
            have hb0 : bat l s.at_ ≠ 0 := by rw [HX.out.2]; exact h0
            have hb1 : bat l s.at_ ≤ 63 := by rw [HX.out.2]; exact h63
            have hb2 : ¬ n < s.at_ + 1 + bat l s.at_ := by rw [HX.out.2]; exact hsh
            have hck : ¬ c = s.at_ + 1 := by omega
            have hrs : rstep l n s = (if ¬ labOk (lowL ((l.drop (s.at_ + 1)).take x.toNat)) then .inr (.bad 12 s.at_)
              else if 255 < s.size + 1 + x.toNat then .inr (.bad 13 s.at_)
              else .inl ⟨s.at_ + 1 + x.toNat, s.below, s.size + 1 + x.toNat, dotted s.name (lowL ((l.drop (s.at_ + 1)).take x.toNat)), s.next⟩) := by
              unfold rstep
              rw [if_neg hn0, if_neg hb0, if_pos hb1, if_neg hb2, HX.out.2]
            generalize lowL ((l.drop (s.at_ + 1)).take x.toNat) = z at KLo KLa hlen1 hrs
            have HRS := Lib.hid hrs
            clear hcut hb0 hb1 hb2 hrs
            go_wp2_with fail
            refine KLo.out.mono ?_
            rintro e w5 ⟨rfl, b5⟩
            have hbx5 := HO.out.1.later b5 (Nat.le_refl _)
            have H5 := Lib.hid (And.intro hbx5 (HO.out.2.1.trans (b5.mono HO.out.2.1.size)))
            have hbw5 : w.heap.size < w5.heap.size := (Array.getElem?_eq_some_iff.1 hbx5).1
            have hzs : (mkS z).size = x.toNat := by rw [mkS_size, hlen1]
            clear b5 hbx5
            by_cases hok : labOk z
            · rw [decide_eq_true hok] at KLa
              by_cases hbg : 255 < s.size + 1 + x.toNat
              · have hst : rstep l n s = .inr (.bad 13 s.at_) := by rw [HRS.out, if_neg (not_not_intro hok), if_pos hbg]
                have hend := (readS_end hst).symm.trans HO.out.2.2.2
                have HE := Lib.hid hend
                clear hst hend hok
                go_wp2_with fail
                refine (KLa.out _).mono ?_
                rintro e w' ⟨rfl, rfl⟩
                go_wp2_with fail
                refine (help_at 13 s.at_ w5).mono ?_
                rintro e w9 ⟨rfl, b9⟩
                have hbx := (H5.out.1).later b9 (Nat.le_refl _)
                obtain ⟨c0, c1, c2⟩ := hbx.cells
                have f0 : w9.frozen? ⟨w.heap.size, 0, none⟩ = false := by unfold Box at hbx; simp [World.frozen?, hbx]
                have f1 : w9.frozen? ⟨w.heap.size, 1, none⟩ = false := by unfold Box at hbx; simp [World.frozen?, hbx]
                have f2 : w9.frozen? ⟨w.heap.size, 2, none⟩ = false := by unfold Box at hbx; simp [World.frozen?, hbx]
                have H9 := Lib.hid ((H5.out.2).trans (b9.mono (H5.out.2).size))
                clear hbx b9
                go_wp2_with fail
                rw [← HE.out]
                exact bodyPost_ret (v := .tuple #[.string ⟨#[]⟩, .int .i64 0, .agg #[.int .i64 13, .int .i64 s.at_, .bool true]]) (by simp [results, Tryz.results54, go_sem, c0, c1, c2]) rfl ⟨rfl, ((H9.out.setCell (p := ⟨w.heap.size, 0, none⟩) (Nat.le_refl _) _).setCell (p := ⟨w.heap.size, 1, none⟩) (Nat.le_refl _) _).setCell (p := ⟨w.heap.size, 2, none⟩) (Nat.le_refl _) _⟩
              · have hst : rstep l n s = .inl ⟨s.at_ + 1 + x.toNat, s.below, s.size + 1 + x.toNat, dotted s.name z, s.next⟩ := by rw [HRS.out, if_neg (not_not_intro hok), if_neg hbg]
                have hon := (readS_on hst h255).symm.trans HO.out.2.2.2
                have HN := Lib.hid hon
                clear hst hon hok
                have hps : (mkS s.name).size = s.name.length := mkS_size _
                by_cases hnm : s.name = []
                · have he := mkS_empty hnm
                  have hdz : dotted s.name z = z := by unfold dotted; rw [if_pos hnm]
                  have hcat : mkS s.name ++ mkS z = mkS z := by rw [mkS_append, hnm]; rfl
                  have hok' : RfOk ⟨s.at_ + 1 + x.toNat, s.below, s.size + 1 + x.toNat, dotted s.name z, s.next⟩ := ⟨by show s.size + 1 + x.toNat ≤ 255; omega, by show 1 ≤ s.size + 1 + x.toNat; omega, by show (dotted s.name z).length + 1 ≤ s.size + 1 + x.toNat; rw [hdz, hlen1]; omega, HO.out.2.2.1.next, by show s.at_ + 1 + x.toNat ≤ _; omega, hbel⟩
                  have HD := Lib.hid (And.intro hdz hok')
                  have hm1 : ¬ 9223372036854775807 < s.name.length + x.toNat := by omega
                  clear hdz hok' hnm
                  go_wp2_with fail
                  refine (KLa.out _).mono ?_
                  rintro e w' ⟨rfl, rfl⟩
                  go_wp2_with fail
                  refine ⟨⟨_, HD.out.2, ?_, rfl, ?_, rfl, by rw [HD.out.1], HN.out, H5.out.1, H5.out.2⟩, ?_⟩
                  · show Value.int IntKind.i64 _ = Value.int IntKind.i64 ((s.at_ + 1 + x.toNat : Nat) : Int)
                    congr 1 <;> omega
                  · show Value.int IntKind.i64 _ = Value.int IntKind.i64 ((s.size + 1 + x.toNat : Nat) : Int)
                    congr 1 <;> omega
                  · simp only [intOf]; omega
                · have he := mkS_some hnm
                  have hdz : dotted s.name z = s.name ++ 46 :: z := by unfold dotted; rw [if_neg hnm]
                  have hc1 : mkS s.name ++ ⟨#[46]⟩ = mkS (s.name ++ [46]) := mkS_append _ [46]
                  have hc2 : mkS (s.name ++ [46]) ++ mkS z = mkS (s.name ++ 46 :: z) := by rw [mkS_append]; simp
                  have hps2 : (mkS (s.name ++ [46])).size = s.name.length + 1 := by rw [mkS_size]; simp
                  have hok' : RfOk ⟨s.at_ + 1 + x.toNat, s.below, s.size + 1 + x.toNat, dotted s.name z, s.next⟩ := ⟨by show s.size + 1 + x.toNat ≤ 255; omega, by show 1 ≤ s.size + 1 + x.toNat; omega, by show (dotted s.name z).length + 1 ≤ s.size + 1 + x.toNat; rw [hdz, List.length_append, List.length_cons, hlen1]; omega, HO.out.2.2.1.next, by show s.at_ + 1 + x.toNat ≤ _; omega, hbel⟩
                  have HD := Lib.hid (And.intro hdz hok')
                  have hm1 : ¬ 9223372036854775807 < s.name.length + 1 := by omega
                  have hm2 : ¬ 9223372036854775807 < s.name.length + 1 + x.toNat := by omega
                  clear hdz hok' hnm
                  go_wp2_with fail
                  refine (KLa.out _).mono ?_
                  rintro e w' ⟨rfl, rfl⟩
                  go_wp2_with fail
                  refine ⟨⟨_, HD.out.2, ?_, rfl, ?_, rfl, by rw [HD.out.1], HN.out, H5.out.1, H5.out.2⟩, ?_⟩
                  · show Value.int IntKind.i64 _ = Value.int IntKind.i64 ((s.at_ + 1 + x.toNat : Nat) : Int)
                    congr 1 <;> omega
                  · show Value.int IntKind.i64 _ = Value.int IntKind.i64 ((s.size + 1 + x.toNat : Nat) : Int)
                    congr 1 <;> omega
                  · simp only [intOf]; omega
            · rw [decide_eq_false hok] at KLa
              have hst : rstep l n s = .inr (.bad 12 s.at_) := by rw [HRS.out, if_pos hok]
              have hend := (readS_end hst).symm.trans HO.out.2.2.2
              have HE := Lib.hid hend
              clear hst hend hok
              go_wp2_with fail
              refine (KLa.out _).mono ?_
              rintro e w' ⟨rfl, rfl⟩
              go_wp2_with fail
              refine (help_at 12 s.at_ w5).mono ?_
              rintro e w9 ⟨rfl, b9⟩
              have hbx := (H5.out.1).later b9 (Nat.le_refl _)
              obtain ⟨c0, c1, c2⟩ := hbx.cells
              have f0 : w9.frozen? ⟨w.heap.size, 0, none⟩ = false := by unfold Box at hbx; simp [World.frozen?, hbx]
              have f1 : w9.frozen? ⟨w.heap.size, 1, none⟩ = false := by unfold Box at hbx; simp [World.frozen?, hbx]
              have f2 : w9.frozen? ⟨w.heap.size, 2, none⟩ = false := by unfold Box at hbx; simp [World.frozen?, hbx]
              have H9 := Lib.hid ((H5.out.2).trans (b9.mono (H5.out.2).size))
              clear hbx b9
              go_wp2_with fail
              rw [← HE.out]
              exact bodyPost_ret (v := .tuple #[.string ⟨#[]⟩, .int .i64 0, .agg #[.int .i64 12, .int .i64 s.at_, .bool true]]) (by simp [results, Tryz.results54, go_sem, c0, c1, c2]) rfl ⟨rfl, ((H9.out.setCell (p := ⟨w.heap.size, 0, none⟩) (Nat.le_refl _) _).setCell (p := ⟨w.heap.size, 1, none⟩) (Nat.le_refl _) _).setCell (p := ⟨w.heap.size, 2, none⟩) (Nat.le_refl _) _⟩
        · have hb0 : bat l s.at_ ≠ 0 := by rw [HX.out.2]; exact h0
          have hb1 : ¬ bat l s.at_ ≤ 63 := by rw [HX.out.2]; exact h63
          by_cases h192 : 192 ≤ x.toNat
          · have hb3 : 192 ≤ bat l s.at_ := by rw [HX.out.2]; exact h192
            by_cases hp : n ≤ s.at_ + 1
            · have hst : rstep l n s = .inr (.bad 3 s.at_) := by unfold rstep; rw [if_neg hn0, if_neg hb0, if_neg hb1, if_pos hb3, if_pos hp]
              have hend := (readS_end hst).symm.trans HO.out.2.2.2
              have HE := Lib.hid hend
              clear hst hend
              clear hb0 hb1 hb3
              go_wp2_with fail
              refine (help_at 3 s.at_ wr).mono ?_
              rintro e w9 ⟨rfl, b9⟩
              have hbx := (HO.out.1).later b9 (Nat.le_refl _)
              obtain ⟨c0, c1, c2⟩ := hbx.cells
              have f0 : w9.frozen? ⟨w.heap.size, 0, none⟩ = false := by unfold Box at hbx; simp [World.frozen?, hbx]
              have f1 : w9.frozen? ⟨w.heap.size, 1, none⟩ = false := by unfold Box at hbx; simp [World.frozen?, hbx]
              have f2 : w9.frozen? ⟨w.heap.size, 2, none⟩ = false := by unfold Box at hbx; simp [World.frozen?, hbx]
              have H9 := Lib.hid ((HO.out.2.1).trans (b9.mono (HO.out.2.1).size))
              clear hbx b9
              go_wp2_with fail
              rw [← HE.out]
              exact bodyPost_ret (v := .tuple #[.string ⟨#[]⟩, .int .i64 0, .agg #[.int .i64 3, .int .i64 s.at_, .bool true]]) (by simp [results, Tryz.results54, go_sem, c0, c1, c2]) rfl ⟨rfl, ((H9.out.setCell (p := ⟨w.heap.size, 0, none⟩) (Nat.le_refl _) _).setCell (p := ⟨w.heap.size, 1, none⟩) (Nat.le_refl _) _).setCell (p := ⟨w.heap.size, 2, none⟩) (Nat.le_refl _) _⟩
            · have KN := Lib.hid (num_two (HB.out.later HO.out.2.1 (Nat.le_refl _)) s.at_ (by omega))
              have h6 := num2_lt l s.at_
              have hA := and_low14 h6
              have hrs : rstep l n s = (if s.below ≤ num2 l s.at_ % 16384 then .inr (.bad 14 s.at_) else .inl ⟨num2 l s.at_ % 16384, num2 l s.at_ % 16384, s.size, s.name, some (s.next.getD (s.at_ + 2))⟩) := by
                unfold rstep
                rw [if_neg hn0, if_neg hb0, if_neg hb1, if_pos hb3, if_neg hp]
              generalize num2 l s.at_ = v at KN h6 hA hrs
              have HRS := Lib.hid hrs
              clear hrs hb0 hb1 hb3
              by_cases hbl : s.below ≤ v % 16384
              · have hst : rstep l n s = .inr (.bad 14 s.at_) := by rw [HRS.out, if_pos hbl]
                have hend := (readS_end hst).symm.trans HO.out.2.2.2
                have HE := Lib.hid hend
                clear hst hend
                go_wp2_with fail
                refine KN.out.mono ?_
                rintro e w' ⟨rfl, rfl⟩
                go_wp2_with fail
                refine (help_at 14 s.at_ wr).mono ?_
                rintro e w9 ⟨rfl, b9⟩
                have hbx := (HO.out.1).later b9 (Nat.le_refl _)
                obtain ⟨c0, c1, c2⟩ := hbx.cells
                have f0 : w9.frozen? ⟨w.heap.size, 0, none⟩ = false := by unfold Box at hbx; simp [World.frozen?, hbx]
                have f1 : w9.frozen? ⟨w.heap.size, 1, none⟩ = false := by unfold Box at hbx; simp [World.frozen?, hbx]
                have f2 : w9.frozen? ⟨w.heap.size, 2, none⟩ = false := by unfold Box at hbx; simp [World.frozen?, hbx]
                have H9 := Lib.hid ((HO.out.2.1).trans (b9.mono (HO.out.2.1).size))
                clear hbx b9
                go_wp2_with fail
                rw [← HE.out]
                exact bodyPost_ret (v := .tuple #[.string ⟨#[]⟩, .int .i64 0, .agg #[.int .i64 14, .int .i64 s.at_, .bool true]]) (by simp [results, Tryz.results54, go_sem, c0, c1, c2]) rfl ⟨rfl, ((H9.out.setCell (p := ⟨w.heap.size, 0, none⟩) (Nat.le_refl _) _).setCell (p := ⟨w.heap.size, 1, none⟩) (Nat.le_refl _) _).setCell (p := ⟨w.heap.size, 2, none⟩) (Nat.le_refl _) _⟩
              · have hst : rstep l n s = .inl ⟨v % 16384, v % 16384, s.size, s.name, some (s.next.getD (s.at_ + 2))⟩ := by rw [HRS.out, if_neg hbl]
                have hon := (readS_on hst h255).symm.trans HO.out.2.2.2
                have HN := Lib.hid hon
                have hnx := HO.out.2.2.1.next
                clear hst hon
                cases hnn : s.next with
                | none =>
                  rw [hnn] at HN
                  have hok' : RfOk ⟨v % 16384, v % 16384, s.size, s.name, some (s.at_ + 2)⟩ := ⟨h255, h1, hlen, (fun q hq => by obtain rfl := Option.some.inj hq; omega), by show v % 16384 ≤ _; omega, by show v % 16384 ≤ _; omega⟩
                  have HD := Lib.hid hok'
                  rw [show nextV none = -1 from rfl]
                  clear hok' hnx hnn
                  go_wp2_with fail
                  refine KN.out.mono ?_
                  rintro e w' ⟨rfl, rfl⟩
                  go_wp2_with fail
                  refine ⟨⟨_, HD.out, rfl, rfl, rfl, ?_, rfl, HN.out, HO.out.1, HO.out.2.1⟩, ?_⟩
                  · show Value.int IntKind.i64 _ = Value.int IntKind.i64 ((s.at_ + 2 : Nat) : Int)
                    congr 1
                  · simp only [intOf]; omega
                | some q =>
                  have hv := hnx q hnn
                  rw [hnn] at HN
                  have hok' : RfOk ⟨v % 16384, v % 16384, s.size, s.name, some q⟩ := ⟨h255, h1, hlen, (fun r hr => by obtain rfl := Option.some.inj hr; exact hv), by show v % 16384 ≤ _; omega, by show v % 16384 ≤ _; omega⟩
                  have HD := Lib.hid hok'
                  rw [show nextV (some q) = (q : Int) from rfl]
                  clear hok' hnx hnn
                  go_wp2_with fail
                  refine KN.out.mono ?_
                  rintro e w' ⟨rfl, rfl⟩
                  go_wp2_with fail
                  refine ⟨⟨_, HD.out, rfl, rfl, rfl, rfl, rfl, HN.out, HO.out.1, HO.out.2.1⟩, ?_⟩
                  simp only [intOf]; omega
          · have hb3 : ¬ 192 ≤ bat l s.at_ := by rw [HX.out.2]; exact h192
            have hst : rstep l n s = .inr (.bad 12 s.at_) := by unfold rstep; rw [if_neg hn0, if_neg hb0, if_neg hb1, if_neg hb3]
            have hend := (readS_end hst).symm.trans HO.out.2.2.2
            have HE := Lib.hid hend
            clear hst hend
            clear hb0 hb1 hb3
            go_wp2_with fail
            refine (help_at 12 s.at_ wr).mono ?_
            rintro e w9 ⟨rfl, b9⟩
            have hbx := (HO.out.1).later b9 (Nat.le_refl _)
            obtain ⟨c0, c1, c2⟩ := hbx.cells
            have f0 : w9.frozen? ⟨w.heap.size, 0, none⟩ = false := by unfold Box at hbx; simp [World.frozen?, hbx]
            have f1 : w9.frozen? ⟨w.heap.size, 1, none⟩ = false := by unfold Box at hbx; simp [World.frozen?, hbx]
            have f2 : w9.frozen? ⟨w.heap.size, 2, none⟩ = false := by unfold Box at hbx; simp [World.frozen?, hbx]
            have H9 := Lib.hid ((HO.out.2.1).trans (b9.mono (HO.out.2.1).size))
            clear hbx b9
            go_wp2_with fail
            rw [← HE.out]
            exact bodyPost_ret (v := .tuple #[.string ⟨#[]⟩, .int .i64 0, .agg #[.int .i64 12, .int .i64 s.at_, .bool true]]) (by simp [results, Tryz.results54, go_sem, c0, c1, c2]) rfl ⟨rfl, ((H9.out.setCell (p := ⟨w.heap.size, 0, none⟩) (Nat.le_refl _) _).setCell (p := ⟨w.heap.size, 1, none⟩) (Nat.le_refl _) _).setCell (p := ⟨w.heap.size, 2, none⟩) (Nat.le_refl _) _⟩
end Go.Proofs.YtbikifaadpijnaaGreatDoor

namespace Go.Proofs.YtbikifaadpijnaaGreatDoor
open Go.RowKit
set_option maxRecDepth 100000

/-- A string appended, as one operation. -/
theorem wp_append_str {P : Program} {w : World} {o : Oper} {a : Act} {K : Act → World → Prop} {Q : Exit → Act → World → Prop} (sl x : Operand) (t u : TypeId)
    (ho : o.op = .call { callee := .builtin .append, args := #[sl, x], argTypes := #[t, u] })
    (base : Nat) (e : TypeId) (i : TypeInfo) (ht : P.underlying t = some (.slice e)) (hu : P.underlying u = some .string) (hi : P.info? e = some i) (hz : i.zero = some (.int .u8 0))
    (hsize : i.size = 1) (hby : i.bytes = 1)
    (v : Value) (n : Nat) (xs : List Value) (hs : a.eval sl = v) (hown : w.ownsRow base e 1 v n xs) (s : ByteArray) (hx : a.eval x = .string s)
    (h63 : n + s.size ≤ maxLen) (hbytes : n + s.size ≤ 140737488355328) (hbase : base ≤ w.heap.size)
    (h : ∀ v' w', w'.ownsRow base e 1 v' (n + s.size) (xs ++ Lib.strCells s) → w.grownBy w' v.ownBlock → K (a.put o.dst v') w') : Oper.wp P o a w K Q := by
  obtain ⟨v', w', hr, h2, h3, h4⟩ := Lib.run_append_own_string (P := P) w base t u o.type e i ht hu hi hz hsize hby v n xs hown s h63 hbytes hbase
  unfold Oper.wp execOp
  simp only [ho, resolve, invoke, builtin, Sem.run_bind, Sem.run_pure, Result.andThen_ok, List.map_toArray, List.map_cons, List.map_nil, hs, hx, hr]
  exact h v' w' h2 h3

theorem ref_read {A : Option Addr} {n c : Nat} {l : List UInt8} {w : World} (hb : Bs w A n c l) (hn : n ≤ 1000000) (at_ : Int) (ha : at_ ≤ 9223372036854775807) : Calls Tryz.prog 54 #[.slice A n c, .int .i64 at_] w (RefR (readv l n at_) w) := by
  unfold readv
  by_cases hneg : at_ < 0
  · rw [if_pos hneg]
    have hb0 := Box.new w 0 0 false
    have hw0 : Below w.heap.size w (w.alloc (.cells #[.int .i64 0, .int .i64 0, .bool false] 36)) := (Below.refl _ _).alloc (Nat.le_refl _) _
    have H0 := Lib.hid (And.intro hb0 hw0)
    clear hb hb0 hw0
    go_enter Tryz.func54, Tryz.ntmps54
    go_wp2_with fail
    generalize w.alloc (.cells #[.int .i64 0, .int .i64 0, .bool false] 36) = W at H0 ⊢
    refine (help_bare 1 W).mono ?_
    rintro e w9 ⟨rfl, b9⟩
    have hbx := H0.out.1.later b9 (Nat.le_refl _)
    obtain ⟨c0, c1, c2⟩ := hbx.cells
    have f0 : w9.frozen? ⟨w.heap.size, 0, none⟩ = false := by unfold Box at hbx; simp [World.frozen?, hbx]
    have f1 : w9.frozen? ⟨w.heap.size, 1, none⟩ = false := by unfold Box at hbx; simp [World.frozen?, hbx]
    have f2 : w9.frozen? ⟨w.heap.size, 2, none⟩ = false := by unfold Box at hbx; simp [World.frozen?, hbx]
    have H9 := Lib.hid (H0.out.2.trans (b9.mono H0.out.2.size))
    clear hbx b9
    go_wp2_with fail
    exact bodyPost_ret (v := .tuple #[.string ⟨#[]⟩, .int .i64 0, .agg #[.int .i64 1, .int .i64 0, .bool false]]) (by simp [results, Tryz.results54, go_sem, c0, c1, c2]) rfl ⟨rfl, ((H9.out.setCell (p := ⟨w.heap.size, 0, none⟩) (Nat.le_refl _) _).setCell (p := ⟨w.heap.size, 1, none⟩) (Nat.le_refl _) _).setCell (p := ⟨w.heap.size, 2, none⟩) (Nat.le_refl _) _⟩
  · rw [if_neg hneg]
    obtain ⟨k, rfl⟩ : ∃ k : Nat, at_ = k := ⟨at_.toNat, by omega⟩
    rw [Int.toNat_natCast]
    exact ref_read_from hb hn k (by omega)

set_option maxHeartbeats 3000000 in
theorem ref_write_own (s : ByteArray) (hs : s.size ≤ 10000) (w : World) : Calls Tryz.prog 67 #[.string s] w fun e w' =>
    ∃ A c, e = .returned (.tuple #[.slice A (writev s.data.toList).length c, .agg #[.int .i64 (writee s.data.toList).code, .int .i64 (writee s.data.toList).at_, .bool (writee s.data.toList).placed]]) ∧ w'.ownsRow w.heap.size 5 1 (.slice A (writev s.data.toList).length c) (writev s.data.toList).length (bv (writev s.data.toList)) ∧ Below w.heap.size w w' := by
  have KR := Lib.hid (fun w1 => ref_right s hs w1)
  have hb0 := Box.new w 0 0 false
  have hw0 : Below w.heap.size w (w.alloc (.cells #[.int .i64 0, .int .i64 0, .bool false] 36)) := (Below.refl _ _).alloc (Nat.le_refl _) _
  have H0 := Lib.hid (And.intro hb0 hw0)
  clear hb0 hw0
  unfold writev writee
  by_cases hr : rightN s.data.toList
  · rw [decide_eq_true hr] at KR
    rw [if_pos hr, if_pos hr]
    unfold writeB
    have KL := Lib.hid (fun w1 => ref_labels s hs w1)
    obtain ⟨ls, hls⟩ : ∃ ls, labsN s.data.toList = ls := ⟨_, rfl⟩
    unfold rightN at hr
    rw [hls] at hr KL ⊢
    obtain ⟨hr1, hr2⟩ := hr
    have hge := sizeL_ge ls
    have HR := Lib.hid hr1
    have HZ := Lib.hid (And.intro hr2 hge)
    obtain ⟨i0, hi, hz0, hz1, hz2⟩ := info_parts info5
    have HI := Lib.hid (And.intro hi (And.intro hz0 (And.intro hz1 hz2)))
    clear hr1 hls hi hz0 hz1 hz2 hr2 hge
    go_enter Tryz.func67, Tryz.ntmps67
    go_wp2_with fail
    generalize w.alloc (.cells #[.int .i64 0, .int .i64 0, .bool false] 36) = W at H0 ⊢
    refine (KR.out _).mono ?_
    rintro e w1 ⟨rfl, b1⟩
    have hx1 := H0.out.1.later b1 (Nat.le_refl _)
    have H1 := Lib.hid (And.intro hx1 (H0.out.2.trans (b1.mono H0.out.2.size)))
    clear b1 hx1
    go_wp2_with fail
    refine (KL.out w1).mono ?_
    rintro e w2 ⟨A, n, c, rfl, hG, b2⟩
    have hn : n = ls.length := by have := hG.len; unfold sv mkSs at this; rw [List.length_map, List.length_map] at this; exact this.symm
    subst hn
    have hcap := hG.cap
    have hmax := hG.max
    unfold maxLen at hmax
    have hx2 := H1.out.1.later b2 (Nat.le_refl _)
    have H2 := Lib.hid (And.intro hG (And.intro (H1.out.2.trans (b2.mono H1.out.2.size)) hx2))
    clear hG b2 hx2
    go_wp2_with fail
    go_loopw [4, 6] (fun b i wr => ∃ k : Nat, k ≤ ls.length ∧ i = .int .i64 k ∧ wr.ownsRow w2.heap.size 5 1 b (wireL (ls.take k)).length (bv (wireL (ls.take k))) ∧ Below w2.heap.size w2 wr) (fun _ i _ => ls.length - (intOf i).toNat)
    case atStart => exact ⟨0, Nat.zero_le _, rfl, World.ownsRow_nil _ _ _ _, Below.refl _ _⟩
    case round =>
      obtain ⟨k, hk, rfl, ho, hbe⟩ := hrel
      have hwl : (wireL (ls.take k)).length ≤ 255 := by
        have h1 := sizeL_append (ls.take k) (ls.drop k)
        rw [List.take_append_drop] at h1
        rw [wireL_length]
        have := HZ.out.1
        omega
      by_cases hlt : k < ls.length
      · obtain ⟨x, hxk⟩ : ∃ x, ls[k]? = some x := ⟨ls[k]'hlt, List.getElem?_eq_getElem _⟩
        have hsv : (sv (mkSs ls))[k]? = some (.string (mkS x)) := by unfold sv mkSs; rw [List.map_map, List.getElem?_map, hxk]; rfl
        obtain ⟨b, o, rfl, h1⟩ := H2.out.1.get hsv
        have rc : ∀ w', Below w2.heap.size w2 w' → w'.cell? ⟨b, o + k, none⟩ = some (.string (mkS x)) := fun w' h => by
          obtain ⟨b', o', e', h'⟩ := (H2.out.1.later h (Nat.le_refl _)).get hsv
          cases e'
          exact h'
        have hxo := HR.out x (List.mem_of_getElem? hxk)
        have hx63 := hxo.2.2
        have hxs : (mkS x).size = x.length := mkS_size x
        have hsn : wireL (ls.take (k + 1)) = wireL (ls.take k) ++ [UInt8.ofNat x.length] ++ x := by rw [List.take_add_one, hxk]; exact wireL_snoc _ _
        have HS := Lib.hid hsn
        have HO := Lib.hid (And.intro ho hbe)
        clear ho hbe hxo hsn hxk hsv h1
        generalize hwk : wireL (ls.take k) = wk at HO HS hwl
        clear hwk
        go_wp2_with fail
        have hS : Below w2.heap.size w2 wr.drew := HO.out.2.drew
        refine rg_begin (fun w' => Below w2.heap.size w2 w') 15 (by kernel_rfl) rfl ?_
        refine rg_take 0 (v := ?rv1) rfl (by kernel_rfl) (by kernel_rfl) (by kernel_rfl) (fun _ _ _ h => h) (by rfl) hS (fun w2 hw2 => ?ry1) ?rr1
        case ry1 => ((try dsimp only at hw2); go_simp <;> with_reducible rfl)
        simp only [Act.put, List.setIfInBounds_toArray, List.set_cons_zero, List.set_cons_succ]
        refine rg_take 1 (v := ?rv2) rfl (by kernel_rfl) (by kernel_rfl) (by kernel_rfl) (fun _ _ _ h => h) (by rfl) hS (fun w2 hw2 => ?ry2) ?rr2
        case ry2 => ((try dsimp only at hw2); go_simp <;> with_reducible rfl)
        simp only [Act.put, List.setIfInBounds_toArray, List.set_cons_zero, List.set_cons_succ]
        refine rg_take 2 (v := ?rv3) rfl (by kernel_rfl) (by kernel_rfl) (by kernel_rfl) (fun _ _ _ h => h) (by rfl) hS (fun w2 hw2 => ?ry3) ?rr3
        case ry3 => ((try dsimp only at hw2); go_simp <;> with_reducible rfl)
        simp only [Act.put, List.setIfInBounds_toArray, List.set_cons_zero, List.set_cons_succ]
        refine rg_take 9 (v := ?rv4) rfl (by kernel_rfl) (by kernel_rfl) (by kernel_rfl) (fun _ _ _ h => h) (by rfl) hS (fun w2 hw2 => ?ry4) ?rr4
        case ry4 => ((try dsimp only at hw2); go_simp <;> with_reducible rfl)
        simp only [Act.put, List.setIfInBounds_toArray, List.set_cons_zero, List.set_cons_succ]
        refine rg_take 10 (v := ?rv5) rfl (by kernel_rfl) (by kernel_rfl) (by kernel_rfl) (fun _ _ _ h => h) (by rfl) hS (fun w2 hw2 => ?ry5) ?rr5
        case ry5 => ((try dsimp only at hw2); go_simp <;> with_reducible rfl)
        simp only [Act.put, List.setIfInBounds_toArray, List.set_cons_zero, List.set_cons_succ]
        refine rg_take 3 (v := ?rv6) rfl (by kernel_rfl) (by kernel_rfl) (by kernel_rfl) (fun _ _ _ h => h) (by rfl) hS (fun w2 hw2 => ?ry6) ?rr6
        case ry6 => ((try dsimp only at hw2); go_simp <;> with_reducible rfl)
        simp only [Act.put, List.setIfInBounds_toArray, List.set_cons_zero, List.set_cons_succ]
        refine rg_take 11 (v := ?rv7) rfl (by kernel_rfl) (by kernel_rfl) (by kernel_rfl) (fun _ _ _ h => h) (by rfl) hS (fun w2 hw2 => ?ry7) ?rr7
        case ry7 => ((try dsimp only at hw2); go_simp <;> with_reducible rfl)
        simp only [Act.put, List.setIfInBounds_toArray, List.set_cons_zero, List.set_cons_succ]
        refine rg_take 4 (v := ?rv8) rfl (by kernel_rfl) (by kernel_rfl) (by kernel_rfl) (fun _ _ _ h => h) (by rfl) hS (fun w2 hw2 => ?ry8) ?rr8
        case ry8 => ((try dsimp only at hw2); go_simp <;> with_reducible rfl)
        simp only [Act.put, List.setIfInBounds_toArray, List.set_cons_zero, List.set_cons_succ]
        refine rg_take 12 (v := ?rv9) rfl (by kernel_rfl) (by kernel_rfl) (by kernel_rfl) (fun _ _ _ h => h) (by rfl) hS (fun w2 hw2 => ?ry9) ?rr9
        case ry9 => ((try dsimp only at hw2); go_simp <;> with_reducible rfl)
        simp only [Act.put, List.setIfInBounds_toArray, List.set_cons_zero, List.set_cons_succ]
        refine rg_take 5 (v := ?rv10) rfl (by kernel_rfl) (by kernel_rfl) (by kernel_rfl) (fun _ _ _ h => h) (by rfl) hS (fun w2 hw2 => ?ry10) ?rr10
        case ry10 => ((try dsimp only at hw2); go_simp <;> with_reducible rfl)
        simp only [Act.put, List.setIfInBounds_toArray, List.set_cons_zero, List.set_cons_succ]
        refine rg_take 6 (v := ?rv11) rfl (by kernel_rfl) (by kernel_rfl) (by kernel_rfl) (fun _ _ _ h => h) (by rfl) hS (fun w2 hw2 => ?ry11) ?rr11
        case ry11 => ((try dsimp only at hw2); go_simp <;> with_reducible rfl)
        simp only [Act.put, List.setIfInBounds_toArray, List.set_cons_zero, List.set_cons_succ]
        refine rg_step 7 rfl (by kernel_rfl) (by rfl) (fun K hK => ?_)
        go_simp
        have h8 : (UInt8.ofNat x.length).toNat = x.length := by simp; omega
        have hw8 : IntKind.u8.wrap (x.length : Int) = ((UInt8.ofNat x.length).toNat : Int) := by
          show (x.length : Int) % 256 = _
          omega
        rw [hw8]
        replace hS : Below w2.heap.size w2 (wr.alloc (.cells #[.int .u8 ((UInt8.ofNat x.length).toNat : Int)] 5)).drew := (HO.out.2.alloc HO.out.2.size _).drew
        clear hw8
        refine hK.out _ _ hS ?_
        clear hK K
        try simp only [Act.put, List.setIfInBounds_toArray, List.set_cons_zero, List.set_cons_succ]
        refine rg_step 8 rfl (by kernel_rfl) (by rfl) (fun K hK => ?_)
        refine wp_append_bs (.tmp 19) (.tmp 26) 22 rfl w2.heap.size 5 info5 Tryz.underlying22 _ wk.length wk rfl (HO.out.1.alloc _).drew _ 1 1 [UInt8.ofNat x.length] rfl ((Bs.lit wr [UInt8.ofNat x.length] 1 rfl (by unfold maxLen; omega) _ rfl _).later (Below.refl _ _).drew (Nat.le_refl _)) (by omega) (by have := HO.out.2.size; simp; omega) ?_
        intro v3 w3 o3 g3 n3 m3
        replace hS : Below w2.heap.size w2 w3 := hS.grown g3 (by have := HO.out.2.size; simp; omega) (fun q hq => (HO.out.1.lt q hq).1)
        have H3 := Lib.hid (And.intro o3 hS)
        clear o3 g3 n3 m3
        refine hK.out _ _ hS ?_
        clear hK K
        try simp only [Act.put, List.setIfInBounds_toArray, List.set_cons_zero, List.set_cons_succ]
        refine rg_step 13 rfl (by kernel_rfl) (by rfl) (fun K hK => ?_)
        refine wp_append_str (.tmp 27) (.tmp 31) 22 9 rfl w2.heap.size 5 i0 Tryz.underlying22 Tryz.underlying9 HI.out.1 HI.out.2.1 HI.out.2.2.1 HI.out.2.2.2 _ _ _ rfl H3.out.1 (mkS x) rfl (by unfold maxLen; simp only [hxs]; omega) (by simp only [hxs]; omega) H3.out.2.size ?_
        intro v4 w4 o4 g4
        replace hS : Below w2.heap.size w2 w4 := hS.grown g4 H3.out.2.size (fun q hq => (H3.out.1.lt q hq).1)
        have H4 := Lib.hid (And.intro o4 hS)
        clear o4 g4
        refine hK.out _ _ hS ?_
        clear hK K
        try simp only [Act.put, List.setIfInBounds_toArray, List.set_cons_zero, List.set_cons_succ]
        refine rg_take 14 (v := ?rv12) rfl (by kernel_rfl) (by kernel_rfl) (by kernel_rfl) (fun _ _ _ h => h) (by rfl) hS (fun w2 hw2 => ?ry12) ?rr12
        case ry12 => ((try dsimp only at hw2); go_simp <;> with_reducible rfl)
        simp only [Act.put, List.setIfInBounds_toArray, List.set_cons_zero, List.set_cons_succ]
        refine rg_done (by kernel_rfl) ?_
        clear hS rc
        go_wp2_with fail
        refine ⟨⟨k + 1, hlt, by go_num, ?_, H4.out.2⟩, by simp [intOf]; omega⟩
        have o4 := H4.out.1
        rw [strCells_bv, mkS_data, ← bv_append, hxs] at o4
        rw [HS.out]
        exact owns_n (by simp; omega) o4
      · obtain rfl : k = ls.length := by omega
        rw [List.take_of_length_le (Nat.le_refl _)] at ho hwl
        have HO := Lib.hid (And.intro ho hbe)
        clear ho hbe
        go_wp2_with (at_builtin; refine wpList_append_bs rfl (.tmp 33) (.tmp 34) 22 rfl w2.heap.size 5 info5 Tryz.underlying22 _ _ (wireL ls) rfl (HO.out.1.alloc _) _ 1 1 [0] rfl (by exact Bs.lit _ [0] 1 rfl (by unfold maxLen; omega) _ rfl _) (by omega) (by have := HO.out.2.size; simp; omega) ?_; intro v3 w3 o3 g3 n3 m3; have hb3 : Below w2.heap.size w2 w3 := ((HO.out.2.alloc HO.out.2.size _).grown g3 (by have := HO.out.2.size; simp; omega) (fun q hq => (HO.out.1.lt q hq).1)); have hbx := H2.out.2.2.later hb3 (Nat.le_refl _); obtain ⟨c0, c1, c2⟩ := hbx.cells; have f0 : w3.frozen? ⟨w.heap.size, 0, none⟩ = false := (by unfold Box at hbx; simp [World.frozen?, hbx]); have f1 : w3.frozen? ⟨w.heap.size, 1, none⟩ = false := (by unfold Box at hbx; simp [World.frozen?, hbx]); have f2 : w3.frozen? ⟨w.heap.size, 2, none⟩ = false := (by unfold Box at hbx; simp [World.frozen?, hbx]); have H3 := Lib.hid (And.intro o3 hb3); clear o3 g3 n3 m3 hb3 hbx)
        have o3 : w3.ownsRow w2.heap.size 5 1 v3 (wireL ls ++ [0]).length (bv (wireL ls ++ [0])) := owns_n (by simp) H3.out.1
        obtain ⟨A', c', rfl, _⟩ := Bs.of_own o3
        have hlt2 : w.heap.size < w2.heap.size := (Array.getElem?_eq_some_iff.1 (show w2.heap[w.heap.size]? = some _ from H2.out.2.2)).1
        have hbe := H2.out.2.1.trans (H3.out.2.mono H2.out.2.1.size)
        have hfar : ∀ j, w2.heap.size ≤ j → (((w3.setCell ⟨w.heap.size, 0, none⟩ (.int .i64 0)).setCell ⟨w.heap.size, 1, none⟩ (.int .i64 0)).setCell ⟨w.heap.size, 2, none⟩ (.bool false)).heap[j]? = w3.heap[j]? := fun j hj => by
          have hne : ¬ w.heap.size = j := by omega
          simp [World.setCell, Array.getElem?_modify, hne]
        exact bodyPost_ret (v := .tuple #[.slice A' (wireL ls ++ [0]).length c', .agg #[.int .i64 0, .int .i64 0, .bool false]]) (by simp [results, Tryz.results67, go_sem, c0, c1, c2]) rfl ⟨_, _, rfl, owns_base (own_same' o3 hfar) H2.out.2.1.size, ((hbe.setCell (p := ⟨w.heap.size, 0, none⟩) (Nat.le_refl _) _).setCell (p := ⟨w.heap.size, 1, none⟩) (Nat.le_refl _) _).setCell (p := ⟨w.heap.size, 2, none⟩) (Nat.le_refl _) _⟩
  · rw [decide_eq_false hr] at KR
    rw [if_neg hr, if_neg hr]
    clear hr
    go_enter Tryz.func67, Tryz.ntmps67
    go_wp2_with fail
    generalize w.alloc (.cells #[.int .i64 0, .int .i64 0, .bool false] 36) = W at H0 ⊢
    refine (KR.out _).mono ?_
    rintro e w1 ⟨rfl, b1⟩
    have hx1 := H0.out.1.later b1 (Nat.le_refl _)
    have H1 := Lib.hid (And.intro hx1 (H0.out.2.trans (b1.mono H0.out.2.size)))
    clear b1 hx1
    go_wp2_with fail
    refine (help_bare 13 w1).mono ?_
    rintro e w9 ⟨rfl, b9⟩
    have hbx := H1.out.1.later b9 (Nat.le_refl _)
    obtain ⟨c0, c1, c2⟩ := hbx.cells
    have f0 : w9.frozen? ⟨w.heap.size, 0, none⟩ = false := by unfold Box at hbx; simp [World.frozen?, hbx]
    have f1 : w9.frozen? ⟨w.heap.size, 1, none⟩ = false := by unfold Box at hbx; simp [World.frozen?, hbx]
    have f2 : w9.frozen? ⟨w.heap.size, 2, none⟩ = false := by unfold Box at hbx; simp [World.frozen?, hbx]
    have H9 := Lib.hid (H1.out.2.trans (b9.mono H1.out.2.size))
    clear hbx b9
    go_wp2_with fail
    exact bodyPost_ret (v := .tuple #[.slice none 0 0, .agg #[.int .i64 13, .int .i64 0, .bool false]]) (by simp [results, Tryz.results67, go_sem, c0, c1, c2]) rfl ⟨none, 0, rfl, World.ownsRow_nil _ _ _ _, ((H9.out.setCell (p := ⟨w.heap.size, 0, none⟩) (Nat.le_refl _) _).setCell (p := ⟨w.heap.size, 1, none⟩) (Nat.le_refl _) _).setCell (p := ⟨w.heap.size, 2, none⟩) (Nat.le_refl _) _⟩
theorem ref_write (s : ByteArray) (hs : s.size ≤ 10000) (w : World) : Calls Tryz.prog 67 #[.string s] w fun e w' =>
    ∃ A c, e = .returned (.tuple #[.slice A (writev s.data.toList).length c, .agg #[.int .i64 (writee s.data.toList).code, .int .i64 (writee s.data.toList).at_, .bool (writee s.data.toList).placed]]) ∧ Bs w' A (writev s.data.toList).length c (writev s.data.toList) ∧ Below w.heap.size w w' := by
  refine (ref_write_own s hs w).mono ?_
  rintro e w' ⟨A, c, he, o, b⟩
  exact ⟨A, c, he, Bs.own_later o fun _ _ => rfl, b⟩
end Go.Proofs.YtbikifaadpijnaaGreatDoor

namespace Go.Proofs.YtbikifaadpijnaaGreatDoor
open Go.RowKit
set_option maxRecDepth 100000

theorem wp_build_qsZ {o : Oper} {a : Act} {w : World} {K : Act → World → Prop} {Q : Exit → Act → World → Prop} (X : Value) (hX : Value.agg (qsv .zero) = X) (ho : o.op = .build 51 #[])
    (h : K (a.put o.dst X) w) : o.wp Tryz.prog a w K Q := by
  have hrun : (Instr.build 51 #[]).run Tryz.prog w = .ok (.agg (qsv .zero)) w := by kernel_rfl
  subst hX
  unfold Oper.wp execOp
  simp only [ho, Sem.run_bind, Sem.run_pure, Result.andThen_ok, List.map_toArray, List.map_nil, hrun]
  exact h
theorem wp_build_rcZ {o : Oper} {a : Act} {w : World} {K : Act → World → Prop} {Q : Exit → Act → World → Prop} (X : Value) (hX : Value.agg (rcv .zero none 0 0) = X) (ho : o.op = .build 57 #[])
    (h : K (a.put o.dst X) w) : o.wp Tryz.prog a w K Q := by
  have hrun : (Instr.build 57 #[]).run Tryz.prog w = .ok (.agg (rcv .zero none 0 0)) w := by kernel_rfl
  subst hX
  unfold Oper.wp execOp
  simp only [ho, Sem.run_bind, Sem.run_pure, Result.andThen_ok, List.map_toArray, List.map_nil, hrun]
  exact h
theorem ref16_there {A : Option Addr} {n c : Nat} {l : List UInt8} {w : World} (hb : Bs w A n c l) {i : Int} (k : Nat) (hi : i = k) (h : k + 2 ≤ n) : Calls Tryz.prog 55 #[.slice A n c, .int .i64 i] w fun e w' => e = .returned (.tuple #[.int .i64 (num2 l k : Nat), .agg (flv 0 0 false)]) ∧ Below w.heap.size w w' := by
  subst hi
  have hm := Nat.le_trans hb.cap hb.max
  unfold maxLen at hm
  have hn : needOf n (k : Int) 2 = ⟨0, 0, false⟩ := by unfold needOf; rw [if_neg (by omega), if_neg (by omega)]
  refine (ref_u16 hb (k : Int) (by omega)).mono ?_
  rintro e w' ⟨rfl, b⟩
  refine ⟨?_, b⟩
  have : numAt l n (k : Int) 2 = num2 l k := by unfold numAt num2; rw [show ((2 : Nat) : Int) = 2 from rfl, hn, if_pos rfl, Int.toNat_natCast]
  rw [this, hn]
  rfl
theorem ref16_not {A : Option Addr} {n c : Nat} {l : List UInt8} {w : World} (hb : Bs w A n c l) {i : Int} (k : Nat) (hi : i = k) (hk : k ≤ 9223372036854775807) (h : n < k + 2) : Calls Tryz.prog 55 #[.slice A n c, .int .i64 i] w fun e w' => ∃ z, e = .returned (.tuple #[.int .i64 z, .agg (flv 3 k true)]) ∧ Below w.heap.size w w' := by
  subst hi
  have hn : needOf n (k : Int) 2 = ⟨3, k, true⟩ := by unfold needOf; rw [if_neg (by omega), if_pos (by omega)]
  refine (ref_u16 hb (k : Int) (by omega)).mono ?_
  rintro e w' ⟨rfl, b⟩
  rw [hn]
  exact ⟨_, rfl, b⟩
theorem ref32_there {A : Option Addr} {n c : Nat} {l : List UInt8} {w : World} (hb : Bs w A n c l) {i : Int} (k : Nat) (hi : i = k) (h : k + 4 ≤ n) : Calls Tryz.prog 90 #[.slice A n c, .int .i64 i] w fun e w' => e = .returned (.tuple #[.int .u32 (num4 l k : Nat), .agg (flv 0 0 false)]) ∧ Below w.heap.size w w' := by
  subst hi
  have hm := Nat.le_trans hb.cap hb.max
  unfold maxLen at hm
  have hn : needOf n (k : Int) 4 = ⟨0, 0, false⟩ := by unfold needOf; rw [if_neg (by omega), if_neg (by omega)]
  refine (ref_u32 hb (k : Int) (by omega)).mono ?_
  rintro e w' ⟨rfl, b⟩
  refine ⟨?_, b⟩
  have : numAt l n (k : Int) 4 = num4 l k := by unfold numAt num4; rw [show ((4 : Nat) : Int) = 4 from rfl, hn, if_pos rfl, Int.toNat_natCast]
  rw [this, hn]
  rfl
theorem ref32_not {A : Option Addr} {n c : Nat} {l : List UInt8} {w : World} (hb : Bs w A n c l) {i : Int} (k : Nat) (hi : i = k) (hk : k ≤ 9223372036854775807) (h : n < k + 4) : Calls Tryz.prog 90 #[.slice A n c, .int .i64 i] w fun e w' => ∃ z, e = .returned (.tuple #[.int .u32 z, .agg (flv 3 k true)]) ∧ Below w.heap.size w w' := by
  subst hi
  have hn : needOf n (k : Int) 4 = ⟨3, k, true⟩ := by unfold needOf; rw [if_neg (by omega), if_pos (by omega)]
  refine (ref_u32 hb (k : Int) (by omega)).mono ?_
  rintro e w' ⟨rfl, b⟩
  rw [hn]
  exact ⟨_, rfl, b⟩
theorem fl_head {w : World} {g : Nat} {c a : Int} {p : Bool} (h : FlBox w g c a p) : w.cell? ⟨g, 0, none⟩ = some (.int .i64 c) := h.cell 0
/-- What the reference hands back. -/
def RefQ (r : Rq) (w : World) (e : Ending) (w' : World) : Prop := e = .returned (.tuple #[.agg (qsv r.q), .int .i64 r.next, .agg (flv r.f.code r.f.at_ r.f.placed)]) ∧ Below w.heap.size w w'
set_option maxHeartbeats 8000000 in
theorem ref_readQ {A : Option Addr} {n c : Nat} {l : List UInt8} {w : World} (hb : Bs w A n c l) (hn : n ≤ 1000000) (at_ : Int) (ha : at_ ≤ 9223372036854775807) : Calls Tryz.prog 24 #[.slice A n c, .int .i64 at_] w (RefQ (readQv l n at_) w) := by
  unfold readQv readQd
  have HB := Lib.hid hb
  have KR := fun (w1 : World) (hw1 : Below w.heap.size w w1) => ref_read (hb.later hw1 (Nat.le_refl _)) hn at_ ha
  have hnx := readv_next (l := l) (n := n) (at_ := at_)
  obtain ⟨d, hd⟩ : ∃ d, readv l n at_ = d := ⟨_, rfl⟩
  rw [hd] at KR hnx ⊢
  obtain ⟨nm, nx, ⟨fc, fa, fp⟩⟩ := d
  dsimp only at hnx ⊢
  obtain ⟨Z, hZ⟩ : ∃ Z, Value.agg (qsv .zero) = Z := ⟨_, rfl⟩
  have HZ := Lib.hid hZ
  have KR := Lib.hid (show ∀ w1, Below w.heap.size w w1 → Calls Tryz.prog 54 #[.slice A n c, .int .i64 at_] w1 fun e w' => e = .returned (.tuple #[.string (mkS nm), .int .i64 nx, .agg (flv fc fa fp)]) ∧ Below w1.heap.size w1 w' from KR)
  clear hd hZ hb
  unfold RefQ
  by_cases hc : fc = 0
  case neg =>
    rw [if_pos hc]
    have hcb : (fc != 0) = true := by rw [bne_iff_ne]; exact hc
    clear hnx
    go_enter Tryz.func24, Tryz.ntmps24
    go_wp2_with (first
      | (refine wpList_alloc_qs rfl rfl ?_; intro w1 a1 b1 z1; have H1 := Lib.hid (And.intro a1 b1); clear a1 b1 z1)
      | (refine wpList_alloc_fl rfl rfl ?_; intro w2 a2 b2 z2; have H2 := Lib.hid (And.intro (H1.out.1.later b2 (Nat.le_refl _)) (And.intro a2 (H1.out.2.trans (b2.mono H1.out.2.size)))); have HG1 := Lib.hid H1.out.1.lt; clear a2 b2 z2))
    refine (KR.out w2 H2.out.2.2).mono ?_
    rintro e w3 ⟨rfl, b3⟩
    have H3 := Lib.hid (And.intro (H2.out.1.later b3 (Nat.le_refl _)) (And.intro (H2.out.2.1.later b3 (Nat.le_refl _)) (H2.out.2.2.trans (b3.mono H2.out.2.2.size))))
    have HG2 := Lib.hid H3.out.2.1.lt
    clear b3
    go_wp2_with (first
      | (refine wpList_store_fl rfl (.tmp 9) (.tmp 18) rfl fc fa fp rfl rfl H4.out.2.2.1 ?_; intro w5 a5 o5 z5 g5; have H5 := Lib.hid (And.intro (H4.out.1.same (o5 _ (Nat.ne_of_lt (Nat.lt_trans HG1.out HG2.out)))) (And.intro (H4.out.2.1.same (o5 _ (Nat.ne_of_lt HG2.out))) (And.intro a5 (g5 w.heap.size w (Nat.le_of_lt (Nat.lt_trans HG1.out HG2.out)) H4.out.2.2.2)))); have e0 := fl_head a5; clear a5 o5 z5 g5)
      | (refine wpList_alloc_fl rfl rfl ?_; intro w4 a4 b4 z4; have H4 := Lib.hid (And.intro (H3.out.1.later b4 (Nat.le_refl _)) (And.intro (H3.out.2.1.later b4 (Nat.le_refl _)) (And.intro a4 (H3.out.2.2.trans (b4.mono H3.out.2.2.size))))); clear a4 b4 z4))
    have hS : FlBox w5.drew (w3.heap.size) fc fa fp := H5.out.2.2.1
    refine rg_begin (fun w' => FlBox w' (w3.heap.size) fc fa fp) 5 (by kernel_rfl) rfl ?_
    refine rg_load 1 rfl (by kernel_rfl) (by kernel_rfl) (by kernel_rfl) (w3.heap.size) (0) ((flv fc fa fp)) (fun _ _ _ h => h) (by rfl) 36 (.tmp 9) rfl rfl hS (fun w2 h2 => (FlBox.range h2)) Tryz.underlying36 rfl (fl_size _ _ _) ?_
    simp only [Act.put, List.setIfInBounds_toArray, List.set_cons_zero, List.set_cons_succ]
    refine rg_step 0 rfl (by kernel_rfl) (by rfl) (fun K hK => ?_)
    refine wp_build_qsZ Z HZ.out rfl ?_
    refine hK.out _ _ hS ?_
    clear hK K
    try simp only [Act.put, List.setIfInBounds_toArray, List.set_cons_zero, List.set_cons_succ]
    refine rg_step 2 rfl (by kernel_rfl) (by rfl) (fun K hK => ?_)
    refine wp_store_qsF (.tmp 4) (.tmp 22) rfl .zero rfl HZ.out.symm (H5.out.1) ?_
    intro x4 a4 o4 g4
    replace hS : FlBox x4 (w3.heap.size) fc fa fp := FlBox.same hS (o4 _ (Ne.symm (Nat.ne_of_lt (Nat.lt_trans HG1.out HG2.out))))
    have HX4 := Lib.hid (And.intro a4 (And.intro (FlBox.same (H5.out.2.1) (o4 _ (Ne.symm (Nat.ne_of_lt HG1.out)))) (g4 w.heap.size w (Nat.le_refl _) (Below.drew (H5.out.2.2.2)))))
    clear a4 o4 g4
    refine hK.out _ _ hS ?_
    clear hK K
    simp only [Act.put]
    refine rg_take 3 (v := ?rv1) rfl (by kernel_rfl) (by kernel_rfl) (by kernel_rfl) (fun _ _ _ h => h) (by rfl) hS (fun w2 hw2 => ?ry1) ?rr1
    case ry1 => ((try dsimp only at hw2); go_simp <;> with_reducible rfl)
    simp only [Act.put, List.setIfInBounds_toArray, List.set_cons_zero, List.set_cons_succ]
    refine rg_step 4 rfl (by kernel_rfl) (by rfl) (fun K hK => ?_)
    refine wp_store_flF (.tmp 6) (.tmp 23) rfl (fc) (fa) (fp) rfl rfl HX4.out.2.1 ?_
    intro x5 a5 o5 g5
    replace hS : FlBox x5 (w3.heap.size) fc fa fp := FlBox.same hS (o5 _ (Ne.symm (Nat.ne_of_lt HG2.out)))
    have HX5 := Lib.hid (And.intro (QsBox.same HX4.out.1 (o5 _ (Ne.symm (Ne.symm (Nat.ne_of_lt HG1.out))))) (And.intro a5 (g5 w.heap.size w (Nat.le_of_lt HG1.out) HX4.out.2.2)))
    clear a5 o5 g5
    refine hK.out _ _ hS ?_
    clear hK K
    simp only [Act.put]
    refine rg_done (by kernel_rfl) ?_
    go_wp2_with fail
    exact bodyPost_ret (results_qsF _ rfl rfl rfl HX5.out.1 HX5.out.2.1) rfl ⟨rfl, HX5.out.2.2⟩
  rw [if_neg (by rw [hc]; simp)]
  obtain ⟨hle, hf⟩ := hnx hc
  obtain ⟨rfl, rfl, rfl⟩ : fc = 0 ∧ fa = 0 ∧ fp = false := by cases hf; exact ⟨rfl, rfl, rfl⟩
  clear hf hc hnx
  have hcap := HB.out.cap
  have hmax := HB.out.max
  unfold maxLen at hmax
  by_cases q2 : n < nx + 2
  case pos =>
    rw [if_pos q2]
    go_enter Tryz.func24, Tryz.ntmps24
    go_wp2_with (first
      | (refine wpList_alloc_qs rfl rfl ?_; intro w1 a1 b1 z1; have H1 := Lib.hid (And.intro a1 b1); clear a1 b1 z1)
      | (refine wpList_alloc_fl rfl rfl ?_; intro w2 a2 b2 z2; have H2 := Lib.hid (And.intro (H1.out.1.later b2 (Nat.le_refl _)) (And.intro a2 (H1.out.2.trans (b2.mono H1.out.2.size)))); have HG1 := Lib.hid H1.out.1.lt; clear a2 b2 z2))
    refine (KR.out w2 H2.out.2.2).mono ?_
    rintro e w3 ⟨rfl, b3⟩
    have H3 := Lib.hid (And.intro (H2.out.1.later b3 (Nat.le_refl _)) (And.intro (H2.out.2.1.later b3 (Nat.le_refl _)) (H2.out.2.2.trans (b3.mono H2.out.2.2.size))))
    have HG2 := Lib.hid H3.out.2.1.lt
    clear b3
    go_wp2_with (first
      | (refine wpList_store_fl rfl (.tmp 9) (.tmp 18) rfl 0 0 false rfl rfl H4.out.2.2.1 ?_; intro w5 a5 o5 z5 g5; have H5 := Lib.hid (And.intro (H4.out.1.same (o5 _ (Nat.ne_of_lt (Nat.lt_trans HG1.out HG2.out)))) (And.intro (H4.out.2.1.same (o5 _ (Nat.ne_of_lt HG2.out))) (And.intro a5 (g5 w.heap.size w (Nat.le_of_lt (Nat.lt_trans HG1.out HG2.out)) H4.out.2.2.2)))); have e0 := fl_head a5; clear a5 o5 z5 g5)
      | (refine wpList_alloc_fl rfl rfl ?_; intro w4 a4 b4 z4; have H4 := Lib.hid (And.intro (H3.out.1.later b4 (Nat.le_refl _)) (And.intro (H3.out.2.1.later b4 (Nat.le_refl _)) (And.intro a4 (H3.out.2.2.trans (b4.mono H3.out.2.2.size))))); clear a4 b4 z4))
    refine (ref16_not (HB.out.later H5.out.2.2.2 (Nat.le_refl _)) nx rfl (by omega) q2).mono ?_
    rintro e w7 ⟨z7, rfl, b7⟩
    have H7 := Lib.hid (And.intro (H5.out.1.later b7 (Nat.le_refl _)) (And.intro (H5.out.2.1.later b7 (Nat.le_refl _)) (And.intro (H5.out.2.2.1.later b7 (Nat.le_refl _)) (H5.out.2.2.2.trans (b7.mono H5.out.2.2.2.size)))))
    clear b7
    go_wp2_with (refine wpList_store_fl rfl (.tmp 9) (.tmp 29) rfl 3 nx true rfl rfl H7.out.2.2.1 ?_; intro y7 a5 o5 z5 g5; have H8 := Lib.hid (And.intro (H7.out.1.same (o5 _ (Nat.ne_of_lt (Nat.lt_trans HG1.out HG2.out)))) (And.intro (H7.out.2.1.same (o5 _ (Nat.ne_of_lt HG2.out))) (And.intro a5 (g5 w.heap.size w (Nat.le_of_lt (Nat.lt_trans HG1.out HG2.out)) H7.out.2.2.2)))); have e7 := fl_head a5; clear a5 o5 z5 g5)
    have hS : FlBox y7.drew (w3.heap.size) 3 nx true := H8.out.2.2.1
    refine rg_begin (fun w' => FlBox w' (w3.heap.size) 3 nx true) 5 (by kernel_rfl) rfl ?_
    refine rg_load 1 rfl (by kernel_rfl) (by kernel_rfl) (by kernel_rfl) (w3.heap.size) (0) ((flv 3 nx true)) (fun _ _ _ h => h) (by rfl) 36 (.tmp 9) rfl rfl hS (fun w2 h2 => (FlBox.range h2)) Tryz.underlying36 rfl (fl_size _ _ _) ?_
    simp only [Act.put, List.setIfInBounds_toArray, List.set_cons_zero, List.set_cons_succ]
    refine rg_step 0 rfl (by kernel_rfl) (by rfl) (fun K hK => ?_)
    refine wp_build_qsZ Z HZ.out rfl ?_
    refine hK.out _ _ hS ?_
    clear hK K
    try simp only [Act.put, List.setIfInBounds_toArray, List.set_cons_zero, List.set_cons_succ]
    refine rg_step 2 rfl (by kernel_rfl) (by rfl) (fun K hK => ?_)
    refine wp_store_qsF (.tmp 4) (.tmp 33) rfl .zero rfl HZ.out.symm (H8.out.1) ?_
    intro x4 a4 o4 g4
    replace hS : FlBox x4 (w3.heap.size) 3 nx true := FlBox.same hS (o4 _ (Ne.symm (Nat.ne_of_lt (Nat.lt_trans HG1.out HG2.out))))
    have HX4 := Lib.hid (And.intro a4 (And.intro (FlBox.same (H8.out.2.1) (o4 _ (Ne.symm (Nat.ne_of_lt HG1.out)))) (g4 w.heap.size w (Nat.le_refl _) (Below.drew (H8.out.2.2.2)))))
    clear a4 o4 g4
    refine hK.out _ _ hS ?_
    clear hK K
    simp only [Act.put]
    refine rg_take 3 (v := ?rv2) rfl (by kernel_rfl) (by kernel_rfl) (by kernel_rfl) (fun _ _ _ h => h) (by rfl) hS (fun w2 hw2 => ?ry2) ?rr2
    case ry2 => ((try dsimp only at hw2); go_simp <;> with_reducible rfl)
    simp only [Act.put, List.setIfInBounds_toArray, List.set_cons_zero, List.set_cons_succ]
    refine rg_step 4 rfl (by kernel_rfl) (by rfl) (fun K hK => ?_)
    refine wp_store_flF (.tmp 6) (.tmp 34) rfl (3) (nx) (true) rfl rfl HX4.out.2.1 ?_
    intro x5 a5 o5 g5
    replace hS : FlBox x5 (w3.heap.size) 3 nx true := FlBox.same hS (o5 _ (Ne.symm (Nat.ne_of_lt HG2.out)))
    have HX5 := Lib.hid (And.intro (QsBox.same HX4.out.1 (o5 _ (Ne.symm (Ne.symm (Nat.ne_of_lt HG1.out))))) (And.intro a5 (g5 w.heap.size w (Nat.le_of_lt HG1.out) HX4.out.2.2)))
    clear a5 o5 g5
    refine hK.out _ _ hS ?_
    clear hK K
    simp only [Act.put]
    refine rg_done (by kernel_rfl) ?_
    go_wp2_with fail
    exact bodyPost_ret (results_qsF _ rfl rfl rfl HX5.out.1 HX5.out.2.1) rfl ⟨rfl, HX5.out.2.2⟩
  rw [if_neg q2]
  by_cases q4 : n < nx + 4
  case pos =>
    rw [if_pos q4]
    go_enter Tryz.func24, Tryz.ntmps24
    go_wp2_with (first
      | (refine wpList_alloc_qs rfl rfl ?_; intro w1 a1 b1 z1; have H1 := Lib.hid (And.intro a1 b1); clear a1 b1 z1)
      | (refine wpList_alloc_fl rfl rfl ?_; intro w2 a2 b2 z2; have H2 := Lib.hid (And.intro (H1.out.1.later b2 (Nat.le_refl _)) (And.intro a2 (H1.out.2.trans (b2.mono H1.out.2.size)))); have HG1 := Lib.hid H1.out.1.lt; clear a2 b2 z2))
    refine (KR.out w2 H2.out.2.2).mono ?_
    rintro e w3 ⟨rfl, b3⟩
    have H3 := Lib.hid (And.intro (H2.out.1.later b3 (Nat.le_refl _)) (And.intro (H2.out.2.1.later b3 (Nat.le_refl _)) (H2.out.2.2.trans (b3.mono H2.out.2.2.size))))
    have HG2 := Lib.hid H3.out.2.1.lt
    clear b3
    go_wp2_with (first
      | (refine wpList_store_fl rfl (.tmp 9) (.tmp 18) rfl 0 0 false rfl rfl H4.out.2.2.1 ?_; intro w5 a5 o5 z5 g5; have H5 := Lib.hid (And.intro (H4.out.1.same (o5 _ (Nat.ne_of_lt (Nat.lt_trans HG1.out HG2.out)))) (And.intro (H4.out.2.1.same (o5 _ (Nat.ne_of_lt HG2.out))) (And.intro a5 (g5 w.heap.size w (Nat.le_of_lt (Nat.lt_trans HG1.out HG2.out)) H4.out.2.2.2)))); have e0 := fl_head a5; clear a5 o5 z5 g5)
      | (refine wpList_alloc_fl rfl rfl ?_; intro w4 a4 b4 z4; have H4 := Lib.hid (And.intro (H3.out.1.later b4 (Nat.le_refl _)) (And.intro (H3.out.2.1.later b4 (Nat.le_refl _)) (And.intro a4 (H3.out.2.2.trans (b4.mono H3.out.2.2.size))))); clear a4 b4 z4))
    refine (ref16_there (HB.out.later H5.out.2.2.2 (Nat.le_refl _)) nx rfl (by omega)).mono ?_
    rintro e w7 ⟨rfl, b7⟩
    have H7 := Lib.hid (And.intro (H5.out.1.later b7 (Nat.le_refl _)) (And.intro (H5.out.2.1.later b7 (Nat.le_refl _)) (And.intro (H5.out.2.2.1.later b7 (Nat.le_refl _)) (H5.out.2.2.2.trans (b7.mono H5.out.2.2.2.size)))))
    clear b7
    go_wp2_with (refine wpList_store_fl rfl (.tmp 9) (.tmp 29) rfl 0 0 false rfl rfl H7.out.2.2.1 ?_; intro y7 a5 o5 z5 g5; have H8 := Lib.hid (And.intro (H7.out.1.same (o5 _ (Nat.ne_of_lt (Nat.lt_trans HG1.out HG2.out)))) (And.intro (H7.out.2.1.same (o5 _ (Nat.ne_of_lt HG2.out))) (And.intro a5 (g5 w.heap.size w (Nat.le_of_lt (Nat.lt_trans HG1.out HG2.out)) H7.out.2.2.2)))); have e7 := fl_head a5; clear a5 o5 z5 g5)
    refine (ref16_not (HB.out.later H8.out.2.2.2 (Nat.le_refl _)) (nx + 2) (by omega) (by omega) (by omega)).mono ?_
    rintro e w9 ⟨z9, rfl, b9⟩
    have H9 := Lib.hid (And.intro (H8.out.1.later b9 (Nat.le_refl _)) (And.intro (H8.out.2.1.later b9 (Nat.le_refl _)) (And.intro (H8.out.2.2.1.later b9 (Nat.le_refl _)) (H8.out.2.2.2.trans (b9.mono H8.out.2.2.2.size)))))
    clear b9
    go_wp2_with (refine wpList_store_fl rfl (.tmp 9) (.tmp 41) rfl 3 (nx + 2 : Nat) true rfl rfl H9.out.2.2.1 ?_; intro y9 a5 o5 z5 g5; have H10 := Lib.hid (And.intro (H9.out.1.same (o5 _ (Nat.ne_of_lt (Nat.lt_trans HG1.out HG2.out)))) (And.intro (H9.out.2.1.same (o5 _ (Nat.ne_of_lt HG2.out))) (And.intro a5 (g5 w.heap.size w (Nat.le_of_lt (Nat.lt_trans HG1.out HG2.out)) H9.out.2.2.2)))); have e9 := fl_head a5; clear a5 o5 z5 g5)
    have hS : FlBox y9.drew (w3.heap.size) 3 (nx + 2 : Nat) true := H10.out.2.2.1
    refine rg_begin (fun w' => FlBox w' (w3.heap.size) 3 (nx + 2 : Nat) true) 5 (by kernel_rfl) rfl ?_
    refine rg_load 1 rfl (by kernel_rfl) (by kernel_rfl) (by kernel_rfl) (w3.heap.size) (0) ((flv 3 (nx + 2 : Nat) true)) (fun _ _ _ h => h) (by rfl) 36 (.tmp 9) rfl rfl hS (fun w2 h2 => (FlBox.range h2)) Tryz.underlying36 rfl (fl_size _ _ _) ?_
    simp only [Act.put, List.setIfInBounds_toArray, List.set_cons_zero, List.set_cons_succ]
    refine rg_step 0 rfl (by kernel_rfl) (by rfl) (fun K hK => ?_)
    refine wp_build_qsZ Z HZ.out rfl ?_
    refine hK.out _ _ hS ?_
    clear hK K
    try simp only [Act.put, List.setIfInBounds_toArray, List.set_cons_zero, List.set_cons_succ]
    refine rg_step 2 rfl (by kernel_rfl) (by rfl) (fun K hK => ?_)
    refine wp_store_qsF (.tmp 4) (.tmp 45) rfl .zero rfl HZ.out.symm (H10.out.1) ?_
    intro x4 a4 o4 g4
    replace hS : FlBox x4 (w3.heap.size) 3 (nx + 2 : Nat) true := FlBox.same hS (o4 _ (Ne.symm (Nat.ne_of_lt (Nat.lt_trans HG1.out HG2.out))))
    have HX4 := Lib.hid (And.intro a4 (And.intro (FlBox.same (H10.out.2.1) (o4 _ (Ne.symm (Nat.ne_of_lt HG1.out)))) (g4 w.heap.size w (Nat.le_refl _) (Below.drew (H10.out.2.2.2)))))
    clear a4 o4 g4
    refine hK.out _ _ hS ?_
    clear hK K
    simp only [Act.put]
    refine rg_take 3 (v := ?rv3) rfl (by kernel_rfl) (by kernel_rfl) (by kernel_rfl) (fun _ _ _ h => h) (by rfl) hS (fun w2 hw2 => ?ry3) ?rr3
    case ry3 => ((try dsimp only at hw2); go_simp <;> with_reducible rfl)
    simp only [Act.put, List.setIfInBounds_toArray, List.set_cons_zero, List.set_cons_succ]
    refine rg_step 4 rfl (by kernel_rfl) (by rfl) (fun K hK => ?_)
    refine wp_store_flF (.tmp 6) (.tmp 46) rfl (3) ((nx + 2 : Nat)) (true) rfl rfl HX4.out.2.1 ?_
    intro x5 a5 o5 g5
    replace hS : FlBox x5 (w3.heap.size) 3 (nx + 2 : Nat) true := FlBox.same hS (o5 _ (Ne.symm (Nat.ne_of_lt HG2.out)))
    have HX5 := Lib.hid (And.intro (QsBox.same HX4.out.1 (o5 _ (Ne.symm (Ne.symm (Nat.ne_of_lt HG1.out))))) (And.intro a5 (g5 w.heap.size w (Nat.le_of_lt HG1.out) HX4.out.2.2)))
    clear a5 o5 g5
    refine hK.out _ _ hS ?_
    clear hK K
    simp only [Act.put]
    refine rg_done (by kernel_rfl) ?_
    go_wp2_with fail
    exact bodyPost_ret (results_qsF _ rfl rfl rfl HX5.out.1 HX5.out.2.1) rfl ⟨rfl, HX5.out.2.2⟩
  rw [if_neg q4]
  go_enter Tryz.func24, Tryz.ntmps24
  go_wp2_with (first
    | (refine wpList_alloc_qs rfl rfl ?_; intro w1 a1 b1 z1; have H1 := Lib.hid (And.intro a1 b1); clear a1 b1 z1)
    | (refine wpList_alloc_fl rfl rfl ?_; intro w2 a2 b2 z2; have H2 := Lib.hid (And.intro (H1.out.1.later b2 (Nat.le_refl _)) (And.intro a2 (H1.out.2.trans (b2.mono H1.out.2.size)))); have HG1 := Lib.hid H1.out.1.lt; clear a2 b2 z2))
  refine (KR.out w2 H2.out.2.2).mono ?_
  rintro e w3 ⟨rfl, b3⟩
  have H3 := Lib.hid (And.intro (H2.out.1.later b3 (Nat.le_refl _)) (And.intro (H2.out.2.1.later b3 (Nat.le_refl _)) (H2.out.2.2.trans (b3.mono H2.out.2.2.size))))
  have HG2 := Lib.hid H3.out.2.1.lt
  clear b3
  go_wp2_with (first
    | (refine wpList_store_fl rfl (.tmp 9) (.tmp 18) rfl 0 0 false rfl rfl H4.out.2.2.1 ?_; intro w5 a5 o5 z5 g5; have H5 := Lib.hid (And.intro (H4.out.1.same (o5 _ (Nat.ne_of_lt (Nat.lt_trans HG1.out HG2.out)))) (And.intro (H4.out.2.1.same (o5 _ (Nat.ne_of_lt HG2.out))) (And.intro a5 (g5 w.heap.size w (Nat.le_of_lt (Nat.lt_trans HG1.out HG2.out)) H4.out.2.2.2)))); have e0 := fl_head a5; clear a5 o5 z5 g5)
    | (refine wpList_alloc_fl rfl rfl ?_; intro w4 a4 b4 z4; have H4 := Lib.hid (And.intro (H3.out.1.later b4 (Nat.le_refl _)) (And.intro (H3.out.2.1.later b4 (Nat.le_refl _)) (And.intro a4 (H3.out.2.2.trans (b4.mono H3.out.2.2.size))))); clear a4 b4 z4))
  refine (ref16_there (HB.out.later H5.out.2.2.2 (Nat.le_refl _)) nx rfl (by omega)).mono ?_
  rintro e w7 ⟨rfl, b7⟩
  have H7 := Lib.hid (And.intro (H5.out.1.later b7 (Nat.le_refl _)) (And.intro (H5.out.2.1.later b7 (Nat.le_refl _)) (And.intro (H5.out.2.2.1.later b7 (Nat.le_refl _)) (H5.out.2.2.2.trans (b7.mono H5.out.2.2.2.size)))))
  clear b7
  go_wp2_with (refine wpList_store_fl rfl (.tmp 9) (.tmp 29) rfl 0 0 false rfl rfl H7.out.2.2.1 ?_; intro y7 a5 o5 z5 g5; have H8 := Lib.hid (And.intro (H7.out.1.same (o5 _ (Nat.ne_of_lt (Nat.lt_trans HG1.out HG2.out)))) (And.intro (H7.out.2.1.same (o5 _ (Nat.ne_of_lt HG2.out))) (And.intro a5 (g5 w.heap.size w (Nat.le_of_lt (Nat.lt_trans HG1.out HG2.out)) H7.out.2.2.2)))); have e7 := fl_head a5; clear a5 o5 z5 g5)
  refine (ref16_there (HB.out.later H8.out.2.2.2 (Nat.le_refl _)) (nx + 2) (by omega) (by omega)).mono ?_
  rintro e w9 ⟨rfl, b9⟩
  have H9 := Lib.hid (And.intro (H8.out.1.later b9 (Nat.le_refl _)) (And.intro (H8.out.2.1.later b9 (Nat.le_refl _)) (And.intro (H8.out.2.2.1.later b9 (Nat.le_refl _)) (H8.out.2.2.2.trans (b9.mono H8.out.2.2.2.size)))))
  clear b9
  go_wp2_with (refine wpList_store_fl rfl (.tmp 9) (.tmp 41) rfl 0 0 false rfl rfl H9.out.2.2.1 ?_; intro y9 a5 o5 z5 g5; have H10 := Lib.hid (And.intro (H9.out.1.same (o5 _ (Nat.ne_of_lt (Nat.lt_trans HG1.out HG2.out)))) (And.intro (H9.out.2.1.same (o5 _ (Nat.ne_of_lt HG2.out))) (And.intro a5 (g5 w.heap.size w (Nat.le_of_lt (Nat.lt_trans HG1.out HG2.out)) H9.out.2.2.2)))); have e9 := fl_head a5; clear a5 o5 z5 g5)
  obtain ⟨q, hq⟩ : ∃ q : Qs, q = ⟨nm, (num2 l nx : Nat), (num2 l (nx + 2) : Nat)⟩ := ⟨_, rfl⟩
  have HQ := Lib.hid hq
  clear hq
  obtain ⟨X, hX⟩ : ∃ X, Value.agg (qsv q) = X := ⟨_, rfl⟩
  have HX := Lib.hid hX
  clear hX
  have hS : FlBox y9.drew w3.heap.size 0 0 false := H10.out.2.2.1
  refine rg_begin (fun w' => FlBox w' w3.heap.size 0 0 false) 10 (by kernel_rfl) rfl ?_
  refine rg_take 0 (v := ?rv4) rfl (by kernel_rfl) (by kernel_rfl) (by kernel_rfl) (fun _ _ _ h => h) (by rfl) hS (fun w2 hw2 => ?ry4) ?rr4
  case ry4 => ((try dsimp only at hw2); go_simp <;> with_reducible rfl)
  simp only [Act.put, List.setIfInBounds_toArray, List.set_cons_zero, List.set_cons_succ]
  refine rg_take 1 (v := ?rv5) rfl (by kernel_rfl) (by kernel_rfl) (by kernel_rfl) (fun _ _ _ h => h) (by rfl) hS (fun w2 hw2 => ?ry5) ?rr5
  case ry5 => ((try dsimp only at hw2); go_simp <;> with_reducible rfl)
  simp only [Act.put, List.setIfInBounds_toArray, List.set_cons_zero, List.set_cons_succ]
  refine rg_take 2 (v := ?rv6) rfl (by kernel_rfl) (by kernel_rfl) (by kernel_rfl) (fun _ _ _ h => h) (by rfl) hS (fun w2 hw2 => ?ry6) ?rr6
  case ry6 => ((try dsimp only at hw2); go_simp <;> with_reducible rfl)
  simp only [Act.put, List.setIfInBounds_toArray, List.set_cons_zero, List.set_cons_succ]
  refine rg_take 4 (v := ?rv7) rfl (by kernel_rfl) (by kernel_rfl) (by kernel_rfl) (fun _ _ _ h => h) (by rfl) hS (fun w2 hw2 => ?ry7) ?rr7
  case ry7 => ((try dsimp only at hw2); go_simp <;> with_reducible rfl)
  simp only [Act.put, List.setIfInBounds_toArray, List.set_cons_zero, List.set_cons_succ]
  refine rg_load 6 rfl (by kernel_rfl) (by kernel_rfl) (by kernel_rfl) (w3.heap.size) (0) ((flv 0 0 false)) (fun _ _ _ h => h) (by rfl) 36 (.tmp 9) rfl rfl hS (fun w2 h2 => (FlBox.range h2)) Tryz.underlying36 rfl (fl_size _ _ _) ?_
  simp only [Act.put, List.setIfInBounds_toArray, List.set_cons_zero, List.set_cons_succ]
  refine rg_take 5 (v := ?rv8) rfl (by kernel_rfl) (by kernel_rfl) (by kernel_rfl) (fun _ _ _ h => h) (by rfl) hS (fun w2 hw2 => ?ry8) ?rr8
  case ry8 => ((try dsimp only at hw2); go_simp <;> with_reducible rfl)
  simp only [Act.put, List.setIfInBounds_toArray, List.set_cons_zero, List.set_cons_succ]
  refine rg_step 3 rfl (by kernel_rfl) (by rfl) (fun K hK => ?_)
  refine wp_build_qs (.tmp 47) (.tmp 48) (.tmp 49) rfl q (by rw [HQ.out]; rfl) (by rw [HQ.out]; rfl) (by rw [HQ.out]; rfl) ?_
  rw [HX.out]
  refine hK.out _ _ hS ?_
  clear hK K
  try simp only [Act.put, List.setIfInBounds_toArray, List.set_cons_zero, List.set_cons_succ]
  refine rg_step 7 rfl (by kernel_rfl) (by rfl) (fun K hK => ?_)
  refine wp_store_qsF (.tmp 4) (.tmp 50) rfl q rfl HX.out.symm (H10.out.1) ?_
  intro x4 a4 o4 g4
  replace hS : FlBox x4 w3.heap.size 0 0 false := FlBox.same hS (o4 _ (Ne.symm (Nat.ne_of_lt (Nat.lt_trans HG1.out HG2.out))))
  have HX4 := Lib.hid (And.intro a4 (And.intro (FlBox.same (H10.out.2.1) (o4 _ (Ne.symm (Nat.ne_of_lt HG1.out)))) (g4 w.heap.size w (Nat.le_refl _) (Below.drew H10.out.2.2.2))))
  clear a4 o4 g4
  refine hK.out _ _ hS ?_
  clear hK K
  simp only [Act.put]
  refine rg_take 8 (v := ?rv9) rfl (by kernel_rfl) (by kernel_rfl) (by kernel_rfl) (fun _ _ _ h => h) (by rfl) hS (fun w2 hw2 => ?ry9) ?rr9
  case ry9 => ((try dsimp only at hw2); go_simp <;> with_reducible rfl)
  simp only [Act.put, List.setIfInBounds_toArray, List.set_cons_zero, List.set_cons_succ]
  refine rg_step 9 rfl (by kernel_rfl) (by rfl) (fun K hK => ?_)
  refine wp_store_flF (.tmp 6) (.tmp 53) rfl 0 0 false rfl rfl HX4.out.2.1 ?_
  intro x5 a5 o5 g5
  replace hS : FlBox x5 w3.heap.size 0 0 false := FlBox.same hS (o5 _ (Ne.symm (Nat.ne_of_lt HG2.out)))
  have HX5 := Lib.hid (And.intro (QsBox.same HX4.out.1 (o5 _ (Nat.ne_of_lt HG1.out))) (And.intro a5 (g5 w.heap.size w (Nat.le_of_lt HG1.out) HX4.out.2.2)))
  clear a5 o5 g5
  refine hK.out _ _ hS ?_
  clear hK K
  simp only [Act.put]
  refine rg_done (by kernel_rfl) ?_
  go_wp2_with fail
  refine bodyPost_ret (results_qsF _ rfl rfl rfl HX5.out.1 HX5.out.2.1) rfl ⟨?_, HX5.out.2.2⟩
  show Ending.returned (.tuple #[.agg (qsv q), .int .i64 (IntKind.i64.wrap ((nx : Int) + 4)), .agg (flv 0 0 false)]) = _
  rw [HQ.out, show IntKind.i64.wrap ((nx : Int) + 4) = ((nx + 4 : Nat) : Int) by rw [IntKind.wrap_i64]; omega]
  rfl
end Go.Proofs.YtbikifaadpijnaaGreatDoor
