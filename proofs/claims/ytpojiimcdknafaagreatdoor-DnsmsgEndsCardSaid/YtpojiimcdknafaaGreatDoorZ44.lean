/-
  dnsmsg.Write: a message as it is written, or why not. Conditions: those of the slices; 10^12 of each list at most, names of a million bytes at most; what the program's text has laid (internal/bytealg.MaxLen holds an int).
  stockadelaw14.awake answers true. Conditions: errors.errorType holds the handle of the type error; what the program's text has laid (internal/bytealg.MaxLen holds an int).
-/
import Derived.Test.YtpojiimcdknafaaGreatDoorZ42
import Derived.Test.YtpojiimcdknafaaGreatDoorZ40
import Derived.Test.YtpojiimcdknafaaGreatDoorZ43
namespace Go.Proofs.YtpojiimcdknafaaGreatDoor
open Go.RowKit
set_option maxRecDepth 100000

/-- A message in memory. -/
structure MsM (lo : Nat) (w : World) (sq sa su se : Sl) (m : Ms) : Prop where
  qs : QsS lo w sq.A sq.n sq.c m.qs
  an : RcS lo w sa.A sa.n sa.c m.an
  au : RcS lo w su.A su.n su.c m.au
  ex : RcS lo w se.A se.n se.c m.ex
theorem MsM.later {B lo : Nat} {w w' : World} {sq sa su se : Sl} {m : Ms} (h : MsM lo w sq sa su se m) (hb : Below B w w') (hB : w.heap.size ≤ B) : MsM lo w' sq sa su se m := ⟨h.qs.later hb hB, h.an.later hb hB, h.au.later hb hB, h.ex.later hb hB⟩
/-- How long its texts are, how great its numbers. -/
structure MsOk (m : Ms) : Prop where
  qs : ∀ q ∈ m.qs, q.name.length ≤ 1000000
  rs : ∀ r ∈ recs m, (r.name.length ≤ 1000000 ∧ r.target.length ≤ 1000000) ∧ (0 ≤ r.ttl ∧ r.ttl < 4294967296)
theorem pieces3 {w : World} {A1 A2 A3 : Option Addr} {n1 c1 n2 c2 n3 c3 : Nat} {l1 l2 l3 : List UInt8} (h1 : Bs w A1 n1 c1 l1) (h2 : Bs w A2 n2 c2 l2) (h3 : Bs w A3 n3 c3 l3) (T : TypeId) :
    Pieces (w.alloc (.cells #[.slice A1 n1 c1, .slice A2 n2 c2, .slice A3 n3 c3] T)) w.heap.size [⟨A1, n1, c1, l1⟩, ⟨A2, n2, c2, l2⟩, ⟨A3, n3, c3, l3⟩] := fun i p hp => by
  have b : Below w.heap.size w (w.alloc (.cells #[.slice A1 n1 c1, .slice A2 n2 c2, .slice A3 n3 c3] T)) := (Below.refl _ _).alloc (Nat.le_refl _) _
  match i, hp with
  | 0, hp => cases hp; exact ⟨by rw [World.cell?_alloc_at _ _ _ _ rfl]; rfl, h1.later b (Nat.le_refl _)⟩
  | 1, hp => cases hp; exact ⟨by rw [World.cell?_alloc_at _ _ _ _ rfl]; rfl, h2.later b (Nat.le_refl _)⟩
  | 2, hp => cases hp; exact ⟨by rw [World.cell?_alloc_at _ _ _ _ rfl]; rfl, h3.later b (Nat.le_refl _)⟩
theorem piecesR3 {w : World} {s1 s2 s3 : Sl} {l1 l2 l3 : List Rc} {d1 d2 d3 : List Sl} (h1 : RcK w s1.A s1.n s1.c l1 d1) (h2 : RcK w s2.A s2.n s2.c l2 d2) (h3 : RcK w s3.A s3.n s3.c l3 d3) (T : TypeId) :
    PiecesR (w.alloc (.cells #[.slice s1.A s1.n s1.c, .slice s2.A s2.n s2.c, .slice s3.A s3.n s3.c] T)) w.heap.size [⟨s1, l1, d1⟩, ⟨s2, l2, d2⟩, ⟨s3, l3, d3⟩] := fun i p hp => by
  have b : Below w.heap.size w (w.alloc (.cells #[.slice s1.A s1.n s1.c, .slice s2.A s2.n s2.c, .slice s3.A s3.n s3.c] T)) := (Below.refl _ _).alloc (Nat.le_refl _) _
  match i, hp with
  | 0, hp => cases hp; exact ⟨by rw [World.cell?_alloc_at _ _ _ _ rfl]; rfl, h1.later b (Nat.le_refl _)⟩
  | 1, hp => cases hp; exact ⟨by rw [World.cell?_alloc_at _ _ _ _ rfl]; rfl, h2.later b (Nat.le_refl _)⟩
  | 2, hp => cases hp; exact ⟨by rw [World.cell?_alloc_at _ _ _ _ rfl]; rfl, h3.later b (Nat.le_refl _)⟩
theorem bitsV_pos {h : Mh} (hr : rightH h) : 0 ≤ bitsV h := by
  obtain ⟨_, ⟨h1, _⟩, ⟨h3, _⟩, h5, _⟩ := hr
  unfold bitsV
  split <;> omega
theorem bitsV_le {h : Mh} (hr : rightH h) : bitsV h ≤ 65535 := by
  obtain ⟨_, ⟨_, h2⟩, ⟨_, h4⟩, _, h6⟩ := hr
  unfold bitsV
  split <;> omega
theorem hdU_pos {id b : Int} (h0 : 0 ≤ id) (h1 : 0 ≤ b) (q a u e : Nat) : ∀ i, 0 ≤ hdU id b q a u e i := fun i => by
  unfold hdU
  split <;> omega
theorem hdU_le {id b : Int} (h0 : id ≤ 65535) (h1 : b ≤ 65535) {q a u e : Nat} (hq : q ≤ 1000000000000) (ha : a ≤ 1000000000000) (hu : u ≤ 1000000000000) (he : e ≤ 1000000000000) : ∀ i, hdU id b q a u e i ≤ 1000000000000000000 := fun i => by
  unfold hdU
  split <;> omega
/-- What Write hands back. -/
def WriteR (l : List UInt8) (f : Fl) (w : World) (e : Ending) (w' : World) : Prop := ∃ A n c v, e = .returned (.tuple #[.slice A n c, v]) ∧ Bs w' A n c l ∧ Tells w' v f ∧ Below w.heap.size w w'
set_option maxHeartbeats 8000000 in
theorem writeM_any {lo : Nat} {sq sa su se : Sl} {m : Ms} {w : World} (hm : MsM lo w sq sa su se m) (hok : MsOk m) (hn : sq.n ≤ 1000000000000 ∧ sa.n ≤ 1000000000000 ∧ su.n ≤ 1000000000000 ∧ se.n ≤ 1000000000000) (hE : Env w) : Calls Tryz.prog 28 #[.agg (msv m.h sq sa su se)] w (WriteR (writeMv m) (writeMe m) w) := by
  have a1 := MsBox.new w m.h sq sa su se
  have b1 : Below w.heap.size w (w.alloc (.cells (msv m.h sq sa su se) 59)) := (Below.refl _ _).alloc (Nat.le_refl _) _
  obtain ⟨W, hW⟩ : ∃ W, w.alloc (.cells (msv m.h sq sa su se) 59) = W := ⟨_, rfl⟩
  rw [hW] at a1 b1
  have HW := Lib.hid hW
  have HA := Lib.hid (And.intro a1 b1)
  have HL1 := Lib.hid (MsBox.lt a1)
  have HM := Lib.hid (And.intro hm (And.intro hok hE))
  have hlq := hm.qs.len
  have hla := hm.an.len
  have hlu := hm.au.len
  have hle := hm.ex.len
  have KF := Lib.hid (fun w1 => headFor_any m.h sq sa su se w1)
  have KR := fun w1 => rightM_any m.h sq sa su se w1
  have hcount : countM m = sq.n + sa.n + su.n + se.n := by
    unfold countM recs
    rw [List.length_append, List.length_append]
    omega
  obtain ⟨Wv, hWv⟩ : ∃ Wv, writeMv m = Wv := ⟨_, rfl⟩
  obtain ⟨We, hWe⟩ : ∃ We, writeMe m = We := ⟨_, rfl⟩
  rw [hWv, hWe]
  have bad : ¬ rightM m → Wv = [] ∧ We = ⟨1, 0, false⟩ := fun h => by
    rw [← hWv, ← hWe]
    unfold writeMv writeMe
    rw [if_neg (fun e => h e.1), if_neg h]
    exact ⟨rfl, rfl⟩
  have HWv := Lib.hid hWv
  have HWe := Lib.hid hWe
  have HBAD := Lib.hid bad
  clear a1 b1 hW hm hok hE hWv hWe bad
  unfold WriteR
  by_cases hh : rightH m.h
  case neg =>
    --<< a
    obtain ⟨rfl, rfl⟩ := HBAD.out (fun h => hh h.1.1)
    go_enter Tryz.func28, Tryz.ntmps28
    go_wp2_with (first | (refine wpList_load_ms rfl (.tmp 1) rfl rfl HA.out.1 ?_) | (rw [HW.out]))
    refine (KF.out W).mono ?_
    rintro e w2 ⟨B, rfl, hB, b2⟩
    have H2 := Lib.hid (And.intro (HA.out.1.later b2 (Nat.le_refl _)) (HA.out.2.trans (b2.mono HA.out.2.size)))
    have HBV := Lib.hid hB
    clear b2 hB
    go_wp2_with (first
      | (refine wpList_load_ms rfl (.tmp 1) rfl rfl H4.out.1 ?_)
      | (refine wpList_store_hd rfl (.tmp 4) (.tmp 10) rfl (hdU m.h.id B sq.n sa.n su.n se.n) rfl rfl H3.out.1 ?_; intro w4 a4 o4 z4 g4; have b4 := g4 _ _ (Nat.le_refl _) H3.out.2; have H4 := Lib.hid (And.intro (H2.out.1.later b4 (Nat.le_refl _)) (And.intro a4 (H2.out.2.trans (b4.mono H2.out.2.size)))); clear a4 o4 z4 g4 b4)
      | (refine wpList_alloc_hd rfl rfl ?_; intro w3 a3 b3 z3; have H3 := Lib.hid (And.intro a3 b3); clear a3 b3 z3))
    refine (KR w4).mono ?_
    rintro e w5 ⟨rfl, b5⟩
    have H5 := Lib.hid (And.intro (H4.out.1.later b5 (Nat.le_refl _)) (And.intro (H4.out.2.1.later b5 (Nat.le_refl _)) (H4.out.2.2.trans (b5.mono H4.out.2.2.size))))
    clear b5
    rw [decide_eq_false hh]
    go_wp2_with fail
    go_ret2
    exact ⟨none, 0, 0, _, rfl, Bs.nil _, Tells.bare _ 1 (by decide) 0, H5.out.2.2⟩
    -->>
  have hid0 := hh.1.1
  have hid1 := hh.1.2
  obtain ⟨S, hS⟩ : ∃ S, sq.n + sa.n + su.n + se.n = S := ⟨_, rfl⟩
  rw [hS] at hcount
  have HSS := Lib.hid hS
  by_cases hs : 64 < S
  case pos =>
    --<< b
    obtain ⟨rfl, rfl⟩ := HBAD.out (fun h => by have := h.1.2; omega)
    have hsd : decide ((64 : Int) < (S : Int)) = true := decide_eq_true (by omega)
    clear hS
    go_enter Tryz.func28, Tryz.ntmps28
    go_wp2_with (first | (refine wpList_load_ms rfl (.tmp 1) rfl rfl HA.out.1 ?_) | (rw [HW.out]))
    refine (KF.out W).mono ?_
    rintro e w2 ⟨B, rfl, hB, b2⟩
    have H2 := Lib.hid (And.intro (HA.out.1.later b2 (Nat.le_refl _)) (HA.out.2.trans (b2.mono HA.out.2.size)))
    have HBV := Lib.hid hB
    clear b2 hB
    go_wp2_with (first
      | (refine wpList_load_ms rfl (.tmp 1) rfl rfl H4.out.1 ?_)
      | (refine wpList_store_hd rfl (.tmp 4) (.tmp 10) rfl (hdU m.h.id B sq.n sa.n su.n se.n) rfl rfl H3.out.1 ?_; intro w4 a4 o4 z4 g4; have b4 := g4 _ _ (Nat.le_refl _) H3.out.2; have H4 := Lib.hid (And.intro (H2.out.1.later b4 (Nat.le_refl _)) (And.intro a4 (H2.out.2.trans (b4.mono H2.out.2.size)))); clear a4 o4 z4 g4 b4)
      | (refine wpList_alloc_hd rfl rfl ?_; intro w3 a3 b3 z3; have H3 := Lib.hid (And.intro a3 b3); clear a3 b3 z3))
    refine (KR w4).mono ?_
    rintro e w5 ⟨rfl, b5⟩
    have H5 := Lib.hid (And.intro (H4.out.1.later b5 (Nat.le_refl _)) (And.intro (H4.out.2.1.later b5 (Nat.le_refl _)) (H4.out.2.2.trans (b5.mono H4.out.2.2.size))))
    clear b5
    rw [decide_eq_true hh]
    go_wp2_with fail
    refine (together_any H5.out.2.1 (hdU_pos hid0 (by rw [HBV.out hh]; exact bitsV_pos hh) sq.n sa.n su.n se.n) (hdU_le hid1 (by rw [HBV.out hh]; exact bitsV_le hh) hn.1 hn.2.1 hn.2.2.1 hn.2.2.2)).mono ?_
    rintro e w' ⟨rfl, rfl⟩
    rw [show hdU m.h.id B sq.n sa.n su.n se.n 2 + hdU m.h.id B sq.n sa.n su.n se.n 3 + hdU m.h.id B sq.n sa.n su.n se.n 4 + hdU m.h.id B sq.n sa.n su.n se.n 5 = ((sq.n + sa.n + su.n + se.n : Nat) : Int) by show (sq.n : Int) + sa.n + su.n + se.n = _; omega]
    rw [HSS.out]
    go_wp2_with fail
    go_ret2
    exact ⟨none, 0, 0, _, rfl, Bs.nil _, Tells.bare _ 1 (by decide) 0, H5.out.2.2⟩
    -->>
  have hsd : decide ((64 : Int) < (S : Int)) = false := decide_eq_false (by omega)
  have hb4 : sq.n ≤ 64 ∧ sa.n ≤ 64 ∧ su.n ≤ 64 ∧ se.n ≤ 64 := by omega
  clear hS
  have KQ := Lib.hid (fun w1 (b : Below w.heap.size w w1) => writtenQ_any (HM.out.1.qs.later b (Nat.le_refl _)) HM.out.2.1.qs (by omega) (Env.later HM.out.2.2 b (Nat.le_refl _)))
  by_cases hq : ∀ q ∈ m.qs, rightQ q
  case neg =>
    --<< c
    obtain ⟨rfl, rfl⟩ := HBAD.out (fun h => hq h.2.1)
    go_enter Tryz.func28, Tryz.ntmps28
    go_wp2_with (first | (refine wpList_load_ms rfl (.tmp 1) rfl rfl HA.out.1 ?_) | (rw [HW.out]))
    refine (KF.out W).mono ?_
    rintro e w2 ⟨B, rfl, hB, b2⟩
    have H2 := Lib.hid (And.intro (HA.out.1.later b2 (Nat.le_refl _)) (HA.out.2.trans (b2.mono HA.out.2.size)))
    have HBV := Lib.hid hB
    clear b2 hB
    go_wp2_with (first
      | (refine wpList_load_ms rfl (.tmp 1) rfl rfl H4.out.1 ?_)
      | (refine wpList_store_hd rfl (.tmp 4) (.tmp 10) rfl (hdU m.h.id B sq.n sa.n su.n se.n) rfl rfl H3.out.1 ?_; intro w4 a4 o4 z4 g4; have b4 := g4 _ _ (Nat.le_refl _) H3.out.2; have H4 := Lib.hid (And.intro (H2.out.1.later b4 (Nat.le_refl _)) (And.intro a4 (H2.out.2.trans (b4.mono H2.out.2.size)))); clear a4 o4 z4 g4 b4)
      | (refine wpList_alloc_hd rfl rfl ?_; intro w3 a3 b3 z3; have H3 := Lib.hid (And.intro a3 b3); clear a3 b3 z3))
    refine (KR w4).mono ?_
    rintro e w5 ⟨rfl, b5⟩
    have H5 := Lib.hid (And.intro (H4.out.1.later b5 (Nat.le_refl _)) (And.intro (H4.out.2.1.later b5 (Nat.le_refl _)) (H4.out.2.2.trans (b5.mono H4.out.2.2.size))))
    clear b5
    rw [decide_eq_true hh]
    go_wp2_with fail
    refine (together_any H5.out.2.1 (hdU_pos hid0 (by rw [HBV.out hh]; exact bitsV_pos hh) sq.n sa.n su.n se.n) (hdU_le hid1 (by rw [HBV.out hh]; exact bitsV_le hh) hn.1 hn.2.1 hn.2.2.1 hn.2.2.2)).mono ?_
    rintro e w' ⟨rfl, rfl⟩
    rw [show hdU m.h.id B sq.n sa.n su.n se.n 2 + hdU m.h.id B sq.n sa.n su.n se.n 3 + hdU m.h.id B sq.n sa.n su.n se.n 4 + hdU m.h.id B sq.n sa.n su.n se.n 5 = ((sq.n + sa.n + su.n + se.n : Nat) : Int) by show (sq.n : Int) + sa.n + su.n + se.n = _; omega]
    rw [HSS.out]
    have c5 : w5.cell? ⟨w.heap.size, 5, none⟩ = some (.slice sq.A sq.n sq.c) := H5.out.1.cell 5
    go_wp2_with fail
    refine (KQ.out _ H5.out.2.2).mono ?_
    rintro e w6 ⟨_, h6, b6⟩
    obtain rfl := h6 hq
    have H6 := Lib.hid (H5.out.2.2.trans (b6.mono H5.out.2.2.size))
    clear h6 b6 c5
    go_wp2_with fail
    go_ret2
    exact ⟨none, 0, 0, _, rfl, Bs.nil _, Tells.bare _ 1 (by decide) 0, H6.out⟩
    -->>
  obtain ⟨da, hKa⟩ := HM.out.1.an.known
  obtain ⟨du, hKu⟩ := HM.out.1.au.known
  obtain ⟨de, hKe⟩ := HM.out.1.ex.known
  have HK := Lib.hid (And.intro hKa (And.intro hKu hKe))
  clear hKa hKu hKe
  have hall : allR [⟨sa, m.an, da⟩, ⟨su, m.au, du⟩, ⟨se, m.ex, de⟩] = recs m := by simp [allR, recs]
  have htot : totR [⟨sa, m.an, da⟩, ⟨su, m.au, du⟩, ⟨se, m.ex, de⟩] ≤ 1000 := by simp [totR]; omega
  have hrl : (recs m).length ≤ 64 := by unfold countM at hcount; omega
  have KC := fun g w1 (hp : PiecesR w1 g [⟨sa, m.an, da⟩, ⟨su, m.au, du⟩, ⟨se, m.ex, de⟩]) => concatR_any g 3 3 _ w1 rfl (by omega) hp htot
  rw [hall] at KC
  have KC := Lib.hid KC
  have HRL := Lib.hid hrl
  have KX := Lib.hid (fun w1 A c (b : Below w.heap.size w w1) (hr : RcS 0 w1 A (recs m).length c (recs m)) => writtenR_any hr HM.out.2.1.rs (by omega) (Env.later HM.out.2.2 b (Nat.le_refl _)))
  clear hall htot
  by_cases hr : ∀ r ∈ recs m, rightR r
  case neg =>
    --<< d
    obtain ⟨rfl, rfl⟩ := HBAD.out (fun h => hr h.2.2)
    go_enter Tryz.func28, Tryz.ntmps28
    go_wp2_with (first | (refine wpList_load_ms rfl (.tmp 1) rfl rfl HA.out.1 ?_) | (rw [HW.out]))
    refine (KF.out W).mono ?_
    rintro e w2 ⟨B, rfl, hB, b2⟩
    have H2 := Lib.hid (And.intro (HA.out.1.later b2 (Nat.le_refl _)) (HA.out.2.trans (b2.mono HA.out.2.size)))
    have HBV := Lib.hid hB
    clear b2 hB
    go_wp2_with (first
      | (refine wpList_load_ms rfl (.tmp 1) rfl rfl H4.out.1 ?_)
      | (refine wpList_store_hd rfl (.tmp 4) (.tmp 10) rfl (hdU m.h.id B sq.n sa.n su.n se.n) rfl rfl H3.out.1 ?_; intro w4 a4 o4 z4 g4; have b4 := g4 _ _ (Nat.le_refl _) H3.out.2; have H4 := Lib.hid (And.intro (H2.out.1.later b4 (Nat.le_refl _)) (And.intro a4 (H2.out.2.trans (b4.mono H2.out.2.size)))); clear a4 o4 z4 g4 b4)
      | (refine wpList_alloc_hd rfl rfl ?_; intro w3 a3 b3 z3; have H3 := Lib.hid (And.intro a3 b3); clear a3 b3 z3))
    refine (KR w4).mono ?_
    rintro e w5 ⟨rfl, b5⟩
    have H5 := Lib.hid (And.intro (H4.out.1.later b5 (Nat.le_refl _)) (And.intro (H4.out.2.1.later b5 (Nat.le_refl _)) (H4.out.2.2.trans (b5.mono H4.out.2.2.size))))
    clear b5
    rw [decide_eq_true hh]
    go_wp2_with fail
    refine (together_any H5.out.2.1 (hdU_pos hid0 (by rw [HBV.out hh]; exact bitsV_pos hh) sq.n sa.n su.n se.n) (hdU_le hid1 (by rw [HBV.out hh]; exact bitsV_le hh) hn.1 hn.2.1 hn.2.2.1 hn.2.2.2)).mono ?_
    rintro e w' ⟨rfl, rfl⟩
    rw [show hdU m.h.id B sq.n sa.n su.n se.n 2 + hdU m.h.id B sq.n sa.n su.n se.n 3 + hdU m.h.id B sq.n sa.n su.n se.n 4 + hdU m.h.id B sq.n sa.n su.n se.n 5 = ((sq.n + sa.n + su.n + se.n : Nat) : Int) by show (sq.n : Int) + sa.n + su.n + se.n = _; omega]
    rw [HSS.out]
    have c5 : w5.cell? ⟨w.heap.size, 5, none⟩ = some (.slice sq.A sq.n sq.c) := H5.out.1.cell 5
    go_wp2_with fail
    refine (KQ.out _ H5.out.2.2).mono ?_
    rintro e w6 ⟨h6, _, b6⟩
    obtain ⟨A6, n6, c6, rfl, B6⟩ := h6 hq
    have H6 := Lib.hid (And.intro (H5.out.1.later b6 (Nat.le_refl _)) (And.intro (H5.out.2.1.later b6 (Nat.le_refl _)) (And.intro B6 (H5.out.2.2.trans (b6.mono H5.out.2.2.size)))))
    clear h6 b6 B6 c5
    have c6a : w6.cell? ⟨w.heap.size, 6, none⟩ = some (.slice sa.A sa.n sa.c) := H6.out.1.cell 6
    have c7a : w6.cell? ⟨w.heap.size, 7, none⟩ = some (.slice su.A su.n su.c) := H6.out.1.cell 7
    have c8a : w6.cell? ⟨w.heap.size, 8, none⟩ = some (.slice se.A se.n se.c) := H6.out.1.cell 8
    go_wp2_with fail
    have p7 := piecesR3 (HK.out.1.later H6.out.2.2.2 (Nat.le_refl _)) (HK.out.2.1.later H6.out.2.2.2 (Nat.le_refl _)) (HK.out.2.2.later H6.out.2.2.2 (Nat.le_refl _)) 57
    have b7 : Below w6.heap.size w6 (w6.alloc (.cells #[.slice sa.A sa.n sa.c, .slice su.A su.n su.c, .slice se.A se.n se.c] 57)) := (Below.refl _ _).alloc (Nat.le_refl _) _
    obtain ⟨w7, hw7⟩ : ∃ w7, w6.alloc (.cells #[.slice sa.A sa.n sa.c, .slice su.A su.n su.c, .slice se.A se.n se.c] 57) = w7 := ⟨_, rfl⟩
    rw [hw7] at p7 b7 ⊢
    have H7 := Lib.hid (And.intro (H6.out.2.1.later b7 (Nat.le_refl _)) (And.intro (H6.out.2.2.1.later b7 (Nat.le_refl _)) (And.intro p7 (H6.out.2.2.2.trans (b7.mono H6.out.2.2.2.size)))))
    clear p7 b7 hw7 c6a c7a c8a
    refine (KC.out _ _ H7.out.2.2.1).mono ?_
    rintro e w8 ⟨A8, c8, rfl, S8, b8⟩
    have H8 := Lib.hid (And.intro (H7.out.1.later b8 (Nat.le_refl _)) (And.intro (H7.out.2.1.later b8 (Nat.le_refl _)) (And.intro S8 (H7.out.2.2.2.trans (b8.mono H7.out.2.2.2.size)))))
    clear S8 b8
    go_wp2_with fail
    refine (KX.out _ _ _ H8.out.2.2.2 H8.out.2.2.1).mono ?_
    rintro e w9 ⟨_, h9, b9⟩
    obtain rfl := h9 hr
    have H9 := Lib.hid (H8.out.2.2.2.trans (b9.mono H8.out.2.2.2.size))
    clear h9 b9
    go_wp2_with fail
    go_ret2
    exact ⟨none, 0, 0, _, rfl, Bs.nil _, Tells.bare _ 1 (by decide) 0, H9.out⟩
    -->>
  have hR : rightM m := ⟨⟨hh, by omega⟩, hq, hr⟩
  have hqb := qsB_le hq
  have hrb := rsB_le hr (fun r h => by
    unfold recs at h
    rcases List.mem_append.1 h with h | h
    · exact HM.out.1.an.ok r h
    rcases List.mem_append.1 h with h | h
    · exact HM.out.1.au.ok r h
    · exact HM.out.1.ex.ok r h)
  have hml : (msgB m).length = 12 + ((qsB m.qs).length + (rsB (recs m)).length) := by
    unfold msgB headL
    simp only [List.length_append, putn_length]
  obtain ⟨nq, hnq⟩ : ∃ nq, (qsB m.qs).length = nq := ⟨_, rfl⟩
  obtain ⟨nr, hnr⟩ : ∃ nr, (rsB (recs m)).length = nr := ⟨_, rfl⟩
  rw [hnq] at hqb hml
  rw [hnr] at hrb hml
  have hqn : nq ≤ 20000 := by omega
  have hrn : nr ≤ 100000 := by omega
  have HNQ := Lib.hid hnq
  have HNR := Lib.hid hnr
  have HR := Lib.hid hR
  have HML := Lib.hid hml
  clear hqb hrb hnq hnr hR hml
  by_cases hbig : 4000 < 12 + (nq + nr)
  case pos =>
    --<< e
    have hv : Wv = [] := by rw [← HWv.out]; unfold writeMv; rw [if_neg (fun h => by have := h.2; rw [HML.out] at this; omega)]
    have he : We = ⟨4, 0, false⟩ := by rw [← HWe.out]; unfold writeMe; rw [if_pos HR.out, if_neg (by rw [HML.out]; omega)]
    subst hv he
    have hbd : ((12 : Int) + (nq + nr) : Int) > 4000 := by omega
    clear hbig
    go_enter Tryz.func28, Tryz.ntmps28
    go_wp2_with (first | (refine wpList_load_ms rfl (.tmp 1) rfl rfl HA.out.1 ?_) | (rw [HW.out]))
    refine (KF.out W).mono ?_
    rintro e w2 ⟨B, rfl, hB, b2⟩
    have H2 := Lib.hid (And.intro (HA.out.1.later b2 (Nat.le_refl _)) (HA.out.2.trans (b2.mono HA.out.2.size)))
    have HBV := Lib.hid hB
    clear b2 hB
    go_wp2_with (first
      | (refine wpList_load_ms rfl (.tmp 1) rfl rfl H4.out.1 ?_)
      | (refine wpList_store_hd rfl (.tmp 4) (.tmp 10) rfl (hdU m.h.id B sq.n sa.n su.n se.n) rfl rfl H3.out.1 ?_; intro w4 a4 o4 z4 g4; have b4 := g4 _ _ (Nat.le_refl _) H3.out.2; have H4 := Lib.hid (And.intro (H2.out.1.later b4 (Nat.le_refl _)) (And.intro a4 (H2.out.2.trans (b4.mono H2.out.2.size)))); clear a4 o4 z4 g4 b4)
      | (refine wpList_alloc_hd rfl rfl ?_; intro w3 a3 b3 z3; have H3 := Lib.hid (And.intro a3 b3); clear a3 b3 z3))
    refine (KR w4).mono ?_
    rintro e w5 ⟨rfl, b5⟩
    have H5 := Lib.hid (And.intro (H4.out.1.later b5 (Nat.le_refl _)) (And.intro (H4.out.2.1.later b5 (Nat.le_refl _)) (H4.out.2.2.trans (b5.mono H4.out.2.2.size))))
    clear b5
    rw [decide_eq_true hh]
    go_wp2_with fail
    refine (together_any H5.out.2.1 (hdU_pos hid0 (by rw [HBV.out hh]; exact bitsV_pos hh) sq.n sa.n su.n se.n) (hdU_le hid1 (by rw [HBV.out hh]; exact bitsV_le hh) hn.1 hn.2.1 hn.2.2.1 hn.2.2.2)).mono ?_
    rintro e w' ⟨rfl, rfl⟩
    rw [show hdU m.h.id B sq.n sa.n su.n se.n 2 + hdU m.h.id B sq.n sa.n su.n se.n 3 + hdU m.h.id B sq.n sa.n su.n se.n 4 + hdU m.h.id B sq.n sa.n su.n se.n 5 = ((sq.n + sa.n + su.n + se.n : Nat) : Int) by show (sq.n : Int) + sa.n + su.n + se.n = _; omega]
    rw [HSS.out]
    have c5 : w5.cell? ⟨w.heap.size, 5, none⟩ = some (.slice sq.A sq.n sq.c) := H5.out.1.cell 5
    go_wp2_with fail
    refine (KQ.out _ H5.out.2.2).mono ?_
    rintro e w6 ⟨h6, _, b6⟩
    obtain ⟨A6, n6, c6, rfl, B6⟩ := h6 hq
    have H6 := Lib.hid (And.intro (H5.out.1.later b6 (Nat.le_refl _)) (And.intro (H5.out.2.1.later b6 (Nat.le_refl _)) (And.intro B6 (H5.out.2.2.trans (b6.mono H5.out.2.2.size)))))
    clear h6 b6 B6 c5
    have c6a : w6.cell? ⟨w.heap.size, 6, none⟩ = some (.slice sa.A sa.n sa.c) := H6.out.1.cell 6
    have c7a : w6.cell? ⟨w.heap.size, 7, none⟩ = some (.slice su.A su.n su.c) := H6.out.1.cell 7
    have c8a : w6.cell? ⟨w.heap.size, 8, none⟩ = some (.slice se.A se.n se.c) := H6.out.1.cell 8
    go_wp2_with fail
    have p7 := piecesR3 (HK.out.1.later H6.out.2.2.2 (Nat.le_refl _)) (HK.out.2.1.later H6.out.2.2.2 (Nat.le_refl _)) (HK.out.2.2.later H6.out.2.2.2 (Nat.le_refl _)) 57
    have b7 : Below w6.heap.size w6 (w6.alloc (.cells #[.slice sa.A sa.n sa.c, .slice su.A su.n su.c, .slice se.A se.n se.c] 57)) := (Below.refl _ _).alloc (Nat.le_refl _) _
    obtain ⟨w7, hw7⟩ : ∃ w7, w6.alloc (.cells #[.slice sa.A sa.n sa.c, .slice su.A su.n su.c, .slice se.A se.n se.c] 57) = w7 := ⟨_, rfl⟩
    rw [hw7] at p7 b7 ⊢
    have H7 := Lib.hid (And.intro (H6.out.2.1.later b7 (Nat.le_refl _)) (And.intro (H6.out.2.2.1.later b7 (Nat.le_refl _)) (And.intro p7 (H6.out.2.2.2.trans (b7.mono H6.out.2.2.2.size)))))
    clear p7 b7 hw7 c6a c7a c8a
    refine (KC.out _ _ H7.out.2.2.1).mono ?_
    rintro e w8 ⟨A8, c8, rfl, S8, b8⟩
    have H8 := Lib.hid (And.intro (H7.out.1.later b8 (Nat.le_refl _)) (And.intro (H7.out.2.1.later b8 (Nat.le_refl _)) (And.intro S8 (H7.out.2.2.2.trans (b8.mono H7.out.2.2.2.size)))))
    clear S8 b8
    go_wp2_with fail
    refine (KX.out _ _ _ H8.out.2.2.2 H8.out.2.2.1).mono ?_
    rintro e w9 ⟨h9, _, b9⟩
    obtain ⟨A9, n9, c9, rfl, B9⟩ := h9 hr
    have hn6 : n6 = nq := H8.out.2.1.len.symm.trans HNQ.out
    have hn9 : n9 = nr := B9.len.symm.trans HNR.out
    subst hn6 hn9
    have H9 := Lib.hid (And.intro (H8.out.1.later b9 (Nat.le_refl _)) (And.intro (H8.out.2.1.later b9 (Nat.le_refl _)) (And.intro B9 (H8.out.2.2.2.trans (b9.mono H8.out.2.2.2.size)))))
    clear h9 b9 B9
    go_wp2_with (refine wpList_load_hd rfl (.tmp 4) rfl rfl H9.out.1 ?_)
    refine (headBytes_any _ _).mono ?_
    rintro e w10 ⟨A10, c10, rfl, B10, b10⟩
    have hbl : putn (hdU m.h.id B sq.n sa.n su.n se.n 0) 2 ++ (putn (hdU m.h.id B sq.n sa.n su.n se.n 1) 2 ++ (putn (hdU m.h.id B sq.n sa.n su.n se.n 2) 2 ++ (putn (hdU m.h.id B sq.n sa.n su.n se.n 3) 2 ++ (putn (hdU m.h.id B sq.n sa.n su.n se.n 4) 2 ++ putn (hdU m.h.id B sq.n sa.n su.n se.n 5) 2)))) = headL m := by
      unfold headL
      rw [hlq, hla, hlu, hle, ← HBV.out hh]
      rfl
    rw [hbl] at B10
    have H10 := Lib.hid (And.intro B10 (And.intro (H9.out.2.1.later b10 (Nat.le_refl _)) (And.intro (H9.out.2.2.1.later b10 (Nat.le_refl _)) (H9.out.2.2.2.trans (b10.mono H9.out.2.2.2.size)))))
    clear B10 b10 hbl
    go_wp2_with fail
    have p11 := pieces3 H10.out.1 H10.out.2.1 H10.out.2.2.1 22
    have b11 : Below w10.heap.size w10 (w10.alloc (.cells #[.slice A10 12 c10, .slice A6 n6 c6, .slice A9 n9 c9] 22)) := (Below.refl _ _).alloc (Nat.le_refl _) _
    obtain ⟨w11, hw11⟩ : ∃ w11, w10.alloc (.cells #[.slice A10 12 c10, .slice A6 n6 c6, .slice A9 n9 c9] 22) = w11 := ⟨_, rfl⟩
    rw [hw11] at p11 b11 ⊢
    have H11 := Lib.hid (And.intro p11 (H10.out.2.2.2.trans (b11.mono H10.out.2.2.2.size)))
    clear p11 b11 hw11
    refine (concat_any _ 3 3 _ w11 rfl (by omega) H11.out.1 (by simp [total]; omega)).mono ?_
    rintro e w12 ⟨v12, rfl, o12, b12⟩
    have hfl : flat [⟨A10, 12, c10, headL m⟩, ⟨A6, n6, c6, qsB m.qs⟩, ⟨A9, n9, c9, rsB (recs m)⟩] = msgB m := by simp [flat, msgB]
    have htl : total [⟨A10, 12, c10, headL m⟩, ⟨A6, n6, c6, qsB m.qs⟩, ⟨A9, n9, c9, rsB (recs m)⟩] = 12 + (n6 + n9) := by simp [total]
    rw [hfl, htl] at o12
    obtain ⟨A12, c12, rfl, B12⟩ := Bs.of_own o12
    have H12 := Lib.hid (And.intro B12 (H11.out.2.trans (b12.mono H11.out.2.size)))
    clear o12 b12 B12 hfl htl
    go_wp2_with fail
    go_ret2
    exact ⟨none, 0, 0, _, rfl, Bs.nil _, Tells.bare _ 4 (by decide) 0, H12.out.2⟩
    -->>
  --<< f
  have hv : Wv = msgB m := by rw [← HWv.out]; unfold writeMv; rw [if_pos ⟨HR.out, by rw [HML.out]; omega⟩]
  have he : We = fl0 := by rw [← HWe.out]; unfold writeMe; rw [if_pos HR.out, if_pos (by rw [HML.out]; omega)]
  subst hv he
  go_enter Tryz.func28, Tryz.ntmps28
  go_wp2_with (first | (refine wpList_load_ms rfl (.tmp 1) rfl rfl HA.out.1 ?_) | (rw [HW.out]))
  refine (KF.out W).mono ?_
  rintro e w2 ⟨B, rfl, hB, b2⟩
  have H2 := Lib.hid (And.intro (HA.out.1.later b2 (Nat.le_refl _)) (HA.out.2.trans (b2.mono HA.out.2.size)))
  have HBV := Lib.hid hB
  clear b2 hB
  go_wp2_with (first
    | (refine wpList_load_ms rfl (.tmp 1) rfl rfl H4.out.1 ?_)
    | (refine wpList_store_hd rfl (.tmp 4) (.tmp 10) rfl (hdU m.h.id B sq.n sa.n su.n se.n) rfl rfl H3.out.1 ?_; intro w4 a4 o4 z4 g4; have b4 := g4 _ _ (Nat.le_refl _) H3.out.2; have H4 := Lib.hid (And.intro (H2.out.1.later b4 (Nat.le_refl _)) (And.intro a4 (H2.out.2.trans (b4.mono H2.out.2.size)))); clear a4 o4 z4 g4 b4)
    | (refine wpList_alloc_hd rfl rfl ?_; intro w3 a3 b3 z3; have H3 := Lib.hid (And.intro a3 b3); clear a3 b3 z3))
  refine (KR w4).mono ?_
  rintro e w5 ⟨rfl, b5⟩
  have H5 := Lib.hid (And.intro (H4.out.1.later b5 (Nat.le_refl _)) (And.intro (H4.out.2.1.later b5 (Nat.le_refl _)) (H4.out.2.2.trans (b5.mono H4.out.2.2.size))))
  clear b5
  rw [decide_eq_true hh]
  go_wp2_with fail
  refine (together_any H5.out.2.1 (hdU_pos hid0 (by rw [HBV.out hh]; exact bitsV_pos hh) sq.n sa.n su.n se.n) (hdU_le hid1 (by rw [HBV.out hh]; exact bitsV_le hh) hn.1 hn.2.1 hn.2.2.1 hn.2.2.2)).mono ?_
  rintro e w' ⟨rfl, rfl⟩
  rw [show hdU m.h.id B sq.n sa.n su.n se.n 2 + hdU m.h.id B sq.n sa.n su.n se.n 3 + hdU m.h.id B sq.n sa.n su.n se.n 4 + hdU m.h.id B sq.n sa.n su.n se.n 5 = ((sq.n + sa.n + su.n + se.n : Nat) : Int) by show (sq.n : Int) + sa.n + su.n + se.n = _; omega]
  rw [HSS.out]
  have c5 : w5.cell? ⟨w.heap.size, 5, none⟩ = some (.slice sq.A sq.n sq.c) := H5.out.1.cell 5
  go_wp2_with fail
  refine (KQ.out _ H5.out.2.2).mono ?_
  rintro e w6 ⟨h6, _, b6⟩
  obtain ⟨A6, n6, c6, rfl, B6⟩ := h6 hq
  have H6 := Lib.hid (And.intro (H5.out.1.later b6 (Nat.le_refl _)) (And.intro (H5.out.2.1.later b6 (Nat.le_refl _)) (And.intro B6 (H5.out.2.2.trans (b6.mono H5.out.2.2.size)))))
  clear h6 b6 B6 c5
  have c6a : w6.cell? ⟨w.heap.size, 6, none⟩ = some (.slice sa.A sa.n sa.c) := H6.out.1.cell 6
  have c7a : w6.cell? ⟨w.heap.size, 7, none⟩ = some (.slice su.A su.n su.c) := H6.out.1.cell 7
  have c8a : w6.cell? ⟨w.heap.size, 8, none⟩ = some (.slice se.A se.n se.c) := H6.out.1.cell 8
  go_wp2_with fail
  have p7 := piecesR3 (HK.out.1.later H6.out.2.2.2 (Nat.le_refl _)) (HK.out.2.1.later H6.out.2.2.2 (Nat.le_refl _)) (HK.out.2.2.later H6.out.2.2.2 (Nat.le_refl _)) 57
  have b7 : Below w6.heap.size w6 (w6.alloc (.cells #[.slice sa.A sa.n sa.c, .slice su.A su.n su.c, .slice se.A se.n se.c] 57)) := (Below.refl _ _).alloc (Nat.le_refl _) _
  obtain ⟨w7, hw7⟩ : ∃ w7, w6.alloc (.cells #[.slice sa.A sa.n sa.c, .slice su.A su.n su.c, .slice se.A se.n se.c] 57) = w7 := ⟨_, rfl⟩
  rw [hw7] at p7 b7 ⊢
  have H7 := Lib.hid (And.intro (H6.out.2.1.later b7 (Nat.le_refl _)) (And.intro (H6.out.2.2.1.later b7 (Nat.le_refl _)) (And.intro p7 (H6.out.2.2.2.trans (b7.mono H6.out.2.2.2.size)))))
  clear p7 b7 hw7 c6a c7a c8a
  refine (KC.out _ _ H7.out.2.2.1).mono ?_
  rintro e w8 ⟨A8, c8, rfl, S8, b8⟩
  have H8 := Lib.hid (And.intro (H7.out.1.later b8 (Nat.le_refl _)) (And.intro (H7.out.2.1.later b8 (Nat.le_refl _)) (And.intro S8 (H7.out.2.2.2.trans (b8.mono H7.out.2.2.2.size)))))
  clear S8 b8
  go_wp2_with fail
  refine (KX.out _ _ _ H8.out.2.2.2 H8.out.2.2.1).mono ?_
  rintro e w9 ⟨h9, _, b9⟩
  obtain ⟨A9, n9, c9, rfl, B9⟩ := h9 hr
  have hn6 : n6 = nq := H8.out.2.1.len.symm.trans HNQ.out
  have hn9 : n9 = nr := B9.len.symm.trans HNR.out
  subst hn6 hn9
  have H9 := Lib.hid (And.intro (H8.out.1.later b9 (Nat.le_refl _)) (And.intro (H8.out.2.1.later b9 (Nat.le_refl _)) (And.intro B9 (H8.out.2.2.2.trans (b9.mono H8.out.2.2.2.size)))))
  clear h9 b9 B9
  go_wp2_with (refine wpList_load_hd rfl (.tmp 4) rfl rfl H9.out.1 ?_)
  refine (headBytes_any _ _).mono ?_
  rintro e w10 ⟨A10, c10, rfl, B10, b10⟩
  have hbl : putn (hdU m.h.id B sq.n sa.n su.n se.n 0) 2 ++ (putn (hdU m.h.id B sq.n sa.n su.n se.n 1) 2 ++ (putn (hdU m.h.id B sq.n sa.n su.n se.n 2) 2 ++ (putn (hdU m.h.id B sq.n sa.n su.n se.n 3) 2 ++ (putn (hdU m.h.id B sq.n sa.n su.n se.n 4) 2 ++ putn (hdU m.h.id B sq.n sa.n su.n se.n 5) 2)))) = headL m := by
    unfold headL
    rw [hlq, hla, hlu, hle, ← HBV.out hh]
    rfl
  rw [hbl] at B10
  have H10 := Lib.hid (And.intro B10 (And.intro (H9.out.2.1.later b10 (Nat.le_refl _)) (And.intro (H9.out.2.2.1.later b10 (Nat.le_refl _)) (H9.out.2.2.2.trans (b10.mono H9.out.2.2.2.size)))))
  clear B10 b10 hbl
  go_wp2_with fail
  have p11 := pieces3 H10.out.1 H10.out.2.1 H10.out.2.2.1 22
  have b11 : Below w10.heap.size w10 (w10.alloc (.cells #[.slice A10 12 c10, .slice A6 n6 c6, .slice A9 n9 c9] 22)) := (Below.refl _ _).alloc (Nat.le_refl _) _
  obtain ⟨w11, hw11⟩ : ∃ w11, w10.alloc (.cells #[.slice A10 12 c10, .slice A6 n6 c6, .slice A9 n9 c9] 22) = w11 := ⟨_, rfl⟩
  rw [hw11] at p11 b11 ⊢
  have H11 := Lib.hid (And.intro p11 (H10.out.2.2.2.trans (b11.mono H10.out.2.2.2.size)))
  clear p11 b11 hw11
  refine (concat_any _ 3 3 _ w11 rfl (by omega) H11.out.1 (by simp [total]; omega)).mono ?_
  rintro e w12 ⟨v12, rfl, o12, b12⟩
  have hfl : flat [⟨A10, 12, c10, headL m⟩, ⟨A6, n6, c6, qsB m.qs⟩, ⟨A9, n9, c9, rsB (recs m)⟩] = msgB m := by simp [flat, msgB]
  have htl : total [⟨A10, 12, c10, headL m⟩, ⟨A6, n6, c6, qsB m.qs⟩, ⟨A9, n9, c9, rsB (recs m)⟩] = 12 + (n6 + n9) := by simp [total]
  rw [hfl, htl] at o12
  obtain ⟨A12, c12, rfl, B12⟩ := Bs.of_own o12
  have H12 := Lib.hid (And.intro B12 (H11.out.2.trans (b12.mono H11.out.2.size)))
  clear o12 b12 B12 hfl htl
  go_wp2_with fail
  go_ret2
  exact ⟨A12, _, c12, _, rfl, H12.out.1, Tells.nil _ _ _, H12.out.2⟩
  -->>
end Go.Proofs.YtpojiimcdknafaaGreatDoor

namespace Go.Proofs.YtpojiimcdknafaaGreatDoor
open Go.RowKit
set_option maxRecDepth 100000

def m7 : Ms := ⟨⟨7, true, 0, 0, 0⟩, [], [], [], []⟩
def b7 : List UInt8 := [0, 7, 128, 0, 0, 0, 0, 0, 0, 0, 0, 0]
theorem m7_v : writeMv m7 = b7 := by decide +kernel
theorem m7_e : writeMe m7 = fl0 := by kernel_rfl
theorem b7_m : parseM b7 12 = (m7, fl0) := by kernel_rfl
theorem MsM.none_ {lo : Nat} (h : Mh) (w : World) : MsM lo w .zero .zero .zero .zero ⟨h, [], [], [], []⟩ := ⟨QsS.nil _ _, RcS.nil _ _, RcS.nil _ _, RcS.nil _ _⟩
theorem MsOk.none_ (h : Mh) : MsOk ⟨h, [], [], [], []⟩ := ⟨(fun q h => by cases h), fun r h => by simp [recs] at h⟩
set_option maxHeartbeats 4000000 in
theorem awake14 {w : World} (hE : Env w) (hg : Handle w) : Calls Tryz.prog 24 #[] w fun e w' => e = .returned (.bool true) ∧ Below w.heap.size w w' := by
  have KW := writeM_any (lo := 0) (w := w) (MsM.none_ ⟨7, true, 0, 0, 0⟩ w) (MsOk.none_ _) ⟨Nat.zero_le _, Nat.zero_le _, Nat.zero_le _, Nat.zero_le _⟩ hE
  have e1 : writeMv ⟨⟨7, true, 0, 0, 0⟩, [], [], [], []⟩ = b7 := m7_v
  have e2 : writeMe ⟨⟨7, true, 0, 0, 0⟩, [], [], [], []⟩ = fl0 := m7_e
  rw [e1, e2] at KW
  unfold WriteR at KW
  have KW := Lib.hid KW
  have HG := Lib.hid hg
  clear hE hg e1 e2
  --<< a
  go_enter Tryz.func24, Tryz.ntmps24
  go_wp2_with fail
  refine KW.out.mono ?_
  rintro e w1 ⟨A1, n1, c1, v1, rfl, B1, t1, b1⟩
  obtain rfl := t1.none' rfl
  have hn1 : n1 = 12 := B1.len.symm
  subst hn1
  have KP := parse_any B1 (by omega) (Handle.later b1 (Nat.le_refl _) HG.out)
  rw [b7_m] at KP
  unfold ParseR at KP
  have KP := Lib.hid KP
  have H1 := Lib.hid b1
  clear t1 b1 B1
  go_wp2_with fail
  refine KP.out.mono ?_
  rintro e w2 ⟨sq, sa, su, se, v2, rfl, _, _, _, _, t2, b2⟩
  obtain rfl := t2.none' rfl
  have H2 := Lib.hid (H1.out.trans (b2.mono H1.out.size))
  clear t2 b2
  go_wp2_with (first
    | (refine wpList_store_ms rfl (.tmp 3) (.tmp 13) rfl ⟨7, true, 0, 0, 0⟩ sq sa su se rfl rfl H3.out.1 ?_; intro w4 a4 o4 z4 g4; have b4 := g4 _ _ (Nat.le_refl _) H3.out.2; have H4 := Lib.hid (H2.out.trans (b4.mono H2.out.size)); (have x0 : w4.cell? ⟨w2.heap.size, 0, none⟩ = some (.int .i64 7) := a4.cell 0); (have x1 : w4.cell? ⟨w2.heap.size, 1, none⟩ = some (.bool true) := a4.cell 1); clear a4 o4 z4 g4 b4)
    | (refine wpList_alloc_ms rfl rfl ?_; intro w3 a3 b3 z3; have H3 := Lib.hid (And.intro a3 b3); clear a3 b3 z3))
  go_ret
  exact ⟨rfl, H4.out⟩
  -->>
end Go.Proofs.YtpojiimcdknafaaGreatDoor
