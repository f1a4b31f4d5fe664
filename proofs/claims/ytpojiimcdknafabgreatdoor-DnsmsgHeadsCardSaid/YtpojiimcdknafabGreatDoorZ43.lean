/-
  dnsmsg.Write: a message as it is written, or why not. Conditions: those of the slices; 10^12 of each list at most, names of a million bytes at most; what the program's text has laid (internal/bytealg.MaxLen holds an int).
  stockadelaw14.awake answers true. Conditions: errors.errorType holds the handle of the type error; what the program's text has laid (internal/bytealg.MaxLen holds an int).
  stockadelaw14.DnsmsgHeads answers true, whatever is handed in. Conditions: errors.errorType holds the handle of the type error; what the program's text has laid (internal/bytealg.MaxLen holds an int).
-/
import Derived.Test.YtpojiimcdknafabGreatDoorZ41
import Derived.Test.YtpojiimcdknafabGreatDoorZ39
import Derived.Test.YtpojiimcdknafabGreatDoorZ42
import Derived.Test.YtpojiimcdknafabGreatDoorZ25
namespace Go.Proofs.YtpojiimcdknafabGreatDoor
open Go.RowKit
set_option maxRecDepth 100000

/-- A message in memory. -/
structure MsM (lo : Nat) (w : World) (sq sa su se : Sl) (m : Ms) : Prop where
  qs : QsS lo w sq.A sq.n sq.c m.qs
  an : RcS lo w sa.A sa.n sa.c m.an
  au : RcS lo w su.A su.n su.c m.au
  ex : RcS lo w se.A se.n se.c m.ex
theorem MsM.later {B lo : Nat} {w w' : World} {sq sa su se : Sl} {m : Ms} (h : MsM lo w sq sa su se m) (hb : Below B w w') (hB : w.heap.size ≤ B) : MsM lo w' sq sa su se m := ⟨h.qs.later hb hB, h.an.later hb hB, h.au.later hb hB, h.ex.later hb hB⟩
/-- How long its texts are, how great its numbers. -/
structure MsOk (m : Ms) : Prop where
  qs : ∀ q ∈ m.qs, q.name.length ≤ 1000000
  rs : ∀ r ∈ recs m, (r.name.length ≤ 1000000 ∧ r.target.length ≤ 1000000) ∧ (0 ≤ r.ttl ∧ r.ttl < 4294967296)
theorem pieces3 {w : World} {A1 A2 A3 : Option Addr} {n1 c1 n2 c2 n3 c3 : Nat} {l1 l2 l3 : List UInt8} (h1 : Bs w A1 n1 c1 l1) (h2 : Bs w A2 n2 c2 l2) (h3 : Bs w A3 n3 c3 l3) (T : TypeId) :
    Pieces (w.alloc (.cells #[.slice A1 n1 c1, .slice A2 n2 c2, .slice A3 n3 c3] T)) w.heap.size [⟨A1, n1, c1, l1⟩, ⟨A2, n2, c2, l2⟩, ⟨A3, n3, c3, l3⟩] := fun i p hp => by
  have b : Below w.heap.size w (w.alloc (.cells #[.slice A1 n1 c1, .slice A2 n2 c2, .slice A3 n3 c3] T)) := (Below.refl _ _).alloc (Nat.le_refl _) _
  match i, hp with
  | 0, hp => cases hp; exact ⟨by rw [World.cell?_alloc_at _ _ _ _ rfl]; rfl, h1.later b (Nat.le_refl _)⟩
  | 1, hp => cases hp; exact ⟨by rw [World.cell?_alloc_at _ _ _ _ rfl]; rfl, h2.later b (Nat.le_refl _)⟩
  | 2, hp => cases hp; exact ⟨by rw [World.cell?_alloc_at _ _ _ _ rfl]; rfl, h3.later b (Nat.le_refl _)⟩
theorem piecesR3 {w : World} {s1 s2 s3 : Sl} {l1 l2 l3 : List Rc} {d1 d2 d3 : List Sl} (h1 : RcK w s1.A s1.n s1.c l1 d1) (h2 : RcK w s2.A s2.n s2.c l2 d2) (h3 : RcK w s3.A s3.n s3.c l3 d3) (T : TypeId) :
    PiecesR (w.alloc (.cells #[.slice s1.A s1.n s1.c, .slice s2.A s2.n s2.c, .slice s3.A s3.n s3.c] T)) w.heap.size [⟨s1, l1, d1⟩, ⟨s2, l2, d2⟩, ⟨s3, l3, d3⟩] := fun i p hp => by
  have b : Below w.heap.size w (w.alloc (.cells #[.slice s1.A s1.n s1.c, .slice s2.A s2.n s2.c, .slice s3.A s3.n s3.c] T)) := (Below.refl _ _).alloc (Nat.le_refl _) _
  match i, hp with
  | 0, hp => cases hp; exact ⟨by rw [World.cell?_alloc_at _ _ _ _ rfl]; rfl, h1.later b (Nat.le_refl _)⟩
  | 1, hp => cases hp; exact ⟨by rw [World.cell?_alloc_at _ _ _ _ rfl]; rfl, h2.later b (Nat.le_refl _)⟩
  | 2, hp => cases hp; exact ⟨by rw [World.cell?_alloc_at _ _ _ _ rfl]; rfl, h3.later b (Nat.le_refl _)⟩
theorem bitsV_pos {h : Mh} (hr : rightH h) : 0 ≤ bitsV h := by
  obtain ⟨_, ⟨h1, _⟩, ⟨h3, _⟩, h5, _⟩ := hr
  unfold bitsV
  split <;> omega
theorem bitsV_le {h : Mh} (hr : rightH h) : bitsV h ≤ 65535 := by
  obtain ⟨_, ⟨_, h2⟩, ⟨_, h4⟩, _, h6⟩ := hr
  unfold bitsV
  split <;> omega
theorem hdU_pos {id b : Int} (h0 : 0 ≤ id) (h1 : 0 ≤ b) (q a u e : Nat) : ∀ i, 0 ≤ hdU id b q a u e i := fun i => by
  unfold hdU
  split <;> omega
theorem hdU_le {id b : Int} (h0 : id ≤ 65535) (h1 : b ≤ 65535) {q a u e : Nat} (hq : q ≤ 1000000000000) (ha : a ≤ 1000000000000) (hu : u ≤ 1000000000000) (he : e ≤ 1000000000000) : ∀ i, hdU id b q a u e i ≤ 1000000000000000000 := fun i => by
  unfold hdU
  split <;> omega
/-- What Write hands back. -/
def WriteR (l : List UInt8) (f : Fl) (w : World) (e : Ending) (w' : World) : Prop := ∃ A n c v, e = .returned (.tuple #[.slice A n c, v]) ∧ Bs w' A n c l ∧ Tells w' v f ∧ Below w.heap.size w w'
set_option maxHeartbeats 8000000 in
theorem writeM_any {lo : Nat} {sq sa su se : Sl} {m : Ms} {w : World} (hm : MsM lo w sq sa su se m) (hok : MsOk m) (hn : sq.n ≤ 1000000000000 ∧ sa.n ≤ 1000000000000 ∧ su.n ≤ 1000000000000 ∧ se.n ≤ 1000000000000) (hE : Env w) : Calls Tryz.prog 5 #[.agg (msv m.h sq sa su se)] w (WriteR (writeMv m) (writeMe m) w) := by
  have a1 := MsBox.new w m.h sq sa su se
  have b1 : Below w.heap.size w (w.alloc (.cells (msv m.h sq sa su se) 26)) := (Below.refl _ _).alloc (Nat.le_refl _) _
  obtain ⟨W, hW⟩ : ∃ W, w.alloc (.cells (msv m.h sq sa su se) 26) = W := ⟨_, rfl⟩
  rw [hW] at a1 b1
  have HW := Lib.hid hW
  have HA := Lib.hid (And.intro a1 b1)
  have HL1 := Lib.hid (MsBox.lt a1)
  have HM := Lib.hid (And.intro hm (And.intro hok hE))
  have hlq := hm.qs.len
  have hla := hm.an.len
  have hlu := hm.au.len
  have hle := hm.ex.len
  have KF := Lib.hid (fun w1 => headFor_any m.h sq sa su se w1)
  have KR := fun w1 => rightM_any m.h sq sa su se w1
  have hcount : countM m = sq.n + sa.n + su.n + se.n := by
    unfold countM recs
    rw [List.length_append, List.length_append]
    omega
  obtain ⟨Wv, hWv⟩ : ∃ Wv, writeMv m = Wv := ⟨_, rfl⟩
  obtain ⟨We, hWe⟩ : ∃ We, writeMe m = We := ⟨_, rfl⟩
  rw [hWv, hWe]
  have bad : ¬ rightM m → Wv = [] ∧ We = ⟨1, 0, false⟩ := fun h => by
    rw [← hWv, ← hWe]
    unfold writeMv writeMe
    rw [if_neg (fun e => h e.1), if_neg h]
    exact ⟨rfl, rfl⟩
  have HWv := Lib.hid hWv
  have HWe := Lib.hid hWe
  have HBAD := Lib.hid bad
  clear a1 b1 hW hm hok hE hWv hWe bad
  unfold WriteR
  by_cases hh : rightH m.h
  case neg =>
    --<< a
    obtain ⟨rfl, rfl⟩ := HBAD.out (fun h => hh h.1.1)
    go_enter Tryz.func5, Tryz.ntmps5
    go_wp2_with (first | (refine wpList_load_ms rfl (.tmp 1) rfl rfl HA.out.1 ?_) | (rw [HW.out]))
    refine (KF.out W).mono ?_
    rintro e w2 ⟨B, rfl, hB, b2⟩
    have H2 := Lib.hid (And.intro (HA.out.1.later b2 (Nat.le_refl _)) (HA.out.2.trans (b2.mono HA.out.2.size)))
    have HBV := Lib.hid hB
    clear b2 hB
    go_wp2_with (first
      | (refine wpList_load_ms rfl (.tmp 1) rfl rfl H4.out.1 ?_)
      | (refine wpList_store_hd rfl (.tmp 4) (.tmp 10) rfl (hdU m.h.id B sq.n sa.n su.n se.n) rfl rfl H3.out.1 ?_; intro w4 a4 o4 z4 g4; have b4 := g4 _ _ (Nat.le_refl _) H3.out.2; have H4 := Lib.hid (And.intro (H2.out.1.later b4 (Nat.le_refl _)) (And.intro a4 (H2.out.2.trans (b4.mono H2.out.2.size)))); clear a4 o4 z4 g4 b4)
      | (refine wpList_alloc_hd rfl rfl ?_; intro w3 a3 b3 z3; have H3 := Lib.hid (And.intro a3 b3); clear a3 b3 z3))
    refine (KR w4).mono ?_
    rintro e w5 ⟨rfl, b5⟩
    have H5 := Lib.hid (And.intro (H4.out.1.later b5 (Nat.le_refl _)) (And.intro (H4.out.2.1.later b5 (Nat.le_refl _)) (H4.out.2.2.trans (b5.mono H4.out.2.2.size))))
    clear b5
    rw [decide_eq_false hh]
    go_wp2_with fail
    go_ret2
    exact ⟨none, 0, 0, _, rfl, Bs.nil _, Tells.bare _ 1 (by decide) 0, H5.out.2.2⟩
    -->>
  have hid0 := hh.1.1
  have hid1 := hh.1.2
  obtain ⟨S, hS⟩ : ∃ S, sq.n + sa.n + su.n + se.n = S := ⟨_, rfl⟩
  rw [hS] at hcount
  have HSS := Lib.hid hS
  by_cases hs : 64 < S
  case pos =>
    --<< b
    obtain ⟨rfl, rfl⟩ := HBAD.out (fun h => by have := h.1.2; omega)
    have hsd : decide ((64 : Int) < (S : Int)) = true := decide_eq_true (by omega)
    clear hS
    go_enter Tryz.func5, Tryz.ntmps5
    go_wp2_with (first | (refine wpList_load_ms rfl (.tmp 1) rfl rfl HA.out.1 ?_) | (rw [HW.out]))
    refine (KF.out W).mono ?_
    rintro e w2 ⟨B, rfl, hB, b2⟩
    have H2 := Lib.hid (And.intro (HA.out.1.later b2 (Nat.le_refl _)) (HA.out.2.trans (b2.mono HA.out.2.size)))
    have HBV := Lib.hid hB
    clear b2 hB
    go_wp2_with (first
      | (refine wpList_load_ms rfl (.tmp 1) rfl rfl H4.out.1 ?_)
      | (refine wpList_store_hd rfl (.tmp 4) (.tmp 10) rfl (hdU m.h.id B sq.n sa.n su.n se.n) rfl rfl H3.out.1 ?_; intro w4 a4 o4 z4 g4; have b4 := g4 _ _ (Nat.le_refl _) H3.out.2; have H4 := Lib.hid (And.intro (H2.out.1.later b4 (Nat.le_refl _)) (And.intro a4 (H2.out.2.trans (b4.mono H2.out.2.size)))); clear a4 o4 z4 g4 b4)
      | (refine wpList_alloc_hd rfl rfl ?_; intro w3 a3 b3 z3; have H3 := Lib.hid (And.intro a3 b3); clear a3 b3 z3))
    refine (KR w4).mono ?_
    rintro e w5 ⟨rfl, b5⟩
    have H5 := Lib.hid (And.intro (H4.out.1.later b5 (Nat.le_refl _)) (And.intro (H4.out.2.1.later b5 (Nat.le_refl _)) (H4.out.2.2.trans (b5.mono H4.out.2.2.size))))
    clear b5
    rw [decide_eq_true hh]
    go_wp2_with fail
    refine (together_any H5.out.2.1 (hdU_pos hid0 (by rw [HBV.out hh]; exact bitsV_pos hh) sq.n sa.n su.n se.n) (hdU_le hid1 (by rw [HBV.out hh]; exact bitsV_le hh) hn.1 hn.2.1 hn.2.2.1 hn.2.2.2)).mono ?_
    rintro e w' ⟨rfl, rfl⟩
    rw [show hdU m.h.id B sq.n sa.n su.n se.n 2 + hdU m.h.id B sq.n sa.n su.n se.n 3 + hdU m.h.id B sq.n sa.n su.n se.n 4 + hdU m.h.id B sq.n sa.n su.n se.n 5 = ((sq.n + sa.n + su.n + se.n : Nat) : Int) by show (sq.n : Int) + sa.n + su.n + se.n = _; omega]
    rw [HSS.out]
    go_wp2_with fail
    go_ret2
    exact ⟨none, 0, 0, _, rfl, Bs.nil _, Tells.bare _ 1 (by decide) 0, H5.out.2.2⟩
    -->>
  have hsd : decide ((64 : Int) < (S : Int)) = false := decide_eq_false (by omega)
  have hb4 : sq.n ≤ 64 ∧ sa.n ≤ 64 ∧ su.n ≤ 64 ∧ se.n ≤ 64 := by omega
  clear hS
  have KQ := Lib.hid (fun w1 (b : Below w.heap.size w w1) => writtenQ_any (HM.out.1.qs.later b (Nat.le_refl _)) HM.out.2.1.qs (by omega) (Env.later HM.out.2.2 b (Nat.le_refl _)))
  by_cases hq : ∀ q ∈ m.qs, rightQ q
  case neg =>
    --<< c
    obtain ⟨rfl, rfl⟩ := HBAD.out (fun h => hq h.2.1)
    go_enter Tryz.func5, Tryz.ntmps5
    go_wp2_with (first | (refine wpList_load_ms rfl (.tmp 1) rfl rfl HA.out.1 ?_) | (rw [HW.out]))
    refine (KF.out W).mono ?_
    rintro e w2 ⟨B, rfl, hB, b2⟩
    have H2 := Lib.hid (And.intro (HA.out.1.later b2 (Nat.le_refl _)) (HA.out.2.trans (b2.mono HA.out.2.size)))
    have HBV := Lib.hid hB
    clear b2 hB
    go_wp2_with (first
      | (refine wpList_load_ms rfl (.tmp 1) rfl rfl H4.out.1 ?_)
      | (refine wpList_store_hd rfl (.tmp 4) (.tmp 10) rfl (hdU m.h.id B sq.n sa.n su.n se.n) rfl rfl H3.out.1 ?_; intro w4 a4 o4 z4 g4; have b4 := g4 _ _ (Nat.le_refl _) H3.out.2; have H4 := Lib.hid (And.intro (H2.out.1.later b4 (Nat.le_refl _)) (And.intro a4 (H2.out.2.trans (b4.mono H2.out.2.size)))); clear a4 o4 z4 g4 b4)
      | (refine wpList_alloc_hd rfl rfl ?_; intro w3 a3 b3 z3; have H3 := Lib.hid (And.intro a3 b3); clear a3 b3 z3))
    refine (KR w4).mono ?_
    rintro e w5 ⟨rfl, b5⟩
    have H5 := Lib.hid (And.intro (H4.out.1.later b5 (Nat.le_refl _)) (And.intro (H4.out.2.1.later b5 (Nat.le_refl _)) (H4.out.2.2.trans (b5.mono H4.out.2.2.size))))
    clear b5
    rw [decide_eq_true hh]
    go_wp2_with fail
    refine (together_any H5.out.2.1 (hdU_pos hid0 (by rw [HBV.out hh]; exact bitsV_pos hh) sq.n sa.n su.n se.n) (hdU_le hid1 (by rw [HBV.out hh]; exact bitsV_le hh) hn.1 hn.2.1 hn.2.2.1 hn.2.2.2)).mono ?_
    rintro e w' ⟨rfl, rfl⟩
    rw [show hdU m.h.id B sq.n sa.n su.n se.n 2 + hdU m.h.id B sq.n sa.n su.n se.n 3 + hdU m.h.id B sq.n sa.n su.n se.n 4 + hdU m.h.id B sq.n sa.n su.n se.n 5 = ((sq.n + sa.n + su.n + se.n : Nat) : Int) by show (sq.n : Int) + sa.n + su.n + se.n = _; omega]
    rw [HSS.out]
    have c5 : w5.cell? ⟨w.heap.size, 5, none⟩ = some (.slice sq.A sq.n sq.c) := H5.out.1.cell 5
    go_wp2_with fail
    refine (KQ.out _ H5.out.2.2).mono ?_
    rintro e w6 ⟨_, h6, b6⟩
    obtain rfl := h6 hq
    have H6 := Lib.hid (H5.out.2.2.trans (b6.mono H5.out.2.2.size))
    clear h6 b6 c5
    go_wp2_with fail
    go_ret2
    exact ⟨none, 0, 0, _, rfl, Bs.nil _, Tells.bare _ 1 (by decide) 0, H6.out⟩
    -->>
  obtain ⟨da, hKa⟩ := HM.out.1.an.known
  obtain ⟨du, hKu⟩ := HM.out.1.au.known
  obtain ⟨de, hKe⟩ := HM.out.1.ex.known
  have HK := Lib.hid (And.intro hKa (And.intro hKu hKe))
  clear hKa hKu hKe
  have hall : allR [⟨sa, m.an, da⟩, ⟨su, m.au, du⟩, ⟨se, m.ex, de⟩] = recs m := by simp [allR, recs]
  have htot : totR [⟨sa, m.an, da⟩, ⟨su, m.au, du⟩, ⟨se, m.ex, de⟩] ≤ 1000 := by simp [totR]; omega
  have hrl : (recs m).length ≤ 64 := by unfold countM at hcount; omega
  have KC := fun g w1 (hp : PiecesR w1 g [⟨sa, m.an, da⟩, ⟨su, m.au, du⟩, ⟨se, m.ex, de⟩]) => concatR_any g 3 3 _ w1 rfl (by omega) hp htot
  rw [hall] at KC
  have KC := Lib.hid KC
  have HRL := Lib.hid hrl
  have KX := Lib.hid (fun w1 A c (b : Below w.heap.size w w1) (hr : RcS 0 w1 A (recs m).length c (recs m)) => writtenR_any hr HM.out.2.1.rs (by omega) (Env.later HM.out.2.2 b (Nat.le_refl _)))
  clear hall htot
  by_cases hr : ∀ r ∈ recs m, rightR r
  case neg =>
    --<< d
    obtain ⟨rfl, rfl⟩ := HBAD.out (fun h => hr h.2.2)
    go_enter Tryz.func5, Tryz.ntmps5
    go_wp2_with (first | (refine wpList_load_ms rfl (.tmp 1) rfl rfl HA.out.1 ?_) | (rw [HW.out]))
    refine (KF.out W).mono ?_
    rintro e w2 ⟨B, rfl, hB, b2⟩
    have H2 := Lib.hid (And.intro (HA.out.1.later b2 (Nat.le_refl _)) (HA.out.2.trans (b2.mono HA.out.2.size)))
    have HBV := Lib.hid hB
    clear b2 hB
    go_wp2_with (first
      | (refine wpList_load_ms rfl (.tmp 1) rfl rfl H4.out.1 ?_)
      | (refine wpList_store_hd rfl (.tmp 4) (.tmp 10) rfl (hdU m.h.id B sq.n sa.n su.n se.n) rfl rfl H3.out.1 ?_; intro w4 a4 o4 z4 g4; have b4 := g4 _ _ (Nat.le_refl _) H3.out.2; have H4 := Lib.hid (And.intro (H2.out.1.later b4 (Nat.le_refl _)) (And.intro a4 (H2.out.2.trans (b4.mono H2.out.2.size)))); clear a4 o4 z4 g4 b4)
      | (refine wpList_alloc_hd rfl rfl ?_; intro w3 a3 b3 z3; have H3 := Lib.hid (And.intro a3 b3); clear a3 b3 z3))
    refine (KR w4).mono ?_
    rintro e w5 ⟨rfl, b5⟩
    have H5 := Lib.hid (And.intro (H4.out.1.later b5 (Nat.le_refl _)) (And.intro (H4.out.2.1.later b5 (Nat.le_refl _)) (H4.out.2.2.trans (b5.mono H4.out.2.2.size))))
    clear b5
    rw [decide_eq_true hh]
    go_wp2_with fail
    refine (together_any H5.out.2.1 (hdU_pos hid0 (by rw [HBV.out hh]; exact bitsV_pos hh) sq.n sa.n su.n se.n) (hdU_le hid1 (by rw [HBV.out hh]; exact bitsV_le hh) hn.1 hn.2.1 hn.2.2.1 hn.2.2.2)).mono ?_
    rintro e w' ⟨rfl, rfl⟩
    rw [show hdU m.h.id B sq.n sa.n su.n se.n 2 + hdU m.h.id B sq.n sa.n su.n se.n 3 + hdU m.h.id B sq.n sa.n su.n se.n 4 + hdU m.h.id B sq.n sa.n su.n se.n 5 = ((sq.n + sa.n + su.n + se.n : Nat) : Int) by show (sq.n : Int) + sa.n + su.n + se.n = _; omega]
    rw [HSS.out]
    have c5 : w5.cell? ⟨w.heap.size, 5, none⟩ = some (.slice sq.A sq.n sq.c) := H5.out.1.cell 5
    go_wp2_with fail
    refine (KQ.out _ H5.out.2.2).mono ?_
    rintro e w6 ⟨h6, _, b6⟩
    obtain ⟨A6, n6, c6, rfl, B6⟩ := h6 hq
    have H6 := Lib.hid (And.intro (H5.out.1.later b6 (Nat.le_refl _)) (And.intro (H5.out.2.1.later b6 (Nat.le_refl _)) (And.intro B6 (H5.out.2.2.trans (b6.mono H5.out.2.2.size)))))
    clear h6 b6 B6 c5
    have c6a : w6.cell? ⟨w.heap.size, 6, none⟩ = some (.slice sa.A sa.n sa.c) := H6.out.1.cell 6
    have c7a : w6.cell? ⟨w.heap.size, 7, none⟩ = some (.slice su.A su.n su.c) := H6.out.1.cell 7
    have c8a : w6.cell? ⟨w.heap.size, 8, none⟩ = some (.slice se.A se.n se.c) := H6.out.1.cell 8
    go_wp2_with fail
    have p7 := piecesR3 (HK.out.1.later H6.out.2.2.2 (Nat.le_refl _)) (HK.out.2.1.later H6.out.2.2.2 (Nat.le_refl _)) (HK.out.2.2.later H6.out.2.2.2 (Nat.le_refl _)) 24
    have b7 : Below w6.heap.size w6 (w6.alloc (.cells #[.slice sa.A sa.n sa.c, .slice su.A su.n su.c, .slice se.A se.n se.c] 24)) := (Below.refl _ _).alloc (Nat.le_refl _) _
    obtain ⟨w7, hw7⟩ : ∃ w7, w6.alloc (.cells #[.slice sa.A sa.n sa.c, .slice su.A su.n su.c, .slice se.A se.n se.c] 24) = w7 := ⟨_, rfl⟩
    rw [hw7] at p7 b7 ⊢
    have H7 := Lib.hid (And.intro (H6.out.2.1.later b7 (Nat.le_refl _)) (And.intro (H6.out.2.2.1.later b7 (Nat.le_refl _)) (And.intro p7 (H6.out.2.2.2.trans (b7.mono H6.out.2.2.2.size)))))
    clear p7 b7 hw7 c6a c7a c8a
    refine (KC.out _ _ H7.out.2.2.1).mono ?_
    rintro e w8 ⟨A8, c8, rfl, S8, b8⟩
    have H8 := Lib.hid (And.intro (H7.out.1.later b8 (Nat.le_refl _)) (And.intro (H7.out.2.1.later b8 (Nat.le_refl _)) (And.intro S8 (H7.out.2.2.2.trans (b8.mono H7.out.2.2.2.size)))))
    clear S8 b8
    go_wp2_with fail
    refine (KX.out _ _ _ H8.out.2.2.2 H8.out.2.2.1).mono ?_
    rintro e w9 ⟨_, h9, b9⟩
    obtain rfl := h9 hr
    have H9 := Lib.hid (H8.out.2.2.2.trans (b9.mono H8.out.2.2.2.size))
    clear h9 b9
    go_wp2_with fail
    go_ret2
    exact ⟨none, 0, 0, _, rfl, Bs.nil _, Tells.bare _ 1 (by decide) 0, H9.out⟩
    -->>
  have hR : rightM m := ⟨⟨hh, by omega⟩, hq, hr⟩
  have hqb := qsB_le hq
  have hrb := rsB_le hr (fun r h => by
    unfold recs at h
    rcases List.mem_append.1 h with h | h
    · exact HM.out.1.an.ok r h
    rcases List.mem_append.1 h with h | h
    · exact HM.out.1.au.ok r h
    · exact HM.out.1.ex.ok r h)
  have hml : (msgB m).length = 12 + ((qsB m.qs).length + (rsB (recs m)).length) := by
    unfold msgB headL
    simp only [List.length_append, putn_length]
  obtain ⟨nq, hnq⟩ : ∃ nq, (qsB m.qs).length = nq := ⟨_, rfl⟩
  obtain ⟨nr, hnr⟩ : ∃ nr, (rsB (recs m)).length = nr := ⟨_, rfl⟩
  rw [hnq] at hqb hml
  rw [hnr] at hrb hml
  have hqn : nq ≤ 20000 := by omega
  have hrn : nr ≤ 100000 := by omega
  have HNQ := Lib.hid hnq
  have HNR := Lib.hid hnr
  have HR := Lib.hid hR
  have HML := Lib.hid hml
  clear hqb hrb hnq hnr hR hml
  by_cases hbig : 4000 < 12 + (nq + nr)
  case pos =>
    --<< e
    have hv : Wv = [] := by rw [← HWv.out]; unfold writeMv; rw [if_neg (fun h => by have := h.2; rw [HML.out] at this; omega)]
    have he : We = ⟨4, 0, false⟩ := by rw [← HWe.out]; unfold writeMe; rw [if_pos HR.out, if_neg (by rw [HML.out]; omega)]
    subst hv he
    have hbd : ((12 : Int) + (nq + nr) : Int) > 4000 := by omega
    clear hbig
    go_enter Tryz.func5, Tryz.ntmps5
    go_wp2_with (first | (refine wpList_load_ms rfl (.tmp 1) rfl rfl HA.out.1 ?_) | (rw [HW.out]))
    refine (KF.out W).mono ?_
    rintro e w2 ⟨B, rfl, hB, b2⟩
    have H2 := Lib.hid (And.intro (HA.out.1.later b2 (Nat.le_refl _)) (HA.out.2.trans (b2.mono HA.out.2.size)))
    have HBV := Lib.hid hB
    clear b2 hB
    go_wp2_with (first
      | (refine wpList_load_ms rfl (.tmp 1) rfl rfl H4.out.1 ?_)
      | (refine wpList_store_hd rfl (.tmp 4) (.tmp 10) rfl (hdU m.h.id B sq.n sa.n su.n se.n) rfl rfl H3.out.1 ?_; intro w4 a4 o4 z4 g4; have b4 := g4 _ _ (Nat.le_refl _) H3.out.2; have H4 := Lib.hid (And.intro (H2.out.1.later b4 (Nat.le_refl _)) (And.intro a4 (H2.out.2.trans (b4.mono H2.out.2.size)))); clear a4 o4 z4 g4 b4)
      | (refine wpList_alloc_hd rfl rfl ?_; intro w3 a3 b3 z3; have H3 := Lib.hid (And.intro a3 b3); clear a3 b3 z3))
    refine (KR w4).mono ?_
    rintro e w5 ⟨rfl, b5⟩
    have H5 := Lib.hid (And.intro (H4.out.1.later b5 (Nat.le_refl _)) (And.intro (H4.out.2.1.later b5 (Nat.le_refl _)) (H4.out.2.2.trans (b5.mono H4.out.2.2.size))))
    clear b5
    rw [decide_eq_true hh]
    go_wp2_with fail
    refine (together_any H5.out.2.1 (hdU_pos hid0 (by rw [HBV.out hh]; exact bitsV_pos hh) sq.n sa.n su.n se.n) (hdU_le hid1 (by rw [HBV.out hh]; exact bitsV_le hh) hn.1 hn.2.1 hn.2.2.1 hn.2.2.2)).mono ?_
    rintro e w' ⟨rfl, rfl⟩
    rw [show hdU m.h.id B sq.n sa.n su.n se.n 2 + hdU m.h.id B sq.n sa.n su.n se.n 3 + hdU m.h.id B sq.n sa.n su.n se.n 4 + hdU m.h.id B sq.n sa.n su.n se.n 5 = ((sq.n + sa.n + su.n + se.n : Nat) : Int) by show (sq.n : Int) + sa.n + su.n + se.n = _; omega]
    rw [HSS.out]
    have c5 : w5.cell? ⟨w.heap.size, 5, none⟩ = some (.slice sq.A sq.n sq.c) := H5.out.1.cell 5
    go_wp2_with fail
    refine (KQ.out _ H5.out.2.2).mono ?_
    rintro e w6 ⟨h6, _, b6⟩
    obtain ⟨A6, n6, c6, rfl, B6⟩ := h6 hq
    have H6 := Lib.hid (And.intro (H5.out.1.later b6 (Nat.le_refl _)) (And.intro (H5.out.2.1.later b6 (Nat.le_refl _)) (And.intro B6 (H5.out.2.2.trans (b6.mono H5.out.2.2.size)))))
    clear h6 b6 B6 c5
    have c6a : w6.cell? ⟨w.heap.size, 6, none⟩ = some (.slice sa.A sa.n sa.c) := H6.out.1.cell 6
    have c7a : w6.cell? ⟨w.heap.size, 7, none⟩ = some (.slice su.A su.n su.c) := H6.out.1.cell 7
    have c8a : w6.cell? ⟨w.heap.size, 8, none⟩ = some (.slice se.A se.n se.c) := H6.out.1.cell 8
    go_wp2_with fail
    have p7 := piecesR3 (HK.out.1.later H6.out.2.2.2 (Nat.le_refl _)) (HK.out.2.1.later H6.out.2.2.2 (Nat.le_refl _)) (HK.out.2.2.later H6.out.2.2.2 (Nat.le_refl _)) 24
    have b7 : Below w6.heap.size w6 (w6.alloc (.cells #[.slice sa.A sa.n sa.c, .slice su.A su.n su.c, .slice se.A se.n se.c] 24)) := (Below.refl _ _).alloc (Nat.le_refl _) _
    obtain ⟨w7, hw7⟩ : ∃ w7, w6.alloc (.cells #[.slice sa.A sa.n sa.c, .slice su.A su.n su.c, .slice se.A se.n se.c] 24) = w7 := ⟨_, rfl⟩
    rw [hw7] at p7 b7 ⊢
    have H7 := Lib.hid (And.intro (H6.out.2.1.later b7 (Nat.le_refl _)) (And.intro (H6.out.2.2.1.later b7 (Nat.le_refl _)) (And.intro p7 (H6.out.2.2.2.trans (b7.mono H6.out.2.2.2.size)))))
    clear p7 b7 hw7 c6a c7a c8a
    refine (KC.out _ _ H7.out.2.2.1).mono ?_
    rintro e w8 ⟨A8, c8, rfl, S8, b8⟩
    have H8 := Lib.hid (And.intro (H7.out.1.later b8 (Nat.le_refl _)) (And.intro (H7.out.2.1.later b8 (Nat.le_refl _)) (And.intro S8 (H7.out.2.2.2.trans (b8.mono H7.out.2.2.2.size)))))
    clear S8 b8
    go_wp2_with fail
    refine (KX.out _ _ _ H8.out.2.2.2 H8.out.2.2.1).mono ?_
    rintro e w9 ⟨h9, _, b9⟩
    obtain ⟨A9, n9, c9, rfl, B9⟩ := h9 hr
    have hn6 : n6 = nq := H8.out.2.1.len.symm.trans HNQ.out
    have hn9 : n9 = nr := B9.len.symm.trans HNR.out
    subst hn6 hn9
    have H9 := Lib.hid (And.intro (H8.out.1.later b9 (Nat.le_refl _)) (And.intro (H8.out.2.1.later b9 (Nat.le_refl _)) (And.intro B9 (H8.out.2.2.2.trans (b9.mono H8.out.2.2.2.size)))))
    clear h9 b9 B9
    go_wp2_with (refine wpList_load_hd rfl (.tmp 4) rfl rfl H9.out.1 ?_)
    refine (headBytes_any _ _).mono ?_
    rintro e w10 ⟨A10, c10, rfl, B10, b10⟩
    have hbl : putn (hdU m.h.id B sq.n sa.n su.n se.n 0) 2 ++ (putn (hdU m.h.id B sq.n sa.n su.n se.n 1) 2 ++ (putn (hdU m.h.id B sq.n sa.n su.n se.n 2) 2 ++ (putn (hdU m.h.id B sq.n sa.n su.n se.n 3) 2 ++ (putn (hdU m.h.id B sq.n sa.n su.n se.n 4) 2 ++ putn (hdU m.h.id B sq.n sa.n su.n se.n 5) 2)))) = headL m := by
      unfold headL
      rw [hlq, hla, hlu, hle, ← HBV.out hh]
      rfl
    rw [hbl] at B10
    have H10 := Lib.hid (And.intro B10 (And.intro (H9.out.2.1.later b10 (Nat.le_refl _)) (And.intro (H9.out.2.2.1.later b10 (Nat.le_refl _)) (H9.out.2.2.2.trans (b10.mono H9.out.2.2.2.size)))))
    clear B10 b10 hbl
    go_wp2_with fail
    have p11 := pieces3 H10.out.1 H10.out.2.1 H10.out.2.2.1 31
    have b11 : Below w10.heap.size w10 (w10.alloc (.cells #[.slice A10 12 c10, .slice A6 n6 c6, .slice A9 n9 c9] 31)) := (Below.refl _ _).alloc (Nat.le_refl _) _
    obtain ⟨w11, hw11⟩ : ∃ w11, w10.alloc (.cells #[.slice A10 12 c10, .slice A6 n6 c6, .slice A9 n9 c9] 31) = w11 := ⟨_, rfl⟩
    rw [hw11] at p11 b11 ⊢
    have H11 := Lib.hid (And.intro p11 (H10.out.2.2.2.trans (b11.mono H10.out.2.2.2.size)))
    clear p11 b11 hw11
    refine (concat_any _ 3 3 _ w11 rfl (by omega) H11.out.1 (by simp [total]; omega)).mono ?_
    rintro e w12 ⟨v12, rfl, o12, b12⟩
    have hfl : flat [⟨A10, 12, c10, headL m⟩, ⟨A6, n6, c6, qsB m.qs⟩, ⟨A9, n9, c9, rsB (recs m)⟩] = msgB m := by simp [flat, msgB]
    have htl : total [⟨A10, 12, c10, headL m⟩, ⟨A6, n6, c6, qsB m.qs⟩, ⟨A9, n9, c9, rsB (recs m)⟩] = 12 + (n6 + n9) := by simp [total]
    rw [hfl, htl] at o12
    obtain ⟨A12, c12, rfl, B12⟩ := Bs.of_own o12
    have H12 := Lib.hid (And.intro B12 (H11.out.2.trans (b12.mono H11.out.2.size)))
    clear o12 b12 B12 hfl htl
    go_wp2_with fail
    go_ret2
    exact ⟨none, 0, 0, _, rfl, Bs.nil _, Tells.bare _ 4 (by decide) 0, H12.out.2⟩
    -->>
  --<< f
  have hv : Wv = msgB m := by rw [← HWv.out]; unfold writeMv; rw [if_pos ⟨HR.out, by rw [HML.out]; omega⟩]
  have he : We = fl0 := by rw [← HWe.out]; unfold writeMe; rw [if_pos HR.out, if_pos (by rw [HML.out]; omega)]
  subst hv he
  go_enter Tryz.func5, Tryz.ntmps5
  go_wp2_with (first | (refine wpList_load_ms rfl (.tmp 1) rfl rfl HA.out.1 ?_) | (rw [HW.out]))
  refine (KF.out W).mono ?_
  rintro e w2 ⟨B, rfl, hB, b2⟩
  have H2 := Lib.hid (And.intro (HA.out.1.later b2 (Nat.le_refl _)) (HA.out.2.trans (b2.mono HA.out.2.size)))
  have HBV := Lib.hid hB
  clear b2 hB
  go_wp2_with (first
    | (refine wpList_load_ms rfl (.tmp 1) rfl rfl H4.out.1 ?_)
    | (refine wpList_store_hd rfl (.tmp 4) (.tmp 10) rfl (hdU m.h.id B sq.n sa.n su.n se.n) rfl rfl H3.out.1 ?_; intro w4 a4 o4 z4 g4; have b4 := g4 _ _ (Nat.le_refl _) H3.out.2; have H4 := Lib.hid (And.intro (H2.out.1.later b4 (Nat.le_refl _)) (And.intro a4 (H2.out.2.trans (b4.mono H2.out.2.size)))); clear a4 o4 z4 g4 b4)
    | (refine wpList_alloc_hd rfl rfl ?_; intro w3 a3 b3 z3; have H3 := Lib.hid (And.intro a3 b3); clear a3 b3 z3))
  refine (KR w4).mono ?_
  rintro e w5 ⟨rfl, b5⟩
  have H5 := Lib.hid (And.intro (H4.out.1.later b5 (Nat.le_refl _)) (And.intro (H4.out.2.1.later b5 (Nat.le_refl _)) (H4.out.2.2.trans (b5.mono H4.out.2.2.size))))
  clear b5
  rw [decide_eq_true hh]
  go_wp2_with fail
  refine (together_any H5.out.2.1 (hdU_pos hid0 (by rw [HBV.out hh]; exact bitsV_pos hh) sq.n sa.n su.n se.n) (hdU_le hid1 (by rw [HBV.out hh]; exact bitsV_le hh) hn.1 hn.2.1 hn.2.2.1 hn.2.2.2)).mono ?_
  rintro e w' ⟨rfl, rfl⟩
  rw [show hdU m.h.id B sq.n sa.n su.n se.n 2 + hdU m.h.id B sq.n sa.n su.n se.n 3 + hdU m.h.id B sq.n sa.n su.n se.n 4 + hdU m.h.id B sq.n sa.n su.n se.n 5 = ((sq.n + sa.n + su.n + se.n : Nat) : Int) by show (sq.n : Int) + sa.n + su.n + se.n = _; omega]
  rw [HSS.out]
  have c5 : w5.cell? ⟨w.heap.size, 5, none⟩ = some (.slice sq.A sq.n sq.c) := H5.out.1.cell 5
  go_wp2_with fail
  refine (KQ.out _ H5.out.2.2).mono ?_
  rintro e w6 ⟨h6, _, b6⟩
  obtain ⟨A6, n6, c6, rfl, B6⟩ := h6 hq
  have H6 := Lib.hid (And.intro (H5.out.1.later b6 (Nat.le_refl _)) (And.intro (H5.out.2.1.later b6 (Nat.le_refl _)) (And.intro B6 (H5.out.2.2.trans (b6.mono H5.out.2.2.size)))))
  clear h6 b6 B6 c5
  have c6a : w6.cell? ⟨w.heap.size, 6, none⟩ = some (.slice sa.A sa.n sa.c) := H6.out.1.cell 6
  have c7a : w6.cell? ⟨w.heap.size, 7, none⟩ = some (.slice su.A su.n su.c) := H6.out.1.cell 7
  have c8a : w6.cell? ⟨w.heap.size, 8, none⟩ = some (.slice se.A se.n se.c) := H6.out.1.cell 8
  go_wp2_with fail
  have p7 := piecesR3 (HK.out.1.later H6.out.2.2.2 (Nat.le_refl _)) (HK.out.2.1.later H6.out.2.2.2 (Nat.le_refl _)) (HK.out.2.2.later H6.out.2.2.2 (Nat.le_refl _)) 24
  have b7 : Below w6.heap.size w6 (w6.alloc (.cells #[.slice sa.A sa.n sa.c, .slice su.A su.n su.c, .slice se.A se.n se.c] 24)) := (Below.refl _ _).alloc (Nat.le_refl _) _
  obtain ⟨w7, hw7⟩ : ∃ w7, w6.alloc (.cells #[.slice sa.A sa.n sa.c, .slice su.A su.n su.c, .slice se.A se.n se.c] 24) = w7 := ⟨_, rfl⟩
  rw [hw7] at p7 b7 ⊢
  have H7 := Lib.hid (And.intro (H6.out.2.1.later b7 (Nat.le_refl _)) (And.intro (H6.out.2.2.1.later b7 (Nat.le_refl _)) (And.intro p7 (H6.out.2.2.2.trans (b7.mono H6.out.2.2.2.size)))))
  clear p7 b7 hw7 c6a c7a c8a
  refine (KC.out _ _ H7.out.2.2.1).mono ?_
  rintro e w8 ⟨A8, c8, rfl, S8, b8⟩
  have H8 := Lib.hid (And.intro (H7.out.1.later b8 (Nat.le_refl _)) (And.intro (H7.out.2.1.later b8 (Nat.le_refl _)) (And.intro S8 (H7.out.2.2.2.trans (b8.mono H7.out.2.2.2.size)))))
  clear S8 b8
  go_wp2_with fail
  refine (KX.out _ _ _ H8.out.2.2.2 H8.out.2.2.1).mono ?_
  rintro e w9 ⟨h9, _, b9⟩
  obtain ⟨A9, n9, c9, rfl, B9⟩ := h9 hr
  have hn6 : n6 = nq := H8.out.2.1.len.symm.trans HNQ.out
  have hn9 : n9 = nr := B9.len.symm.trans HNR.out
  subst hn6 hn9
  have H9 := Lib.hid (And.intro (H8.out.1.later b9 (Nat.le_refl _)) (And.intro (H8.out.2.1.later b9 (Nat.le_refl _)) (And.intro B9 (H8.out.2.2.2.trans (b9.mono H8.out.2.2.2.size)))))
  clear h9 b9 B9
  go_wp2_with (refine wpList_load_hd rfl (.tmp 4) rfl rfl H9.out.1 ?_)
  refine (headBytes_any _ _).mono ?_
  rintro e w10 ⟨A10, c10, rfl, B10, b10⟩
  have hbl : putn (hdU m.h.id B sq.n sa.n su.n se.n 0) 2 ++ (putn (hdU m.h.id B sq.n sa.n su.n se.n 1) 2 ++ (putn (hdU m.h.id B sq.n sa.n su.n se.n 2) 2 ++ (putn (hdU m.h.id B sq.n sa.n su.n se.n 3) 2 ++ (putn (hdU m.h.id B sq.n sa.n su.n se.n 4) 2 ++ putn (hdU m.h.id B sq.n sa.n su.n se.n 5) 2)))) = headL m := by
    unfold headL
    rw [hlq, hla, hlu, hle, ← HBV.out hh]
    rfl
  rw [hbl] at B10
  have H10 := Lib.hid (And.intro B10 (And.intro (H9.out.2.1.later b10 (Nat.le_refl _)) (And.intro (H9.out.2.2.1.later b10 (Nat.le_refl _)) (H9.out.2.2.2.trans (b10.mono H9.out.2.2.2.size)))))
  clear B10 b10 hbl
  go_wp2_with fail
  have p11 := pieces3 H10.out.1 H10.out.2.1 H10.out.2.2.1 31
  have b11 : Below w10.heap.size w10 (w10.alloc (.cells #[.slice A10 12 c10, .slice A6 n6 c6, .slice A9 n9 c9] 31)) := (Below.refl _ _).alloc (Nat.le_refl _) _
  obtain ⟨w11, hw11⟩ : ∃ w11, w10.alloc (.cells #[.slice A10 12 c10, .slice A6 n6 c6, .slice A9 n9 c9] 31) = w11 := ⟨_, rfl⟩
  rw [hw11] at p11 b11 ⊢
  have H11 := Lib.hid (And.intro p11 (H10.out.2.2.2.trans (b11.mono H10.out.2.2.2.size)))
  clear p11 b11 hw11
  refine (concat_any _ 3 3 _ w11 rfl (by omega) H11.out.1 (by simp [total]; omega)).mono ?_
  rintro e w12 ⟨v12, rfl, o12, b12⟩
  have hfl : flat [⟨A10, 12, c10, headL m⟩, ⟨A6, n6, c6, qsB m.qs⟩, ⟨A9, n9, c9, rsB (recs m)⟩] = msgB m := by simp [flat, msgB]
  have htl : total [⟨A10, 12, c10, headL m⟩, ⟨A6, n6, c6, qsB m.qs⟩, ⟨A9, n9, c9, rsB (recs m)⟩] = 12 + (n6 + n9) := by simp [total]
  rw [hfl, htl] at o12
  obtain ⟨A12, c12, rfl, B12⟩ := Bs.of_own o12
  have H12 := Lib.hid (And.intro B12 (H11.out.2.trans (b12.mono H11.out.2.size)))
  clear o12 b12 B12 hfl htl
  go_wp2_with fail
  go_ret2
  exact ⟨A12, _, c12, _, rfl, H12.out.1, Tells.nil _ _ _, H12.out.2⟩
  -->>
end Go.Proofs.YtpojiimcdknafabGreatDoor

namespace Go.Proofs.YtpojiimcdknafabGreatDoor
open Go.RowKit
set_option maxRecDepth 100000

def m7 : Ms := ⟨⟨7, true, 0, 0, 0⟩, [], [], [], []⟩
def b7 : List UInt8 := [0, 7, 128, 0, 0, 0, 0, 0, 0, 0, 0, 0]
theorem m7_v : writeMv m7 = b7 := by decide +kernel
theorem m7_e : writeMe m7 = fl0 := by kernel_rfl
theorem b7_m : parseM b7 12 = (m7, fl0) := by kernel_rfl
theorem MsM.none_ {lo : Nat} (h : Mh) (w : World) : MsM lo w .zero .zero .zero .zero ⟨h, [], [], [], []⟩ := ⟨QsS.nil _ _, RcS.nil _ _, RcS.nil _ _, RcS.nil _ _⟩
theorem MsOk.none_ (h : Mh) : MsOk ⟨h, [], [], [], []⟩ := ⟨(fun q h => by cases h), fun r h => by simp [recs] at h⟩
set_option maxHeartbeats 4000000 in
theorem awake14 {w : World} (hE : Env w) (hg : Handle w) : Calls Tryz.prog 6 #[] w fun e w' => e = .returned (.bool true) ∧ Below w.heap.size w w' := by
  have KW := writeM_any (lo := 0) (w := w) (MsM.none_ ⟨7, true, 0, 0, 0⟩ w) (MsOk.none_ _) ⟨Nat.zero_le _, Nat.zero_le _, Nat.zero_le _, Nat.zero_le _⟩ hE
  have e1 : writeMv ⟨⟨7, true, 0, 0, 0⟩, [], [], [], []⟩ = b7 := m7_v
  have e2 : writeMe ⟨⟨7, true, 0, 0, 0⟩, [], [], [], []⟩ = fl0 := m7_e
  rw [e1, e2] at KW
  unfold WriteR at KW
  have KW := Lib.hid KW
  have HG := Lib.hid hg
  clear hE hg e1 e2
  --<< a
  go_enter Tryz.func6, Tryz.ntmps6
  go_wp2_with fail
  refine KW.out.mono ?_
  rintro e w1 ⟨A1, n1, c1, v1, rfl, B1, t1, b1⟩
  obtain rfl := t1.none' rfl
  have hn1 : n1 = 12 := B1.len.symm
  subst hn1
  have KP := parse_any B1 (by omega) (Handle.later b1 (Nat.le_refl _) HG.out)
  rw [b7_m] at KP
  unfold ParseR at KP
  have KP := Lib.hid KP
  have H1 := Lib.hid b1
  clear t1 b1 B1
  go_wp2_with fail
  refine KP.out.mono ?_
  rintro e w2 ⟨sq, sa, su, se, v2, rfl, _, _, _, _, t2, b2⟩
  obtain rfl := t2.none' rfl
  have H2 := Lib.hid (H1.out.trans (b2.mono H1.out.size))
  clear t2 b2
  go_wp2_with (first
    | (refine wpList_store_ms rfl (.tmp 3) (.tmp 13) rfl ⟨7, true, 0, 0, 0⟩ sq sa su se rfl rfl H3.out.1 ?_; intro w4 a4 o4 z4 g4; have b4 := g4 _ _ (Nat.le_refl _) H3.out.2; have H4 := Lib.hid (H2.out.trans (b4.mono H2.out.size)); (have x0 : w4.cell? ⟨w2.heap.size, 0, none⟩ = some (.int .i64 7) := a4.cell 0); (have x1 : w4.cell? ⟨w2.heap.size, 1, none⟩ = some (.bool true) := a4.cell 1); clear a4 o4 z4 g4 b4)
    | (refine wpList_alloc_ms rfl rfl ?_; intro w3 a3 b3 z3; have H3 := Lib.hid (And.intro a3 b3); clear a3 b3 z3))
  go_ret
  exact ⟨rfl, H4.out⟩
  -->>
end Go.Proofs.YtpojiimcdknafabGreatDoor

namespace Go.Proofs.YtpojiimcdknafabGreatDoor
open Go.RowKit
set_option maxRecDepth 100000

theorem port_nat (v : Int) : ∃ x : Nat, x < 65536 ∧ wrap64 ((IntKind.u64.wrap v).tmod 65536) = (x : Int) := by
  have h1 : 0 ≤ IntKind.u64.wrap v := by show 0 ≤ v % 18446744073709551616; omega
  have h2 : (IntKind.u64.wrap v).tmod 65536 = IntKind.u64.wrap v % 65536 := Int.tmod_eq_emod_of_nonneg h1
  refine ⟨(IntKind.u64.wrap v % 65536).toNat, by omega, ?_⟩
  rw [h2]
  unfold wrap64
  omega
theorem heads_bs (w : World) {x y : Nat} (hx : x < 65536) (hy : y < 65536) (T : TypeId) : Bs (w.alloc (.cells #[.int .u8 ((x : Int) / 256), .int .u8 ((x : Int) % 256), .int .u8 ((y : Int) / 256), .int .u8 ((y : Int) % 256), .int .u8 0, .int .u8 0, .int .u8 0, .int .u8 0, .int .u8 0, .int .u8 0, .int .u8 0, .int .u8 0] T)) (some ⟨w.heap.size, 0, none⟩) 12 12 (headsB x y) := by
  have ux : IntKind.u8.wrap ((x : Int) / 256) = (x : Int) / 256 := by show _ % 256 = _; omega
  have uy : IntKind.u8.wrap ((y : Int) / 256) = (y : Int) / 256 := by show _ % 256 = _; omega
  exact Bs.lit w _ 12 rfl (by unfold maxLen; omega) _ (by rw [headsB_cells, ux, uy]; rfl) T
theorem heads_cell {w w' : World} {b off n c : Nat} {l : List UInt8} (h : Bs w (some ⟨b, off, none⟩) n c l) (hb : Below w.heap.size w w') (j : Nat) (u : Value) (hj : (bv l)[j]? = some u) : w'.cell? ⟨b, off + j, none⟩ = some u := by
  obtain ⟨x, hx, rfl⟩ := bv_get hj
  obtain ⟨b', off', e0, hc⟩ := (h.later hb (Nat.le_refl _)).here (by have := h.len; have := (List.getElem?_eq_some_iff.1 hx).1; omega)
  cases e0
  exact hc j x hx
theorem or_bytes {y : Nat} (hy : y < 65536) : bits .or .i64 (IntKind.i64.wrap (IntKind.i64.wrap ((y : Int) / 256) * 256)) (IntKind.i64.wrap ((y : Int) % 256)) = (y : Int) := by
  have e := i64_or_byte (y / 256) (y % 256) (by omega) (by omega)
  rw [show IntKind.i64.wrap ((y : Int) / 256) = ((y / 256 : Nat) : Int) by rw [IntKind.wrap_i64]; omega, show IntKind.i64.wrap (((y / 256 : Nat) : Int) * 256) = ((y / 256 : Nat) : Int) * 256 by rw [IntKind.wrap_i64]; omega, show IntKind.i64.wrap ((y : Int) % 256) = ((y % 256 : Nat) : Int) by rw [IntKind.wrap_i64]; omega, e]
  omega
set_option maxHeartbeats 4000000 in
theorem dnsmsgHeads (id b : Int) {w : World} (hE : Env w) (hg : Handle w) : Calls Tryz.prog 3 #[.int .i64 id, .int .i64 b] w fun e w' => e = .returned (.bool true) ∧ Below w.heap.size w w' := by
  obtain ⟨x, hx, ex⟩ := port_nat id
  obtain ⟨y, hy, ey⟩ := port_nat b
  have HE := Lib.hid (And.intro hE hg)
  have b0 : Below w.heap.size w (w.alloc (.cells #[.int .u8 ((x : Int) / 256), .int .u8 ((x : Int) % 256), .int .u8 ((y : Int) / 256), .int .u8 ((y : Int) % 256), .int .u8 0, .int .u8 0, .int .u8 0, .int .u8 0, .int .u8 0, .int .u8 0, .int .u8 0, .int .u8 0] 5)) := (Below.refl _ _).alloc (Nat.le_refl _) _
  have KP := parse_any (heads_bs w hx hy 5) (by omega) (Handle.later b0 (Nat.le_refl _) hg)
  rw [headsB_parsed hx hy] at KP
  unfold ParseR at KP
  have KP := Lib.hid KP
  have H0 := Lib.hid b0
  clear b0 hE hg
  --<< a
  go_enter Tryz.func3, Tryz.ntmps3
  go_wp2_with fail
  refine KP.out.mono ?_
  rintro e w1 ⟨sq, sa, su, se, v1, rfl, hq, ha, hu, he, t1, b1⟩
  obtain rfl := t1.none' rfl
  have H1 := Lib.hid (And.intro (MsM.mk (m := ⟨begunV x y, [], [], [], []⟩) hq ha hu he) (H0.out.trans (b1.mono H0.out.size)))
  have nq : sq.n = 0 := hq.len.symm
  have na : sa.n = 0 := ha.len.symm
  have nu : su.n = 0 := hu.len.symm
  have ne : se.n = 0 := he.len.symm
  clear t1 b1 hq ha hu he
  go_wp2_with (first
    | (refine wpList_store_ms rfl (.tmp 5) (.tmp 30) rfl (begunV x y) sq sa su se rfl rfl H2.out.1 ?_; intro w3 a3 o3 z3 g3; have b3 := g3 _ _ (Nat.le_refl _) H2.out.2; have H3 := Lib.hid (And.intro a3 (And.intro (H1.out.1.later b3 (Nat.le_refl _)) (H1.out.2.trans (b3.mono H1.out.2.size)))); clear a3 o3 z3 g3 b3)
    | (refine wpList_load_ms rfl (.tmp 5) rfl rfl H3.out.1 ?_)
    | (refine wpList_alloc_ms rfl rfl ?_; intro w2 a2 b2 z2; have H2 := Lib.hid (And.intro a2 b2); clear a2 b2 z2))
  have KW := writeM_any H3.out.2.1 (MsOk.none_ _) ⟨by omega, by omega, by omega, by omega⟩ (Env.later HE.out.1 H3.out.2.2 (Nat.le_refl _))
  rw [(headsB_written hx hy).1, (headsB_written hx hy).2] at KW
  unfold WriteR at KW
  refine KW.mono ?_
  rintro e w4 ⟨A4, n4, c4, v4, rfl, hB4, t4, b4⟩
  obtain rfl := t4.none' rfl
  have hn4 : n4 = 12 := hB4.len.symm
  subst hn4
  have H4 := Lib.hid (And.intro (H3.out.1.later b4 (Nat.le_refl _)) (And.intro hB4 (H3.out.2.2.trans (b4.mono H3.out.2.2.size))))
  clear KW t4 b4 hB4
  obtain ⟨bb, off, rfl, _⟩ := H4.out.2.1.here (by decide)
  have rb2 : ∀ w', Below w4.heap.size w4 w' → w'.cell? ⟨bb, off + 2, none⟩ = some (.int .u8 ((y : Int) / 256)) := fun w' h => by
    have e := heads_cell H4.out.2.1 h 2 (.int .u8 ((y : Int) / 256)) (by rw [headsB_cells, show IntKind.u8.wrap ((y : Int) / 256) = (y : Int) / 256 by show _ % 256 = _; omega]; rfl)
    exact e
  have rb3 : ∀ w', Below w4.heap.size w4 w' → w'.cell? ⟨bb, off + 3, none⟩ = some (.int .u8 ((y : Int) % 256)) := fun w' h => by
    have e := heads_cell H4.out.2.1 h 3 (.int .u8 ((y : Int) % 256)) (by rw [headsB_cells]; rfl)
    exact e
  have KA := Lib.hid (fun w5 (b : Below w4.heap.size w4 w5) => awake14 (Env.later HE.out.1 (H4.out.2.2.trans (b.mono H4.out.2.2.size)) (Nat.le_refl _)) (Handle.later (H4.out.2.2.trans (b.mono H4.out.2.2.size)) (Nat.le_refl _) HE.out.2))
  have rc0 : ∀ w', Below w4.heap.size w4 w' → w'.cell? ⟨w1.heap.size, 0, none⟩ = some (.int .i64 (x : Int)) := fun w' h => (h.cell H4.out.1.lt).trans (H4.out.1.cell 0)
  have rc1 : ∀ w', Below w4.heap.size w4 w' → w'.cell? ⟨w1.heap.size, 1, none⟩ = some (.bool (decide (32768 ≤ (y : Int)))) := fun w' h => ((h.cell H4.out.1.lt).trans (H4.out.1.cell 1)).trans (congrArg (fun b => some (Value.bool b)) (decide_eq_decide.2 (by omega)))
  have rc2 : ∀ w', Below w4.heap.size w4 w' → w'.cell? ⟨w1.heap.size, 2, none⟩ = some (.int .i64 ((y / 2048 % 16 : Nat) : Int)) := fun w' h => (h.cell H4.out.1.lt).trans (H4.out.1.cell 2)
  have rc3 : ∀ w', Below w4.heap.size w4 w' → w'.cell? ⟨w1.heap.size, 3, none⟩ = some (.int .i64 ((y % 16 : Nat) : Int)) := fun w' h => (h.cell H4.out.1.lt).trans (H4.out.1.cell 3)
  have rc4 : ∀ w', Below w4.heap.size w4 w' → w'.cell? ⟨w1.heap.size, 4, none⟩ = some (.int .i64 ((y / 16 % 128 : Nat) : Int)) := fun w' h => (h.cell H4.out.1.lt).trans (H4.out.1.cell 4)
  go_wp2_with fail
  have HAND := Lib.hid (And.intro (show bits .and .i64 ((y : Int) / 2048) 15 = (y : Int) / 2048 % 16 by have e := and_low (v := y / 2048) (j := 4) (by omega) (by decide); simpa using e) (And.intro (show bits .and .i64 ((y : Int) / 16) 127 = (y : Int) / 16 % 128 by have e := and_low (v := y / 16) (j := 7) (by omega) (by decide); simpa using e) (show bits .and .i64 (y : Int) 15 = (y : Int) % 16 by have e := and_low (v := y) (j := 4) (by omega) (by decide); simpa using e)))
  have hS : Below w4.heap.size w4 w4.drew := (Below.refl _ _).drew
  refine rg_begin (fun w' => Below w4.heap.size w4 w') 65 (by kernel_rfl) rfl ?_
  refine rg_step 0 rfl (by kernel_rfl) (by rfl) (fun K hK => ?_)
  go_simp
  refine (KA.out _ hS).mono ?_
  rintro e w5 ⟨rfl, g5⟩
  replace hS := hS.trans (g5.mono hS.size)
  clear g5
  refine hK.out _ _ hS ?_
  clear hK K
  try simp only [Act.put, List.setIfInBounds_toArray, List.set_cons_zero, List.set_cons_succ]
  refine rg_take 1 (v := ?rv1) rfl (by kernel_rfl) (by kernel_rfl) (by kernel_rfl) (fun _ _ _ h => h) (by rfl) hS (fun w2 hw2 => ?ry1) ?rr1
  case ry1 => ((try dsimp only at hw2); go_simp <;> with_reducible rfl)
  simp only [Act.put, List.setIfInBounds_toArray, List.set_cons_zero, List.set_cons_succ]
  refine rg_take 2 (v := ?rv2) rfl (by kernel_rfl) (by kernel_rfl) (by kernel_rfl) (fun _ _ _ h => h) (by rfl) hS (fun w2 hw2 => ?ry2) ?rr2
  case ry2 => ((try dsimp only at hw2); go_simp <;> with_reducible rfl)
  simp only [Act.put, List.setIfInBounds_toArray, List.set_cons_zero, List.set_cons_succ]
  refine rg_take 3 (v := ?rv3) rfl (by kernel_rfl) (by kernel_rfl) (by kernel_rfl) (fun _ _ _ h => h) (by rfl) hS (fun w2 hw2 => ?ry3) ?rr3
  case ry3 => ((try dsimp only at hw2); go_simp <;> with_reducible rfl)
  simp only [Act.put, List.setIfInBounds_toArray, List.set_cons_zero, List.set_cons_succ]
  refine rg_take 4 (v := ?rv4) rfl (by kernel_rfl) (by kernel_rfl) (by kernel_rfl) (fun _ _ _ h => h) (by rfl) hS (fun w2 hw2 => ?ry4) ?rr4
  case ry4 => ((try dsimp only at hw2); go_simp <;> with_reducible rfl)
  simp only [Act.put, List.setIfInBounds_toArray, List.set_cons_zero, List.set_cons_succ]
  refine rg_take 5 (v := ?rv5) rfl (by kernel_rfl) (by kernel_rfl) (by kernel_rfl) (fun _ _ _ h => h) (by rfl) hS (fun w2 hw2 => ?ry5) ?rr5
  case ry5 => ((try dsimp only at hw2); go_simp <;> with_reducible rfl)
  simp only [Act.put, List.setIfInBounds_toArray, List.set_cons_zero, List.set_cons_succ]
  refine rg_take 6 (v := ?rv6) rfl (by kernel_rfl) (by kernel_rfl) (by kernel_rfl) (fun _ _ _ h => h) (by rfl) hS (fun w2 hw2 => ?ry6) ?rr6
  case ry6 => ((try dsimp only at hw2); go_simp <;> with_reducible rfl)
  simp only [Act.put, List.setIfInBounds_toArray, List.set_cons_zero, List.set_cons_succ]
  refine rg_take 7 (v := ?rv7) rfl (by kernel_rfl) (by kernel_rfl) (by kernel_rfl) (fun _ _ _ h => h) (by rfl) hS (fun w2 hw2 => ?ry7) ?rr7
  case ry7 => ((try dsimp only at hw2); go_simp <;> with_reducible rfl)
  simp only [Act.put, List.setIfInBounds_toArray, List.set_cons_zero, List.set_cons_succ]
  refine rg_take 8 (v := ?rv8) rfl (by kernel_rfl) (by kernel_rfl) (by kernel_rfl) (fun _ _ _ h => h) (by rfl) hS (fun w2 hw2 => ?ry8) ?rr8
  case ry8 => ((try dsimp only at hw2); go_simp <;> with_reducible rfl)
  simp only [Act.put, List.setIfInBounds_toArray, List.set_cons_zero, List.set_cons_succ]
  refine rg_take 9 (v := ?rv9) rfl (by kernel_rfl) (by kernel_rfl) (by kernel_rfl) (fun _ _ _ h => h) (by rfl) hS (fun w2 hw2 => ?ry9) ?rr9
  case ry9 => ((try dsimp only at hw2); go_simp <;> with_reducible rfl)
  simp only [Act.put, List.setIfInBounds_toArray, List.set_cons_zero, List.set_cons_succ]
  refine rg_take 10 (v := ?rv10) rfl (by kernel_rfl) (by kernel_rfl) (by kernel_rfl) (fun _ _ _ h => h) (by rfl) hS (fun w2 hw2 => ?ry10) ?rr10
  case ry10 => ((try dsimp only at hw2); go_simp <;> with_reducible rfl)
  simp only [Act.put, List.setIfInBounds_toArray, List.set_cons_zero, List.set_cons_succ]
  refine rg_take 11 (v := ?rv11) rfl (by kernel_rfl) (by kernel_rfl) (by kernel_rfl) (fun _ _ _ h => h) (by rfl) hS (fun w2 hw2 => ?ry11) ?rr11
  case ry11 => ((try dsimp only at hw2); go_simp <;> with_reducible rfl)
  simp only [Act.put, List.setIfInBounds_toArray, List.set_cons_zero, List.set_cons_succ]
  refine rg_take 12 (v := ?rv12) rfl (by kernel_rfl) (by kernel_rfl) (by kernel_rfl) (fun _ _ _ h => h) (by rfl) hS (fun w2 hw2 => ?ry12) ?rr12
  case ry12 => ((try dsimp only at hw2); go_simp <;> with_reducible rfl)
  simp only [Act.put, List.setIfInBounds_toArray, List.set_cons_zero, List.set_cons_succ]
  refine rg_take 13 (v := ?rv13) rfl (by kernel_rfl) (by kernel_rfl) (by kernel_rfl) (fun _ _ _ h => h) (by rfl) hS (fun w2 hw2 => ?ry13) ?rr13
  case ry13 => ((try dsimp only at hw2); go_simp <;> with_reducible rfl)
  simp only [Act.put, List.setIfInBounds_toArray, List.set_cons_zero, List.set_cons_succ]
  refine rg_take 14 (v := ?rv14) rfl (by kernel_rfl) (by kernel_rfl) (by kernel_rfl) (fun _ _ _ h => h) (by rfl) hS (fun w2 hw2 => ?ry14) ?rr14
  case ry14 => ((try dsimp only at hw2); go_simp <;> with_reducible rfl)
  simp only [Act.put, List.setIfInBounds_toArray, List.set_cons_zero, List.set_cons_succ]
  refine rg_take 15 (v := ?rv15) rfl (by kernel_rfl) (by kernel_rfl) (by kernel_rfl) (fun _ _ _ h => h) (by rfl) hS (fun w2 hw2 => ?ry15) ?rr15
  case ry15 => ((try dsimp only at hw2); go_simp <;> with_reducible rfl)
  simp only [Act.put, List.setIfInBounds_toArray, List.set_cons_zero, List.set_cons_succ]
  refine rg_take 16 (v := ?rv16) rfl (by kernel_rfl) (by kernel_rfl) (by kernel_rfl) (fun _ _ _ h => h) (by rfl) hS (fun w2 hw2 => ?ry16) ?rr16
  case ry16 => ((try dsimp only at hw2); go_simp <;> with_reducible rfl)
  simp only [Act.put, List.setIfInBounds_toArray, List.set_cons_zero, List.set_cons_succ]
  refine rg_take 17 (v := ?rv17) rfl (by kernel_rfl) (by kernel_rfl) (by kernel_rfl) (fun _ _ _ h => h) (by rfl) hS (fun w2 hw2 => ?ry17) ?rr17
  case ry17 => ((try dsimp only at hw2); go_simp <;> with_reducible rfl)
  simp only [Act.put, List.setIfInBounds_toArray, List.set_cons_zero, List.set_cons_succ]
  refine rg_take 18 (v := ?rv18) rfl (by kernel_rfl) (by kernel_rfl) (by kernel_rfl) (fun _ _ _ h => h) (by rfl) hS (fun w2 hw2 => ?ry18) ?rr18
  case ry18 => ((try dsimp only at hw2); go_simp <;> with_reducible rfl)
  simp only [Act.put, List.setIfInBounds_toArray, List.set_cons_zero, List.set_cons_succ]
  refine rg_take 19 (v := ?rv19) rfl (by kernel_rfl) (by kernel_rfl) (by kernel_rfl) (fun _ _ _ h => h) (by rfl) hS (fun w2 hw2 => ?ry19) ?rr19
  case ry19 => ((try dsimp only at hw2); go_simp <;> with_reducible rfl)
  simp only [Act.put, List.setIfInBounds_toArray, List.set_cons_zero, List.set_cons_succ]
  refine rg_take 20 (v := ?rv20) rfl (by kernel_rfl) (by kernel_rfl) (by kernel_rfl) (fun _ _ _ h => h) (by rfl) hS (fun w2 hw2 => ?ry20) ?rr20
  case ry20 => ((try dsimp only at hw2); go_simp <;> with_reducible rfl)
  simp only [Act.put, List.setIfInBounds_toArray, List.set_cons_zero, List.set_cons_succ]
  refine rg_take 21 (v := ?rv21) rfl (by kernel_rfl) (by kernel_rfl) (by kernel_rfl) (fun _ _ _ h => h) (by rfl) hS (fun w2 hw2 => ?ry21) ?rr21
  case ry21 => ((try dsimp only at hw2); go_simp <;> with_reducible rfl)
  simp only [Act.put, List.setIfInBounds_toArray, List.set_cons_zero, List.set_cons_succ]
  refine rg_take 22 (v := ?rv22) rfl (by kernel_rfl) (by kernel_rfl) (by kernel_rfl) (fun _ _ _ h => h) (by rfl) hS (fun w2 hw2 => ?ry22) ?rr22
  case ry22 => ((try dsimp only at hw2); go_simp <;> with_reducible rfl)
  simp only [Act.put, List.setIfInBounds_toArray, List.set_cons_zero, List.set_cons_succ]
  refine rg_take 23 (v := ?rv23) rfl (by kernel_rfl) (by kernel_rfl) (by kernel_rfl) (fun _ _ _ h => h) (by rfl) hS (fun w2 hw2 => ?ry23) ?rr23
  case ry23 => ((try dsimp only at hw2); go_simp <;> with_reducible rfl)
  simp only [Act.put, List.setIfInBounds_toArray, List.set_cons_zero, List.set_cons_succ]
  rw [HAND.out.1]
  refine rg_take 24 (v := ?rv24) rfl (by kernel_rfl) (by kernel_rfl) (by kernel_rfl) (fun _ _ _ h => h) (by rfl) hS (fun w2 hw2 => ?ry24) ?rr24
  case ry24 => ((try dsimp only at hw2); go_simp <;> with_reducible rfl)
  simp only [Act.put, List.setIfInBounds_toArray, List.set_cons_zero, List.set_cons_succ]
  refine rg_take 25 (v := ?rv25) rfl (by kernel_rfl) (by kernel_rfl) (by kernel_rfl) (fun _ _ _ h => h) (by rfl) hS (fun w2 hw2 => ?ry25) ?rr25
  case ry25 => ((try dsimp only at hw2); go_simp <;> with_reducible rfl)
  simp only [Act.put, List.setIfInBounds_toArray, List.set_cons_zero, List.set_cons_succ]
  refine rg_take 26 (v := ?rv26) rfl (by kernel_rfl) (by kernel_rfl) (by kernel_rfl) (fun _ _ _ h => h) (by rfl) hS (fun w2 hw2 => ?ry26) ?rr26
  case ry26 => ((try dsimp only at hw2); go_simp <;> with_reducible rfl)
  simp only [Act.put, List.setIfInBounds_toArray, List.set_cons_zero, List.set_cons_succ]
  refine rg_take 27 (v := ?rv27) rfl (by kernel_rfl) (by kernel_rfl) (by kernel_rfl) (fun _ _ _ h => h) (by rfl) hS (fun w2 hw2 => ?ry27) ?rr27
  case ry27 => ((try dsimp only at hw2); go_simp <;> with_reducible rfl)
  simp only [Act.put, List.setIfInBounds_toArray, List.set_cons_zero, List.set_cons_succ]
  refine rg_take 28 (v := ?rv28) rfl (by kernel_rfl) (by kernel_rfl) (by kernel_rfl) (fun _ _ _ h => h) (by rfl) hS (fun w2 hw2 => ?ry28) ?rr28
  case ry28 => ((try dsimp only at hw2); go_simp <;> with_reducible rfl)
  simp only [Act.put, List.setIfInBounds_toArray, List.set_cons_zero, List.set_cons_succ]
  refine rg_take 29 (v := ?rv29) rfl (by kernel_rfl) (by kernel_rfl) (by kernel_rfl) (fun _ _ _ h => h) (by rfl) hS (fun w2 hw2 => ?ry29) ?rr29
  case ry29 => ((try dsimp only at hw2); go_simp <;> with_reducible rfl)
  simp only [Act.put, List.setIfInBounds_toArray, List.set_cons_zero, List.set_cons_succ]
  refine rg_take 30 (v := ?rv30) rfl (by kernel_rfl) (by kernel_rfl) (by kernel_rfl) (fun _ _ _ h => h) (by rfl) hS (fun w2 hw2 => ?ry30) ?rr30
  case ry30 => ((try dsimp only at hw2); go_simp <;> with_reducible rfl)
  simp only [Act.put, List.setIfInBounds_toArray, List.set_cons_zero, List.set_cons_succ]
  refine rg_take 31 (v := ?rv31) rfl (by kernel_rfl) (by kernel_rfl) (by kernel_rfl) (fun _ _ _ h => h) (by rfl) hS (fun w2 hw2 => ?ry31) ?rr31
  case ry31 => ((try dsimp only at hw2); go_simp <;> with_reducible rfl)
  simp only [Act.put, List.setIfInBounds_toArray, List.set_cons_zero, List.set_cons_succ]
  rw [HAND.out.2.1]
  refine rg_take 32 (v := ?rv32) rfl (by kernel_rfl) (by kernel_rfl) (by kernel_rfl) (fun _ _ _ h => h) (by rfl) hS (fun w2 hw2 => ?ry32) ?rr32
  case ry32 => ((try dsimp only at hw2); go_simp <;> with_reducible rfl)
  simp only [Act.put, List.setIfInBounds_toArray, List.set_cons_zero, List.set_cons_succ]
  refine rg_take 33 (v := ?rv33) rfl (by kernel_rfl) (by kernel_rfl) (by kernel_rfl) (fun _ _ _ h => h) (by rfl) hS (fun w2 hw2 => ?ry33) ?rr33
  case ry33 => ((try dsimp only at hw2); go_simp <;> with_reducible rfl)
  simp only [Act.put, List.setIfInBounds_toArray, List.set_cons_zero, List.set_cons_succ]
  refine rg_take 34 (v := ?rv34) rfl (by kernel_rfl) (by kernel_rfl) (by kernel_rfl) (fun _ _ _ h => h) (by rfl) hS (fun w2 hw2 => ?ry34) ?rr34
  case ry34 => ((try dsimp only at hw2); go_simp <;> with_reducible rfl)
  simp only [Act.put, List.setIfInBounds_toArray, List.set_cons_zero, List.set_cons_succ]
  refine rg_take 35 (v := ?rv35) rfl (by kernel_rfl) (by kernel_rfl) (by kernel_rfl) (fun _ _ _ h => h) (by rfl) hS (fun w2 hw2 => ?ry35) ?rr35
  case ry35 => ((try dsimp only at hw2); go_simp <;> with_reducible rfl)
  simp only [Act.put, List.setIfInBounds_toArray, List.set_cons_zero, List.set_cons_succ]
  refine rg_take 36 (v := ?rv36) rfl (by kernel_rfl) (by kernel_rfl) (by kernel_rfl) (fun _ _ _ h => h) (by rfl) hS (fun w2 hw2 => ?ry36) ?rr36
  case ry36 => ((try dsimp only at hw2); go_simp <;> with_reducible rfl)
  simp only [Act.put, List.setIfInBounds_toArray, List.set_cons_zero, List.set_cons_succ]
  refine rg_take 37 (v := ?rv37) rfl (by kernel_rfl) (by kernel_rfl) (by kernel_rfl) (fun _ _ _ h => h) (by rfl) hS (fun w2 hw2 => ?ry37) ?rr37
  case ry37 => ((try dsimp only at hw2); go_simp <;> with_reducible rfl)
  simp only [Act.put, List.setIfInBounds_toArray, List.set_cons_zero, List.set_cons_succ]
  refine rg_take 38 (v := ?rv38) rfl (by kernel_rfl) (by kernel_rfl) (by kernel_rfl) (fun _ _ _ h => h) (by rfl) hS (fun w2 hw2 => ?ry38) ?rr38
  case ry38 => ((try dsimp only at hw2); go_simp <;> with_reducible rfl)
  simp only [Act.put, List.setIfInBounds_toArray, List.set_cons_zero, List.set_cons_succ]
  rw [HAND.out.2.2]
  refine rg_take 39 (v := ?rv39) rfl (by kernel_rfl) (by kernel_rfl) (by kernel_rfl) (fun _ _ _ h => h) (by rfl) hS (fun w2 hw2 => ?ry39) ?rr39
  case ry39 => ((try dsimp only at hw2); go_simp <;> with_reducible rfl)
  simp only [Act.put, List.setIfInBounds_toArray, List.set_cons_zero, List.set_cons_succ]
  refine rg_take 40 (v := ?rv40) rfl (by kernel_rfl) (by kernel_rfl) (by kernel_rfl) (fun _ _ _ h => h) (by rfl) hS (fun w2 hw2 => ?ry40) ?rr40
  case ry40 => ((try dsimp only at hw2); go_simp <;> with_reducible rfl)
  simp only [Act.put, List.setIfInBounds_toArray, List.set_cons_zero, List.set_cons_succ]
  refine rg_take 41 (v := ?rv41) rfl (by kernel_rfl) (by kernel_rfl) (by kernel_rfl) (fun _ _ _ h => h) (by rfl) hS (fun w2 hw2 => ?ry41) ?rr41
  case ry41 => ((try dsimp only at hw2); go_simp <;> with_reducible rfl)
  simp only [Act.put, List.setIfInBounds_toArray, List.set_cons_zero, List.set_cons_succ]
  refine rg_take 42 (v := ?rv42) rfl (by kernel_rfl) (by kernel_rfl) (by kernel_rfl) (fun _ _ _ h => h) (by rfl) hS (fun w2 hw2 => ?ry42) ?rr42
  case ry42 => ((try dsimp only at hw2); go_simp <;> with_reducible rfl)
  simp only [Act.put, List.setIfInBounds_toArray, List.set_cons_zero, List.set_cons_succ]
  refine rg_take 43 (v := ?rv43) rfl (by kernel_rfl) (by kernel_rfl) (by kernel_rfl) (fun _ _ _ h => h) (by rfl) hS (fun w2 hw2 => ?ry43) ?rr43
  case ry43 => ((try dsimp only at hw2); go_simp <;> with_reducible rfl)
  simp only [Act.put, List.setIfInBounds_toArray, List.set_cons_zero, List.set_cons_succ]
  refine rg_take 44 (v := ?rv44) rfl (by kernel_rfl) (by kernel_rfl) (by kernel_rfl) (fun _ _ _ h => h) (by rfl) hS (fun w2 hw2 => ?ry44) ?rr44
  case ry44 => ((try dsimp only at hw2); go_simp <;> with_reducible rfl)
  simp only [Act.put, List.setIfInBounds_toArray, List.set_cons_zero, List.set_cons_succ]
  refine rg_take 45 (v := ?rv45) rfl (by kernel_rfl) (by kernel_rfl) (by kernel_rfl) (fun _ _ _ h => h) (by rfl) hS (fun w2 hw2 => ?ry45) ?rr45
  case ry45 => ((try dsimp only at hw2); go_simp <;> with_reducible rfl)
  simp only [Act.put, List.setIfInBounds_toArray, List.set_cons_zero, List.set_cons_succ]
  refine rg_take 46 (v := ?rv46) rfl (by kernel_rfl) (by kernel_rfl) (by kernel_rfl) (fun _ _ _ h => h) (by rfl) hS (fun w2 hw2 => ?ry46) ?rr46
  case ry46 => ((try dsimp only at hw2); go_simp <;> with_reducible rfl)
  simp only [Act.put, List.setIfInBounds_toArray, List.set_cons_zero, List.set_cons_succ]
  refine rg_take 47 (v := ?rv47) rfl (by kernel_rfl) (by kernel_rfl) (by kernel_rfl) (fun _ _ _ h => h) (by rfl) hS (fun w2 hw2 => ?ry47) ?rr47
  case ry47 => ((try dsimp only at hw2); go_simp <;> with_reducible rfl)
  simp only [Act.put, List.setIfInBounds_toArray, List.set_cons_zero, List.set_cons_succ]
  refine rg_take 48 (v := ?rv48) rfl (by kernel_rfl) (by kernel_rfl) (by kernel_rfl) (fun _ _ _ h => h) (by rfl) hS (fun w2 hw2 => ?ry48) ?rr48
  case ry48 => ((try dsimp only at hw2); go_simp <;> with_reducible rfl)
  simp only [Act.put, List.setIfInBounds_toArray, List.set_cons_zero, List.set_cons_succ]
  refine rg_take 49 (v := ?rv49) rfl (by kernel_rfl) (by kernel_rfl) (by kernel_rfl) (fun _ _ _ h => h) (by rfl) hS (fun w2 hw2 => ?ry49) ?rr49
  case ry49 => ((try dsimp only at hw2); go_simp <;> with_reducible rfl)
  simp only [Act.put, List.setIfInBounds_toArray, List.set_cons_zero, List.set_cons_succ]
  refine rg_take 50 (v := ?rv50) rfl (by kernel_rfl) (by kernel_rfl) (by kernel_rfl) (fun _ _ _ h => h) (by rfl) hS (fun w2 hw2 => ?ry50) ?rr50
  case ry50 => ((try dsimp only at hw2); go_simp <;> with_reducible rfl)
  simp only [Act.put, List.setIfInBounds_toArray, List.set_cons_zero, List.set_cons_succ]
  refine rg_take 51 (v := ?rv51) rfl (by kernel_rfl) (by kernel_rfl) (by kernel_rfl) (fun _ _ _ h => h) (by rfl) hS (fun w2 hw2 => ?ry51) ?rr51
  case ry51 => ((try dsimp only at hw2); go_simp <;> with_reducible rfl)
  simp only [Act.put, List.setIfInBounds_toArray, List.set_cons_zero, List.set_cons_succ]
  refine rg_take 56 (v := ?rv52) rfl (by kernel_rfl) (by kernel_rfl) (by kernel_rfl) (fun _ _ _ h => h) (by rfl) hS (fun w2 hw2 => ?ry52) ?rr52
  case ry52 => ((try dsimp only at hw2); go_simp <;> with_reducible rfl)
  simp only [Act.put, List.setIfInBounds_toArray, List.set_cons_zero, List.set_cons_succ]
  refine rg_take 61 (v := ?rv53) rfl (by kernel_rfl) (by kernel_rfl) (by kernel_rfl) (fun _ _ _ h => h) (by rfl) hS (fun w2 hw2 => ?ry53) ?rr53
  case ry53 => ((try dsimp only at hw2); go_simp <;> with_reducible rfl)
  simp only [Act.put, List.setIfInBounds_toArray, List.set_cons_zero, List.set_cons_succ]
  refine rg_take 52 (v := ?rv54) rfl (by kernel_rfl) (by kernel_rfl) (by kernel_rfl) (fun _ _ _ h => h) (by rfl) hS (fun w2 hw2 => ?ry54) ?rr54
  case ry54 => ((try dsimp only at hw2); go_simp <;> with_reducible rfl)
  simp only [Act.put, List.setIfInBounds_toArray, List.set_cons_zero, List.set_cons_succ]
  refine rg_take 57 (v := ?rv55) rfl (by kernel_rfl) (by kernel_rfl) (by kernel_rfl) (fun _ _ _ h => h) (by rfl) hS (fun w2 hw2 => ?ry55) ?rr55
  case ry55 => ((try dsimp only at hw2); go_simp <;> with_reducible rfl)
  simp only [Act.put, List.setIfInBounds_toArray, List.set_cons_zero, List.set_cons_succ]
  refine rg_take 53 (v := ?rv56) rfl (by kernel_rfl) (by kernel_rfl) (by kernel_rfl) (fun _ _ _ h => h) (by rfl) hS (fun w2 hw2 => ?ry56) ?rr56
  case ry56 => ((try dsimp only at hw2); go_simp <;> with_reducible rfl)
  simp only [Act.put, List.setIfInBounds_toArray, List.set_cons_zero, List.set_cons_succ]
  refine rg_take 58 (v := ?rv57) rfl (by kernel_rfl) (by kernel_rfl) (by kernel_rfl) (fun _ _ _ h => h) (by rfl) hS (fun w2 hw2 => ?ry57) ?rr57
  case ry57 => ((try dsimp only at hw2); go_simp <;> with_reducible rfl)
  simp only [Act.put, List.setIfInBounds_toArray, List.set_cons_zero, List.set_cons_succ]
  refine rg_take 54 (v := ?rv58) rfl (by kernel_rfl) (by kernel_rfl) (by kernel_rfl) (fun _ _ _ h => h) (by rfl) hS (fun w2 hw2 => ?ry58) ?rr58
  case ry58 => ((try dsimp only at hw2); go_simp <;> with_reducible rfl)
  simp only [Act.put, List.setIfInBounds_toArray, List.set_cons_zero, List.set_cons_succ]
  refine rg_take 59 (v := ?rv59) rfl (by kernel_rfl) (by kernel_rfl) (by kernel_rfl) (fun _ _ _ h => h) (by rfl) hS (fun w2 hw2 => ?ry59) ?rr59
  case ry59 => ((try dsimp only at hw2); go_simp <;> with_reducible rfl)
  simp only [Act.put, List.setIfInBounds_toArray, List.set_cons_zero, List.set_cons_succ]
  refine rg_take 55 (v := ?rv60) rfl (by kernel_rfl) (by kernel_rfl) (by kernel_rfl) (fun _ _ _ h => h) (by rfl) hS (fun w2 hw2 => ?ry60) ?rr60
  case ry60 => ((try dsimp only at hw2); go_simp <;> with_reducible rfl)
  simp only [Act.put, List.setIfInBounds_toArray, List.set_cons_zero, List.set_cons_succ]
  refine rg_take 60 (v := ?rv61) rfl (by kernel_rfl) (by kernel_rfl) (by kernel_rfl) (fun _ _ _ h => h) (by rfl) hS (fun w2 hw2 => ?ry61) ?rr61
  case ry61 => ((try dsimp only at hw2); go_simp <;> with_reducible rfl)
  simp only [Act.put, List.setIfInBounds_toArray, List.set_cons_zero, List.set_cons_succ]
  rw [or_bytes hy]
  refine rg_take 62 (v := ?rv62) rfl (by kernel_rfl) (by kernel_rfl) (by kernel_rfl) (fun _ _ _ h => h) (by rfl) hS (fun w2 hw2 => ?ry62) ?rr62
  case ry62 => ((try dsimp only at hw2); go_simp <;> with_reducible rfl)
  simp only [Act.put, List.setIfInBounds_toArray, List.set_cons_zero, List.set_cons_succ]
  refine rg_take 63 (v := ?rv63) rfl (by kernel_rfl) (by kernel_rfl) (by kernel_rfl) (fun _ _ _ h => h) (by rfl) hS (fun w2 hw2 => ?ry63) ?rr63
  case ry63 => ((try dsimp only at hw2); go_simp <;> with_reducible rfl)
  simp only [Act.put, List.setIfInBounds_toArray, List.set_cons_zero, List.set_cons_succ]
  refine rg_take 64 (v := ?rv64) rfl (by kernel_rfl) (by kernel_rfl) (by kernel_rfl) (fun _ _ _ h => h) (by rfl) hS (fun w2 hw2 => ?ry64) ?rr64
  case ry64 => ((try dsimp only at hw2); go_simp <;> with_reducible rfl)
  simp only [Act.put, List.setIfInBounds_toArray, List.set_cons_zero, List.set_cons_succ]
  refine rg_done (by kernel_rfl) ?_
  go_wp2_with fail
  go_ret
  exact ⟨rfl, H4.out.2.2.trans (hS.mono H4.out.2.2.size)⟩
  -->>
end Go.Proofs.YtpojiimcdknafabGreatDoor
