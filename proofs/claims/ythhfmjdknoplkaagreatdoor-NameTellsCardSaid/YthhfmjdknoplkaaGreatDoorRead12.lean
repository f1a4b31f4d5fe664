/-
  Package name's Read: a name in any bytes, or why none. Conditions: those of the slice; 2^47 bytes at most.
-/
import Derived.Test.YthhfmjdknoplkaaGreatDoorRd12
namespace Go.Proofs.YthhfmjdknoplkaaGreatDoor
open Go.RowKit
set_option maxRecDepth 100000

/-- How far Read has come, as its loop holds it. -/
structure RdOk (l : List UInt8) (n : Nat) (s : Rs) (ls : List (List UInt8)) : Prop where
  size : s.size ≤ 255
  one : 1 ≤ s.size
  len : sizeL ls + 1 = s.size
  name : s.name = joinD ls
  ne : ∀ x ∈ ls, x ≠ []
  next : ∀ v, s.next = some v → 2 ≤ v
  big : s.at_ ≤ 9223372036854775807
  bel : s.below ≤ 9223372036854775807
theorem dotted_join {ls : List (List UInt8)} (hne : ∀ x ∈ ls, x ≠ []) (x : List UInt8) : dotted (joinD ls) x = joinD (ls ++ [x]) := by
  unfold dotted
  by_cases h : ls = []
  · subst h; rfl
  · rw [if_neg (joinD_ne h hne), joinD_snoc ls x h]
theorem sizeL_one (ls : List (List UInt8)) (x : List UInt8) : sizeL (ls ++ [x]) = sizeL ls + (1 + x.length) := by
  rw [sizeL_append]; rfl
theorem low_ne {l : List UInt8} (h : labOk l) : l ≠ [] := labOk_ne h
/-- What a step says, by what labelAt answers. -/
inductive Lat (l : List UInt8) (n : Nat) (s : Rs) : List UInt8 × Fl → Prop
  | bad (c : Int) (r : List UInt8) (hc : c ≠ 0) (h14 : c ≠ 14) (h : rstep l n s = .inr (.bad c s.at_)) : Lat l n s (r, ⟨c, s.at_, true⟩)
  | fin (hn : s.at_ < n) (h : rstep l n s = .inr (.ok s.name (s.next.getD (s.at_ + 1)))) : Lat l n s ([], ⟨0, 0, false⟩)
  | lab (x : List UInt8) (hx : labOk x) (hn : s.at_ + 1 + x.length ≤ n) (hs : s.size + 1 + x.length ≤ 255) (h : rstep l n s = .inl ⟨s.at_ + 1 + x.length, s.below, s.size + 1 + x.length, dotted s.name x, s.next⟩) : Lat l n s (x, ⟨0, 0, false⟩)
  | ptr (r : List UInt8) (hn : s.at_ < n) (h : ∀ f, folv l n s.at_ s.below = f → rstep l n s = if f.2.code = 0 then .inl ⟨f.1, f.1, s.size, s.name, some (s.next.getD (s.at_ + 2))⟩ else .inr (.bad f.2.code s.at_)) : Lat l n s (r, ⟨14, s.at_, true⟩)
theorem folv_cases (l : List UInt8) (n at_ below : Nat) : (n ≤ at_ + 1 ∧ folv l n at_ below = (0, ⟨3, at_, true⟩)) ∨ (at_ + 1 < n ∧ below ≤ num2 l at_ % 16384 ∧ folv l n at_ below = (0, ⟨14, at_, true⟩)) ∨ (at_ + 1 < n ∧ num2 l at_ % 16384 < below ∧ folv l n at_ below = (num2 l at_ % 16384, ⟨0, 0, false⟩)) := by
  unfold folv
  by_cases h1 : n ≤ at_ + 1
  · exact .inl ⟨h1, if_pos h1⟩
  · rw [if_neg h1]
    by_cases h2 : below ≤ num2 l at_ % 16384
    · exact .inr (.inl ⟨by omega, h2, if_pos h2⟩)
    · exact .inr (.inr ⟨by omega, by omega, if_neg h2⟩)
theorem lat_of {l : List UInt8} {n : Nat} (hl : l.length = n) (s : Rs) : Lat l n s (latv l n s.at_ (255 - (s.size : Int))) := by
  unfold latv
  by_cases hn : n ≤ s.at_
  · rw [if_pos hn]
    exact .bad 3 _ (by decide) (by decide) (by unfold rstep; rw [if_pos hn])
  · rw [if_neg hn]
    by_cases h0 : bat l s.at_ = 0
    · rw [if_pos h0]
      exact .fin (by omega) (by unfold rstep; rw [if_neg hn, if_pos h0])
    · rw [if_neg h0]
      have hb := bat_lt l s.at_
      have key : ∀ (r : List UInt8) (c : Int), labv (l.drop (s.at_ + 1)) (n - (s.at_ + 1)) (bat l s.at_) (255 - (s.size : Int)) = (r, c) → Lat l n s (if c = 0 then (r, ⟨0, 0, false⟩) else (r, ⟨c, s.at_, true⟩)) → Lat l n s (if (labv (l.drop (s.at_ + 1)) (n - (s.at_ + 1)) (bat l s.at_) (255 - (s.size : Int))).2 = 0 then ((labv (l.drop (s.at_ + 1)) (n - (s.at_ + 1)) (bat l s.at_) (255 - (s.size : Int))).1, ⟨0, 0, false⟩)
          else ((labv (l.drop (s.at_ + 1)) (n - (s.at_ + 1)) (bat l s.at_) (255 - (s.size : Int))).1, ⟨(labv (l.drop (s.at_ + 1)) (n - (s.at_ + 1)) (bat l s.at_) (255 - (s.size : Int))).2, s.at_, true⟩)) := fun r c e h => by rw [e]; exact h
      by_cases hp : 192 ≤ bat l s.at_
      · refine key [] 14 (by unfold labv; rw [if_pos hp]) ?_
        rw [if_neg (by decide)]
        refine .ptr _ (by omega) fun f hf => ?_
        subst hf
        unfold rstep
        rw [if_neg hn, if_neg h0, if_neg (by omega), if_pos hp]
        rcases folv_cases l n s.at_ s.below with ⟨a, e⟩ | ⟨a, b, e⟩ | ⟨a, b, e⟩
        · rw [e, if_pos (by omega)]; rfl
        · rw [e, if_neg (by omega), if_pos b]; rfl
        · rw [e, if_neg (by omega), if_neg (by omega)]; rfl
      · by_cases h63 : 63 < bat l s.at_
        · refine key [] 12 (by unfold labv; rw [if_neg hp, if_pos h63]) ?_
          rw [if_neg (by decide)]
          exact .bad 12 _ (by decide) (by decide) (by unfold rstep; rw [if_neg hn, if_neg h0, if_neg (by omega), if_neg hp])
        · by_cases hsh : n - (s.at_ + 1) < bat l s.at_
          · refine key [] 3 (by unfold labv; rw [if_neg hp, if_neg h63, if_pos hsh]) ?_
            rw [if_neg (by decide)]
            exact .bad 3 _ (by decide) (by decide) (by unfold rstep; rw [if_neg hn, if_neg h0, if_pos (by omega), if_pos (by omega)])
          · have hlen : (lowL ((l.drop (s.at_ + 1)).take (bat l s.at_))).length = bat l s.at_ := by rw [lowL_length, List.length_take, List.length_drop, hl]; omega
            by_cases hok : labOk (lowL ((l.drop (s.at_ + 1)).take (bat l s.at_)))
            · by_cases hbig : 255 - (s.size : Int) < 1 + (bat l s.at_ : Int)
              · refine key [] 13 (by unfold labv; rw [if_neg hp, if_neg h63, if_neg hsh, if_neg (not_not_intro hok), if_pos hbig]) ?_
                rw [if_neg (by decide)]
                exact .bad 13 _ (by decide) (by decide) (by unfold rstep; rw [if_neg hn, if_neg h0, if_pos (by omega), if_neg (by omega), if_neg (not_not_intro hok), if_pos (by omega)])
              · refine key (lowL ((l.drop (s.at_ + 1)).take (bat l s.at_))) 0 (by unfold labv; rw [if_neg hp, if_neg h63, if_neg hsh, if_neg (not_not_intro hok), if_neg hbig]) ?_
                rw [if_pos rfl]
                refine .lab _ hok (by rw [hlen]; omega) (by rw [hlen]; omega) ?_
                rw [hlen]
                unfold rstep
                rw [if_neg hn, if_neg h0, if_pos (by omega), if_neg (by omega), if_neg (not_not_intro hok), if_neg (by omega)]
            · refine key [] 12 (by unfold labv; rw [if_neg hp, if_neg h63, if_neg hsh, if_pos hok]) ?_
              rw [if_neg (by decide)]
              exact .bad 12 _ (by decide) (by decide) (by unfold rstep; rw [if_neg hn, if_neg h0, if_pos (by omega), if_neg (by omega), if_pos hok])

theorem mem_sizeL : ∀ (ls : List (List UInt8)) (x : List UInt8), x ∈ ls → 1 + x.length ≤ sizeL ls
  | [], _, h => by cases h
  | y :: r, x, h => by
    have e : sizeL (y :: r) = (1 + y.length) + sizeL r := rfl
    rw [e]
    rcases List.mem_cons.1 h with rfl | h
    · omega
    · have := mem_sizeL r x h; omega
theorem nx_or (nx : Option Nat) (hn : ∀ v, nx = some v → 2 ≤ v) (k : Nat) : (if ((nx.getD 0 : Nat) : Int) = 0 then (k : Int) else ((nx.getD 0 : Nat) : Int)) = ((nx.getD k : Nat) : Int) := by
  cases nx with
  | none => rfl
  | some v =>
    have := hn v rfl
    rw [if_neg (by simp; omega)]
    rfl
/-- What Read hands back. -/
def ReadR (r : Rd) (w : World) (e : Ending) (w' : World) : Prop := ∃ v, e = .returned (.tuple #[.string (mkS r.name), .int .i64 r.next, v]) ∧ Tells w' v r.f ∧ Below w.heap.size w w'
theorem sv_snoc (ls : List (List UInt8)) (x : List UInt8) : sv (mkSs (ls ++ [x])) = sv (mkSs ls) ++ [.string (mkS x)] := by unfold sv mkSs; simp
set_option maxHeartbeats 2000000 in
theorem read_from {A : Option Addr} {n c : Nat} {l : List UInt8} {w : World} (hb : Bs w A n c l) (h47 : n ≤ 140737488350000) (at_ : Nat) (ha : at_ ≤ 9223372036854775807) : Calls Tryz.prog 6 #[.slice A n c, .int .i64 at_] w (ReadR (readS l n ⟨at_, at_, 1, [], none⟩) w) := by
  have hl := hb.len
  obtain ⟨R, hR⟩ : ∃ R, readS l n ⟨at_, at_, 1, [], none⟩ = R := ⟨_, rfl⟩
  rw [hR]
  have HB := Lib.hid hb
  have HR := Lib.hid hR
  have HL := Lib.hid hl
  clear hb hR hl
  go_enter Tryz.func6, Tryz.ntmps6
  go_wp2_with fail
  go_loopw [1, 7, 8, 9, 10] (fun a v r b nx wr => ∃ (s : Rs) (ls : List (List UInt8)), RdOk l n s ls ∧ a = .int .i64 s.at_ ∧ b = .int .i64 s.below ∧ r = .int .i64 (255 - (s.size : Int)) ∧ nx = .int .i64 ((s.next.getD 0 : Nat) : Int) ∧ wr.ownsRow w.heap.size 9 1 v ls.length (sv (mkSs ls)) ∧ readS l n s = R ∧ Below w.heap.size w wr) (fun _ _ r b _ _ => (intOf r).toNat + 1 + (intOf b).toNat)
  case atStart =>
    exact ⟨⟨at_, at_, 1, [], none⟩, [], ⟨by show 1 ≤ 255; omega, by show 1 ≤ 1; omega, rfl, rfl, (fun x h => absurd h (by simp)), (fun v h => by cases h), ha, ha⟩, rfl, rfl, rfl, rfl, World.ownsRow_nil _ _ _ _, HR.out, Below.refl _ _⟩
  case round =>
    obtain ⟨s, ls, hok, rfl, rfl, rfl, rfl, ho, hs, hbe⟩ := hrel
    have KL := Lib.hid (labelAt_any (HB.out.later hbe (Nat.le_refl _)) h47 s.at_ hok.big (255 - (s.size : Int)))
    have hlat := lat_of HL.out s
    have HO := Lib.hid (And.intro ho (And.intro hbe (And.intro hok hs)))
    clear ho hbe hs
    generalize latv l n s.at_ (255 - (s.size : Int)) = q at KL hlat
    have h255 := hok.size
    have h1 := hok.one
    have hbig := hok.big
    have hbel := hok.bel
    clear hok
    cases hlat with
    | bad c r hc h14 h =>
      have hend := readS_end h
      rw [HO.out.2.2.2] at hend
      have KI : ∀ w1 v, Tells w1 v ⟨c, s.at_, true⟩ → Calls Tryz.prog 21 #[v, .iface 29 (.int .i64 14)] w1 fun e w' => e = .returned (.bool false) ∧ w1 = w' := fun w1 v ht => by
        have := Is_told ht hc 14
        rw [show (c == (14 : Int)) = false by simpa using h14] at this
        exact this
      have HE := Lib.hid (And.intro hend KI)
      clear h hend KI
      go_wp2_with fail
      refine KL.out.mono ?_
      rintro e w1 ⟨v1, rfl, t1, b1⟩
      obtain ⟨T, x, rfl⟩ := Tells.held' t1 hc
      have H1 := Lib.hid (And.intro (HE.out.2 w1 _ t1) (And.intro t1 (HO.out.2.1.trans (b1.mono HO.out.2.1.size))))
      clear t1 b1
      go_wp2_with fail
      refine H1.out.1.mono ?_
      rintro e w' ⟨rfl, rfl⟩
      go_wp2_with fail
      rw [HE.out.1]
      exact bodyPost_ret (v := .tuple #[.string ⟨#[]⟩, .int .i64 0, .iface T x]) (by simp [results, Tryz.results6, go_sem]) rfl ⟨_, rfl, H1.out.2.1, H1.out.2.2⟩
    | fin hn h =>
      have hend := readS_end h
      rw [HO.out.2.2.2] at hend
      have hemp : (mkS []).toList.isEmpty = true := by rw [Lib.toList_data, mkS_data]; rfl
      have hnm := HO.out.2.2.1.name
      have hsz1 := HO.out.2.2.1.len
      have hge := sizeL_ge ls
      have hnx := nx_or s.next HO.out.2.2.1.next (s.at_ + 1)
      have HE := Lib.hid (And.intro hend (And.intro hnm (And.intro hnx (And.intro hsz1 hge))))
      clear h hend hnm hsz1 hge hnx
      go_wp2_with fail
      refine KL.out.mono ?_
      rintro e w1 ⟨v1, rfl, t1, b1⟩
      obtain rfl := Tells.none' t1 rfl
      have H1 := Lib.hid (And.intro (own_kept HO.out.1 b1) (HO.out.2.1.trans (b1.mono HO.out.2.1.size)))
      clear t1 b1
      go_wp2_with fail
      refine (Is_nil _ _ _).mono ?_
      rintro e w' ⟨rfl, rfl⟩
      obtain ⟨A', c', rfl, hG⟩ := Gs.of_own H1.out.1
      have KJ := Lib.hid (join_any hG (fun x hx => by have := mem_sizeL ls x hx; have := HE.out.2.2.2.1; omega) (by have := HE.out.2.2.2; omega))
      clear hG
      go_wp2_with fail
      refine KJ.out.mono ?_
      rintro e w2 ⟨rfl, b2⟩
      have H2 := Lib.hid (H1.out.2.trans (b2.mono H1.out.2.size))
      clear b2
      go_wp2_with fail
      refine (or_any (x := ((s.next.getD 0 : Nat) : Int)) (y := (s.at_ : Int) + 1) (by simp) (by simp)).mono ?_
      rintro e w' ⟨rfl, rfl⟩
      rw [show (s.at_ : Int) + 1 = ((s.at_ + 1 : Nat) : Int) by omega, HE.out.2.2.1]
      have H3 := Lib.hid (H2.out.alloc H2.out.size (.cells #[.int .i64 ((s.next.getD 0 : Nat) : Int), .int .i64 ((s.at_ + 1 : Nat) : Int)] 3))
      go_wp2_with fail
      rw [HE.out.1]
      exact bodyPost_ret (v := .tuple #[.string (mkS (joinD ls)), .int .i64 ((s.next.getD (s.at_ + 1) : Nat) : Int), .nilIface]) (by simp [results, Tryz.results6, go_sem]) rfl ⟨_, by rw [← HE.out.2.1]; rfl, Tells.nil _ _ _, H3.out⟩
    | lab x hx hn hsz h =>
      have hon := (readS_on h (show s.size ≤ 255 by omega)).symm.trans HO.out.2.2.2
      have hmk : mkS x ≠ ⟨#[]⟩ := fun e => labOk_ne hx (by rw [← mkS_data x, e])
      have hemp : (mkS x).toList.isEmpty = false := by
        rw [← decide_eq_emptyBytes]
        exact decide_eq_false hmk
      have hxs : (mkS x).size = x.length := mkS_size x
      have hok' : RdOk l n ⟨s.at_ + 1 + x.length, s.below, s.size + 1 + x.length, dotted s.name x, s.next⟩ (ls ++ [x]) := by
        have hk := HO.out.2.2.1
        refine ⟨hsz, by show 1 ≤ s.size + 1 + x.length; omega, ?_, ?_, ?_, hk.next, by show s.at_ + 1 + x.length ≤ _; omega, hk.bel⟩
        · have := hk.len
          show sizeL (ls ++ [x]) + 1 = s.size + 1 + x.length
          rw [sizeL_one]; omega
        · show dotted s.name x = _
          rw [hk.name, dotted_join hk.ne]
        · intro y hy
          rcases List.mem_append.1 hy with hy | hy
          · exact hk.ne y hy
          · obtain rfl := List.mem_singleton.1 hy; exact labOk_ne hx
      have hll : ls.length ≤ 255 := by have := sizeL_ge ls; have := HO.out.2.2.1.len; omega
      have HX := Lib.hid (And.intro hon (And.intro hok' hll))
      clear h hon hmk hx hok' hll
      go_wp2_with fail
      refine KL.out.mono ?_
      rintro e w1 ⟨v1, rfl, t1, b1⟩
      obtain rfl := Tells.none' t1 rfl
      have H1 := Lib.hid (And.intro (own_kept HO.out.1 b1) (HO.out.2.1.trans (b1.mono HO.out.2.1.size)))
      clear t1 b1
      go_wp2_with fail
      refine (Is_nil _ _ _).mono ?_
      rintro e w' ⟨rfl, rfl⟩
      go_wp2_with (at_builtin; refine wpList_append_gs rfl (.tmp 23) (.tmp 25) 42 rfl w.heap.size 9 infoStr rfl (by omega) Tryz.underlying42 _ _ _ rfl (H1.out.1.alloc _) _ 1 1 _ rfl (by exact Gs.lit _ [.string (mkS x)] 1 rfl (by unfold maxLen; omega) _ rfl _) (sv_one [mkS x]) (by have := HX.out.2.2; omega) (by have := H1.out.2.size; simp; omega) ?_; intro v2 w2 o2 g2; have H2 := Lib.hid (And.intro o2 g2); clear o2 g2)
      have hb2 : Below w.heap.size w w2 := (H1.out.2.alloc H1.out.2.size _).grown H2.out.2 (by have := H1.out.2.size; simp; omega) (fun q hq => (H1.out.1.lt q hq).1)
      have o3 : w2.ownsRow w.heap.size 9 1 v2 (ls ++ [x]).length (sv (mkSs (ls ++ [x]))) := by
        rw [List.length_append, sv_snoc]
        exact H2.out.1
      refine ⟨⟨_, ls ++ [x], HX.out.2.1, ?_, rfl, ?_, rfl, o3, HX.out.1, hb2⟩, ?_⟩
      · show Value.int IntKind.i64 ((s.at_ : Int) + (1 + (x.length : Int))) = Value.int IntKind.i64 ((s.at_ + 1 + x.length : Nat) : Int)
        congr 1; omega
      · show Value.int IntKind.i64 (255 - (s.size : Int) - (1 + (x.length : Int))) = Value.int IntKind.i64 (255 - ((s.size + 1 + x.length : Nat) : Int))
        congr 1; omega
      · simp only [intOf]; omega
    | ptr r hn h =>
      have KF := Lib.hid (fun w1 (hb1 : Below w.heap.size w w1) => follow_any (HB.out.later hb1 (Nat.le_refl _)) s.at_ s.below hbig)
      have KI : ∀ w1 v, Tells w1 v ⟨14, s.at_, true⟩ → Calls Tryz.prog 21 #[v, .iface 29 (.int .i64 14)] w1 fun e w' => e = .returned (.bool true) ∧ w1 = w' := fun w1 v ht => Is_told ht (show (14 : Int) ≠ 0 by decide) 14
      obtain ⟨f, hf⟩ : ∃ f, folv l n s.at_ s.below = f := ⟨_, rfl⟩
      have hst := h f hf
      rw [hf] at KF
      by_cases hc : f.2.code = 0
      · rw [if_pos hc] at hst
        have hon := (readS_on hst (show s.size ≤ 255 by omega)).symm.trans HO.out.2.2.2
        have hlt : f.1 < s.below := by
          rcases folv_cases l n s.at_ s.below with ⟨_, e⟩ | ⟨_, _, e⟩ | ⟨_, b, e⟩
          · rw [← hf, e] at hc; cases hc
          · rw [← hf, e] at hc; cases hc
          · rw [← hf, e]; exact b
        have hnx := nx_or s.next HO.out.2.2.1.next (s.at_ + 2)
        have hok' : RdOk l n ⟨f.1, f.1, s.size, s.name, some (s.next.getD (s.at_ + 2))⟩ ls := by
          have hk := HO.out.2.2.1
          refine ⟨hk.size, hk.one, hk.len, hk.name, hk.ne, fun v hv => ?_, by show f.1 ≤ _; omega, by show f.1 ≤ _; omega⟩
          obtain rfl := Option.some.inj hv
          cases hnn : s.next with
          | none => show 2 ≤ s.at_ + 2; omega
          | some q => exact hk.next q hnn
        have HX := Lib.hid (And.intro hon (And.intro hok' (And.intro hnx KI)))
        clear h hon hok' hnx KI hst hf
        obtain ⟨to, ff⟩ := f
        dsimp only at hlt hc
        go_wp2_with fail
        refine KL.out.mono ?_
        rintro e w1 ⟨v1, rfl, t1, b1⟩
        obtain ⟨T, x, rfl⟩ := Tells.held' t1 (show (14 : Int) ≠ 0 by decide)
        have H1 := Lib.hid (And.intro (own_kept HO.out.1 b1) (And.intro (HO.out.2.1.trans (b1.mono HO.out.2.1.size)) (HX.out.2.2.2 w1 _ t1)))
        clear t1 b1
        go_wp2_with fail
        refine H1.out.2.2.mono ?_
        rintro e w' ⟨rfl, rfl⟩
        go_wp2_with fail
        refine (KF.out w1 H1.out.2.1).mono ?_
        rintro e w2 ⟨v2, rfl, t2, b2⟩
        obtain rfl := Tells.none' t2 hc
        have H2 := Lib.hid (And.intro (own_kept H1.out.1 b2) (H1.out.2.1.trans (b2.mono H1.out.2.1.size)))
        clear t2 b2
        go_wp2_with fail
        refine (or_any (x := ((s.next.getD 0 : Nat) : Int)) (y := (s.at_ : Int) + 2) (by simp) (by simp)).mono ?_
        rintro e w' ⟨rfl, rfl⟩
        rw [show (s.at_ : Int) + 2 = ((s.at_ + 2 : Nat) : Int) by omega, HX.out.2.2.1]
        have H3 := Lib.hid (And.intro (H2.out.1.alloc (.cells #[.int .i64 ((s.next.getD 0 : Nat) : Int), .int .i64 ((s.at_ + 2 : Nat) : Int)] 3)) (H2.out.2.alloc H2.out.2.size (.cells #[.int .i64 ((s.next.getD 0 : Nat) : Int), .int .i64 ((s.at_ + 2 : Nat) : Int)] 3)))
        go_wp2_with fail
        refine ⟨⟨_, ls, HX.out.2.1, rfl, rfl, rfl, rfl, H3.out.1, HX.out.1, H3.out.2⟩, ?_⟩
        simp only [intOf]; omega
      · rw [if_neg hc] at hst
        have hend := readS_end hst
        rw [HO.out.2.2.2] at hend
        have hff : f.2 = ⟨f.2.code, s.at_, true⟩ := by
          rcases folv_cases l n s.at_ s.below with ⟨_, e⟩ | ⟨_, _, e⟩ | ⟨_, b, e⟩
          · rw [← hf, e]
          · rw [← hf, e]
          · rw [← hf, e] at hc; exact absurd rfl hc
        have HX := Lib.hid (And.intro hend (And.intro hff KI))
        clear h KI hst hf hend hff
        go_wp2_with fail
        refine KL.out.mono ?_
        rintro e w1 ⟨v1, rfl, t1, b1⟩
        obtain ⟨T, x, rfl⟩ := Tells.held' t1 (show (14 : Int) ≠ 0 by decide)
        have H1 := Lib.hid (And.intro (own_kept HO.out.1 b1) (And.intro (HO.out.2.1.trans (b1.mono HO.out.2.1.size)) (HX.out.2.2 w1 _ t1)))
        clear t1 b1
        go_wp2_with fail
        refine H1.out.2.2.mono ?_
        rintro e w' ⟨rfl, rfl⟩
        go_wp2_with fail
        refine (KF.out w1 H1.out.2.1).mono ?_
        rintro e w2 ⟨v2, rfl, t2, b2⟩
        obtain ⟨T2, x2, rfl⟩ := Tells.held' t2 hc
        rw [HX.out.2.1] at t2
        have H2 := Lib.hid (And.intro t2 (H1.out.2.1.trans (b2.mono H1.out.2.1.size)))
        clear t2 b2
        go_wp2_with fail
        rw [HX.out.1]
        exact bodyPost_ret (v := .tuple #[.string ⟨#[]⟩, .int .i64 0, .iface T2 x2]) (by simp [results, Tryz.results6, go_sem]) rfl ⟨_, rfl, H2.out.1, H2.out.2⟩

set_option maxHeartbeats 1000000 in
theorem Read_any {A : Option Addr} {n c : Nat} {l : List UInt8} {w : World} (hb : Bs w A n c l) (h47 : n ≤ 140737488350000) (at_ : Int) (ha : at_ ≤ 9223372036854775807) : Calls Tryz.prog 6 #[.slice A n c, .int .i64 at_] w (ReadR (readv l n at_) w) := by
  unfold readv
  by_cases hneg : at_ < 0
  · rw [if_pos hneg]
    have k1 := part_any hb at_ 1 (by omega) (by omega) h47
    rw [show needOf n at_ 1 = ⟨1, 0, false⟩ from if_pos (.inl hneg)] at k1
    have K1 := Lib.hid k1
    clear k1 hb
    have KLA : ∀ room : Int, Calls Tryz.prog 20 #[.slice A n c, .int .i64 at_, .int .i64 room] w fun e w' => ∃ v, e = .returned (.tuple #[.string ⟨#[]⟩, v]) ∧ Tells w' v ⟨1, 0, false⟩ ∧ Below w.heap.size w w' := fun room => by
      go_enter Tryz.func20, Tryz.ntmps20
      go_wp2_with fail
      refine K1.out.mono ?_
      rintro e w1 ⟨A1, n1, c1, v1, rfl, h1, h2, h3⟩
      obtain ⟨T, x, rfl⟩ := Tells.held' h2 (by decide)
      have H1 := Lib.hid (And.intro h2 h3)
      clear h1 h2 h3
      go_wp2_with fail
      go_ret2
      exact ⟨_, rfl, H1.out.1, H1.out.2⟩
    have KL := Lib.hid KLA
    clear KLA
    go_enter Tryz.func6, Tryz.ntmps6
    go_wp2_with fail
    go_loop [1, 8] (fun a r => a = .int .i64 at_ ∧ r = .int .i64 254) (fun _ _ => 0)
    case atStart => exact ⟨rfl, rfl⟩
    case round =>
      obtain ⟨rfl, rfl⟩ := hrel
      go_wp2_with fail
      refine (KL.out _).mono ?_
      rintro e w1 ⟨v1, rfl, t1, b1⟩
      have hI := Is_told t1 (show (1 : Int) ≠ 0 by decide) 14
      obtain ⟨T, x, rfl⟩ := Tells.held' t1 (by decide)
      have H1 := Lib.hid (And.intro hI (And.intro t1 b1))
      clear t1 b1 hI
      go_wp2_with fail
      refine H1.out.1.mono ?_
      rintro e w' ⟨rfl, rfl⟩
      go_wp2_with fail
      exact bodyPost_ret (v := .tuple #[.string ⟨#[]⟩, .int .i64 0, .iface T x]) (by simp [results, Tryz.results6, go_sem]) rfl ⟨_, rfl, H1.out.2.1, H1.out.2.2⟩
  · rw [if_neg hneg]
    obtain ⟨a, rfl⟩ := Int.eq_ofNat_of_zero_le (show 0 ≤ at_ by omega)
    rw [Int.toNat_natCast]
    exact read_from hb h47 a (by omega)
end Go.Proofs.YthhfmjdknoplkaaGreatDoor
