/-
  Package chain's way, Follow. Conditions: those of the slices; a million of records at most.
-/
import Derived.Test.YtjbdaeiefckkcaaAs15
import Derived.Test.YtjbdaeiefckkcaaInfoS
import Derived.Test.YtjbdaeiefckkcaaOwn
import Derived.OneCell
namespace Go.Proofs.Ytjbdaeiefckkcaa
open Go.RowKit
set_option maxRecDepth 100000

/-- All names that records lead to, and the least Ttl of those that led there. -/
def wayv (xs : List Rk) : Nat → List ByteArray → Int → ByteArray → Option (List ByteArray × Int)
  | 0, _, _, _ => none
  | k + 1, ns, left, cur => match xs.find? (fun x => leads x cur) with
    | none => some (ns, left)
    | some r => if inb r.target ns || decide (ns.length = 16) then none else wayv xs k (ns ++ [r.target]) (min left r.ttl) r.target
theorem wayv_end {xs : List Rk} {cur : ByteArray} (h : xs.find? (fun x => leads x cur) = none) {k : Nat} {ns : List ByteArray} {left : Int} : wayv xs (k + 1) ns left cur = some (ns, left) := by
  unfold wayv; rw [h]
theorem wayv_no {xs : List Rk} {cur : ByteArray} {r : Rk} (h : xs.find? (fun x => leads x cur) = some r) {k : Nat} {ns : List ByteArray} {left : Int} (h2 : inb r.target ns = true ∨ ns.length = 16) : wayv xs (k + 1) ns left cur = none := by
  unfold wayv; rw [h]
  rcases h2 with h2 | h2 <;> simp [h2]
theorem wayv_on {xs : List Rk} {cur : ByteArray} {r : Rk} (h : xs.find? (fun x => leads x cur) = some r) {k : Nat} {ns : List ByteArray} {left : Int} (h2 : inb r.target ns = false) (h3 : ns.length ≠ 16) : wayv xs (k + 1) ns left cur = wayv xs k (ns ++ [r.target]) (min left r.ttl) r.target := by
  conv => lhs; unfold wayv
  rw [h]
  simp [h2, h3]
theorem wayv_last {xs : List Rk} : ∀ {k : Nat} {ns ns' : List ByteArray} {left left' : Int} {cur : ByteArray}, ns.getLast? = some cur → wayv xs k ns left cur = some (ns', left') → 0 < ns'.length ∧ ns'.length ≤ ns.length + k
  | 0, _, _, _, _, _, _, h => by cases h
  | k + 1, ns, ns', left, left', cur, hl, h => by
    unfold wayv at h
    cases hf : xs.find? (fun x => leads x cur) with
    | none =>
      rw [hf] at h
      cases h
      refine ⟨?_, by omega⟩
      cases ns with
      | nil => simp at hl
      | cons a t => simp
    | some r =>
      rw [hf] at h
      dsimp only at h
      split at h
      · cases h
      · have := wayv_last (by simp) h
        simp at this
        omega
def WayR (T : Option (List ByteArray × Int)) (w : World) (e : Ending) (w' : World) : Prop := match T with
  | none => e = .returned (.tuple #[.slice none 0 0, .int .u32 0]) ∧ Below w.heap.size w w'
  | some (ns, left) => ∃ B d, e = .returned (.tuple #[.slice B ns.length d, .int .u32 left]) ∧ Gs w' B ns.length d (sv ns) ∧ Below w.heap.size w w'
/-- How many a slice has. -/
def lenOf : Value → Nat
  | .slice _ n _ => n
  | _ => 0
def NamesO (w : World) (base : Nat) (v : Value) (ns : List ByteArray) : Prop := w.ownsRow base 9 1 v ns.length (sv ns)
theorem NamesO.gs {w : World} {base : Nat} {v : Value} {ns : List ByteArray} (h : NamesO w base v ns) : ∃ B d, v = .slice B ns.length d ∧ Gs w B ns.length d (sv ns) := Gs.of_own h
theorem NamesO.later {w w' : World} {base : Nat} {v : Value} {ns : List ByteArray} (h : NamesO w base v ns) (hb : Below w.heap.size w w') : NamesO w' base v ns := own_kept h hb
theorem NamesO.far {w : World} {base g : Nat} {v : Value} {ns : List ByteArray} (h : NamesO w base v ns) (hg : g < base) (u : Value) : NamesO (w.setCell ⟨g, 0, none⟩ u) base v ns :=
  own_same' h fun k hk => Below.heap_setCell w ⟨g, 0, none⟩ u k (fun e => by have : k = g := e; omega)
set_option maxHeartbeats 8000000 in
theorem way_any {A : Option Addr} {n c : Nat} {xs : List Rk} {w : World} (hb : Rks w A n c xs) (s : ByteArray) : Calls Try.prog 11 #[.slice A n c, .string s] w (WayR (wayv xs 16 [s] 4294967295 s) w) := by
  have hcap := hb.cap
  have hmax := hb.max
  unfold maxLen at hmax
  have hlen := hb.len
  obtain ⟨T, hT⟩ : ∃ T, wayv xs 16 [s] 4294967295 s = T := ⟨_, rfl⟩
  rw [hT]
  have HT := Lib.hid hT
  have HB := Lib.hid hb
  have hmf : ∀ (fn : Fn) (first cap : Array Value) (w : World), (Instr.makeFunc fn first cap).run Try.prog w = .ok (.func fn first cap) w := fun _ _ _ _ => rfl
  have O0 := World.ownsRow_lit (base := w.heap.size + 1) (e := 9) (size := 1) (w.alloc (.cells #[.string s] 9)) #[.string s] 1 (by simp) (by unfold maxLen; omega) rfl
  have B0 : Below w.heap.size w ((w.alloc (.cells #[.string s] 9)).alloc (.cells #[.string s] 9)) := ((Below.refl _ _).alloc (Nat.le_refl _) _).alloc (by simp) _
  have G0 : ((w.alloc (.cells #[.string s] 9)).alloc (.cells #[.string s] 9)).heap[w.heap.size]? = some (.cells #[.string s] 9 (0, 0)) := by
    rw [heap_alloc_old _ _ (by simp)]
    exact heap_alloc_last w _
  have H0 := Lib.hid (And.intro O0 (And.intro B0 G0))
  clear hb hT O0 B0 G0
  --<< a
  go_enter Try.func11, Try.ntmps11
  go_wp2_with fail
  go_loopw [6, 7, 8] (fun v l _ wr => ∃ (ns : List ByteArray) (left : Int) (cur : ByteArray), l = .int .u32 left ∧ NamesO wr (w.heap.size + 1) v ns ∧ 1 ≤ ns.length ∧ ns.length ≤ 16 ∧ wr.heap[w.heap.size]? = some (.cells #[.string cur] 9 (0, 0)) ∧ wayv xs (17 - ns.length) ns left cur = T ∧ Below w.heap.size w wr) (fun v _ _ _ => 17 - lenOf v)
  case atStart => exact ⟨[s], 4294967295, s, rfl, by have := H0.out.1; rw [World.size_alloc] at this; exact this, by simp, by simp, H0.out.2.2, HT.out, H0.out.2.1⟩
  case round =>
    obtain ⟨ns, left, cur, rfl, ho, h1, h16, hg, ht, hbe⟩ := hrel
    obtain ⟨C, d, rfl, hG⟩ := ho.gs
    have K := Lib.hid (index_any (HB.out.later hbe (Nat.le_refl _)) (cell_of_one hg))
    have HR := Lib.hid (And.intro ho (And.intro hG (And.intro hg (And.intro ht hbe))))
    clear ho hG hg ht hbe
    go_wp2_with fail
    refine K.out.mono ?_
    rintro e w1 ⟨r, rfl, hr, b1⟩
    have hlt0 : w.heap.size < wr.heap.size := lt_of_block HR.out.2.2.1
    have hg1 : w1.heap[w.heap.size]? = some (.cells #[.string cur] 9 (0, 0)) := (b1.block _ hlt0).trans HR.out.2.2.1
    have H1 := Lib.hid (And.intro b1 (And.intro hg1 (HR.out.2.2.2.2.trans (b1.mono HR.out.2.2.2.2.size))))
    clear b1 hg1
    rcases hr with ⟨hf, rfl⟩ | ⟨k, x, rfl, hkn, hxk, hf⟩
    · have HF := Lib.hid hf
      clear hf
      have hT2 := HR.out.2.2.2.1
      rw [show 17 - ns.length = (16 - ns.length) + 1 by omega, wayv_end HF.out] at hT2
      have HT2 := Lib.hid hT2
      clear hT2
      go_wp2_with fail
      rw [← HT2.out]
      exact bodyPost_ret (v := .tuple #[.slice C ns.length d, .int .u32 left]) (by simp [results, Try.results11, go_sem]) rfl ⟨C, d, rfl, HR.out.2.1.later H1.out.1 (Nat.le_refl _), H1.out.2.2⟩
    · obtain ⟨b, off, rfl, hrg⟩ := (HB.out.later H1.out.2.2 (Nat.le_refl _)).here k x hxk
      have hok := HB.out.ok x (List.mem_of_getElem? hxk)
      have hbl : b < w.heap.size := by
        obtain ⟨b', o', hA, hr'⟩ := HB.out.here k x hxk
        cases hA
        exact lt_of_cell' (rk_at hok hr').1
      have et := (rk_at hok hrg).2.2.2.2.1
      have hgc := cell_of_one H1.out.2.1
      have hgf := free_of_one H1.out.2.1
      have hg2 := one_setCell H1.out.2.1 (u := .string x.target)
      have hO2 := (own_kept HR.out.1 (H1.out.1.mono (Nat.le_refl _)))
      have hO3 : NamesO (w1.setCell ⟨w.heap.size, 0, none⟩ (.string x.target)) (w.heap.size + 1) (.slice C ns.length d) ns := NamesO.far hO2 (Nat.lt_succ_self _) _
      have hB3 : Below w.heap.size w (w1.setCell ⟨w.heap.size, 0, none⟩ (.string x.target)) := H1.out.2.2.setCell (p := ⟨w.heap.size, 0, none⟩) (Nat.le_refl _) _
      obtain ⟨W, hW⟩ : ∃ W, w1.setCell ⟨w.heap.size, 0, none⟩ (.string x.target) = W := ⟨_, rfl⟩
      rw [hW] at hg2 hO3 hB3
      have HW := Lib.hid hW
      have hrg2 : W.rangeAt b (off + k * 23) (rkv x).toList := by
        obtain ⟨b', o', hA, hr'⟩ := (HB.out.later hB3 (Nat.le_refl _)).here k x hxk
        cases hA
        exact hr'
      have e3 := (rk_at hok hrg2).2.2.2.1
      have e4 := cell_of_one hg2
      obtain ⟨C', d', hC, hG2⟩ := hO3.gs
      cases hC
      have KC := Lib.hid (contT_any hG2 x.target)
      have HF := Lib.hid hf
      have H3 := Lib.hid (And.intro hO3 (And.intro hB3 (And.intro hg2 (And.intro hG2 e3))))
      have HK := Lib.hid (And.intro hok (And.intro hrg2 hbl))
      clear hf hO2 hO3 hB3 hg2 hG2 hok hrg2 hbl hW hrg
      cases hin : inb x.target ns with
      | true =>
        rw [hin] at KC
        have HI := Lib.hid hin
        clear hin
        go_wp2_with (rw [HW.out])
        refine KC.out.mono ?_
        rintro e w4 ⟨rfl, rfl⟩
        have hT2 := HR.out.2.2.2.1
        rw [show 17 - ns.length = (16 - ns.length) + 1 by omega, wayv_no HF.out (.inl HI.out)] at hT2
        have HT2 := Lib.hid hT2
        clear hT2
        go_wp2_with fail
        rw [← HT2.out]
        exact bodyPost_ret (v := .tuple #[.slice none 0 0, .int .u32 0]) (by simp [results, Try.results11, go_sem]) rfl ⟨rfl, H3.out.2.1⟩
      | false =>
        rw [hin] at KC
        have HI := Lib.hid hin
        clear hin
        by_cases hl : ns.length = 16
        · have hT2 := HR.out.2.2.2.1
          rw [show 17 - ns.length = (16 - ns.length) + 1 by omega, wayv_no HF.out (.inr hl)] at hT2
          have HT2 := Lib.hid hT2
          have hq : ((ns.length : Int) == 16) = true := by rw [hl]; rfl
          clear hT2 hl
          go_wp2_with (rw [HW.out])
          refine KC.out.mono ?_
          rintro e w4 ⟨rfl, rfl⟩
          go_wp2_with fail
          rw [← HT2.out]
          exact bodyPost_ret (v := .tuple #[.slice none 0 0, .int .u32 0]) (by simp [results, Try.results11, go_sem]) rfl ⟨rfl, H3.out.2.1⟩
        · have hT2 := HR.out.2.2.2.1
          rw [show 17 - ns.length = (16 - ns.length) + 1 by omega, wayv_on HF.out HI.out hl] at hT2
          have HT2 := Lib.hid hT2
          clear hT2
          go_wp2_with (rw [HW.out])
          refine KC.out.mono ?_
          rintro e w4 ⟨rfl, rfl⟩
          have r1 : ∀ w', Below (w.heap.size + 1) W w' → w'.cell? ⟨w.heap.size, 0, none⟩ = some (.string x.target) := fun w' h => (h.cell (p := ⟨w.heap.size, 0, none⟩) (Nat.lt_succ_self _)).trans e4
          have r2 : ∀ w', Below (w.heap.size + 1) W w' → w'.cell? ⟨b, off + k * 23 + 3, none⟩ = some (.int .u32 x.ttl) := fun w' h => (h.cell (p := ⟨b, off + k * 23 + 3, none⟩) (Nat.lt_succ_of_lt HK.out.2.2)).trans e3
          clear e3 e4 et hgc hgf
          by_cases hlt : x.ttl < left
          · have hS : Below (w.heap.size + 1) W W.drew := (Below.refl _ _).drew
            have hmn : min left x.ttl = x.ttl := Int.min_eq_right (by omega)
            have HM := Lib.hid hmn
            clear hmn
            go_wp2_with fail
            refine rg_begin (fun w' => Below (w.heap.size + 1) W w') 13 (by kernel_rfl) rfl ?_
            refine rg_take 0 (v := ?rv1) rfl (by kernel_rfl) (by kernel_rfl) (by kernel_rfl) (fun _ _ _ h => h) (by rfl) hS (fun w2 hw2 => ?ry1) ?rr1
            case ry1 => ((try dsimp only at hw2); go_simp <;> with_reducible rfl)
            simp only [Act.put, List.setIfInBounds_toArray, List.set_cons_zero, List.set_cons_succ]
            refine rg_take 1 (v := ?rv2) rfl (by kernel_rfl) (by kernel_rfl) (by kernel_rfl) (fun _ _ _ h => h) (by rfl) hS (fun w2 hw2 => ?ry2) ?rr2
            case ry2 => ((try dsimp only at hw2); go_simp <;> with_reducible rfl)
            simp only [Act.put, List.setIfInBounds_toArray, List.set_cons_zero, List.set_cons_succ]
            refine rg_take 4 (v := ?rv3) rfl (by kernel_rfl) (by kernel_rfl) (by kernel_rfl) (fun _ _ _ h => h) (by rfl) hS (fun w2 hw2 => ?ry3) ?rr3
            case ry3 => ((try dsimp only at hw2); go_simp <;> with_reducible rfl)
            simp only [Act.put, List.setIfInBounds_toArray, List.set_cons_zero, List.set_cons_succ]
            refine rg_take 5 (v := ?rv4) rfl (by kernel_rfl) (by kernel_rfl) (by kernel_rfl) (fun _ _ _ h => h) (by rfl) hS (fun w2 hw2 => ?ry4) ?rr4
            case ry4 => ((try dsimp only at hw2); go_simp <;> with_reducible rfl)
            simp only [Act.put, List.setIfInBounds_toArray, List.set_cons_zero, List.set_cons_succ]
            refine rg_take 6 (v := ?rv5) rfl (by kernel_rfl) (by kernel_rfl) (by kernel_rfl) (fun _ _ _ h => h) (by rfl) hS (fun w2 hw2 => ?ry5) ?rr5
            case ry5 => ((try dsimp only at hw2); go_simp <;> with_reducible rfl)
            simp only [Act.put, List.setIfInBounds_toArray, List.set_cons_zero, List.set_cons_succ]
            refine rg_take 7 (v := ?rv6) rfl (by kernel_rfl) (by kernel_rfl) (by kernel_rfl) (fun _ _ _ h => h) (by rfl) hS (fun w2 hw2 => ?ry6) ?rr6
            case ry6 => ((try dsimp only at hw2); go_simp <;> with_reducible rfl)
            simp only [Act.put, List.setIfInBounds_toArray, List.set_cons_zero, List.set_cons_succ]
            refine rg_take 8 (v := ?rv7) rfl (by kernel_rfl) (by kernel_rfl) (by kernel_rfl) (fun _ _ _ h => h) (by rfl) hS (fun w2 hw2 => ?ry7) ?rr7
            case ry7 => ((try dsimp only at hw2); go_simp <;> with_reducible rfl)
            simp only [Act.put, List.setIfInBounds_toArray, List.set_cons_zero, List.set_cons_succ]
            refine rg_take 9 (v := ?rv8) rfl (by kernel_rfl) (by kernel_rfl) (by kernel_rfl) (fun _ _ _ h => h) (by rfl) hS (fun w2 hw2 => ?ry8) ?rr8
            case ry8 => ((try dsimp only at hw2); go_simp <;> with_reducible rfl)
            simp only [Act.put, List.setIfInBounds_toArray, List.set_cons_zero, List.set_cons_succ]
            refine rg_take 10 (v := ?rv9) rfl (by kernel_rfl) (by kernel_rfl) (by kernel_rfl) (fun _ _ _ h => h) (by rfl) hS (fun w2 hw2 => ?ry9) ?rr9
            case ry9 => ((try dsimp only at hw2); go_simp <;> with_reducible rfl)
            simp only [Act.put, List.setIfInBounds_toArray, List.set_cons_zero, List.set_cons_succ]
            refine rg_step 2 rfl (by kernel_rfl) (by rfl) (fun K hK => ?_)
            go_simp
            obtain ⟨W5, hW5⟩ : ∃ W5, (W.alloc (.cells #[.string x.target] 9)).drew = W5 := ⟨_, rfl⟩
            have hle : w.heap.size + 1 ≤ W.heap.size := lt_of_block H3.out.2.2.1
            have b5 : Below W.heap.size W W5 := by rw [← hW5]; exact ((Below.refl _ _).alloc (Nat.le_refl _) _).drew
            have G5 : Gs W5 (some ⟨W.heap.size, 0, none⟩) 1 1 [.string x.target] := by
              rw [← hW5]
              exact (Gs.lit W [.string x.target] 1 rfl (by unfold maxLen; omega) #[.string x.target] rfl 9).later (Below.refl _ _).drew (Nat.le_refl _)
            have o5 : NamesO W5 (w.heap.size + 1) (.slice C ns.length d) ns := own_kept H3.out.1 b5
            rw [hW5]
            clear hW5
            replace hS : Below (w.heap.size + 1) W W5 := b5.mono hle
            refine hK.out _ _ hS ?_
            clear hK K
            try simp only [Act.put, List.setIfInBounds_toArray, List.set_cons_zero, List.set_cons_succ]
            refine rg_step 3 rfl (by kernel_rfl) (by rfl) (fun K hK => ?_)
            refine wp_append_gs (.tmp 31) (.tmp 33) 36 rfl (w.heap.size + 1) 9 infoStr rfl (by decide) Try.underlying36 _ ns.length (sv ns) rfl o5 (some ⟨W.heap.size, 0, none⟩) 1 1 [.string x.target] rfl G5 (fun u hu => by obtain rfl := List.mem_singleton.1 hu; rfl) (by omega) (Nat.le_trans hle hS.size) ?_
            intro v6 w6 o6 g6
            replace hS : Below (w.heap.size + 1) W w6 := hS.grown g6 (Nat.le_trans hle hS.size) (fun q hq => (World.ownsRow.lt o5 q hq).1)
            have o7 : NamesO w6 (w.heap.size + 1) v6 (ns ++ [x.target]) := by
              unfold NamesO
              rw [List.length_append, sv_append]
              exact o6
            have h7 : w6.heap[w.heap.size]? = some (.cells #[.string x.target] 9 (0, 0)) := (hS.block _ (Nat.lt_succ_self _)).trans H3.out.2.2.1
            have H7 := Lib.hid (And.intro o7 (And.intro h7 (H3.out.2.1.trans (hS.mono (Nat.le_succ _)))))
            clear o5 G5 o6 g6 o7 h7 b5
            refine hK.out _ _ hS ?_
            clear hK K
            try simp only [Act.put, List.setIfInBounds_toArray, List.set_cons_zero, List.set_cons_succ]
            refine rg_take 11 (v := ?rv10) rfl (by kernel_rfl) (by kernel_rfl) (by kernel_rfl) (fun _ _ _ h => h) (by rfl) hS (fun w2 hw2 => ?ry10) ?rr10
            case ry10 => ((try dsimp only at hw2); go_simp <;> with_reducible rfl)
            simp only [Act.put, List.setIfInBounds_toArray, List.set_cons_zero, List.set_cons_succ]
            refine rg_take 12 (v := ?rv11) rfl (by kernel_rfl) (by kernel_rfl) (by kernel_rfl) (fun _ _ _ h => h) (by rfl) hS (fun w2 hw2 => ?ry11) ?rr11
            case ry11 => ((try dsimp only at hw2); go_simp <;> with_reducible rfl)
            simp only [Act.put, List.setIfInBounds_toArray, List.set_cons_zero, List.set_cons_succ]
            refine rg_done (by kernel_rfl) ?_
            go_wp2_with fail
            obtain ⟨C7, d7, rfl, _⟩ := H7.out.1.gs
            refine ⟨⟨ns ++ [x.target], x.ttl, x.target, rfl, H7.out.1, by simp, by simp; omega, H7.out.2.1, ?_, H7.out.2.2⟩, by simp [lenOf]; omega⟩
            rw [← HT2.out, HM.out, List.length_append]
            rw [show 17 - (ns.length + [x.target].length) = 16 - ns.length by have : [x.target].length = 1 := rfl; omega]
          · have hS : Below (w.heap.size + 1) W W.drew := (Below.refl _ _).drew
            have HLT := Lib.hid hlt
            have hmn : min left x.ttl = left := Int.min_eq_left (by omega)
            have HM := Lib.hid hmn
            clear hmn
            go_wp2_with fail
            refine rg_begin (fun w' => Below (w.heap.size + 1) W w') 13 (by kernel_rfl) rfl ?_
            refine rg_take 0 (v := ?rv12) rfl (by kernel_rfl) (by kernel_rfl) (by kernel_rfl) (fun _ _ _ h => h) (by rfl) hS (fun w2 hw2 => ?ry12) ?rr12
            case ry12 => ((try dsimp only at hw2); go_simp <;> with_reducible rfl)
            simp only [Act.put, List.setIfInBounds_toArray, List.set_cons_zero, List.set_cons_succ]
            refine rg_take 1 (v := ?rv13) rfl (by kernel_rfl) (by kernel_rfl) (by kernel_rfl) (fun _ _ _ h => h) (by rfl) hS (fun w2 hw2 => ?ry13) ?rr13
            case ry13 => ((try dsimp only at hw2); go_simp <;> with_reducible rfl)
            simp only [Act.put, List.setIfInBounds_toArray, List.set_cons_zero, List.set_cons_succ]
            refine rg_take 4 (v := ?rv14) rfl (by kernel_rfl) (by kernel_rfl) (by kernel_rfl) (fun _ _ _ h => h) (by rfl) hS (fun w2 hw2 => ?ry14) ?rr14
            case ry14 => ((try dsimp only at hw2); go_simp <;> with_reducible rfl)
            simp only [Act.put, List.setIfInBounds_toArray, List.set_cons_zero, List.set_cons_succ]
            refine rg_take 5 (v := ?rv15) rfl (by kernel_rfl) (by kernel_rfl) (by kernel_rfl) (fun _ _ _ h => h) (by rfl) hS (fun w2 hw2 => ?ry15) ?rr15
            case ry15 => ((try dsimp only at hw2); go_simp <;> with_reducible rfl)
            simp only [Act.put, List.setIfInBounds_toArray, List.set_cons_zero, List.set_cons_succ]
            refine rg_take 6 (v := ?rv16) rfl (by kernel_rfl) (by kernel_rfl) (by kernel_rfl) (fun _ _ _ h => h) (by rfl) hS (fun w2 hw2 => ?ry16) ?rr16
            case ry16 => ((try dsimp only at hw2); go_simp <;> with_reducible rfl)
            simp only [Act.put, List.setIfInBounds_toArray, List.set_cons_zero, List.set_cons_succ]
            refine rg_take 7 (v := ?rv17) rfl (by kernel_rfl) (by kernel_rfl) (by kernel_rfl) (fun _ _ _ h => h) (by rfl) hS (fun w2 hw2 => ?ry17) ?rr17
            case ry17 => ((try dsimp only at hw2); go_simp <;> with_reducible rfl)
            simp only [Act.put, List.setIfInBounds_toArray, List.set_cons_zero, List.set_cons_succ]
            refine rg_take 8 (v := ?rv18) rfl (by kernel_rfl) (by kernel_rfl) (by kernel_rfl) (fun _ _ _ h => h) (by rfl) hS (fun w2 hw2 => ?ry18) ?rr18
            case ry18 => ((try dsimp only at hw2); go_simp <;> with_reducible rfl)
            simp only [Act.put, List.setIfInBounds_toArray, List.set_cons_zero, List.set_cons_succ]
            refine rg_take 9 (v := ?rv19) rfl (by kernel_rfl) (by kernel_rfl) (by kernel_rfl) (fun _ _ _ h => h) (by rfl) hS (fun w2 hw2 => ?ry19) ?rr19
            case ry19 => ((try dsimp only at hw2); go_simp <;> with_reducible rfl)
            simp only [Act.put, List.setIfInBounds_toArray, List.set_cons_zero, List.set_cons_succ]
            refine rg_take 10 (v := ?rv20) rfl (by kernel_rfl) (by kernel_rfl) (by kernel_rfl) (fun _ _ _ h => h) (by rfl) hS (fun w2 hw2 => ?ry20) ?rr20
            case ry20 => ((try dsimp only at hw2); go_simp <;> with_reducible rfl)
            simp only [Act.put, List.setIfInBounds_toArray, List.set_cons_zero, List.set_cons_succ]
            refine rg_step 2 rfl (by kernel_rfl) (by rfl) (fun K hK => ?_)
            go_simp
            obtain ⟨W5, hW5⟩ : ∃ W5, (W.alloc (.cells #[.string x.target] 9)).drew = W5 := ⟨_, rfl⟩
            have hle : w.heap.size + 1 ≤ W.heap.size := lt_of_block H3.out.2.2.1
            have b5 : Below W.heap.size W W5 := by rw [← hW5]; exact ((Below.refl _ _).alloc (Nat.le_refl _) _).drew
            have G5 : Gs W5 (some ⟨W.heap.size, 0, none⟩) 1 1 [.string x.target] := by
              rw [← hW5]
              exact (Gs.lit W [.string x.target] 1 rfl (by unfold maxLen; omega) #[.string x.target] rfl 9).later (Below.refl _ _).drew (Nat.le_refl _)
            have o5 : NamesO W5 (w.heap.size + 1) (.slice C ns.length d) ns := own_kept H3.out.1 b5
            rw [hW5]
            clear hW5
            replace hS : Below (w.heap.size + 1) W W5 := b5.mono hle
            refine hK.out _ _ hS ?_
            clear hK K
            try simp only [Act.put, List.setIfInBounds_toArray, List.set_cons_zero, List.set_cons_succ]
            refine rg_step 3 rfl (by kernel_rfl) (by rfl) (fun K hK => ?_)
            refine wp_append_gs (.tmp 31) (.tmp 33) 36 rfl (w.heap.size + 1) 9 infoStr rfl (by decide) Try.underlying36 _ ns.length (sv ns) rfl o5 (some ⟨W.heap.size, 0, none⟩) 1 1 [.string x.target] rfl G5 (fun u hu => by obtain rfl := List.mem_singleton.1 hu; rfl) (by omega) (Nat.le_trans hle hS.size) ?_
            intro v6 w6 o6 g6
            replace hS : Below (w.heap.size + 1) W w6 := hS.grown g6 (Nat.le_trans hle hS.size) (fun q hq => (World.ownsRow.lt o5 q hq).1)
            have o7 : NamesO w6 (w.heap.size + 1) v6 (ns ++ [x.target]) := by
              unfold NamesO
              rw [List.length_append, sv_append]
              exact o6
            have h7 : w6.heap[w.heap.size]? = some (.cells #[.string x.target] 9 (0, 0)) := (hS.block _ (Nat.lt_succ_self _)).trans H3.out.2.2.1
            have H7 := Lib.hid (And.intro o7 (And.intro h7 (H3.out.2.1.trans (hS.mono (Nat.le_succ _)))))
            clear o5 G5 o6 g6 o7 h7 b5
            refine hK.out _ _ hS ?_
            clear hK K
            try simp only [Act.put, List.setIfInBounds_toArray, List.set_cons_zero, List.set_cons_succ]
            refine rg_take 11 (v := ?rv21) rfl (by kernel_rfl) (by kernel_rfl) (by kernel_rfl) (fun _ _ _ h => h) (by rfl) hS (fun w2 hw2 => ?ry21) ?rr21
            case ry21 => ((try dsimp only at hw2); go_simp <;> with_reducible rfl)
            simp only [Act.put, List.setIfInBounds_toArray, List.set_cons_zero, List.set_cons_succ]
            refine rg_take 12 (v := ?rv22) rfl (by kernel_rfl) (by kernel_rfl) (by kernel_rfl) (fun _ _ _ h => h) (by rfl) hS (fun w2 hw2 => ?ry22) ?rr22
            case ry22 => ((try dsimp only at hw2); go_simp <;> with_reducible rfl)
            simp only [Act.put, List.setIfInBounds_toArray, List.set_cons_zero, List.set_cons_succ]
            refine rg_done (by kernel_rfl) ?_
            go_wp2_with fail
            obtain ⟨C7, d7, rfl, _⟩ := H7.out.1.gs
            refine ⟨⟨ns ++ [x.target], left, x.target, by rw [if_neg (Int.not_lt.2 HLT.out)], H7.out.1, by simp, by simp; omega, H7.out.2.1, ?_, H7.out.2.2⟩, by simp [lenOf]; omega⟩
            rw [← HT2.out, HM.out, List.length_append]
            rw [show 17 - (ns.length + [x.target].length) = 16 - ns.length by have : [x.target].length = 1 := rfl; omega]
  -->>
--<< f
/-- What Follow answers. -/
def followv (xs : List Rk) (s : ByteArray) : List Fo × List ByteArray := match wayv xs 16 [s] 4294967295 s with
  | none => ([], [])
  | some (ns, left) => (foundv xs (ns.getLastD s) left, ns)
def FollowR (T : List Fo × List ByteArray) (w : World) (e : Ending) (w' : World) : Prop :=
  ∃ B m d C k f, e = .returned (.tuple #[.slice B m d, .slice C k f]) ∧ Fos w' B m d T.1 ∧ Gs w' C k f (sv T.2) ∧ Below w.heap.size w w'
set_option maxHeartbeats 4000000 in
theorem follow_any {A : Option Addr} {n c : Nat} {xs : List Rk} {w : World} (hb : Rks w A n c xs) (hn : n ≤ 1000000) (v0 v1 v2 v3 v4 v5 v7 v8 : Value) (s : ByteArray) : Calls Try.prog 8 #[.agg #[v0, v1, v2, v3, v4, v5, .slice A n c, v7, v8], .string s] w (FollowR (followv xs s) w) := by
  obtain ⟨W, hW⟩ : ∃ W, w.alloc (.cells #[v0, v1, v2, v3, v4, v5, .slice A n c, v7, v8] 41) = W := ⟨_, rfl⟩
  have hm : W.heap[w.heap.size]? = some (.cells #[v0, v1, v2, v3, v4, v5, .slice A n c, v7, v8] 41 (0, 0)) := by rw [← hW]; exact heap_alloc_last w _
  have b1 : Below w.heap.size w W := by rw [← hW]; exact (Below.refl _ _).alloc (Nat.le_refl _) _
  have e6 : W.cell? ⟨w.heap.size, 6, none⟩ = some (.slice A n c) := by rw [cell_of_row W w.heap.size 6 _ _ _ hm]; rfl
  have HW := Lib.hid hW
  have HM := Lib.hid (And.intro hm b1)
  have hR := hb.later b1 (Nat.le_refl _)
  have K := Lib.hid (way_any hR s)
  have HR := Lib.hid hR
  clear hb hW hm b1 hR
  go_enter Try.func8, Try.ntmps8
  go_wp2_with (rw [HW.out])
  refine K.out.mono ?_
  rintro e w1 h1
  cases hT : wayv xs 16 [s] 4294967295 s with
  | none =>
    rw [hT] at h1
    have hF : followv xs s = ([], []) := by unfold followv; rw [hT]
    obtain ⟨rfl, b2⟩ := h1
    have H2 := Lib.hid (HM.out.2.trans (b2.mono HM.out.2.size))
    have HF := Lib.hid hF
    clear b2 hF hT
    go_wp2_with fail
    rw [HF.out]
    exact bodyPost_ret (v := .tuple #[.slice none 0 0, .slice none 0 0]) (by simp [results, Try.results8, go_sem]) rfl ⟨none, 0, 0, none, 0, 0, rfl, Fos.nil _, Gs.nil _, H2.out⟩
  | some p =>
    obtain ⟨ns, left⟩ := p
    rw [hT] at h1
    have hF : followv xs s = (foundv xs (ns.getLastD s) left, ns) := by unfold followv; rw [hT]
    obtain ⟨hpos, hle⟩ := wayv_last (by simp) hT
    have hle : ns.length ≤ 17 := by simpa using hle
    obtain ⟨B, d, rfl, hG, b2⟩ := h1
    obtain ⟨p, hp⟩ : ∃ p, ns.length - 1 = p := ⟨_, rfl⟩
    have hwr : IntKind.i64.wrap ((ns.length : Int) - 1) = (p : Int) := by
      rw [IntKind.wrap_i64]; omega
    have g0 : (0 : Int) ≤ (p : Int) := by omega
    have g1 : (p : Int) < (ns.length : Int) := by omega
    obtain ⟨z, hz⟩ : ∃ z, ns[p]? = some z := ⟨ns[p]'(by omega), List.getElem?_eq_getElem _⟩
    have hzl : ns.getLastD s = z := by
      rw [List.getLastD_eq_getLast?, List.getLast?_eq_getElem?, hp, hz]
      rfl
    rw [hzl] at hF
    obtain ⟨b, off, rfl, hzc⟩ := hG.get (k := p) (x := .string z) (sv_at hz)
    have m2 : w1.heap[w.heap.size]? = some (.cells #[v0, v1, v2, v3, v4, v5, .slice A n c, v7, v8] 41 (0, 0)) := (b2.block _ (lt_of_block HM.out.1)).trans HM.out.1
    have e7 : w1.cell? ⟨w.heap.size, 6, none⟩ = some (.slice A n c) := by rw [cell_of_row w1 w.heap.size 6 _ _ _ m2]; rfl
    have KA := Lib.hid (fun w' (h : Below w1.heap.size w1 w') => addresses_any ((HR.out.later b2 (Nat.le_refl _)).later h (Nat.le_refl _)) hn z left)
    have H2 := Lib.hid (And.intro (HM.out.2.trans (b2.mono HM.out.2.size)) hG)
    have HF := Lib.hid hF
    clear b2 hF hT hz hzl hG m2 hle hp
    have hp0 : ¬ ns.length = 0 := by omega
    clear hpos
    have hq0 : ((ns.length : Int) == 0) = false := by rw [beq_eq_false_iff_ne]; omega
    have hS : Below w1.heap.size w1 w1.drew := (Below.refl _ _).drew
    have r1 : ∀ w', Below w1.heap.size w1 w' → w'.cell? ⟨w.heap.size, 6, none⟩ = some (.slice A n c) := fun w' h => (h.cell (p := ⟨w.heap.size, 6, none⟩) (lt_of_cell' e7)).trans e7
    have r2 : ∀ w', Below w1.heap.size w1 w' → w'.cell? ⟨b, off + p, none⟩ = some (.string z) := fun w' h => (h.cell (p := ⟨b, off + p, none⟩) (lt_of_cell' hzc)).trans hzc
    clear e7 hzc
    go_wp2_with fail
    refine rg_begin (fun w' => Below w1.heap.size w1 w') 13 (by kernel_rfl) rfl ?_
    refine rg_take 0 (v := ?rv23) rfl (by kernel_rfl) (by kernel_rfl) (by kernel_rfl) (fun _ _ _ h => h) (by rfl) hS (fun w2 hw2 => ?ry23) ?rr23
    case ry23 => ((try dsimp only at hw2); go_simp <;> with_reducible rfl)
    simp only [Act.put, List.setIfInBounds_toArray, List.set_cons_zero, List.set_cons_succ]
    refine rg_take 2 (v := ?rv24) rfl (by kernel_rfl) (by kernel_rfl) (by kernel_rfl) (fun _ _ _ h => h) (by rfl) hS (fun w2 hw2 => ?ry24) ?rr24
    case ry24 => ((try dsimp only at hw2); go_simp <;> with_reducible rfl)
    simp only [Act.put, List.setIfInBounds_toArray, List.set_cons_zero, List.set_cons_succ]
    refine rg_take 3 (v := ?rv25) rfl (by kernel_rfl) (by kernel_rfl) (by kernel_rfl) (fun _ _ _ h => h) (by rfl) hS (fun w2 hw2 => ?ry25) ?rr25
    case ry25 => ((try dsimp only at hw2); go_simp <;> with_reducible rfl)
    simp only [Act.put, List.setIfInBounds_toArray, List.set_cons_zero, List.set_cons_succ]
    refine rg_take 8 (v := ?rv26) rfl (by kernel_rfl) (by kernel_rfl) (by kernel_rfl) (fun _ _ _ h => h) (by rfl) hS (fun w2 hw2 => ?ry26) ?rr26
    case ry26 => ((try dsimp only at hw2); go_simp <;> with_reducible rfl)
    simp only [Act.put, List.setIfInBounds_toArray, List.set_cons_zero, List.set_cons_succ]
    refine rg_take 10 (v := ?rv27) rfl (by kernel_rfl) (by kernel_rfl) (by kernel_rfl) (fun _ _ _ h => h) (by rfl) hS (fun w2 hw2 => ?ry27) ?rr27
    case ry27 => ((try dsimp only at hw2); go_simp <;> with_reducible rfl)
    simp only [Act.put, List.setIfInBounds_toArray, List.set_cons_zero, List.set_cons_succ]
    refine rg_take 1 (v := ?rv28) rfl (by kernel_rfl) (by kernel_rfl) (by kernel_rfl) (fun _ _ _ h => h) (by rfl) hS (fun w2 hw2 => ?ry28) ?rr28
    case ry28 => ((try dsimp only at hw2); go_simp <;> with_reducible rfl)
    simp only [Act.put, List.setIfInBounds_toArray, List.set_cons_zero, List.set_cons_succ]
    refine rg_take 4 (v := ?rv29) rfl (by kernel_rfl) (by kernel_rfl) (by kernel_rfl) (fun _ _ _ h => h) (by rfl) hS (fun w2 hw2 => ?ry29) ?rr29
    case ry29 => ((try dsimp only at hw2); go_simp <;> with_reducible rfl)
    simp only [Act.put, List.setIfInBounds_toArray, List.set_cons_zero, List.set_cons_succ]
    refine rg_take 5 (v := ?rv30) rfl (by kernel_rfl) (by kernel_rfl) (by kernel_rfl) (fun _ _ _ h => h) (by rfl) hS (fun w2 hw2 => ?ry30) ?rr30
    case ry30 => ((try dsimp only at hw2); go_simp <;> with_reducible rfl)
    simp only [Act.put, List.setIfInBounds_toArray, List.set_cons_zero, List.set_cons_succ]
    refine rg_take 6 (v := ?rv31) rfl (by kernel_rfl) (by kernel_rfl) (by kernel_rfl) (fun _ _ _ h => h) (by rfl) hS (fun w2 hw2 => ?ry31) ?rr31
    case ry31 => ((try dsimp only at hw2); go_simp <;> with_reducible rfl)
    simp only [Act.put, List.setIfInBounds_toArray, List.set_cons_zero, List.set_cons_succ]
    refine rg_take 7 (v := ?rv32) rfl (by kernel_rfl) (by kernel_rfl) (by kernel_rfl) (fun _ _ _ h => h) (by rfl) hS (fun w2 hw2 => ?ry32) ?rr32
    case ry32 => ((try dsimp only at hw2); go_simp <;> with_reducible rfl)
    simp only [Act.put, List.setIfInBounds_toArray, List.set_cons_zero, List.set_cons_succ]
    refine rg_step 9 rfl (by kernel_rfl) (by rfl) (fun K hK => ?_)
    go_simp
    refine (KA.out _ hS).mono ?_
    rintro e w3 ⟨B3, m3, d3, rfl, hF3, b3⟩
    replace hS : Below w1.heap.size w1 w3 := hS.trans (b3.mono hS.size)
    have H3 := Lib.hid (And.intro hF3 (And.intro (H2.out.2.later hS (Nat.le_refl _)) (H2.out.1.trans (hS.mono H2.out.1.size))))
    clear hF3 b3
    refine hK.out _ _ hS ?_
    clear hK K
    try simp only [Act.put, List.setIfInBounds_toArray, List.set_cons_zero, List.set_cons_succ]
    refine rg_take 11 (v := ?rv33) rfl (by kernel_rfl) (by kernel_rfl) (by kernel_rfl) (fun _ _ _ h => h) (by rfl) hS (fun w2 hw2 => ?ry33) ?rr33
    case ry33 => ((try dsimp only at hw2); go_simp <;> with_reducible rfl)
    simp only [Act.put, List.setIfInBounds_toArray, List.set_cons_zero, List.set_cons_succ]
    refine rg_take 12 (v := ?rv34) rfl (by kernel_rfl) (by kernel_rfl) (by kernel_rfl) (fun _ _ _ h => h) (by rfl) hS (fun w2 hw2 => ?ry34) ?rr34
    case ry34 => ((try dsimp only at hw2); go_simp <;> with_reducible rfl)
    simp only [Act.put, List.setIfInBounds_toArray, List.set_cons_zero, List.set_cons_succ]
    refine rg_done (by kernel_rfl) ?_
    go_wp2_with fail
    rw [HF.out]
    exact bodyPost_ret (v := .tuple #[.slice B3 m3 d3, .slice (some ⟨b, off, none⟩) ns.length d]) (by simp [results, Try.results8, go_sem]) rfl ⟨B3, m3, d3, _, _, d, rfl, H3.out.1, H3.out.2.1, H3.out.2.2⟩
-->>
end Go.Proofs.Ytjbdaeiefckkcaa
