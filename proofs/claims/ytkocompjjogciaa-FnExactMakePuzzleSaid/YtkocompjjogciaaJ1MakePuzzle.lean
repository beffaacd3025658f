/-
  What is proved: contracts of what MakePuzzle calls: the next number, of the model and of the program's closure, and the model's clue of a kind. Conditions: numbers of at most 10006; hidden times, read as they lie.
  What is proved: contracts of MakePuzzle, of the model and of the program. Conditions: the times are read as they lie.
-/
import Derived.Test.YtkocompjjogciaaJ6HarderPuzzle
set_option linter.unusedSimpArgs false
set_option linter.unusedVariables false
namespace Go.Proofs.Ytkocompjjogciaa
open Go.RowKit

/-- The next number. -/
def nx9 (z : Int) : Int := (139 * z + 2971) % 10007
theorem nx9_bd (z : Int) : 0 ≤ nx9 z ∧ nx9 z ≤ 10006 := by unfold nx9; omega

set_option maxHeartbeats 1600000 in
theorem pzNext_any (z : Int) (w : World) (h0 : 0 ≤ z) (h1 : z ≤ 10006) :
    Calls Try.prog 129 #[.int .i64 z] w fun e w' => e = .returned (.int .i64 (nx9 z)) ∧ w = w' := by
  have e1 : IntKind.i64.wrap (139 * z) = 139 * z := IntWalk.i64_in _ (by omega)
  have e2 : IntKind.i64.wrap (139 * z + 2971) = 139 * z + 2971 := IntWalk.i64_in _ (by omega)
  have e3 : (139 * z + 2971).tmod 10007 = nx9 z := by rw [Int.tmod_eq_emod_of_nonneg (by omega)]; rfl
  have e4 : (139 * z + 2971) % 10007 = nx9 z := rfl
  go_enter Try.func129, Try.ntmps129
  go_wp2
  go_ret
  exact ⟨by rfl, rfl⟩

set_option maxHeartbeats 1600000 in
theorem nextFn_any (b z : Int) (g : Nat) (w : World) (h0 : 0 ≤ z) (h1 : z ≤ 10006) (hb1 : 1 ≤ b) (hb2 : b ≤ 100) (hg : Whole w g 3 #[.int .i64 z]) :
    Calls Try.prog 132 #[.int .i64 b, .pointer (some ⟨g, 0, none⟩)] w fun e w' => e = .returned (.int .i64 (nx9 z % b)) ∧ w' = w.setCell ⟨g, 0, none⟩ (.int .i64 (nx9 z)) := by
  have e1 : IntKind.i64.wrap (z * 139) = 139 * z := by rw [Int.mul_comm]; exact IntWalk.i64_in _ (by omega)
  have e2 : IntKind.i64.wrap (139 * z + 2971) = 139 * z + 2971 := IntWalk.i64_in _ (by omega)
  have e4 : (139 * z + 2971) % 10007 = nx9 z := rfl
  have hn := nx9_bd z
  have hc := hg.cell 0
  have ho := hg.open_ 0
  have hl := hg.lt
  go_enter Try.func132, Try.ntmps132
  go_wp2
  go_ret
  exact ⟨by rfl, rfl⟩

set_option maxHeartbeats 3200000 in
theorem pzOf_any (k a : Int) (A : Option Addr) (n c : Nat) (xs : List Int) (w : World) (hA : Holds w A (nums xs)) (hx : xs.length = n) (hh : hidI xs = true) (hk0 : 0 ≤ k) (hk5 : k ≤ 5) (ha : k = 0 ∨ k = 4 → 0 ≤ a ∧ a < n) :
    Calls Try.prog 130 #[.int .i64 k, .int .i64 a, .slice A n c] w fun e w' => e = .returned (.agg (clC (clOfC k a xs))) ∧ Below w.heap.size w w' := by
  have HX := Lib.hid hx
  have HH := Lib.hid hh
  have HA := Lib.hid (hA.alloc (.cells #[.int .i64 0, .int .i64 0, .int .i64 0] 87))
  have hr := Whole.fresh w 87 #[.int .i64 0, .int .i64 0, .int .i64 0]
  have ht := below1 w (.cells #[.int .i64 0, .int .i64 0, .int .i64 0] 87)
  have HT := Lib.hid ht
  by_cases hk : k = 0 ∨ k = 4
  · have HV : Hid (clOfC k a xs = (k, a, valC k a xs)) := clOfC_near hk
    have ha1 := ha hk
    have HA1 := Lib.hid ha1
    clear ha ha1
    rcases hk with rfl | rfl
    · go_enter Try.func130, Try.ntmps130
      go_wp2_with fail
      refine (pzValue_any _ a A n c xs _ HA.out HX.out HH.out hk0 hk5 (fun _ => HA1.out)).mono ?_
      rintro e w1 ⟨rfl, hb⟩
      obtain ⟨v, hv⟩ : ∃ v, valC 0 a xs = v := ⟨_, rfl⟩
      rw [hv] at HV ⊢
      replace hr := hr.below hb
      obtain ⟨r0, r1, r2⟩ := hr.cells3
      have f0 := hr.open_ 0
      have f1 := hr.open_ 1
      have f2 := hr.open_ 2
      have hl := hr.lt
      replace ht := below_then ht hb ht.size
      clear hb hr hv
      go_wp2
      exact bodyPost_ret (v := .agg #[.int .i64 0, .int .i64 a, .int .i64 v]) (by simp [results, Try.results130, go_sem, r0, r1, r2]) rfl ⟨by rw [HV.out]; rfl, below_set (below_set (below_set ht (Nat.le_refl _)) (Nat.le_refl _)) (Nat.le_refl _)⟩
    · go_enter Try.func130, Try.ntmps130
      go_wp2_with fail
      refine (pzValue_any _ a A n c xs _ HA.out HX.out HH.out hk0 hk5 (fun _ => HA1.out)).mono ?_
      rintro e w1 ⟨rfl, hb⟩
      obtain ⟨v, hv⟩ : ∃ v, valC 4 a xs = v := ⟨_, rfl⟩
      rw [hv] at HV ⊢
      replace hr := hr.below hb
      obtain ⟨r0, r1, r2⟩ := hr.cells3
      have f0 := hr.open_ 0
      have f1 := hr.open_ 1
      have f2 := hr.open_ 2
      have hl := hr.lt
      replace ht := below_then ht hb ht.size
      clear hb hr hv
      go_wp2
      exact bodyPost_ret (v := .agg #[.int .i64 4, .int .i64 a, .int .i64 v]) (by simp [results, Try.results130, go_sem, r0, r1, r2]) rfl ⟨by rw [HV.out]; rfl, below_set (below_set (below_set ht (Nat.le_refl _)) (Nat.le_refl _)) (Nat.le_refl _)⟩
  · have hk3 : k ≠ 0 := fun h => hk (.inl h)
    have hk4 : k ≠ 4 := fun h => hk (.inr h)
    have HV : Hid (clOfC k a xs = (k, valC k 0 xs, 0)) := clOfC_far hk3 hk4
    have d0 : (k == 0) = false := by simpa using hk3
    have d4 : (k == 4) = false := by simpa using hk4
    have HNO := Lib.hid hk
    clear hk ha
    go_enter Try.func130, Try.ntmps130
    go_wp2_with fail
    refine (pzValue_any k 0 A n c xs _ HA.out HX.out HH.out hk0 hk5 (fun h => absurd h HNO.out)).mono ?_
    rintro e w1 ⟨rfl, hb⟩
    obtain ⟨v, hv⟩ : ∃ v, valC k 0 xs = v := ⟨_, rfl⟩
    rw [hv] at HV ⊢
    replace hr := hr.below hb
    obtain ⟨r0, r1, r2⟩ := hr.cells3
    have f0 := hr.open_ 0
    have f1 := hr.open_ 1
    have f2 := hr.open_ 2
    have hl := hr.lt
    replace ht := below_then ht hb ht.size
    clear hb hr hv
    go_wp2
    exact bodyPost_ret (v := .agg #[.int .i64 k, .int .i64 v, .int .i64 0]) (by simp [results, Try.results130, go_sem, r0, r1, r2]) rfl ⟨by rw [HV.out]; rfl, below_set (below_set (below_set ht (Nat.le_refl _)) (Nat.le_refl _)) (Nat.le_refl _)⟩
end Go.Proofs.Ytkocompjjogciaa

namespace Go.Proofs.Ytkocompjjogciaa
open Go.RowKit

theorem own_belowM {w w' : World} {base : Nat} {e : TypeId} {size : Nat} {v : Value} {n : Nat} {xs : List Value} (h : w.ownsRow base e size v n xs) (hb : Below w.heap.size w w') : w'.ownsRow base e size v n xs := by
  obtain ⟨hl, h | ⟨g, cap, cur, hv, hg, hh, r⟩⟩ := h
  · exact ⟨hl, .inl h⟩
  · exact ⟨hl, .inr ⟨g, cap, cur, hv, hg, (hb.block g (Array.getElem?_eq_some_iff.1 hh).1).trans hh, r⟩⟩
/-- A clue from a number, and the number behind it. -/
def mkOne (xs : List Int) (z : Int) : Cl × Int :=
  if nx9 z % 6 = 0 ∨ nx9 z % 6 = 4 then (clOfC (nx9 z % 6) (nx9 (nx9 z) % xs.length) xs, nx9 (nx9 z)) else (clOfC (nx9 z % 6) 0 xs, nx9 z)
def mkZ (xs : List Int) (z : Int) : Nat → Int
  | 0 => z
  | j + 1 => (mkOne xs (mkZ xs z j)).2
def mkL (xs : List Int) (z : Int) : Nat → List Cl
  | 0 => []
  | j + 1 => mkL xs z j ++ [(mkOne xs (mkZ xs z j)).1]
theorem mkL_len (xs : List Int) (z : Int) : ∀ j, (mkL xs z j).length = j
  | 0 => rfl
  | j + 1 => by rw [mkL, List.length_append, mkL_len xs z j]; rfl
theorem mk_near {xs : List Int} {s : Int} {j : Nat} (h : nx9 (mkZ xs s j) % 6 = 0 ∨ nx9 (mkZ xs s j) % 6 = 4) :
    mkZ xs s (j + 1) = nx9 (nx9 (mkZ xs s j)) ∧ mkL xs s (j + 1) = mkL xs s j ++ [clOfC (nx9 (mkZ xs s j) % 6) (nx9 (nx9 (mkZ xs s j)) % xs.length) xs] := by
  constructor
  · show (mkOne xs (mkZ xs s j)).2 = _; rw [mkOne, if_pos h]
  · show mkL xs s j ++ [(mkOne xs (mkZ xs s j)).1] = _; rw [mkOne, if_pos h]
theorem mk_far {xs : List Int} {s : Int} {j : Nat} (h : ¬ (nx9 (mkZ xs s j) % 6 = 0 ∨ nx9 (mkZ xs s j) % 6 = 4)) :
    mkZ xs s (j + 1) = nx9 (mkZ xs s j) ∧ mkL xs s (j + 1) = mkL xs s j ++ [clOfC (nx9 (mkZ xs s j) % 6) 0 xs] := by
  constructor
  · show (mkOne xs (mkZ xs s j)).2 = _; rw [mkOne, if_neg h]
  · show mkL xs s j ++ [(mkOne xs (mkZ xs s j)).1] = _; rw [mkOne, if_neg h]
theorem mkZ_bd (xs : List Int) {s : Int} (h0 : 0 ≤ s) (h9 : s ≤ 9999) : ∀ j, 0 ≤ mkZ xs s j ∧ mkZ xs s j ≤ 10006
  | 0 => ⟨h0, by show s ≤ _; omega⟩
  | j + 1 => by
    by_cases h : nx9 (mkZ xs s j) % 6 = 0 ∨ nx9 (mkZ xs s j) % 6 = 4
    · rw [(mk_near h).1]; exact nx9_bd _
    · rw [(mk_far h).1]; exact nx9_bd _
def mkOk (xs : List Int) (k s : Int) : Bool := hidI xs && (within k 0 6 && within s 0 9999)
def mkP (xs : List Int) (k s : Int) : Int := if mkOk xs k s then xs.length else 0
def mkLs (xs : List Int) (k s : Int) : List Cl := if mkOk xs k s then mkL xs s k.toNat else []
theorem mk_no {xs : List Int} {k s : Int} (h : mkOk xs k s = false) : mkP xs k s = 0 ∧ mkLs xs k s = [] := by simp [mkP, mkLs, h]
theorem mk_yes {xs : List Int} {k s : Int} (h : mkOk xs k s = true) : mkP xs k s = xs.length ∧ mkLs xs k s = mkL xs s k.toNat := by simp [mkP, mkLs, h]
theorem mkLs_le (xs : List Int) (k s : Int) : (mkLs xs k s).length ≤ 1048576 := by
  cases h : mkOk xs k s
  · rw [(mk_no h).2]; decide
  · rw [(mk_yes h).2, mkL_len]
    simp only [mkOk, Bool.and_eq_true, within_iff] at h
    omega

set_option maxHeartbeats 12800000 in
set_option maxRecDepth 100000 in
set_option linter.unusedVariables false in
set_option linter.unusedSimpArgs false in
theorem specMake_on (A : Option Addr) (n c cN : Nat) (xs : List Int) (s : Int) (w : World) (hA : Holds w A (nums xs)) (hx : xs.length = n) (hn : n ≤ 1048576) (hh : hidI xs = true) (hc6 : cN ≤ 6) (hs0 : 0 ≤ s) (hs9 : s ≤ 9999) :
    Calls Try.prog 64 #[.slice A n c, .int .i64 (cN : Int), .int .i64 s] w (PuzPost (n : Int) (mkL xs s cN) true w) := by
  obtain ⟨i0, hi, hz0, hz1, hz2⟩ := info_parts info_clue
  have HI := Lib.hid hi
  have HZ0 := Lib.hid hz0
  have HZ1 := Lib.hid hz1
  have HZ2 := Lib.hid hz2
  obtain ⟨hn1, hn4, -⟩ := hidI_parts hh
  rw [hx] at hn1 hn4
  have HX := Lib.hid hx
  have HH := Lib.hid hh
  have HA := Lib.hid hA
  have HBD := Lib.hid (fun j => mkZ_bd xs hs0 hs9 j)
  have HCW : Hid (within (cN : Int) 0 6 = true) := within_yes (by omega) (by omega)
  have HSW : Hid (within s 0 9999 = true) := within_yes hs0 hs9
  have hci : (0 : Int) ≤ cN := by omega
  have hci6 : (cN : Int) ≤ 6 := by omega
  have HA1 := Lib.hid (hA.alloc (.cells #[.int .i64 0, .slice none 0 0] 83))
  have HQ := Lib.hid (Whole.fresh w 83 #[.int .i64 0, .slice none 0 0])
  have HT := Lib.hid (below1 w (.cells #[.int .i64 0, .slice none 0 0] 83))
  clear hi hz0 hz1 hz2 hx hh hA
  go_enter Try.func64, Try.ntmps64
  go_wp2_with fail
  refine (pzHidden_any A n c xs _ HA1.out HX.out hn).mono ?_
  rintro e w1 ⟨rfl, q, hw1⟩
  rw [HH.out]
  have ht : Below w.heap.size w w1 := by rw [hw1]; exact below_draws HT.out q
  have hg : Whole w1 w.heap.size 83 #[.int .i64 0, .slice none 0 0] := by rw [hw1]; exact HQ.out.below (below_draws (Below.refl _ _) q)
  have hgl := hg.lt
  clear hw1
  go_wp2_with fail
  refine (l1In_any _ _ _ _).mono ?_
  rintro e w' ⟨rfl, rfl⟩
  rw [HCW.out]
  go_wp2_with fail
  refine (l1In_any _ _ _ _).mono ?_
  rintro e w' ⟨rfl, rfl⟩
  rw [HSW.out]
  go_wp2_with (refine wpList_store_whole rfl 83 (.tmp 8) (.tmp 28) rfl w1.heap.size #[.int .i64 (n : Int), .slice none 0 0] rfl rfl 83 _ (Whole.fresh _ _ _) size_puzzle rfl (by simp [Value.oneCell']) ?_; intro W2 hw2 ho2)
  have HG2 := Lib.hid (ho2.whole (hg.alloc _) (Nat.ne_of_lt hgl))
  have HT2 := Lib.hid (ho2.below (ht.alloc ht.size _) (Nat.le_of_lt hgl))
  have HR2 := Lib.hid hw2
  obtain ⟨gP, hgP⟩ : ∃ g, g = w1.heap.size := ⟨_, rfl⟩
  rw [← hgP] at HR2 hgl ⊢
  clear ht hg hw2 ho2 hgP
  go_loopw [1, 9] (fun i zz wr => ∃ (j m : Nat) (Q : Option Addr) (r : Nat), j + m = cN ∧ i = .int .i64 (m : Int) ∧ zz = .int .i64 (mkZ xs s j) ∧ Whole wr gP 83 #[.int .i64 (n : Int), .slice Q j r] ∧ wr.ownsRow (gP + 1) 87 3 (.slice Q j r) j (clsC (mkL xs s j)) ∧ Whole wr w.heap.size 83 #[.int .i64 0, .slice none 0 0] ∧ Below w.heap.size w wr) (fun i _ _ => (intOf i).toNat)
  case atStart => exact ⟨0, cN, none, 0, by omega, rfl, rfl, HR2.out, World.ownsRow_nil _ _ _ _, HG2.out, HT2.out⟩
  case round =>
    clear HR2 HG2 HT2
    obtain ⟨j, m, Q, r, hjm, rfl, rfl, hr, hown, hg, ht⟩ := hrel
    obtain ⟨wz, rfl⟩ : ∃ X : World, X = wr := ⟨_, rfl⟩
    by_cases hm : 0 < m
    · have hmi : (0 : Int) < (m : Int) := by omega
      have hzb := HBD.out j
      obtain ⟨hz0, hz9⟩ := hzb
      have hz1b := nx9_bd (mkZ xs s j)
      have HNEAR := Lib.hid (fun h => mk_near (xs := xs) (s := s) (j := j) h)
      have HFAR := Lib.hid (fun h => mk_far (xs := xs) (s := s) (j := j) h)
      obtain ⟨L, hL⟩ : ∃ L, mkL xs s j = L := ⟨_, rfl⟩
      rw [hL] at hown HNEAR HFAR
      obtain ⟨z, hzz⟩ : ∃ z, mkZ xs s j = z := ⟨_, rfl⟩
      rw [hzz] at hz0 hz9 hz1b HNEAR HFAR ⊢
      obtain ⟨z1, hzz1⟩ : ∃ z1, nx9 z = z1 := ⟨_, rfl⟩
      rw [hzz1] at hz1b HNEAR HFAR
      obtain ⟨k, hkk⟩ : ∃ k, z1 % 6 = k := ⟨_, rfl⟩
      rw [hkk] at HNEAR HFAR
      obtain ⟨z2, hzz2⟩ : ∃ z2, nx9 z1 = z2 := ⟨_, rfl⟩
      have hz2b := nx9_bd z1
      rw [hzz2] at hz2b HNEAR
      obtain ⟨a, haa⟩ : ∃ a, z2 % (n : Int) = a := ⟨_, rfl⟩
      have hab : 0 ≤ a ∧ a < (n : Int) := by rw [← haa]; exact ⟨Int.emod_nonneg _ (by omega), Int.emod_lt_of_pos _ (by omega)⟩
      have hk6 : 0 ≤ k ∧ k ≤ 5 := by omega
      have HZ1E := Lib.hid hzz1
      have HKE := Lib.hid hkk
      have HZ2E := Lib.hid hzz2
      have HAE := Lib.hid haa
      have HM : Hid (j + 1 ≤ maxLen) := by show _ ≤ _; unfold maxLen; omega
      have HY : Hid ((j + 1) * 24 ≤ 140737488355328) := by show _ ≤ _; omega
      have hn0 : (n : Int) ≠ 0 := by omega
      obtain ⟨hz10, hz19⟩ := hz1b
      obtain ⟨hz20, hz29⟩ := hz2b
      clear hL hzz hzz1 hkk hzz2 haa
      go_wp2_with fail
      refine (pzNext_any z _ hz0 hz9).mono ?_
      rintro e w' ⟨rfl, rfl⟩
      rw [HZ1E.out]
      go_upto_region 9 with fail
      rw [HKE.out]
      rcases (show k = 0 ∨ k = 4 ∨ (k ≠ 0 ∧ k ≠ 4) by omega) with rfl | rfl | ⟨hk0, hk4⟩
      · have hln := (HNEAR.out (.inl rfl)).2
        have HZN : Hid (mkZ xs s (j + 1) = z2) := (HNEAR.out (.inl rfl)).1
        rw [HX.out, HAE.out] at hln
        obtain ⟨⟨x1, x2, x3⟩, hcl⟩ : ∃ t, clOfC 0 a xs = t := ⟨_, rfl⟩
        have HCL : Hid (clC (clOfC 0 a xs) = #[.int .i64 x1, .int .i64 x2, .int .i64 x3]) := by show _ = _; rw [hcl]; rfl
        have HLN : Hid (clsC (mkL xs s (j + 1)) = clsC L ++ [.int .i64 x1, .int .i64 x2, .int .i64 x3]) := by show _ = _; rw [hln, hcl, clsC_app]; simp [clsC, clC]
        clear hcl hln
        have HPER := Lib.hid hab
        clear HNEAR HFAR
        go_wp2_with fail
        refine (pzNext_any z1 _ hz10 hz19).mono ?_
        rintro e w' ⟨rfl, rfl⟩
        rw [HZ2E.out]
        go_wp2_with fail
        rw [HAE.out]
        refine wp_region_held_drew (S := (fun _ => True)) (by kernel_rfl) trivial (fun hHeld => ?_)
        replace hr := hr.drew
        replace hg := hg.drew
        replace hown := own_belowM hown (Below.refl _ _).drew
        replace ht := ht.drew
        generalize World.drew wz = wd at hr hg hown ht hHeld ⊢
        refine wpAnyH_take (i := 0) (v := ?_) rfl (by kernel_rfl) (by kernel_rfl) (by kernel_rfl) (fun _ _ _ h => h) (Or.inl ⟨rfl, ?_⟩) hHeld ?_
        rotate_left
        · intro w' hS; skip; go_simp <;> with_reducible rfl
        simp only [Act.put, List.getElem_toArray, List.getElem_cons_succ, List.getElem_cons_zero, List.setIfInBounds_toArray, List.set_cons_succ, List.set_cons_zero]
        refine wpAnyH_take (i := 2) (v := ?_) rfl (by kernel_rfl) (by kernel_rfl) (by kernel_rfl) (fun _ _ _ h => h) (Or.inl ⟨rfl, ?_⟩) hHeld ?_
        rotate_left
        · intro w' hS; skip; go_simp <;> with_reducible rfl
        simp only [Act.put, List.getElem_toArray, List.getElem_cons_succ, List.getElem_cons_zero, List.setIfInBounds_toArray, List.set_cons_succ, List.set_cons_zero]
        refine wpAnyH_take (i := 3) (v := ?_) rfl (by kernel_rfl) (by kernel_rfl) (by kernel_rfl) (fun _ _ _ h => h) (Or.inl ⟨rfl, ?_⟩) hHeld ?_
        rotate_left
        · intro w' hS; skip; go_simp <;> with_reducible rfl
        simp only [Act.put, List.getElem_toArray, List.getElem_cons_succ, List.getElem_cons_zero, List.setIfInBounds_toArray, List.set_cons_succ, List.set_cons_zero]
        refine wpAnyH_take (i := 4) (v := ?_) rfl (by kernel_rfl) (by kernel_rfl) (by kernel_rfl) (fun _ _ _ h => h) (Or.inl ⟨rfl, ?_⟩) hHeld ?_
        rotate_left
        · intro w' hS; skip; go_simp <;> with_reducible rfl
        simp only [Act.put, List.getElem_toArray, List.getElem_cons_succ, List.getElem_cons_zero, List.setIfInBounds_toArray, List.set_cons_succ, List.set_cons_zero]
        refine wpAnyH_ready (rs := [1, 5]) (by kernel_rfl) (by simp) (AllReadyH.cons rfl (fun K hK => ?_) (AllReadyH.cons rfl (fun K hK => ?_) AllReadyH.nil))
        · obtain ⟨e0, e1⟩ := hr.cells2
          have hel := hr.lt
          go_simp
          clear e0 e1 hel
          refine hK.out _ _ trivial (fun hHeld => ?_)
          clear hK K
          try simp only [Act.put, List.getElem_toArray, List.getElem_cons_succ, List.getElem_cons_zero, List.setIfInBounds_toArray, List.set_cons_succ, List.set_cons_zero]
          refine wpAnyH_ready (rs := [5]) (by kernel_rfl) (by simp) (AllReadyH.cons rfl (fun K hK => ?_) AllReadyH.nil)
          go_simp
          refine (pzOf_any 0 a A n c xs _ (HA.out.below ht) HX.out HH.out (by omega) (by omega) (fun h => HPER.out)).mono ?_
          rintro e wdc ⟨rfl, hb⟩
          rw [HCL.out]
          replace hr := hr.below hb
          replace hg := hg.below hb
          replace hown := own_belowM hown hb
          replace ht := below_then ht hb ht.size
          clear hb
          refine hK.out _ _ trivial (fun hHeld => ?_)
          clear hK K
          try simp only [Act.put, List.getElem_toArray, List.getElem_cons_succ, List.getElem_cons_zero, List.setIfInBounds_toArray, List.set_cons_succ, List.set_cons_zero]
          refine wpAnyH_ready (rs := [6]) (by kernel_rfl) (by simp) (AllReadyH.cons rfl (fun K hK => ?_) AllReadyH.nil)
          go_simp
          have hN := Whole.fresh wdc 87 #[.int .i64 x1, .int .i64 x2, .int .i64 x3]
          obtain ⟨gN, hgN⟩ : ∃ g, g = wdc.heap.size := ⟨_, rfl⟩
          rw [← hgN] at hN ⊢
          clear hgN
          replace hr := hr.alloc (.cells #[.int .i64 x1, .int .i64 x2, .int .i64 x3] 87)
          replace hg := hg.alloc (.cells #[.int .i64 x1, .int .i64 x2, .int .i64 x3] 87)
          replace hown := hown.alloc (.cells #[.int .i64 x1, .int .i64 x2, .int .i64 x3] 87)
          replace ht := ht.alloc ht.size (.cells #[.int .i64 x1, .int .i64 x2, .int .i64 x3] 87)
          generalize World.alloc wdc (.cells #[.int .i64 x1, .int .i64 x2, .int .i64 x3] 87) = wdcn at hN hr hg hown ht ⊢
          refine hK.out _ _ trivial (fun hHeld => ?_)
          clear hK K
          try simp only [Act.put, List.getElem_toArray, List.getElem_cons_succ, List.getElem_cons_zero, List.setIfInBounds_toArray, List.set_cons_succ, List.set_cons_zero]
          refine wpAnyH_ready (rs := [7]) (by kernel_rfl) (by simp) (AllReadyH.cons rfl (fun K hK => ?_) AllReadyH.nil)
          have hbs7 : gP + 1 ≤ wdcn.heap.size := hr.lt
          have HNW7 : Hid (∀ j u, ([.int .i64 x1, .int .i64 x2, .int .i64 x3] : List Value)[j]? = some u → wdcn.cell? ((⟨gN, 0, none⟩ : Addr).add j) = some u) := fun j u hu => by rw [Addr.add_lit, Nat.zero_add]; exact (hN.cell j).trans (by simpa using hu)
          refine step_append_mine rfl (.tmp 51) (.tmp 56) 81 rfl (gP + 1) 87 i0 (.agg #[.int .i64 0, .int .i64 0, .int .i64 0]) 3 24 Try.underlying81 HI.out HZ0.out HZ1.out HZ2.out rfl (by decide) (.slice Q j r) j (clsC L) (by simp [Act.eval]) (by exact hown) ⟨gN, 0, none⟩ 1 1 [.int .i64 x1, .int .i64 x2, .int .i64 x3] (by simp [Act.eval]) rfl HNW7.out (by simp [Value.oneCell']) HM.out HY.out hbs7 ?_
          intro v7 wdcna hown7 hgr7
          obtain ⟨A7, q7, rfl⟩ := own_shapeC hown7
          have hrow7 : ∀ y, (.slice Q j r : Value).ownBlock = some y → gP + 1 ≤ y := fun y hy => (hown.lt y hy).1
          clear hN
          replace hr := whole_apartA hr hgr7 (fun e => absurd (hrow7 _ e.symm) (by omega))
          replace hg := whole_apartA hg hgr7 (fun e => absurd (hrow7 _ e.symm) (by omega))
          replace ht := ht.grown hgr7 ht.size (fun y hy => by have := hrow7 y hy; omega)
          clear hgr7 hrow7 hown
          have hown := hown7
          clear hown7
          refine hK.out _ _ trivial (fun hHeld => ?_)
          clear hK K
          try simp only [Act.put, List.getElem_toArray, List.getElem_cons_succ, List.getElem_cons_zero, List.setIfInBounds_toArray, List.set_cons_succ, List.set_cons_zero]
          refine wpAnyH_take (i := 8) (v := ?_) rfl (by kernel_rfl) (by kernel_rfl) (by kernel_rfl) (fun _ _ _ h => h) (Or.inl ⟨rfl, ?_⟩) hHeld ?_
          rotate_left
          · intro w' hS; skip; go_simp <;> with_reducible rfl
          simp only [Act.put, List.getElem_toArray, List.getElem_cons_succ, List.getElem_cons_zero, List.setIfInBounds_toArray, List.set_cons_succ, List.set_cons_zero]
          refine wpAnyH_ready (rs := [9]) (by kernel_rfl) (by simp) (AllReadyH.cons rfl (fun K hK => ?_) AllReadyH.nil)
          obtain ⟨e0, e1⟩ := hr.cells2
          have hel := hr.lt
          have hop := hr.open_ 1
          go_simp
          clear e0 e1 hel hop
          have hr9 : Whole (World.setCell wdcna ⟨gP, 1, none⟩ (.slice A7 (j + 1) q7)) gP 83 #[.int .i64 (n : Int), (.slice A7 (j + 1) q7)] := hr.set_ 1 _
          have hg9 := hg.off (b := gP) (o := 1) (u := (.slice A7 (j + 1) q7)) (by omega)
          have hown9 := ownsRow_setCell_below (a := ⟨gP, 1, none⟩) hown (Nat.lt_succ_self _) (.slice A7 (j + 1) q7)
          have ht9 := below_set (b := gP) (o := 1) (u := (.slice A7 (j + 1) q7)) ht (by omega)
          generalize World.setCell wdcna ⟨gP, 1, none⟩ (.slice A7 (j + 1) q7) = wdcnas at hr9 hown9 ht9 hg9 ⊢
          clear hr hg hown ht
          refine hK.out _ _ trivial (fun hHeld => ?_)
          clear hK K
          try simp only [Act.put, List.getElem_toArray, List.getElem_cons_succ, List.getElem_cons_zero, List.setIfInBounds_toArray, List.set_cons_succ, List.set_cons_zero]
          refine wpAnyH_done (by kernel_rfl) ?_ _
          clear hHeld
          go_wp2_with fail
          go_roundw
          case rel => exact ⟨j + 1, m - 1, A7, q7, by omega, by rw [show ((m - 1 : Nat) : Int) = (m : Int) - 1 from by omega], by rw [HZN.out], hr9, by rw [HLN.out]; exact hown9, hg9, ht9⟩
          case measure => simp [intOf]; omega
        · go_simp
          refine (pzOf_any 0 a A n c xs _ (HA.out.below ht) HX.out HH.out (by omega) (by omega) (fun h => HPER.out)).mono ?_
          rintro e wdc ⟨rfl, hb⟩
          rw [HCL.out]
          replace hr := hr.below hb
          replace hg := hg.below hb
          replace hown := own_belowM hown hb
          replace ht := below_then ht hb ht.size
          clear hb
          refine hK.out _ _ trivial (fun hHeld => ?_)
          clear hK K
          try simp only [Act.put, List.getElem_toArray, List.getElem_cons_succ, List.getElem_cons_zero, List.setIfInBounds_toArray, List.set_cons_succ, List.set_cons_zero]
          refine wpAnyH_ready (rs := [1, 6]) (by kernel_rfl) (by simp) (AllReadyH.cons rfl (fun K hK => ?_) (AllReadyH.cons rfl (fun K hK => ?_) AllReadyH.nil))
          · obtain ⟨e0, e1⟩ := hr.cells2
            have hel := hr.lt
            go_simp
            clear e0 e1 hel
            refine hK.out _ _ trivial (fun hHeld => ?_)
            clear hK K
            try simp only [Act.put, List.getElem_toArray, List.getElem_cons_succ, List.getElem_cons_zero, List.setIfInBounds_toArray, List.set_cons_succ, List.set_cons_zero]
            refine wpAnyH_ready (rs := [6]) (by kernel_rfl) (by simp) (AllReadyH.cons rfl (fun K hK => ?_) AllReadyH.nil)
            go_simp
            have hN := Whole.fresh wdc 87 #[.int .i64 x1, .int .i64 x2, .int .i64 x3]
            obtain ⟨gN, hgN⟩ : ∃ g, g = wdc.heap.size := ⟨_, rfl⟩
            rw [← hgN] at hN ⊢
            clear hgN
            replace hr := hr.alloc (.cells #[.int .i64 x1, .int .i64 x2, .int .i64 x3] 87)
            replace hg := hg.alloc (.cells #[.int .i64 x1, .int .i64 x2, .int .i64 x3] 87)
            replace hown := hown.alloc (.cells #[.int .i64 x1, .int .i64 x2, .int .i64 x3] 87)
            replace ht := ht.alloc ht.size (.cells #[.int .i64 x1, .int .i64 x2, .int .i64 x3] 87)
            generalize World.alloc wdc (.cells #[.int .i64 x1, .int .i64 x2, .int .i64 x3] 87) = wdcn at hN hr hg hown ht ⊢
            refine hK.out _ _ trivial (fun hHeld => ?_)
            clear hK K
            try simp only [Act.put, List.getElem_toArray, List.getElem_cons_succ, List.getElem_cons_zero, List.setIfInBounds_toArray, List.set_cons_succ, List.set_cons_zero]
            refine wpAnyH_ready (rs := [7]) (by kernel_rfl) (by simp) (AllReadyH.cons rfl (fun K hK => ?_) AllReadyH.nil)
            have hbs7 : gP + 1 ≤ wdcn.heap.size := hr.lt
            have HNW7 : Hid (∀ j u, ([.int .i64 x1, .int .i64 x2, .int .i64 x3] : List Value)[j]? = some u → wdcn.cell? ((⟨gN, 0, none⟩ : Addr).add j) = some u) := fun j u hu => by rw [Addr.add_lit, Nat.zero_add]; exact (hN.cell j).trans (by simpa using hu)
            refine step_append_mine rfl (.tmp 51) (.tmp 56) 81 rfl (gP + 1) 87 i0 (.agg #[.int .i64 0, .int .i64 0, .int .i64 0]) 3 24 Try.underlying81 HI.out HZ0.out HZ1.out HZ2.out rfl (by decide) (.slice Q j r) j (clsC L) (by simp [Act.eval]) (by exact hown) ⟨gN, 0, none⟩ 1 1 [.int .i64 x1, .int .i64 x2, .int .i64 x3] (by simp [Act.eval]) rfl HNW7.out (by simp [Value.oneCell']) HM.out HY.out hbs7 ?_
            intro v7 wdcna hown7 hgr7
            obtain ⟨A7, q7, rfl⟩ := own_shapeC hown7
            have hrow7 : ∀ y, (.slice Q j r : Value).ownBlock = some y → gP + 1 ≤ y := fun y hy => (hown.lt y hy).1
            clear hN
            replace hr := whole_apartA hr hgr7 (fun e => absurd (hrow7 _ e.symm) (by omega))
            replace hg := whole_apartA hg hgr7 (fun e => absurd (hrow7 _ e.symm) (by omega))
            replace ht := ht.grown hgr7 ht.size (fun y hy => by have := hrow7 y hy; omega)
            clear hgr7 hrow7 hown
            have hown := hown7
            clear hown7
            refine hK.out _ _ trivial (fun hHeld => ?_)
            clear hK K
            try simp only [Act.put, List.getElem_toArray, List.getElem_cons_succ, List.getElem_cons_zero, List.setIfInBounds_toArray, List.set_cons_succ, List.set_cons_zero]
            refine wpAnyH_take (i := 8) (v := ?_) rfl (by kernel_rfl) (by kernel_rfl) (by kernel_rfl) (fun _ _ _ h => h) (Or.inl ⟨rfl, ?_⟩) hHeld ?_
            rotate_left
            · intro w' hS; skip; go_simp <;> with_reducible rfl
            simp only [Act.put, List.getElem_toArray, List.getElem_cons_succ, List.getElem_cons_zero, List.setIfInBounds_toArray, List.set_cons_succ, List.set_cons_zero]
            refine wpAnyH_ready (rs := [9]) (by kernel_rfl) (by simp) (AllReadyH.cons rfl (fun K hK => ?_) AllReadyH.nil)
            obtain ⟨e0, e1⟩ := hr.cells2
            have hel := hr.lt
            have hop := hr.open_ 1
            go_simp
            clear e0 e1 hel hop
            have hr9 : Whole (World.setCell wdcna ⟨gP, 1, none⟩ (.slice A7 (j + 1) q7)) gP 83 #[.int .i64 (n : Int), (.slice A7 (j + 1) q7)] := hr.set_ 1 _
            have hg9 := hg.off (b := gP) (o := 1) (u := (.slice A7 (j + 1) q7)) (by omega)
            have hown9 := ownsRow_setCell_below (a := ⟨gP, 1, none⟩) hown (Nat.lt_succ_self _) (.slice A7 (j + 1) q7)
            have ht9 := below_set (b := gP) (o := 1) (u := (.slice A7 (j + 1) q7)) ht (by omega)
            generalize World.setCell wdcna ⟨gP, 1, none⟩ (.slice A7 (j + 1) q7) = wdcnas at hr9 hown9 ht9 hg9 ⊢
            clear hr hg hown ht
            refine hK.out _ _ trivial (fun hHeld => ?_)
            clear hK K
            try simp only [Act.put, List.getElem_toArray, List.getElem_cons_succ, List.getElem_cons_zero, List.setIfInBounds_toArray, List.set_cons_succ, List.set_cons_zero]
            refine wpAnyH_done (by kernel_rfl) ?_ _
            clear hHeld
            go_wp2_with fail
            go_roundw
            case rel => exact ⟨j + 1, m - 1, A7, q7, by omega, by rw [show ((m - 1 : Nat) : Int) = (m : Int) - 1 from by omega], by rw [HZN.out], hr9, by rw [HLN.out]; exact hown9, hg9, ht9⟩
            case measure => simp [intOf]; omega
          · go_simp
            have hN := Whole.fresh wdc 87 #[.int .i64 x1, .int .i64 x2, .int .i64 x3]
            obtain ⟨gN, hgN⟩ : ∃ g, g = wdc.heap.size := ⟨_, rfl⟩
            rw [← hgN] at hN ⊢
            clear hgN
            replace hr := hr.alloc (.cells #[.int .i64 x1, .int .i64 x2, .int .i64 x3] 87)
            replace hg := hg.alloc (.cells #[.int .i64 x1, .int .i64 x2, .int .i64 x3] 87)
            replace hown := hown.alloc (.cells #[.int .i64 x1, .int .i64 x2, .int .i64 x3] 87)
            replace ht := ht.alloc ht.size (.cells #[.int .i64 x1, .int .i64 x2, .int .i64 x3] 87)
            generalize World.alloc wdc (.cells #[.int .i64 x1, .int .i64 x2, .int .i64 x3] 87) = wdcn at hN hr hg hown ht ⊢
            refine hK.out _ _ trivial (fun hHeld => ?_)
            clear hK K
            try simp only [Act.put, List.getElem_toArray, List.getElem_cons_succ, List.getElem_cons_zero, List.setIfInBounds_toArray, List.set_cons_succ, List.set_cons_zero]
            refine wpAnyH_ready (rs := [1]) (by kernel_rfl) (by simp) (AllReadyH.cons rfl (fun K hK => ?_) AllReadyH.nil)
            obtain ⟨e0, e1⟩ := hr.cells2
            have hel := hr.lt
            go_simp
            clear e0 e1 hel
            refine hK.out _ _ trivial (fun hHeld => ?_)
            clear hK K
            try simp only [Act.put, List.getElem_toArray, List.getElem_cons_succ, List.getElem_cons_zero, List.setIfInBounds_toArray, List.set_cons_succ, List.set_cons_zero]
            refine wpAnyH_ready (rs := [7]) (by kernel_rfl) (by simp) (AllReadyH.cons rfl (fun K hK => ?_) AllReadyH.nil)
            have hbs7 : gP + 1 ≤ wdcn.heap.size := hr.lt
            have HNW7 : Hid (∀ j u, ([.int .i64 x1, .int .i64 x2, .int .i64 x3] : List Value)[j]? = some u → wdcn.cell? ((⟨gN, 0, none⟩ : Addr).add j) = some u) := fun j u hu => by rw [Addr.add_lit, Nat.zero_add]; exact (hN.cell j).trans (by simpa using hu)
            refine step_append_mine rfl (.tmp 51) (.tmp 56) 81 rfl (gP + 1) 87 i0 (.agg #[.int .i64 0, .int .i64 0, .int .i64 0]) 3 24 Try.underlying81 HI.out HZ0.out HZ1.out HZ2.out rfl (by decide) (.slice Q j r) j (clsC L) (by simp [Act.eval]) (by exact hown) ⟨gN, 0, none⟩ 1 1 [.int .i64 x1, .int .i64 x2, .int .i64 x3] (by simp [Act.eval]) rfl HNW7.out (by simp [Value.oneCell']) HM.out HY.out hbs7 ?_
            intro v7 wdcna hown7 hgr7
            obtain ⟨A7, q7, rfl⟩ := own_shapeC hown7
            have hrow7 : ∀ y, (.slice Q j r : Value).ownBlock = some y → gP + 1 ≤ y := fun y hy => (hown.lt y hy).1
            clear hN
            replace hr := whole_apartA hr hgr7 (fun e => absurd (hrow7 _ e.symm) (by omega))
            replace hg := whole_apartA hg hgr7 (fun e => absurd (hrow7 _ e.symm) (by omega))
            replace ht := ht.grown hgr7 ht.size (fun y hy => by have := hrow7 y hy; omega)
            clear hgr7 hrow7 hown
            have hown := hown7
            clear hown7
            refine hK.out _ _ trivial (fun hHeld => ?_)
            clear hK K
            try simp only [Act.put, List.getElem_toArray, List.getElem_cons_succ, List.getElem_cons_zero, List.setIfInBounds_toArray, List.set_cons_succ, List.set_cons_zero]
            refine wpAnyH_take (i := 8) (v := ?_) rfl (by kernel_rfl) (by kernel_rfl) (by kernel_rfl) (fun _ _ _ h => h) (Or.inl ⟨rfl, ?_⟩) hHeld ?_
            rotate_left
            · intro w' hS; skip; go_simp <;> with_reducible rfl
            simp only [Act.put, List.getElem_toArray, List.getElem_cons_succ, List.getElem_cons_zero, List.setIfInBounds_toArray, List.set_cons_succ, List.set_cons_zero]
            refine wpAnyH_ready (rs := [9]) (by kernel_rfl) (by simp) (AllReadyH.cons rfl (fun K hK => ?_) AllReadyH.nil)
            obtain ⟨e0, e1⟩ := hr.cells2
            have hel := hr.lt
            have hop := hr.open_ 1
            go_simp
            clear e0 e1 hel hop
            have hr9 : Whole (World.setCell wdcna ⟨gP, 1, none⟩ (.slice A7 (j + 1) q7)) gP 83 #[.int .i64 (n : Int), (.slice A7 (j + 1) q7)] := hr.set_ 1 _
            have hg9 := hg.off (b := gP) (o := 1) (u := (.slice A7 (j + 1) q7)) (by omega)
            have hown9 := ownsRow_setCell_below (a := ⟨gP, 1, none⟩) hown (Nat.lt_succ_self _) (.slice A7 (j + 1) q7)
            have ht9 := below_set (b := gP) (o := 1) (u := (.slice A7 (j + 1) q7)) ht (by omega)
            generalize World.setCell wdcna ⟨gP, 1, none⟩ (.slice A7 (j + 1) q7) = wdcnas at hr9 hown9 ht9 hg9 ⊢
            clear hr hg hown ht
            refine hK.out _ _ trivial (fun hHeld => ?_)
            clear hK K
            try simp only [Act.put, List.getElem_toArray, List.getElem_cons_succ, List.getElem_cons_zero, List.setIfInBounds_toArray, List.set_cons_succ, List.set_cons_zero]
            refine wpAnyH_done (by kernel_rfl) ?_ _
            clear hHeld
            go_wp2_with fail
            go_roundw
            case rel => exact ⟨j + 1, m - 1, A7, q7, by omega, by rw [show ((m - 1 : Nat) : Int) = (m : Int) - 1 from by omega], by rw [HZN.out], hr9, by rw [HLN.out]; exact hown9, hg9, ht9⟩
            case measure => simp [intOf]; omega
      · have hln := (HNEAR.out (.inr rfl)).2
        have HZN : Hid (mkZ xs s (j + 1) = z2) := (HNEAR.out (.inr rfl)).1
        rw [HX.out, HAE.out] at hln
        obtain ⟨⟨x1, x2, x3⟩, hcl⟩ : ∃ t, clOfC 4 a xs = t := ⟨_, rfl⟩
        have HCL : Hid (clC (clOfC 4 a xs) = #[.int .i64 x1, .int .i64 x2, .int .i64 x3]) := by show _ = _; rw [hcl]; rfl
        have HLN : Hid (clsC (mkL xs s (j + 1)) = clsC L ++ [.int .i64 x1, .int .i64 x2, .int .i64 x3]) := by show _ = _; rw [hln, hcl, clsC_app]; simp [clsC, clC]
        clear hcl hln
        have HPER := Lib.hid hab
        clear HNEAR HFAR
        go_wp2_with fail
        refine (pzNext_any z1 _ hz10 hz19).mono ?_
        rintro e w' ⟨rfl, rfl⟩
        rw [HZ2E.out]
        go_wp2_with fail
        rw [HAE.out]
        refine wp_region_held_drew (S := (fun _ => True)) (by kernel_rfl) trivial (fun hHeld => ?_)
        replace hr := hr.drew
        replace hg := hg.drew
        replace hown := own_belowM hown (Below.refl _ _).drew
        replace ht := ht.drew
        generalize World.drew wz = wd at hr hg hown ht hHeld ⊢
        refine wpAnyH_take (i := 0) (v := ?_) rfl (by kernel_rfl) (by kernel_rfl) (by kernel_rfl) (fun _ _ _ h => h) (Or.inl ⟨rfl, ?_⟩) hHeld ?_
        rotate_left
        · intro w' hS; skip; go_simp <;> with_reducible rfl
        simp only [Act.put, List.getElem_toArray, List.getElem_cons_succ, List.getElem_cons_zero, List.setIfInBounds_toArray, List.set_cons_succ, List.set_cons_zero]
        refine wpAnyH_take (i := 2) (v := ?_) rfl (by kernel_rfl) (by kernel_rfl) (by kernel_rfl) (fun _ _ _ h => h) (Or.inl ⟨rfl, ?_⟩) hHeld ?_
        rotate_left
        · intro w' hS; skip; go_simp <;> with_reducible rfl
        simp only [Act.put, List.getElem_toArray, List.getElem_cons_succ, List.getElem_cons_zero, List.setIfInBounds_toArray, List.set_cons_succ, List.set_cons_zero]
        refine wpAnyH_take (i := 3) (v := ?_) rfl (by kernel_rfl) (by kernel_rfl) (by kernel_rfl) (fun _ _ _ h => h) (Or.inl ⟨rfl, ?_⟩) hHeld ?_
        rotate_left
        · intro w' hS; skip; go_simp <;> with_reducible rfl
        simp only [Act.put, List.getElem_toArray, List.getElem_cons_succ, List.getElem_cons_zero, List.setIfInBounds_toArray, List.set_cons_succ, List.set_cons_zero]
        refine wpAnyH_take (i := 4) (v := ?_) rfl (by kernel_rfl) (by kernel_rfl) (by kernel_rfl) (fun _ _ _ h => h) (Or.inl ⟨rfl, ?_⟩) hHeld ?_
        rotate_left
        · intro w' hS; skip; go_simp <;> with_reducible rfl
        simp only [Act.put, List.getElem_toArray, List.getElem_cons_succ, List.getElem_cons_zero, List.setIfInBounds_toArray, List.set_cons_succ, List.set_cons_zero]
        refine wpAnyH_ready (rs := [1, 5]) (by kernel_rfl) (by simp) (AllReadyH.cons rfl (fun K hK => ?_) (AllReadyH.cons rfl (fun K hK => ?_) AllReadyH.nil))
        · obtain ⟨e0, e1⟩ := hr.cells2
          have hel := hr.lt
          go_simp
          clear e0 e1 hel
          refine hK.out _ _ trivial (fun hHeld => ?_)
          clear hK K
          try simp only [Act.put, List.getElem_toArray, List.getElem_cons_succ, List.getElem_cons_zero, List.setIfInBounds_toArray, List.set_cons_succ, List.set_cons_zero]
          refine wpAnyH_ready (rs := [5]) (by kernel_rfl) (by simp) (AllReadyH.cons rfl (fun K hK => ?_) AllReadyH.nil)
          go_simp
          refine (pzOf_any 4 a A n c xs _ (HA.out.below ht) HX.out HH.out (by omega) (by omega) (fun h => HPER.out)).mono ?_
          rintro e wdc ⟨rfl, hb⟩
          rw [HCL.out]
          replace hr := hr.below hb
          replace hg := hg.below hb
          replace hown := own_belowM hown hb
          replace ht := below_then ht hb ht.size
          clear hb
          refine hK.out _ _ trivial (fun hHeld => ?_)
          clear hK K
          try simp only [Act.put, List.getElem_toArray, List.getElem_cons_succ, List.getElem_cons_zero, List.setIfInBounds_toArray, List.set_cons_succ, List.set_cons_zero]
          refine wpAnyH_ready (rs := [6]) (by kernel_rfl) (by simp) (AllReadyH.cons rfl (fun K hK => ?_) AllReadyH.nil)
          go_simp
          have hN := Whole.fresh wdc 87 #[.int .i64 x1, .int .i64 x2, .int .i64 x3]
          obtain ⟨gN, hgN⟩ : ∃ g, g = wdc.heap.size := ⟨_, rfl⟩
          rw [← hgN] at hN ⊢
          clear hgN
          replace hr := hr.alloc (.cells #[.int .i64 x1, .int .i64 x2, .int .i64 x3] 87)
          replace hg := hg.alloc (.cells #[.int .i64 x1, .int .i64 x2, .int .i64 x3] 87)
          replace hown := hown.alloc (.cells #[.int .i64 x1, .int .i64 x2, .int .i64 x3] 87)
          replace ht := ht.alloc ht.size (.cells #[.int .i64 x1, .int .i64 x2, .int .i64 x3] 87)
          generalize World.alloc wdc (.cells #[.int .i64 x1, .int .i64 x2, .int .i64 x3] 87) = wdcn at hN hr hg hown ht ⊢
          refine hK.out _ _ trivial (fun hHeld => ?_)
          clear hK K
          try simp only [Act.put, List.getElem_toArray, List.getElem_cons_succ, List.getElem_cons_zero, List.setIfInBounds_toArray, List.set_cons_succ, List.set_cons_zero]
          refine wpAnyH_ready (rs := [7]) (by kernel_rfl) (by simp) (AllReadyH.cons rfl (fun K hK => ?_) AllReadyH.nil)
          have hbs7 : gP + 1 ≤ wdcn.heap.size := hr.lt
          have HNW7 : Hid (∀ j u, ([.int .i64 x1, .int .i64 x2, .int .i64 x3] : List Value)[j]? = some u → wdcn.cell? ((⟨gN, 0, none⟩ : Addr).add j) = some u) := fun j u hu => by rw [Addr.add_lit, Nat.zero_add]; exact (hN.cell j).trans (by simpa using hu)
          refine step_append_mine rfl (.tmp 51) (.tmp 56) 81 rfl (gP + 1) 87 i0 (.agg #[.int .i64 0, .int .i64 0, .int .i64 0]) 3 24 Try.underlying81 HI.out HZ0.out HZ1.out HZ2.out rfl (by decide) (.slice Q j r) j (clsC L) (by simp [Act.eval]) (by exact hown) ⟨gN, 0, none⟩ 1 1 [.int .i64 x1, .int .i64 x2, .int .i64 x3] (by simp [Act.eval]) rfl HNW7.out (by simp [Value.oneCell']) HM.out HY.out hbs7 ?_
          intro v7 wdcna hown7 hgr7
          obtain ⟨A7, q7, rfl⟩ := own_shapeC hown7
          have hrow7 : ∀ y, (.slice Q j r : Value).ownBlock = some y → gP + 1 ≤ y := fun y hy => (hown.lt y hy).1
          clear hN
          replace hr := whole_apartA hr hgr7 (fun e => absurd (hrow7 _ e.symm) (by omega))
          replace hg := whole_apartA hg hgr7 (fun e => absurd (hrow7 _ e.symm) (by omega))
          replace ht := ht.grown hgr7 ht.size (fun y hy => by have := hrow7 y hy; omega)
          clear hgr7 hrow7 hown
          have hown := hown7
          clear hown7
          refine hK.out _ _ trivial (fun hHeld => ?_)
          clear hK K
          try simp only [Act.put, List.getElem_toArray, List.getElem_cons_succ, List.getElem_cons_zero, List.setIfInBounds_toArray, List.set_cons_succ, List.set_cons_zero]
          refine wpAnyH_take (i := 8) (v := ?_) rfl (by kernel_rfl) (by kernel_rfl) (by kernel_rfl) (fun _ _ _ h => h) (Or.inl ⟨rfl, ?_⟩) hHeld ?_
          rotate_left
          · intro w' hS; skip; go_simp <;> with_reducible rfl
          simp only [Act.put, List.getElem_toArray, List.getElem_cons_succ, List.getElem_cons_zero, List.setIfInBounds_toArray, List.set_cons_succ, List.set_cons_zero]
          refine wpAnyH_ready (rs := [9]) (by kernel_rfl) (by simp) (AllReadyH.cons rfl (fun K hK => ?_) AllReadyH.nil)
          obtain ⟨e0, e1⟩ := hr.cells2
          have hel := hr.lt
          have hop := hr.open_ 1
          go_simp
          clear e0 e1 hel hop
          have hr9 : Whole (World.setCell wdcna ⟨gP, 1, none⟩ (.slice A7 (j + 1) q7)) gP 83 #[.int .i64 (n : Int), (.slice A7 (j + 1) q7)] := hr.set_ 1 _
          have hg9 := hg.off (b := gP) (o := 1) (u := (.slice A7 (j + 1) q7)) (by omega)
          have hown9 := ownsRow_setCell_below (a := ⟨gP, 1, none⟩) hown (Nat.lt_succ_self _) (.slice A7 (j + 1) q7)
          have ht9 := below_set (b := gP) (o := 1) (u := (.slice A7 (j + 1) q7)) ht (by omega)
          generalize World.setCell wdcna ⟨gP, 1, none⟩ (.slice A7 (j + 1) q7) = wdcnas at hr9 hown9 ht9 hg9 ⊢
          clear hr hg hown ht
          refine hK.out _ _ trivial (fun hHeld => ?_)
          clear hK K
          try simp only [Act.put, List.getElem_toArray, List.getElem_cons_succ, List.getElem_cons_zero, List.setIfInBounds_toArray, List.set_cons_succ, List.set_cons_zero]
          refine wpAnyH_done (by kernel_rfl) ?_ _
          clear hHeld
          go_wp2_with fail
          go_roundw
          case rel => exact ⟨j + 1, m - 1, A7, q7, by omega, by rw [show ((m - 1 : Nat) : Int) = (m : Int) - 1 from by omega], by rw [HZN.out], hr9, by rw [HLN.out]; exact hown9, hg9, ht9⟩
          case measure => simp [intOf]; omega
        · go_simp
          refine (pzOf_any 4 a A n c xs _ (HA.out.below ht) HX.out HH.out (by omega) (by omega) (fun h => HPER.out)).mono ?_
          rintro e wdc ⟨rfl, hb⟩
          rw [HCL.out]
          replace hr := hr.below hb
          replace hg := hg.below hb
          replace hown := own_belowM hown hb
          replace ht := below_then ht hb ht.size
          clear hb
          refine hK.out _ _ trivial (fun hHeld => ?_)
          clear hK K
          try simp only [Act.put, List.getElem_toArray, List.getElem_cons_succ, List.getElem_cons_zero, List.setIfInBounds_toArray, List.set_cons_succ, List.set_cons_zero]
          refine wpAnyH_ready (rs := [1, 6]) (by kernel_rfl) (by simp) (AllReadyH.cons rfl (fun K hK => ?_) (AllReadyH.cons rfl (fun K hK => ?_) AllReadyH.nil))
          · obtain ⟨e0, e1⟩ := hr.cells2
            have hel := hr.lt
            go_simp
            clear e0 e1 hel
            refine hK.out _ _ trivial (fun hHeld => ?_)
            clear hK K
            try simp only [Act.put, List.getElem_toArray, List.getElem_cons_succ, List.getElem_cons_zero, List.setIfInBounds_toArray, List.set_cons_succ, List.set_cons_zero]
            refine wpAnyH_ready (rs := [6]) (by kernel_rfl) (by simp) (AllReadyH.cons rfl (fun K hK => ?_) AllReadyH.nil)
            go_simp
            have hN := Whole.fresh wdc 87 #[.int .i64 x1, .int .i64 x2, .int .i64 x3]
            obtain ⟨gN, hgN⟩ : ∃ g, g = wdc.heap.size := ⟨_, rfl⟩
            rw [← hgN] at hN ⊢
            clear hgN
            replace hr := hr.alloc (.cells #[.int .i64 x1, .int .i64 x2, .int .i64 x3] 87)
            replace hg := hg.alloc (.cells #[.int .i64 x1, .int .i64 x2, .int .i64 x3] 87)
            replace hown := hown.alloc (.cells #[.int .i64 x1, .int .i64 x2, .int .i64 x3] 87)
            replace ht := ht.alloc ht.size (.cells #[.int .i64 x1, .int .i64 x2, .int .i64 x3] 87)
            generalize World.alloc wdc (.cells #[.int .i64 x1, .int .i64 x2, .int .i64 x3] 87) = wdcn at hN hr hg hown ht ⊢
            refine hK.out _ _ trivial (fun hHeld => ?_)
            clear hK K
            try simp only [Act.put, List.getElem_toArray, List.getElem_cons_succ, List.getElem_cons_zero, List.setIfInBounds_toArray, List.set_cons_succ, List.set_cons_zero]
            refine wpAnyH_ready (rs := [7]) (by kernel_rfl) (by simp) (AllReadyH.cons rfl (fun K hK => ?_) AllReadyH.nil)
            have hbs7 : gP + 1 ≤ wdcn.heap.size := hr.lt
            have HNW7 : Hid (∀ j u, ([.int .i64 x1, .int .i64 x2, .int .i64 x3] : List Value)[j]? = some u → wdcn.cell? ((⟨gN, 0, none⟩ : Addr).add j) = some u) := fun j u hu => by rw [Addr.add_lit, Nat.zero_add]; exact (hN.cell j).trans (by simpa using hu)
            refine step_append_mine rfl (.tmp 51) (.tmp 56) 81 rfl (gP + 1) 87 i0 (.agg #[.int .i64 0, .int .i64 0, .int .i64 0]) 3 24 Try.underlying81 HI.out HZ0.out HZ1.out HZ2.out rfl (by decide) (.slice Q j r) j (clsC L) (by simp [Act.eval]) (by exact hown) ⟨gN, 0, none⟩ 1 1 [.int .i64 x1, .int .i64 x2, .int .i64 x3] (by simp [Act.eval]) rfl HNW7.out (by simp [Value.oneCell']) HM.out HY.out hbs7 ?_
            intro v7 wdcna hown7 hgr7
            obtain ⟨A7, q7, rfl⟩ := own_shapeC hown7
            have hrow7 : ∀ y, (.slice Q j r : Value).ownBlock = some y → gP + 1 ≤ y := fun y hy => (hown.lt y hy).1
            clear hN
            replace hr := whole_apartA hr hgr7 (fun e => absurd (hrow7 _ e.symm) (by omega))
            replace hg := whole_apartA hg hgr7 (fun e => absurd (hrow7 _ e.symm) (by omega))
            replace ht := ht.grown hgr7 ht.size (fun y hy => by have := hrow7 y hy; omega)
            clear hgr7 hrow7 hown
            have hown := hown7
            clear hown7
            refine hK.out _ _ trivial (fun hHeld => ?_)
            clear hK K
            try simp only [Act.put, List.getElem_toArray, List.getElem_cons_succ, List.getElem_cons_zero, List.setIfInBounds_toArray, List.set_cons_succ, List.set_cons_zero]
            refine wpAnyH_take (i := 8) (v := ?_) rfl (by kernel_rfl) (by kernel_rfl) (by kernel_rfl) (fun _ _ _ h => h) (Or.inl ⟨rfl, ?_⟩) hHeld ?_
            rotate_left
            · intro w' hS; skip; go_simp <;> with_reducible rfl
            simp only [Act.put, List.getElem_toArray, List.getElem_cons_succ, List.getElem_cons_zero, List.setIfInBounds_toArray, List.set_cons_succ, List.set_cons_zero]
            refine wpAnyH_ready (rs := [9]) (by kernel_rfl) (by simp) (AllReadyH.cons rfl (fun K hK => ?_) AllReadyH.nil)
            obtain ⟨e0, e1⟩ := hr.cells2
            have hel := hr.lt
            have hop := hr.open_ 1
            go_simp
            clear e0 e1 hel hop
            have hr9 : Whole (World.setCell wdcna ⟨gP, 1, none⟩ (.slice A7 (j + 1) q7)) gP 83 #[.int .i64 (n : Int), (.slice A7 (j + 1) q7)] := hr.set_ 1 _
            have hg9 := hg.off (b := gP) (o := 1) (u := (.slice A7 (j + 1) q7)) (by omega)
            have hown9 := ownsRow_setCell_below (a := ⟨gP, 1, none⟩) hown (Nat.lt_succ_self _) (.slice A7 (j + 1) q7)
            have ht9 := below_set (b := gP) (o := 1) (u := (.slice A7 (j + 1) q7)) ht (by omega)
            generalize World.setCell wdcna ⟨gP, 1, none⟩ (.slice A7 (j + 1) q7) = wdcnas at hr9 hown9 ht9 hg9 ⊢
            clear hr hg hown ht
            refine hK.out _ _ trivial (fun hHeld => ?_)
            clear hK K
            try simp only [Act.put, List.getElem_toArray, List.getElem_cons_succ, List.getElem_cons_zero, List.setIfInBounds_toArray, List.set_cons_succ, List.set_cons_zero]
            refine wpAnyH_done (by kernel_rfl) ?_ _
            clear hHeld
            go_wp2_with fail
            go_roundw
            case rel => exact ⟨j + 1, m - 1, A7, q7, by omega, by rw [show ((m - 1 : Nat) : Int) = (m : Int) - 1 from by omega], by rw [HZN.out], hr9, by rw [HLN.out]; exact hown9, hg9, ht9⟩
            case measure => simp [intOf]; omega
          · go_simp
            have hN := Whole.fresh wdc 87 #[.int .i64 x1, .int .i64 x2, .int .i64 x3]
            obtain ⟨gN, hgN⟩ : ∃ g, g = wdc.heap.size := ⟨_, rfl⟩
            rw [← hgN] at hN ⊢
            clear hgN
            replace hr := hr.alloc (.cells #[.int .i64 x1, .int .i64 x2, .int .i64 x3] 87)
            replace hg := hg.alloc (.cells #[.int .i64 x1, .int .i64 x2, .int .i64 x3] 87)
            replace hown := hown.alloc (.cells #[.int .i64 x1, .int .i64 x2, .int .i64 x3] 87)
            replace ht := ht.alloc ht.size (.cells #[.int .i64 x1, .int .i64 x2, .int .i64 x3] 87)
            generalize World.alloc wdc (.cells #[.int .i64 x1, .int .i64 x2, .int .i64 x3] 87) = wdcn at hN hr hg hown ht ⊢
            refine hK.out _ _ trivial (fun hHeld => ?_)
            clear hK K
            try simp only [Act.put, List.getElem_toArray, List.getElem_cons_succ, List.getElem_cons_zero, List.setIfInBounds_toArray, List.set_cons_succ, List.set_cons_zero]
            refine wpAnyH_ready (rs := [1]) (by kernel_rfl) (by simp) (AllReadyH.cons rfl (fun K hK => ?_) AllReadyH.nil)
            obtain ⟨e0, e1⟩ := hr.cells2
            have hel := hr.lt
            go_simp
            clear e0 e1 hel
            refine hK.out _ _ trivial (fun hHeld => ?_)
            clear hK K
            try simp only [Act.put, List.getElem_toArray, List.getElem_cons_succ, List.getElem_cons_zero, List.setIfInBounds_toArray, List.set_cons_succ, List.set_cons_zero]
            refine wpAnyH_ready (rs := [7]) (by kernel_rfl) (by simp) (AllReadyH.cons rfl (fun K hK => ?_) AllReadyH.nil)
            have hbs7 : gP + 1 ≤ wdcn.heap.size := hr.lt
            have HNW7 : Hid (∀ j u, ([.int .i64 x1, .int .i64 x2, .int .i64 x3] : List Value)[j]? = some u → wdcn.cell? ((⟨gN, 0, none⟩ : Addr).add j) = some u) := fun j u hu => by rw [Addr.add_lit, Nat.zero_add]; exact (hN.cell j).trans (by simpa using hu)
            refine step_append_mine rfl (.tmp 51) (.tmp 56) 81 rfl (gP + 1) 87 i0 (.agg #[.int .i64 0, .int .i64 0, .int .i64 0]) 3 24 Try.underlying81 HI.out HZ0.out HZ1.out HZ2.out rfl (by decide) (.slice Q j r) j (clsC L) (by simp [Act.eval]) (by exact hown) ⟨gN, 0, none⟩ 1 1 [.int .i64 x1, .int .i64 x2, .int .i64 x3] (by simp [Act.eval]) rfl HNW7.out (by simp [Value.oneCell']) HM.out HY.out hbs7 ?_
            intro v7 wdcna hown7 hgr7
            obtain ⟨A7, q7, rfl⟩ := own_shapeC hown7
            have hrow7 : ∀ y, (.slice Q j r : Value).ownBlock = some y → gP + 1 ≤ y := fun y hy => (hown.lt y hy).1
            clear hN
            replace hr := whole_apartA hr hgr7 (fun e => absurd (hrow7 _ e.symm) (by omega))
            replace hg := whole_apartA hg hgr7 (fun e => absurd (hrow7 _ e.symm) (by omega))
            replace ht := ht.grown hgr7 ht.size (fun y hy => by have := hrow7 y hy; omega)
            clear hgr7 hrow7 hown
            have hown := hown7
            clear hown7
            refine hK.out _ _ trivial (fun hHeld => ?_)
            clear hK K
            try simp only [Act.put, List.getElem_toArray, List.getElem_cons_succ, List.getElem_cons_zero, List.setIfInBounds_toArray, List.set_cons_succ, List.set_cons_zero]
            refine wpAnyH_take (i := 8) (v := ?_) rfl (by kernel_rfl) (by kernel_rfl) (by kernel_rfl) (fun _ _ _ h => h) (Or.inl ⟨rfl, ?_⟩) hHeld ?_
            rotate_left
            · intro w' hS; skip; go_simp <;> with_reducible rfl
            simp only [Act.put, List.getElem_toArray, List.getElem_cons_succ, List.getElem_cons_zero, List.setIfInBounds_toArray, List.set_cons_succ, List.set_cons_zero]
            refine wpAnyH_ready (rs := [9]) (by kernel_rfl) (by simp) (AllReadyH.cons rfl (fun K hK => ?_) AllReadyH.nil)
            obtain ⟨e0, e1⟩ := hr.cells2
            have hel := hr.lt
            have hop := hr.open_ 1
            go_simp
            clear e0 e1 hel hop
            have hr9 : Whole (World.setCell wdcna ⟨gP, 1, none⟩ (.slice A7 (j + 1) q7)) gP 83 #[.int .i64 (n : Int), (.slice A7 (j + 1) q7)] := hr.set_ 1 _
            have hg9 := hg.off (b := gP) (o := 1) (u := (.slice A7 (j + 1) q7)) (by omega)
            have hown9 := ownsRow_setCell_below (a := ⟨gP, 1, none⟩) hown (Nat.lt_succ_self _) (.slice A7 (j + 1) q7)
            have ht9 := below_set (b := gP) (o := 1) (u := (.slice A7 (j + 1) q7)) ht (by omega)
            generalize World.setCell wdcna ⟨gP, 1, none⟩ (.slice A7 (j + 1) q7) = wdcnas at hr9 hown9 ht9 hg9 ⊢
            clear hr hg hown ht
            refine hK.out _ _ trivial (fun hHeld => ?_)
            clear hK K
            try simp only [Act.put, List.getElem_toArray, List.getElem_cons_succ, List.getElem_cons_zero, List.setIfInBounds_toArray, List.set_cons_succ, List.set_cons_zero]
            refine wpAnyH_done (by kernel_rfl) ?_ _
            clear hHeld
            go_wp2_with fail
            go_roundw
            case rel => exact ⟨j + 1, m - 1, A7, q7, by omega, by rw [show ((m - 1 : Nat) : Int) = (m : Int) - 1 from by omega], by rw [HZN.out], hr9, by rw [HLN.out]; exact hown9, hg9, ht9⟩
            case measure => simp [intOf]; omega
      · have hkn : ¬ (k = 0 ∨ k = 4) := by omega
        have hln := (HFAR.out hkn).2
        have HZN : Hid (mkZ xs s (j + 1) = z1) := (HFAR.out hkn).1
        have d0 : (k == 0) = false := by simpa using hk0
        have d4 : (k == 4) = false := by simpa using hk4
        obtain ⟨⟨x1, x2, x3⟩, hcl⟩ : ∃ t, clOfC k 0 xs = t := ⟨_, rfl⟩
        have HCL : Hid (clC (clOfC k 0 xs) = #[.int .i64 x1, .int .i64 x2, .int .i64 x3]) := by show _ = _; rw [hcl]; rfl
        have HLN : Hid (clsC (mkL xs s (j + 1)) = clsC L ++ [.int .i64 x1, .int .i64 x2, .int .i64 x3]) := by show _ = _; rw [hln, hcl, clsC_app]; simp [clsC, clC]
        clear hcl hln
        have HPER := Lib.hid hkn
        clear HNEAR HFAR hkn
        go_wp2_with fail
        refine wp_region_held_drew (S := (fun _ => True)) (by kernel_rfl) trivial (fun hHeld => ?_)
        replace hr := hr.drew
        replace hg := hg.drew
        replace hown := own_belowM hown (Below.refl _ _).drew
        replace ht := ht.drew
        generalize World.drew wz = wd at hr hg hown ht hHeld ⊢
        refine wpAnyH_take (i := 0) (v := ?_) rfl (by kernel_rfl) (by kernel_rfl) (by kernel_rfl) (fun _ _ _ h => h) (Or.inl ⟨rfl, ?_⟩) hHeld ?_
        rotate_left
        · intro w' hS; skip; go_simp <;> with_reducible rfl
        simp only [Act.put, List.getElem_toArray, List.getElem_cons_succ, List.getElem_cons_zero, List.setIfInBounds_toArray, List.set_cons_succ, List.set_cons_zero]
        refine wpAnyH_take (i := 2) (v := ?_) rfl (by kernel_rfl) (by kernel_rfl) (by kernel_rfl) (fun _ _ _ h => h) (Or.inl ⟨rfl, ?_⟩) hHeld ?_
        rotate_left
        · intro w' hS; skip; go_simp <;> with_reducible rfl
        simp only [Act.put, List.getElem_toArray, List.getElem_cons_succ, List.getElem_cons_zero, List.setIfInBounds_toArray, List.set_cons_succ, List.set_cons_zero]
        refine wpAnyH_take (i := 3) (v := ?_) rfl (by kernel_rfl) (by kernel_rfl) (by kernel_rfl) (fun _ _ _ h => h) (Or.inl ⟨rfl, ?_⟩) hHeld ?_
        rotate_left
        · intro w' hS; skip; go_simp <;> with_reducible rfl
        simp only [Act.put, List.getElem_toArray, List.getElem_cons_succ, List.getElem_cons_zero, List.setIfInBounds_toArray, List.set_cons_succ, List.set_cons_zero]
        refine wpAnyH_take (i := 4) (v := ?_) rfl (by kernel_rfl) (by kernel_rfl) (by kernel_rfl) (fun _ _ _ h => h) (Or.inl ⟨rfl, ?_⟩) hHeld ?_
        rotate_left
        · intro w' hS; skip; go_simp <;> with_reducible rfl
        simp only [Act.put, List.getElem_toArray, List.getElem_cons_succ, List.getElem_cons_zero, List.setIfInBounds_toArray, List.set_cons_succ, List.set_cons_zero]
        refine wpAnyH_ready (rs := [1, 5]) (by kernel_rfl) (by simp) (AllReadyH.cons rfl (fun K hK => ?_) (AllReadyH.cons rfl (fun K hK => ?_) AllReadyH.nil))
        · obtain ⟨e0, e1⟩ := hr.cells2
          have hel := hr.lt
          go_simp
          clear e0 e1 hel
          refine hK.out _ _ trivial (fun hHeld => ?_)
          clear hK K
          try simp only [Act.put, List.getElem_toArray, List.getElem_cons_succ, List.getElem_cons_zero, List.setIfInBounds_toArray, List.set_cons_succ, List.set_cons_zero]
          refine wpAnyH_ready (rs := [5]) (by kernel_rfl) (by simp) (AllReadyH.cons rfl (fun K hK => ?_) AllReadyH.nil)
          go_simp
          refine (pzOf_any k 0 A n c xs _ (HA.out.below ht) HX.out HH.out (by omega) (by omega) (fun h => absurd h HPER.out)).mono ?_
          rintro e wdc ⟨rfl, hb⟩
          rw [HCL.out]
          replace hr := hr.below hb
          replace hg := hg.below hb
          replace hown := own_belowM hown hb
          replace ht := below_then ht hb ht.size
          clear hb
          refine hK.out _ _ trivial (fun hHeld => ?_)
          clear hK K
          try simp only [Act.put, List.getElem_toArray, List.getElem_cons_succ, List.getElem_cons_zero, List.setIfInBounds_toArray, List.set_cons_succ, List.set_cons_zero]
          refine wpAnyH_ready (rs := [6]) (by kernel_rfl) (by simp) (AllReadyH.cons rfl (fun K hK => ?_) AllReadyH.nil)
          go_simp
          have hN := Whole.fresh wdc 87 #[.int .i64 x1, .int .i64 x2, .int .i64 x3]
          obtain ⟨gN, hgN⟩ : ∃ g, g = wdc.heap.size := ⟨_, rfl⟩
          rw [← hgN] at hN ⊢
          clear hgN
          replace hr := hr.alloc (.cells #[.int .i64 x1, .int .i64 x2, .int .i64 x3] 87)
          replace hg := hg.alloc (.cells #[.int .i64 x1, .int .i64 x2, .int .i64 x3] 87)
          replace hown := hown.alloc (.cells #[.int .i64 x1, .int .i64 x2, .int .i64 x3] 87)
          replace ht := ht.alloc ht.size (.cells #[.int .i64 x1, .int .i64 x2, .int .i64 x3] 87)
          generalize World.alloc wdc (.cells #[.int .i64 x1, .int .i64 x2, .int .i64 x3] 87) = wdcn at hN hr hg hown ht ⊢
          refine hK.out _ _ trivial (fun hHeld => ?_)
          clear hK K
          try simp only [Act.put, List.getElem_toArray, List.getElem_cons_succ, List.getElem_cons_zero, List.setIfInBounds_toArray, List.set_cons_succ, List.set_cons_zero]
          refine wpAnyH_ready (rs := [7]) (by kernel_rfl) (by simp) (AllReadyH.cons rfl (fun K hK => ?_) AllReadyH.nil)
          have hbs7 : gP + 1 ≤ wdcn.heap.size := hr.lt
          have HNW7 : Hid (∀ j u, ([.int .i64 x1, .int .i64 x2, .int .i64 x3] : List Value)[j]? = some u → wdcn.cell? ((⟨gN, 0, none⟩ : Addr).add j) = some u) := fun j u hu => by rw [Addr.add_lit, Nat.zero_add]; exact (hN.cell j).trans (by simpa using hu)
          refine step_append_mine rfl (.tmp 51) (.tmp 56) 81 rfl (gP + 1) 87 i0 (.agg #[.int .i64 0, .int .i64 0, .int .i64 0]) 3 24 Try.underlying81 HI.out HZ0.out HZ1.out HZ2.out rfl (by decide) (.slice Q j r) j (clsC L) (by simp [Act.eval]) (by exact hown) ⟨gN, 0, none⟩ 1 1 [.int .i64 x1, .int .i64 x2, .int .i64 x3] (by simp [Act.eval]) rfl HNW7.out (by simp [Value.oneCell']) HM.out HY.out hbs7 ?_
          intro v7 wdcna hown7 hgr7
          obtain ⟨A7, q7, rfl⟩ := own_shapeC hown7
          have hrow7 : ∀ y, (.slice Q j r : Value).ownBlock = some y → gP + 1 ≤ y := fun y hy => (hown.lt y hy).1
          clear hN
          replace hr := whole_apartA hr hgr7 (fun e => absurd (hrow7 _ e.symm) (by omega))
          replace hg := whole_apartA hg hgr7 (fun e => absurd (hrow7 _ e.symm) (by omega))
          replace ht := ht.grown hgr7 ht.size (fun y hy => by have := hrow7 y hy; omega)
          clear hgr7 hrow7 hown
          have hown := hown7
          clear hown7
          refine hK.out _ _ trivial (fun hHeld => ?_)
          clear hK K
          try simp only [Act.put, List.getElem_toArray, List.getElem_cons_succ, List.getElem_cons_zero, List.setIfInBounds_toArray, List.set_cons_succ, List.set_cons_zero]
          refine wpAnyH_take (i := 8) (v := ?_) rfl (by kernel_rfl) (by kernel_rfl) (by kernel_rfl) (fun _ _ _ h => h) (Or.inl ⟨rfl, ?_⟩) hHeld ?_
          rotate_left
          · intro w' hS; skip; go_simp <;> with_reducible rfl
          simp only [Act.put, List.getElem_toArray, List.getElem_cons_succ, List.getElem_cons_zero, List.setIfInBounds_toArray, List.set_cons_succ, List.set_cons_zero]
          refine wpAnyH_ready (rs := [9]) (by kernel_rfl) (by simp) (AllReadyH.cons rfl (fun K hK => ?_) AllReadyH.nil)
          obtain ⟨e0, e1⟩ := hr.cells2
          have hel := hr.lt
          have hop := hr.open_ 1
          go_simp
          clear e0 e1 hel hop
          have hr9 : Whole (World.setCell wdcna ⟨gP, 1, none⟩ (.slice A7 (j + 1) q7)) gP 83 #[.int .i64 (n : Int), (.slice A7 (j + 1) q7)] := hr.set_ 1 _
          have hg9 := hg.off (b := gP) (o := 1) (u := (.slice A7 (j + 1) q7)) (by omega)
          have hown9 := ownsRow_setCell_below (a := ⟨gP, 1, none⟩) hown (Nat.lt_succ_self _) (.slice A7 (j + 1) q7)
          have ht9 := below_set (b := gP) (o := 1) (u := (.slice A7 (j + 1) q7)) ht (by omega)
          generalize World.setCell wdcna ⟨gP, 1, none⟩ (.slice A7 (j + 1) q7) = wdcnas at hr9 hown9 ht9 hg9 ⊢
          clear hr hg hown ht
          refine hK.out _ _ trivial (fun hHeld => ?_)
          clear hK K
          try simp only [Act.put, List.getElem_toArray, List.getElem_cons_succ, List.getElem_cons_zero, List.setIfInBounds_toArray, List.set_cons_succ, List.set_cons_zero]
          refine wpAnyH_done (by kernel_rfl) ?_ _
          clear hHeld
          go_wp2_with fail
          go_roundw
          case rel => exact ⟨j + 1, m - 1, A7, q7, by omega, by rw [show ((m - 1 : Nat) : Int) = (m : Int) - 1 from by omega], by rw [HZN.out], hr9, by rw [HLN.out]; exact hown9, hg9, ht9⟩
          case measure => simp [intOf]; omega
        · go_simp
          refine (pzOf_any k 0 A n c xs _ (HA.out.below ht) HX.out HH.out (by omega) (by omega) (fun h => absurd h HPER.out)).mono ?_
          rintro e wdc ⟨rfl, hb⟩
          rw [HCL.out]
          replace hr := hr.below hb
          replace hg := hg.below hb
          replace hown := own_belowM hown hb
          replace ht := below_then ht hb ht.size
          clear hb
          refine hK.out _ _ trivial (fun hHeld => ?_)
          clear hK K
          try simp only [Act.put, List.getElem_toArray, List.getElem_cons_succ, List.getElem_cons_zero, List.setIfInBounds_toArray, List.set_cons_succ, List.set_cons_zero]
          refine wpAnyH_ready (rs := [1, 6]) (by kernel_rfl) (by simp) (AllReadyH.cons rfl (fun K hK => ?_) (AllReadyH.cons rfl (fun K hK => ?_) AllReadyH.nil))
          · obtain ⟨e0, e1⟩ := hr.cells2
            have hel := hr.lt
            go_simp
            clear e0 e1 hel
            refine hK.out _ _ trivial (fun hHeld => ?_)
            clear hK K
            try simp only [Act.put, List.getElem_toArray, List.getElem_cons_succ, List.getElem_cons_zero, List.setIfInBounds_toArray, List.set_cons_succ, List.set_cons_zero]
            refine wpAnyH_ready (rs := [6]) (by kernel_rfl) (by simp) (AllReadyH.cons rfl (fun K hK => ?_) AllReadyH.nil)
            go_simp
            have hN := Whole.fresh wdc 87 #[.int .i64 x1, .int .i64 x2, .int .i64 x3]
            obtain ⟨gN, hgN⟩ : ∃ g, g = wdc.heap.size := ⟨_, rfl⟩
            rw [← hgN] at hN ⊢
            clear hgN
            replace hr := hr.alloc (.cells #[.int .i64 x1, .int .i64 x2, .int .i64 x3] 87)
            replace hg := hg.alloc (.cells #[.int .i64 x1, .int .i64 x2, .int .i64 x3] 87)
            replace hown := hown.alloc (.cells #[.int .i64 x1, .int .i64 x2, .int .i64 x3] 87)
            replace ht := ht.alloc ht.size (.cells #[.int .i64 x1, .int .i64 x2, .int .i64 x3] 87)
            generalize World.alloc wdc (.cells #[.int .i64 x1, .int .i64 x2, .int .i64 x3] 87) = wdcn at hN hr hg hown ht ⊢
            refine hK.out _ _ trivial (fun hHeld => ?_)
            clear hK K
            try simp only [Act.put, List.getElem_toArray, List.getElem_cons_succ, List.getElem_cons_zero, List.setIfInBounds_toArray, List.set_cons_succ, List.set_cons_zero]
            refine wpAnyH_ready (rs := [7]) (by kernel_rfl) (by simp) (AllReadyH.cons rfl (fun K hK => ?_) AllReadyH.nil)
            have hbs7 : gP + 1 ≤ wdcn.heap.size := hr.lt
            have HNW7 : Hid (∀ j u, ([.int .i64 x1, .int .i64 x2, .int .i64 x3] : List Value)[j]? = some u → wdcn.cell? ((⟨gN, 0, none⟩ : Addr).add j) = some u) := fun j u hu => by rw [Addr.add_lit, Nat.zero_add]; exact (hN.cell j).trans (by simpa using hu)
            refine step_append_mine rfl (.tmp 51) (.tmp 56) 81 rfl (gP + 1) 87 i0 (.agg #[.int .i64 0, .int .i64 0, .int .i64 0]) 3 24 Try.underlying81 HI.out HZ0.out HZ1.out HZ2.out rfl (by decide) (.slice Q j r) j (clsC L) (by simp [Act.eval]) (by exact hown) ⟨gN, 0, none⟩ 1 1 [.int .i64 x1, .int .i64 x2, .int .i64 x3] (by simp [Act.eval]) rfl HNW7.out (by simp [Value.oneCell']) HM.out HY.out hbs7 ?_
            intro v7 wdcna hown7 hgr7
            obtain ⟨A7, q7, rfl⟩ := own_shapeC hown7
            have hrow7 : ∀ y, (.slice Q j r : Value).ownBlock = some y → gP + 1 ≤ y := fun y hy => (hown.lt y hy).1
            clear hN
            replace hr := whole_apartA hr hgr7 (fun e => absurd (hrow7 _ e.symm) (by omega))
            replace hg := whole_apartA hg hgr7 (fun e => absurd (hrow7 _ e.symm) (by omega))
            replace ht := ht.grown hgr7 ht.size (fun y hy => by have := hrow7 y hy; omega)
            clear hgr7 hrow7 hown
            have hown := hown7
            clear hown7
            refine hK.out _ _ trivial (fun hHeld => ?_)
            clear hK K
            try simp only [Act.put, List.getElem_toArray, List.getElem_cons_succ, List.getElem_cons_zero, List.setIfInBounds_toArray, List.set_cons_succ, List.set_cons_zero]
            refine wpAnyH_take (i := 8) (v := ?_) rfl (by kernel_rfl) (by kernel_rfl) (by kernel_rfl) (fun _ _ _ h => h) (Or.inl ⟨rfl, ?_⟩) hHeld ?_
            rotate_left
            · intro w' hS; skip; go_simp <;> with_reducible rfl
            simp only [Act.put, List.getElem_toArray, List.getElem_cons_succ, List.getElem_cons_zero, List.setIfInBounds_toArray, List.set_cons_succ, List.set_cons_zero]
            refine wpAnyH_ready (rs := [9]) (by kernel_rfl) (by simp) (AllReadyH.cons rfl (fun K hK => ?_) AllReadyH.nil)
            obtain ⟨e0, e1⟩ := hr.cells2
            have hel := hr.lt
            have hop := hr.open_ 1
            go_simp
            clear e0 e1 hel hop
            have hr9 : Whole (World.setCell wdcna ⟨gP, 1, none⟩ (.slice A7 (j + 1) q7)) gP 83 #[.int .i64 (n : Int), (.slice A7 (j + 1) q7)] := hr.set_ 1 _
            have hg9 := hg.off (b := gP) (o := 1) (u := (.slice A7 (j + 1) q7)) (by omega)
            have hown9 := ownsRow_setCell_below (a := ⟨gP, 1, none⟩) hown (Nat.lt_succ_self _) (.slice A7 (j + 1) q7)
            have ht9 := below_set (b := gP) (o := 1) (u := (.slice A7 (j + 1) q7)) ht (by omega)
            generalize World.setCell wdcna ⟨gP, 1, none⟩ (.slice A7 (j + 1) q7) = wdcnas at hr9 hown9 ht9 hg9 ⊢
            clear hr hg hown ht
            refine hK.out _ _ trivial (fun hHeld => ?_)
            clear hK K
            try simp only [Act.put, List.getElem_toArray, List.getElem_cons_succ, List.getElem_cons_zero, List.setIfInBounds_toArray, List.set_cons_succ, List.set_cons_zero]
            refine wpAnyH_done (by kernel_rfl) ?_ _
            clear hHeld
            go_wp2_with fail
            go_roundw
            case rel => exact ⟨j + 1, m - 1, A7, q7, by omega, by rw [show ((m - 1 : Nat) : Int) = (m : Int) - 1 from by omega], by rw [HZN.out], hr9, by rw [HLN.out]; exact hown9, hg9, ht9⟩
            case measure => simp [intOf]; omega
          · go_simp
            have hN := Whole.fresh wdc 87 #[.int .i64 x1, .int .i64 x2, .int .i64 x3]
            obtain ⟨gN, hgN⟩ : ∃ g, g = wdc.heap.size := ⟨_, rfl⟩
            rw [← hgN] at hN ⊢
            clear hgN
            replace hr := hr.alloc (.cells #[.int .i64 x1, .int .i64 x2, .int .i64 x3] 87)
            replace hg := hg.alloc (.cells #[.int .i64 x1, .int .i64 x2, .int .i64 x3] 87)
            replace hown := hown.alloc (.cells #[.int .i64 x1, .int .i64 x2, .int .i64 x3] 87)
            replace ht := ht.alloc ht.size (.cells #[.int .i64 x1, .int .i64 x2, .int .i64 x3] 87)
            generalize World.alloc wdc (.cells #[.int .i64 x1, .int .i64 x2, .int .i64 x3] 87) = wdcn at hN hr hg hown ht ⊢
            refine hK.out _ _ trivial (fun hHeld => ?_)
            clear hK K
            try simp only [Act.put, List.getElem_toArray, List.getElem_cons_succ, List.getElem_cons_zero, List.setIfInBounds_toArray, List.set_cons_succ, List.set_cons_zero]
            refine wpAnyH_ready (rs := [1]) (by kernel_rfl) (by simp) (AllReadyH.cons rfl (fun K hK => ?_) AllReadyH.nil)
            obtain ⟨e0, e1⟩ := hr.cells2
            have hel := hr.lt
            go_simp
            clear e0 e1 hel
            refine hK.out _ _ trivial (fun hHeld => ?_)
            clear hK K
            try simp only [Act.put, List.getElem_toArray, List.getElem_cons_succ, List.getElem_cons_zero, List.setIfInBounds_toArray, List.set_cons_succ, List.set_cons_zero]
            refine wpAnyH_ready (rs := [7]) (by kernel_rfl) (by simp) (AllReadyH.cons rfl (fun K hK => ?_) AllReadyH.nil)
            have hbs7 : gP + 1 ≤ wdcn.heap.size := hr.lt
            have HNW7 : Hid (∀ j u, ([.int .i64 x1, .int .i64 x2, .int .i64 x3] : List Value)[j]? = some u → wdcn.cell? ((⟨gN, 0, none⟩ : Addr).add j) = some u) := fun j u hu => by rw [Addr.add_lit, Nat.zero_add]; exact (hN.cell j).trans (by simpa using hu)
            refine step_append_mine rfl (.tmp 51) (.tmp 56) 81 rfl (gP + 1) 87 i0 (.agg #[.int .i64 0, .int .i64 0, .int .i64 0]) 3 24 Try.underlying81 HI.out HZ0.out HZ1.out HZ2.out rfl (by decide) (.slice Q j r) j (clsC L) (by simp [Act.eval]) (by exact hown) ⟨gN, 0, none⟩ 1 1 [.int .i64 x1, .int .i64 x2, .int .i64 x3] (by simp [Act.eval]) rfl HNW7.out (by simp [Value.oneCell']) HM.out HY.out hbs7 ?_
            intro v7 wdcna hown7 hgr7
            obtain ⟨A7, q7, rfl⟩ := own_shapeC hown7
            have hrow7 : ∀ y, (.slice Q j r : Value).ownBlock = some y → gP + 1 ≤ y := fun y hy => (hown.lt y hy).1
            clear hN
            replace hr := whole_apartA hr hgr7 (fun e => absurd (hrow7 _ e.symm) (by omega))
            replace hg := whole_apartA hg hgr7 (fun e => absurd (hrow7 _ e.symm) (by omega))
            replace ht := ht.grown hgr7 ht.size (fun y hy => by have := hrow7 y hy; omega)
            clear hgr7 hrow7 hown
            have hown := hown7
            clear hown7
            refine hK.out _ _ trivial (fun hHeld => ?_)
            clear hK K
            try simp only [Act.put, List.getElem_toArray, List.getElem_cons_succ, List.getElem_cons_zero, List.setIfInBounds_toArray, List.set_cons_succ, List.set_cons_zero]
            refine wpAnyH_take (i := 8) (v := ?_) rfl (by kernel_rfl) (by kernel_rfl) (by kernel_rfl) (fun _ _ _ h => h) (Or.inl ⟨rfl, ?_⟩) hHeld ?_
            rotate_left
            · intro w' hS; skip; go_simp <;> with_reducible rfl
            simp only [Act.put, List.getElem_toArray, List.getElem_cons_succ, List.getElem_cons_zero, List.setIfInBounds_toArray, List.set_cons_succ, List.set_cons_zero]
            refine wpAnyH_ready (rs := [9]) (by kernel_rfl) (by simp) (AllReadyH.cons rfl (fun K hK => ?_) AllReadyH.nil)
            obtain ⟨e0, e1⟩ := hr.cells2
            have hel := hr.lt
            have hop := hr.open_ 1
            go_simp
            clear e0 e1 hel hop
            have hr9 : Whole (World.setCell wdcna ⟨gP, 1, none⟩ (.slice A7 (j + 1) q7)) gP 83 #[.int .i64 (n : Int), (.slice A7 (j + 1) q7)] := hr.set_ 1 _
            have hg9 := hg.off (b := gP) (o := 1) (u := (.slice A7 (j + 1) q7)) (by omega)
            have hown9 := ownsRow_setCell_below (a := ⟨gP, 1, none⟩) hown (Nat.lt_succ_self _) (.slice A7 (j + 1) q7)
            have ht9 := below_set (b := gP) (o := 1) (u := (.slice A7 (j + 1) q7)) ht (by omega)
            generalize World.setCell wdcna ⟨gP, 1, none⟩ (.slice A7 (j + 1) q7) = wdcnas at hr9 hown9 ht9 hg9 ⊢
            clear hr hg hown ht
            refine hK.out _ _ trivial (fun hHeld => ?_)
            clear hK K
            try simp only [Act.put, List.getElem_toArray, List.getElem_cons_succ, List.getElem_cons_zero, List.setIfInBounds_toArray, List.set_cons_succ, List.set_cons_zero]
            refine wpAnyH_done (by kernel_rfl) ?_ _
            clear hHeld
            go_wp2_with fail
            go_roundw
            case rel => exact ⟨j + 1, m - 1, A7, q7, by omega, by rw [show ((m - 1 : Nat) : Int) = (m : Int) - 1 from by omega], by rw [HZN.out], hr9, by rw [HLN.out]; exact hown9, hg9, ht9⟩
            case measure => simp [intOf]; omega
    · obtain rfl : m = 0 := by omega
      obtain rfl : j = cN := by omega
      obtain ⟨p0, p1⟩ := hr.cells2
      have hel := hr.lt
      have hgl2 := hg.lt
      obtain ⟨r0, r1, f0, f1⟩ := hg.two
      have F9 := Lib.hid (own_freshK (own_lowerA (ownsRow_setCell_below (a := ⟨w.heap.size, 1, none⟩) (ownsRow_setCell_below (a := ⟨w.heap.size, 0, none⟩) hown (by show w.heap.size < gP + 1; omega) (.int .i64 (n : Int))) (by show w.heap.size < gP + 1; omega) (.slice Q j r)) (show w.heap.size ≤ gP + 1 by omega)))
      have T9 := Lib.hid (below_set (o := 1) (u := .slice Q j r) (below_set (o := 0) (u := .int .i64 (n : Int)) ht (Nat.le_refl w.heap.size)) (Nat.le_refl w.heap.size))
      clear hown ht hr hg
      go_wp2
      refine bodyPost_ret (v := .tuple #[.agg #[.int .i64 (n : Int), .slice Q j r], .bool true]) (by simp [results, Try.results64, go_sem, r0, r1]) rfl ⟨Q, r, by rw [mkL_len], F9.out, T9.out⟩

set_option maxHeartbeats 12800000 in
set_option maxRecDepth 100000 in
set_option linter.unusedVariables false in
set_option linter.unusedSimpArgs false in
theorem implMake_on (A : Option Addr) (n c cN : Nat) (xs : List Int) (s : Int) (w : World) (hA : Holds w A (nums xs)) (hx : xs.length = n) (hn : n ≤ 1048576) (hh : hidI xs = true) (hc6 : cN ≤ 6) (hs0 : 0 ≤ s) (hs9 : s ≤ 9999) :
    Calls Try.prog 65 #[.slice A n c, .int .i64 (cN : Int), .int .i64 s] w (PuzPost (n : Int) (mkL xs s cN) true w) := by
  obtain ⟨i0, hi, hz0, hz1, hz2⟩ := info_parts info_clue
  have HI := Lib.hid hi
  have HZ0 := Lib.hid hz0
  have HZ1 := Lib.hid hz1
  have HZ2 := Lib.hid hz2
  obtain ⟨hn1, hn4, -⟩ := hidI_parts hh
  rw [hx] at hn1 hn4
  have HX := Lib.hid hx
  have HH := Lib.hid hh
  have HA := Lib.hid hA
  have HBD := Lib.hid (fun j => mkZ_bd xs hs0 hs9 j)
  have HCW : Hid (within (cN : Int) 0 6 = true) := within_yes (by omega) (by omega)
  have HSW : Hid (within s 0 9999 = true) := within_yes hs0 hs9
  have hci : (0 : Int) ≤ cN := by omega
  have hci6 : (cN : Int) ≤ 6 := by omega
  have HA1 := Lib.hid (hA.alloc (.cells #[.int .i64 0, .slice none 0 0] 83))
  have HQ := Lib.hid (Whole.fresh w 83 #[.int .i64 0, .slice none 0 0])
  have HT := Lib.hid (below1 w (.cells #[.int .i64 0, .slice none 0 0] 83))
  clear hi hz0 hz1 hz2 hx hh hA
  go_enter Try.func65, Try.ntmps65
  go_wp2_with fail
  refine (isHidden_any A n c xs _ HA1.out HX.out hn).mono ?_
  rintro e w1 ⟨rfl, q, hw1⟩
  rw [HH.out]
  have ht : Below w.heap.size w w1 := by rw [hw1]; exact below_draws HT.out q
  have hg : Whole w1 w.heap.size 83 #[.int .i64 0, .slice none 0 0] := by rw [hw1]; exact HQ.out.below (below_draws (Below.refl _ _) q)
  have hgl := hg.lt
  clear hw1
  go_wp2
  have hg2 := (hg.alloc (.cells #[.int .i64 s] 3)).alloc (.cells #[.int .i64 (n : Int), .slice none 0 0] 83)
  have hsz := ht.size
  have ht2 := (ht.alloc ht.size (.cells #[.int .i64 s] 3)).alloc (by simp; omega) (.cells #[.int .i64 (n : Int), .slice none 0 0] 83)
  have hzw := (Whole.fresh w1 3 #[.int .i64 s]).alloc (.cells #[.int .i64 (n : Int), .slice none 0 0] 83)
  have hr2 := Whole.fresh (w1.alloc (.cells #[.int .i64 s] 3)) 83 #[.int .i64 (n : Int), .slice none 0 0]
  rw [World.size_alloc] at hr2
  generalize World.alloc (World.alloc w1 (.cells #[.int .i64 s] 3)) (.cells #[.int .i64 (n : Int), .slice none 0 0] 83) = W2 at hg2 ht2 hzw hr2 ⊢
  have HG2 := Lib.hid hg2
  have HT2 := Lib.hid ht2
  have HZW := Lib.hid hzw
  have HR2 := Lib.hid hr2
  obtain ⟨gZ, hgZ⟩ : ∃ g, g = w1.heap.size := ⟨_, rfl⟩
  rw [← hgZ] at HR2 HZW hgl ⊢
  obtain ⟨gP, hgP⟩ : ∃ g, g = gZ + 1 := ⟨_, rfl⟩
  rw [← hgP] at HR2 ⊢
  have hzp : gZ < gP := by omega
  clear ht hg hg2 ht2 hzw hr2 hgP hgZ hsz
  go_loopw [39] (fun i wr => ∃ (j : Nat) (Q : Option Addr) (r : Nat), j ≤ cN ∧ i = .int .i64 (j : Int) ∧ Whole wr gP 83 #[.int .i64 (n : Int), .slice Q j r] ∧ wr.ownsRow (gP + 1) 87 3 (.slice Q j r) j (clsC (mkL xs s j)) ∧ Whole wr w.heap.size 83 #[.int .i64 0, .slice none 0 0] ∧ Whole wr gZ 3 #[.int .i64 (mkZ xs s j)] ∧ Below w.heap.size w wr) (fun i _ => cN - (intOf i).toNat)
  case atStart => exact ⟨0, none, 0, by omega, rfl, HR2.out, World.ownsRow_nil _ _ _ _, HG2.out, HZW.out, HT2.out⟩
  case round =>
    clear HR2 HG2 HT2 HZW
    obtain ⟨j, Q, r, hjc, rfl, hr, hown, hg, hz, ht⟩ := hrel
    obtain ⟨wz, rfl⟩ : ∃ X : World, X = wr := ⟨_, rfl⟩
    by_cases hm : j < cN
    · have hmi : (j : Int) < (cN : Int) := by omega
      have hd1 : decide ((j : Int) < (cN : Int)) = true := by simp; omega
      have hzb := HBD.out j
      obtain ⟨hz0, hz9⟩ := hzb
      have hz1b := nx9_bd (mkZ xs s j)
      have HNEAR := Lib.hid (fun h => mk_near (xs := xs) (s := s) (j := j) h)
      have HFAR := Lib.hid (fun h => mk_far (xs := xs) (s := s) (j := j) h)
      obtain ⟨L, hL⟩ : ∃ L, mkL xs s j = L := ⟨_, rfl⟩
      rw [hL] at hown HNEAR HFAR
      obtain ⟨z, hzz⟩ : ∃ z, mkZ xs s j = z := ⟨_, rfl⟩
      rw [hzz] at hz0 hz9 hz1b HNEAR HFAR hz
      obtain ⟨z1, hzz1⟩ : ∃ z1, nx9 z = z1 := ⟨_, rfl⟩
      rw [hzz1] at hz1b HNEAR HFAR
      obtain ⟨k, hkk⟩ : ∃ k, z1 % 6 = k := ⟨_, rfl⟩
      rw [hkk] at HNEAR HFAR
      obtain ⟨z2, hzz2⟩ : ∃ z2, nx9 z1 = z2 := ⟨_, rfl⟩
      have hz2b := nx9_bd z1
      rw [hzz2] at hz2b HNEAR
      obtain ⟨a, haa⟩ : ∃ a, z2 % (n : Int) = a := ⟨_, rfl⟩
      have hab : 0 ≤ a ∧ a < (n : Int) := by rw [← haa]; exact ⟨Int.emod_nonneg _ (by omega), Int.emod_lt_of_pos _ (by omega)⟩
      have hk6 : 0 ≤ k ∧ k ≤ 5 := by omega
      have HZ1E := Lib.hid hzz1
      have HKE := Lib.hid hkk
      have HZ2E := Lib.hid hzz2
      have HAE := Lib.hid haa
      have HM : Hid (j + 1 ≤ maxLen) := by show _ ≤ _; unfold maxLen; omega
      have HY : Hid ((j + 1) * 24 ≤ 140737488355328) := by show _ ≤ _; omega
      have hn0 : (n : Int) ≠ 0 := by omega
      obtain ⟨hz10, hz19⟩ := hz1b
      obtain ⟨hz20, hz29⟩ := hz2b
      clear hL hzz hzz1 hkk hzz2 haa
      go_wp2_with fail
      refine (nextFn_any 6 z gZ _ hz0 hz9 (by omega) (by omega) hz).mono ?_
      rintro e wk ⟨rfl, hwk⟩
      rw [HZ1E.out] at hwk ⊢
      rw [HKE.out]
      replace hz : Whole wk gZ 3 #[.int .i64 z1] := by rw [hwk]; exact hz.set_ 0 _
      replace hr := by have h := hr.off (b := gZ) (o := 0) (u := .int .i64 z1) (by omega); rw [← hwk] at h; exact h
      replace hg := by have h := hg.off (b := gZ) (o := 0) (u := .int .i64 z1) (by omega); rw [← hwk] at h; exact h
      replace hown := by have h := ownsRow_setCell_below (a := ⟨gZ, 0, none⟩) hown (Nat.lt_succ_of_lt hzp) (.int .i64 z1); rw [← hwk] at h; exact h
      replace ht := by have h := below_set (b := gZ) (o := 0) (u := .int .i64 z1) ht (by omega); rw [← hwk] at h; exact h
      clear hwk
      rcases (show k = 0 ∨ k = 4 ∨ (k ≠ 0 ∧ k ≠ 4) by omega) with rfl | rfl | ⟨hk0, hk4⟩
      · have hln := (HNEAR.out (.inl rfl)).2
        have HZN : Hid (mkZ xs s (j + 1) = z2) := (HNEAR.out (.inl rfl)).1
        rw [HX.out, HAE.out] at hln
        obtain ⟨⟨x1, x2, x3⟩, hcl⟩ : ∃ t, clOfC 0 a xs = t := ⟨_, rfl⟩
        have HCL : Hid (clC (clOfC 0 a xs) = #[.int .i64 x1, .int .i64 x2, .int .i64 x3]) := by show _ = _; rw [hcl]; rfl
        have HLN : Hid (clsC (mkL xs s (j + 1)) = clsC L ++ [.int .i64 x1, .int .i64 x2, .int .i64 x3]) := by show _ = _; rw [hln, hcl, clsC_app]; simp [clsC, clC]
        clear hcl hln
        have HPER := Lib.hid hab
        clear HNEAR HFAR
        go_wp2_with fail
        refine (nextFn_any (n : Int) z1 gZ _ hz10 hz19 (by omega) (by omega) hz).mono ?_
        rintro e wq ⟨rfl, hwq⟩
        rw [HZ2E.out] at hwq ⊢
        rw [HAE.out]
        replace hz : Whole wq gZ 3 #[.int .i64 z2] := by rw [hwq]; exact hz.set_ 0 _
        replace hr := by have h := hr.off (b := gZ) (o := 0) (u := .int .i64 z2) (by omega); rw [← hwq] at h; exact h
        replace hg := by have h := hg.off (b := gZ) (o := 0) (u := .int .i64 z2) (by omega); rw [← hwq] at h; exact h
        replace hown := by have h := ownsRow_setCell_below (a := ⟨gZ, 0, none⟩) hown (Nat.lt_succ_of_lt hzp) (.int .i64 z2); rw [← hwq] at h; exact h
        replace ht := by have h := below_set (b := gZ) (o := 0) (u := .int .i64 z2) ht (by omega); rw [← hwq] at h; exact h
        clear hwq
        go_wp2_with fail
        refine wp_region_held_drew (S := (fun _ => True)) (by kernel_rfl) trivial (fun hHeld => ?_)
        replace hr := hr.drew
        replace hg := hg.drew
        replace hz := hz.drew
        replace hown := own_belowM hown (Below.refl _ _).drew
        replace ht := ht.drew
        generalize World.drew wq = wd at hr hg hz hown ht hHeld ⊢
        refine wpAnyH_take (i := 0) (v := ?_) rfl (by kernel_rfl) (by kernel_rfl) (by kernel_rfl) (fun _ _ _ h => h) (Or.inl ⟨rfl, ?_⟩) hHeld ?_
        rotate_left
        · intro w' hS; skip; go_simp <;> with_reducible rfl
        simp only [Act.put, List.getElem_toArray, List.getElem_cons_succ, List.getElem_cons_zero, List.setIfInBounds_toArray, List.set_cons_succ, List.set_cons_zero]
        refine wpAnyH_take (i := 2) (v := ?_) rfl (by kernel_rfl) (by kernel_rfl) (by kernel_rfl) (fun _ _ _ h => h) (Or.inl ⟨rfl, ?_⟩) hHeld ?_
        rotate_left
        · intro w' hS; skip; go_simp <;> with_reducible rfl
        simp only [Act.put, List.getElem_toArray, List.getElem_cons_succ, List.getElem_cons_zero, List.setIfInBounds_toArray, List.set_cons_succ, List.set_cons_zero]
        refine wpAnyH_take (i := 3) (v := ?_) rfl (by kernel_rfl) (by kernel_rfl) (by kernel_rfl) (fun _ _ _ h => h) (Or.inl ⟨rfl, ?_⟩) hHeld ?_
        rotate_left
        · intro w' hS; skip; go_simp <;> with_reducible rfl
        simp only [Act.put, List.getElem_toArray, List.getElem_cons_succ, List.getElem_cons_zero, List.setIfInBounds_toArray, List.set_cons_succ, List.set_cons_zero]
        refine wpAnyH_take (i := 4) (v := ?_) rfl (by kernel_rfl) (by kernel_rfl) (by kernel_rfl) (fun _ _ _ h => h) (Or.inl ⟨rfl, ?_⟩) hHeld ?_
        rotate_left
        · intro w' hS; skip; go_simp <;> with_reducible rfl
        simp only [Act.put, List.getElem_toArray, List.getElem_cons_succ, List.getElem_cons_zero, List.setIfInBounds_toArray, List.set_cons_succ, List.set_cons_zero]
        refine wpAnyH_ready (rs := [1, 5]) (by kernel_rfl) (by simp) (AllReadyH.cons rfl (fun K hK => ?_) (AllReadyH.cons rfl (fun K hK => ?_) AllReadyH.nil))
        · obtain ⟨e0, e1⟩ := hr.cells2
          have hel := hr.lt
          go_simp
          clear e0 e1 hel
          refine hK.out _ _ trivial (fun hHeld => ?_)
          clear hK K
          try simp only [Act.put, List.getElem_toArray, List.getElem_cons_succ, List.getElem_cons_zero, List.setIfInBounds_toArray, List.set_cons_succ, List.set_cons_zero]
          refine wpAnyH_ready (rs := [5]) (by kernel_rfl) (by simp) (AllReadyH.cons rfl (fun K hK => ?_) AllReadyH.nil)
          go_simp
          refine (clueOf_any 0 a A n c xs _ (HA.out.below ht) HX.out HH.out (by omega) (by omega) (fun h => HPER.out)).mono ?_
          rintro e wdc ⟨rfl, hb⟩
          rw [HCL.out]
          replace hr := hr.below hb
          replace hg := hg.below hb
          replace hz := hz.below hb
          replace hown := own_belowM hown hb
          replace ht := below_then ht hb ht.size
          clear hb
          refine hK.out _ _ trivial (fun hHeld => ?_)
          clear hK K
          try simp only [Act.put, List.getElem_toArray, List.getElem_cons_succ, List.getElem_cons_zero, List.setIfInBounds_toArray, List.set_cons_succ, List.set_cons_zero]
          refine wpAnyH_ready (rs := [6]) (by kernel_rfl) (by simp) (AllReadyH.cons rfl (fun K hK => ?_) AllReadyH.nil)
          go_simp
          have hN := Whole.fresh wdc 87 #[.int .i64 x1, .int .i64 x2, .int .i64 x3]
          obtain ⟨gN, hgN⟩ : ∃ g, g = wdc.heap.size := ⟨_, rfl⟩
          rw [← hgN] at hN ⊢
          clear hgN
          replace hr := hr.alloc (.cells #[.int .i64 x1, .int .i64 x2, .int .i64 x3] 87)
          replace hg := hg.alloc (.cells #[.int .i64 x1, .int .i64 x2, .int .i64 x3] 87)
          replace hz := hz.alloc (.cells #[.int .i64 x1, .int .i64 x2, .int .i64 x3] 87)
          replace hown := hown.alloc (.cells #[.int .i64 x1, .int .i64 x2, .int .i64 x3] 87)
          replace ht := ht.alloc ht.size (.cells #[.int .i64 x1, .int .i64 x2, .int .i64 x3] 87)
          generalize World.alloc wdc (.cells #[.int .i64 x1, .int .i64 x2, .int .i64 x3] 87) = wdcn at hN hr hg hz hown ht ⊢
          refine hK.out _ _ trivial (fun hHeld => ?_)
          clear hK K
          try simp only [Act.put, List.getElem_toArray, List.getElem_cons_succ, List.getElem_cons_zero, List.setIfInBounds_toArray, List.set_cons_succ, List.set_cons_zero]
          refine wpAnyH_ready (rs := [7]) (by kernel_rfl) (by simp) (AllReadyH.cons rfl (fun K hK => ?_) AllReadyH.nil)
          have hbs7 : gP + 1 ≤ wdcn.heap.size := hr.lt
          have HNW7 : Hid (∀ j u, ([.int .i64 x1, .int .i64 x2, .int .i64 x3] : List Value)[j]? = some u → wdcn.cell? ((⟨gN, 0, none⟩ : Addr).add j) = some u) := fun j u hu => by rw [Addr.add_lit, Nat.zero_add]; exact (hN.cell j).trans (by simpa using hu)
          refine step_append_mine rfl (.tmp 54) (.tmp 59) 81 rfl (gP + 1) 87 i0 (.agg #[.int .i64 0, .int .i64 0, .int .i64 0]) 3 24 Try.underlying81 HI.out HZ0.out HZ1.out HZ2.out rfl (by decide) (.slice Q j r) j (clsC L) (by simp [Act.eval]) (by exact hown) ⟨gN, 0, none⟩ 1 1 [.int .i64 x1, .int .i64 x2, .int .i64 x3] (by simp [Act.eval]) rfl HNW7.out (by simp [Value.oneCell']) HM.out HY.out hbs7 ?_
          intro v7 wdcna hown7 hgr7
          obtain ⟨A7, q7, rfl⟩ := own_shapeC hown7
          have hrow7 : ∀ y, (.slice Q j r : Value).ownBlock = some y → gP + 1 ≤ y := fun y hy => (hown.lt y hy).1
          clear hN
          replace hr := whole_apartA hr hgr7 (fun e => absurd (hrow7 _ e.symm) (by omega))
          replace hg := whole_apartA hg hgr7 (fun e => absurd (hrow7 _ e.symm) (by omega))
          replace hz := whole_apartA hz hgr7 (fun e => absurd (hrow7 _ e.symm) (by omega))
          replace ht := ht.grown hgr7 ht.size (fun y hy => by have := hrow7 y hy; omega)
          clear hgr7 hrow7 hown
          have hown := hown7
          clear hown7
          refine hK.out _ _ trivial (fun hHeld => ?_)
          clear hK K
          try simp only [Act.put, List.getElem_toArray, List.getElem_cons_succ, List.getElem_cons_zero, List.setIfInBounds_toArray, List.set_cons_succ, List.set_cons_zero]
          refine wpAnyH_take (i := 8) (v := ?_) rfl (by kernel_rfl) (by kernel_rfl) (by kernel_rfl) (fun _ _ _ h => h) (Or.inl ⟨rfl, ?_⟩) hHeld ?_
          rotate_left
          · intro w' hS; skip; go_simp <;> with_reducible rfl
          simp only [Act.put, List.getElem_toArray, List.getElem_cons_succ, List.getElem_cons_zero, List.setIfInBounds_toArray, List.set_cons_succ, List.set_cons_zero]
          refine wpAnyH_ready (rs := [9]) (by kernel_rfl) (by simp) (AllReadyH.cons rfl (fun K hK => ?_) AllReadyH.nil)
          obtain ⟨e0, e1⟩ := hr.cells2
          have hel := hr.lt
          have hop := hr.open_ 1
          go_simp
          clear e0 e1 hel hop
          have hr9 : Whole (World.setCell wdcna ⟨gP, 1, none⟩ (.slice A7 (j + 1) q7)) gP 83 #[.int .i64 (n : Int), (.slice A7 (j + 1) q7)] := hr.set_ 1 _
          have hg9 := hg.off (b := gP) (o := 1) (u := (.slice A7 (j + 1) q7)) (by omega)
          have hz9 := hz.off (b := gP) (o := 1) (u := (.slice A7 (j + 1) q7)) (by omega)
          have hown9 := ownsRow_setCell_below (a := ⟨gP, 1, none⟩) hown (Nat.lt_succ_self _) (.slice A7 (j + 1) q7)
          have ht9 := below_set (b := gP) (o := 1) (u := (.slice A7 (j + 1) q7)) ht (by omega)
          generalize World.setCell wdcna ⟨gP, 1, none⟩ (.slice A7 (j + 1) q7) = wdcnas at hr9 hown9 ht9 hg9 hz9 ⊢
          clear hr hg hz hown ht
          refine hK.out _ _ trivial (fun hHeld => ?_)
          clear hK K
          try simp only [Act.put, List.getElem_toArray, List.getElem_cons_succ, List.getElem_cons_zero, List.setIfInBounds_toArray, List.set_cons_succ, List.set_cons_zero]
          refine wpAnyH_done (by kernel_rfl) ?_ _
          clear hHeld
          go_wp2_with fail
          go_roundw
          case rel => exact ⟨j + 1, A7, q7, by omega, by go_num, hr9, by rw [HLN.out]; exact hown9, hg9, by rw [HZN.out]; exact hz9, ht9⟩
          case measure => simp [intOf]; omega
        · go_simp
          refine (clueOf_any 0 a A n c xs _ (HA.out.below ht) HX.out HH.out (by omega) (by omega) (fun h => HPER.out)).mono ?_
          rintro e wdc ⟨rfl, hb⟩
          rw [HCL.out]
          replace hr := hr.below hb
          replace hg := hg.below hb
          replace hz := hz.below hb
          replace hown := own_belowM hown hb
          replace ht := below_then ht hb ht.size
          clear hb
          refine hK.out _ _ trivial (fun hHeld => ?_)
          clear hK K
          try simp only [Act.put, List.getElem_toArray, List.getElem_cons_succ, List.getElem_cons_zero, List.setIfInBounds_toArray, List.set_cons_succ, List.set_cons_zero]
          refine wpAnyH_ready (rs := [1, 6]) (by kernel_rfl) (by simp) (AllReadyH.cons rfl (fun K hK => ?_) (AllReadyH.cons rfl (fun K hK => ?_) AllReadyH.nil))
          · obtain ⟨e0, e1⟩ := hr.cells2
            have hel := hr.lt
            go_simp
            clear e0 e1 hel
            refine hK.out _ _ trivial (fun hHeld => ?_)
            clear hK K
            try simp only [Act.put, List.getElem_toArray, List.getElem_cons_succ, List.getElem_cons_zero, List.setIfInBounds_toArray, List.set_cons_succ, List.set_cons_zero]
            refine wpAnyH_ready (rs := [6]) (by kernel_rfl) (by simp) (AllReadyH.cons rfl (fun K hK => ?_) AllReadyH.nil)
            go_simp
            have hN := Whole.fresh wdc 87 #[.int .i64 x1, .int .i64 x2, .int .i64 x3]
            obtain ⟨gN, hgN⟩ : ∃ g, g = wdc.heap.size := ⟨_, rfl⟩
            rw [← hgN] at hN ⊢
            clear hgN
            replace hr := hr.alloc (.cells #[.int .i64 x1, .int .i64 x2, .int .i64 x3] 87)
            replace hg := hg.alloc (.cells #[.int .i64 x1, .int .i64 x2, .int .i64 x3] 87)
            replace hz := hz.alloc (.cells #[.int .i64 x1, .int .i64 x2, .int .i64 x3] 87)
            replace hown := hown.alloc (.cells #[.int .i64 x1, .int .i64 x2, .int .i64 x3] 87)
            replace ht := ht.alloc ht.size (.cells #[.int .i64 x1, .int .i64 x2, .int .i64 x3] 87)
            generalize World.alloc wdc (.cells #[.int .i64 x1, .int .i64 x2, .int .i64 x3] 87) = wdcn at hN hr hg hz hown ht ⊢
            refine hK.out _ _ trivial (fun hHeld => ?_)
            clear hK K
            try simp only [Act.put, List.getElem_toArray, List.getElem_cons_succ, List.getElem_cons_zero, List.setIfInBounds_toArray, List.set_cons_succ, List.set_cons_zero]
            refine wpAnyH_ready (rs := [7]) (by kernel_rfl) (by simp) (AllReadyH.cons rfl (fun K hK => ?_) AllReadyH.nil)
            have hbs7 : gP + 1 ≤ wdcn.heap.size := hr.lt
            have HNW7 : Hid (∀ j u, ([.int .i64 x1, .int .i64 x2, .int .i64 x3] : List Value)[j]? = some u → wdcn.cell? ((⟨gN, 0, none⟩ : Addr).add j) = some u) := fun j u hu => by rw [Addr.add_lit, Nat.zero_add]; exact (hN.cell j).trans (by simpa using hu)
            refine step_append_mine rfl (.tmp 54) (.tmp 59) 81 rfl (gP + 1) 87 i0 (.agg #[.int .i64 0, .int .i64 0, .int .i64 0]) 3 24 Try.underlying81 HI.out HZ0.out HZ1.out HZ2.out rfl (by decide) (.slice Q j r) j (clsC L) (by simp [Act.eval]) (by exact hown) ⟨gN, 0, none⟩ 1 1 [.int .i64 x1, .int .i64 x2, .int .i64 x3] (by simp [Act.eval]) rfl HNW7.out (by simp [Value.oneCell']) HM.out HY.out hbs7 ?_
            intro v7 wdcna hown7 hgr7
            obtain ⟨A7, q7, rfl⟩ := own_shapeC hown7
            have hrow7 : ∀ y, (.slice Q j r : Value).ownBlock = some y → gP + 1 ≤ y := fun y hy => (hown.lt y hy).1
            clear hN
            replace hr := whole_apartA hr hgr7 (fun e => absurd (hrow7 _ e.symm) (by omega))
            replace hg := whole_apartA hg hgr7 (fun e => absurd (hrow7 _ e.symm) (by omega))
            replace hz := whole_apartA hz hgr7 (fun e => absurd (hrow7 _ e.symm) (by omega))
            replace ht := ht.grown hgr7 ht.size (fun y hy => by have := hrow7 y hy; omega)
            clear hgr7 hrow7 hown
            have hown := hown7
            clear hown7
            refine hK.out _ _ trivial (fun hHeld => ?_)
            clear hK K
            try simp only [Act.put, List.getElem_toArray, List.getElem_cons_succ, List.getElem_cons_zero, List.setIfInBounds_toArray, List.set_cons_succ, List.set_cons_zero]
            refine wpAnyH_take (i := 8) (v := ?_) rfl (by kernel_rfl) (by kernel_rfl) (by kernel_rfl) (fun _ _ _ h => h) (Or.inl ⟨rfl, ?_⟩) hHeld ?_
            rotate_left
            · intro w' hS; skip; go_simp <;> with_reducible rfl
            simp only [Act.put, List.getElem_toArray, List.getElem_cons_succ, List.getElem_cons_zero, List.setIfInBounds_toArray, List.set_cons_succ, List.set_cons_zero]
            refine wpAnyH_ready (rs := [9]) (by kernel_rfl) (by simp) (AllReadyH.cons rfl (fun K hK => ?_) AllReadyH.nil)
            obtain ⟨e0, e1⟩ := hr.cells2
            have hel := hr.lt
            have hop := hr.open_ 1
            go_simp
            clear e0 e1 hel hop
            have hr9 : Whole (World.setCell wdcna ⟨gP, 1, none⟩ (.slice A7 (j + 1) q7)) gP 83 #[.int .i64 (n : Int), (.slice A7 (j + 1) q7)] := hr.set_ 1 _
            have hg9 := hg.off (b := gP) (o := 1) (u := (.slice A7 (j + 1) q7)) (by omega)
            have hz9 := hz.off (b := gP) (o := 1) (u := (.slice A7 (j + 1) q7)) (by omega)
            have hown9 := ownsRow_setCell_below (a := ⟨gP, 1, none⟩) hown (Nat.lt_succ_self _) (.slice A7 (j + 1) q7)
            have ht9 := below_set (b := gP) (o := 1) (u := (.slice A7 (j + 1) q7)) ht (by omega)
            generalize World.setCell wdcna ⟨gP, 1, none⟩ (.slice A7 (j + 1) q7) = wdcnas at hr9 hown9 ht9 hg9 hz9 ⊢
            clear hr hg hz hown ht
            refine hK.out _ _ trivial (fun hHeld => ?_)
            clear hK K
            try simp only [Act.put, List.getElem_toArray, List.getElem_cons_succ, List.getElem_cons_zero, List.setIfInBounds_toArray, List.set_cons_succ, List.set_cons_zero]
            refine wpAnyH_done (by kernel_rfl) ?_ _
            clear hHeld
            go_wp2_with fail
            go_roundw
            case rel => exact ⟨j + 1, A7, q7, by omega, by go_num, hr9, by rw [HLN.out]; exact hown9, hg9, by rw [HZN.out]; exact hz9, ht9⟩
            case measure => simp [intOf]; omega
          · go_simp
            have hN := Whole.fresh wdc 87 #[.int .i64 x1, .int .i64 x2, .int .i64 x3]
            obtain ⟨gN, hgN⟩ : ∃ g, g = wdc.heap.size := ⟨_, rfl⟩
            rw [← hgN] at hN ⊢
            clear hgN
            replace hr := hr.alloc (.cells #[.int .i64 x1, .int .i64 x2, .int .i64 x3] 87)
            replace hg := hg.alloc (.cells #[.int .i64 x1, .int .i64 x2, .int .i64 x3] 87)
            replace hz := hz.alloc (.cells #[.int .i64 x1, .int .i64 x2, .int .i64 x3] 87)
            replace hown := hown.alloc (.cells #[.int .i64 x1, .int .i64 x2, .int .i64 x3] 87)
            replace ht := ht.alloc ht.size (.cells #[.int .i64 x1, .int .i64 x2, .int .i64 x3] 87)
            generalize World.alloc wdc (.cells #[.int .i64 x1, .int .i64 x2, .int .i64 x3] 87) = wdcn at hN hr hg hz hown ht ⊢
            refine hK.out _ _ trivial (fun hHeld => ?_)
            clear hK K
            try simp only [Act.put, List.getElem_toArray, List.getElem_cons_succ, List.getElem_cons_zero, List.setIfInBounds_toArray, List.set_cons_succ, List.set_cons_zero]
            refine wpAnyH_ready (rs := [1]) (by kernel_rfl) (by simp) (AllReadyH.cons rfl (fun K hK => ?_) AllReadyH.nil)
            obtain ⟨e0, e1⟩ := hr.cells2
            have hel := hr.lt
            go_simp
            clear e0 e1 hel
            refine hK.out _ _ trivial (fun hHeld => ?_)
            clear hK K
            try simp only [Act.put, List.getElem_toArray, List.getElem_cons_succ, List.getElem_cons_zero, List.setIfInBounds_toArray, List.set_cons_succ, List.set_cons_zero]
            refine wpAnyH_ready (rs := [7]) (by kernel_rfl) (by simp) (AllReadyH.cons rfl (fun K hK => ?_) AllReadyH.nil)
            have hbs7 : gP + 1 ≤ wdcn.heap.size := hr.lt
            have HNW7 : Hid (∀ j u, ([.int .i64 x1, .int .i64 x2, .int .i64 x3] : List Value)[j]? = some u → wdcn.cell? ((⟨gN, 0, none⟩ : Addr).add j) = some u) := fun j u hu => by rw [Addr.add_lit, Nat.zero_add]; exact (hN.cell j).trans (by simpa using hu)
            refine step_append_mine rfl (.tmp 54) (.tmp 59) 81 rfl (gP + 1) 87 i0 (.agg #[.int .i64 0, .int .i64 0, .int .i64 0]) 3 24 Try.underlying81 HI.out HZ0.out HZ1.out HZ2.out rfl (by decide) (.slice Q j r) j (clsC L) (by simp [Act.eval]) (by exact hown) ⟨gN, 0, none⟩ 1 1 [.int .i64 x1, .int .i64 x2, .int .i64 x3] (by simp [Act.eval]) rfl HNW7.out (by simp [Value.oneCell']) HM.out HY.out hbs7 ?_
            intro v7 wdcna hown7 hgr7
            obtain ⟨A7, q7, rfl⟩ := own_shapeC hown7
            have hrow7 : ∀ y, (.slice Q j r : Value).ownBlock = some y → gP + 1 ≤ y := fun y hy => (hown.lt y hy).1
            clear hN
            replace hr := whole_apartA hr hgr7 (fun e => absurd (hrow7 _ e.symm) (by omega))
            replace hg := whole_apartA hg hgr7 (fun e => absurd (hrow7 _ e.symm) (by omega))
            replace hz := whole_apartA hz hgr7 (fun e => absurd (hrow7 _ e.symm) (by omega))
            replace ht := ht.grown hgr7 ht.size (fun y hy => by have := hrow7 y hy; omega)
            clear hgr7 hrow7 hown
            have hown := hown7
            clear hown7
            refine hK.out _ _ trivial (fun hHeld => ?_)
            clear hK K
            try simp only [Act.put, List.getElem_toArray, List.getElem_cons_succ, List.getElem_cons_zero, List.setIfInBounds_toArray, List.set_cons_succ, List.set_cons_zero]
            refine wpAnyH_take (i := 8) (v := ?_) rfl (by kernel_rfl) (by kernel_rfl) (by kernel_rfl) (fun _ _ _ h => h) (Or.inl ⟨rfl, ?_⟩) hHeld ?_
            rotate_left
            · intro w' hS; skip; go_simp <;> with_reducible rfl
            simp only [Act.put, List.getElem_toArray, List.getElem_cons_succ, List.getElem_cons_zero, List.setIfInBounds_toArray, List.set_cons_succ, List.set_cons_zero]
            refine wpAnyH_ready (rs := [9]) (by kernel_rfl) (by simp) (AllReadyH.cons rfl (fun K hK => ?_) AllReadyH.nil)
            obtain ⟨e0, e1⟩ := hr.cells2
            have hel := hr.lt
            have hop := hr.open_ 1
            go_simp
            clear e0 e1 hel hop
            have hr9 : Whole (World.setCell wdcna ⟨gP, 1, none⟩ (.slice A7 (j + 1) q7)) gP 83 #[.int .i64 (n : Int), (.slice A7 (j + 1) q7)] := hr.set_ 1 _
            have hg9 := hg.off (b := gP) (o := 1) (u := (.slice A7 (j + 1) q7)) (by omega)
            have hz9 := hz.off (b := gP) (o := 1) (u := (.slice A7 (j + 1) q7)) (by omega)
            have hown9 := ownsRow_setCell_below (a := ⟨gP, 1, none⟩) hown (Nat.lt_succ_self _) (.slice A7 (j + 1) q7)
            have ht9 := below_set (b := gP) (o := 1) (u := (.slice A7 (j + 1) q7)) ht (by omega)
            generalize World.setCell wdcna ⟨gP, 1, none⟩ (.slice A7 (j + 1) q7) = wdcnas at hr9 hown9 ht9 hg9 hz9 ⊢
            clear hr hg hz hown ht
            refine hK.out _ _ trivial (fun hHeld => ?_)
            clear hK K
            try simp only [Act.put, List.getElem_toArray, List.getElem_cons_succ, List.getElem_cons_zero, List.setIfInBounds_toArray, List.set_cons_succ, List.set_cons_zero]
            refine wpAnyH_done (by kernel_rfl) ?_ _
            clear hHeld
            go_wp2_with fail
            go_roundw
            case rel => exact ⟨j + 1, A7, q7, by omega, by go_num, hr9, by rw [HLN.out]; exact hown9, hg9, by rw [HZN.out]; exact hz9, ht9⟩
            case measure => simp [intOf]; omega
      · have hln := (HNEAR.out (.inr rfl)).2
        have HZN : Hid (mkZ xs s (j + 1) = z2) := (HNEAR.out (.inr rfl)).1
        rw [HX.out, HAE.out] at hln
        obtain ⟨⟨x1, x2, x3⟩, hcl⟩ : ∃ t, clOfC 4 a xs = t := ⟨_, rfl⟩
        have HCL : Hid (clC (clOfC 4 a xs) = #[.int .i64 x1, .int .i64 x2, .int .i64 x3]) := by show _ = _; rw [hcl]; rfl
        have HLN : Hid (clsC (mkL xs s (j + 1)) = clsC L ++ [.int .i64 x1, .int .i64 x2, .int .i64 x3]) := by show _ = _; rw [hln, hcl, clsC_app]; simp [clsC, clC]
        clear hcl hln
        have HPER := Lib.hid hab
        clear HNEAR HFAR
        go_wp2_with fail
        refine (nextFn_any (n : Int) z1 gZ _ hz10 hz19 (by omega) (by omega) hz).mono ?_
        rintro e wq ⟨rfl, hwq⟩
        rw [HZ2E.out] at hwq ⊢
        rw [HAE.out]
        replace hz : Whole wq gZ 3 #[.int .i64 z2] := by rw [hwq]; exact hz.set_ 0 _
        replace hr := by have h := hr.off (b := gZ) (o := 0) (u := .int .i64 z2) (by omega); rw [← hwq] at h; exact h
        replace hg := by have h := hg.off (b := gZ) (o := 0) (u := .int .i64 z2) (by omega); rw [← hwq] at h; exact h
        replace hown := by have h := ownsRow_setCell_below (a := ⟨gZ, 0, none⟩) hown (Nat.lt_succ_of_lt hzp) (.int .i64 z2); rw [← hwq] at h; exact h
        replace ht := by have h := below_set (b := gZ) (o := 0) (u := .int .i64 z2) ht (by omega); rw [← hwq] at h; exact h
        clear hwq
        go_wp2_with fail
        refine wp_region_held_drew (S := (fun _ => True)) (by kernel_rfl) trivial (fun hHeld => ?_)
        replace hr := hr.drew
        replace hg := hg.drew
        replace hz := hz.drew
        replace hown := own_belowM hown (Below.refl _ _).drew
        replace ht := ht.drew
        generalize World.drew wq = wd at hr hg hz hown ht hHeld ⊢
        refine wpAnyH_take (i := 0) (v := ?_) rfl (by kernel_rfl) (by kernel_rfl) (by kernel_rfl) (fun _ _ _ h => h) (Or.inl ⟨rfl, ?_⟩) hHeld ?_
        rotate_left
        · intro w' hS; skip; go_simp <;> with_reducible rfl
        simp only [Act.put, List.getElem_toArray, List.getElem_cons_succ, List.getElem_cons_zero, List.setIfInBounds_toArray, List.set_cons_succ, List.set_cons_zero]
        refine wpAnyH_take (i := 2) (v := ?_) rfl (by kernel_rfl) (by kernel_rfl) (by kernel_rfl) (fun _ _ _ h => h) (Or.inl ⟨rfl, ?_⟩) hHeld ?_
        rotate_left
        · intro w' hS; skip; go_simp <;> with_reducible rfl
        simp only [Act.put, List.getElem_toArray, List.getElem_cons_succ, List.getElem_cons_zero, List.setIfInBounds_toArray, List.set_cons_succ, List.set_cons_zero]
        refine wpAnyH_take (i := 3) (v := ?_) rfl (by kernel_rfl) (by kernel_rfl) (by kernel_rfl) (fun _ _ _ h => h) (Or.inl ⟨rfl, ?_⟩) hHeld ?_
        rotate_left
        · intro w' hS; skip; go_simp <;> with_reducible rfl
        simp only [Act.put, List.getElem_toArray, List.getElem_cons_succ, List.getElem_cons_zero, List.setIfInBounds_toArray, List.set_cons_succ, List.set_cons_zero]
        refine wpAnyH_take (i := 4) (v := ?_) rfl (by kernel_rfl) (by kernel_rfl) (by kernel_rfl) (fun _ _ _ h => h) (Or.inl ⟨rfl, ?_⟩) hHeld ?_
        rotate_left
        · intro w' hS; skip; go_simp <;> with_reducible rfl
        simp only [Act.put, List.getElem_toArray, List.getElem_cons_succ, List.getElem_cons_zero, List.setIfInBounds_toArray, List.set_cons_succ, List.set_cons_zero]
        refine wpAnyH_ready (rs := [1, 5]) (by kernel_rfl) (by simp) (AllReadyH.cons rfl (fun K hK => ?_) (AllReadyH.cons rfl (fun K hK => ?_) AllReadyH.nil))
        · obtain ⟨e0, e1⟩ := hr.cells2
          have hel := hr.lt
          go_simp
          clear e0 e1 hel
          refine hK.out _ _ trivial (fun hHeld => ?_)
          clear hK K
          try simp only [Act.put, List.getElem_toArray, List.getElem_cons_succ, List.getElem_cons_zero, List.setIfInBounds_toArray, List.set_cons_succ, List.set_cons_zero]
          refine wpAnyH_ready (rs := [5]) (by kernel_rfl) (by simp) (AllReadyH.cons rfl (fun K hK => ?_) AllReadyH.nil)
          go_simp
          refine (clueOf_any 4 a A n c xs _ (HA.out.below ht) HX.out HH.out (by omega) (by omega) (fun h => HPER.out)).mono ?_
          rintro e wdc ⟨rfl, hb⟩
          rw [HCL.out]
          replace hr := hr.below hb
          replace hg := hg.below hb
          replace hz := hz.below hb
          replace hown := own_belowM hown hb
          replace ht := below_then ht hb ht.size
          clear hb
          refine hK.out _ _ trivial (fun hHeld => ?_)
          clear hK K
          try simp only [Act.put, List.getElem_toArray, List.getElem_cons_succ, List.getElem_cons_zero, List.setIfInBounds_toArray, List.set_cons_succ, List.set_cons_zero]
          refine wpAnyH_ready (rs := [6]) (by kernel_rfl) (by simp) (AllReadyH.cons rfl (fun K hK => ?_) AllReadyH.nil)
          go_simp
          have hN := Whole.fresh wdc 87 #[.int .i64 x1, .int .i64 x2, .int .i64 x3]
          obtain ⟨gN, hgN⟩ : ∃ g, g = wdc.heap.size := ⟨_, rfl⟩
          rw [← hgN] at hN ⊢
          clear hgN
          replace hr := hr.alloc (.cells #[.int .i64 x1, .int .i64 x2, .int .i64 x3] 87)
          replace hg := hg.alloc (.cells #[.int .i64 x1, .int .i64 x2, .int .i64 x3] 87)
          replace hz := hz.alloc (.cells #[.int .i64 x1, .int .i64 x2, .int .i64 x3] 87)
          replace hown := hown.alloc (.cells #[.int .i64 x1, .int .i64 x2, .int .i64 x3] 87)
          replace ht := ht.alloc ht.size (.cells #[.int .i64 x1, .int .i64 x2, .int .i64 x3] 87)
          generalize World.alloc wdc (.cells #[.int .i64 x1, .int .i64 x2, .int .i64 x3] 87) = wdcn at hN hr hg hz hown ht ⊢
          refine hK.out _ _ trivial (fun hHeld => ?_)
          clear hK K
          try simp only [Act.put, List.getElem_toArray, List.getElem_cons_succ, List.getElem_cons_zero, List.setIfInBounds_toArray, List.set_cons_succ, List.set_cons_zero]
          refine wpAnyH_ready (rs := [7]) (by kernel_rfl) (by simp) (AllReadyH.cons rfl (fun K hK => ?_) AllReadyH.nil)
          have hbs7 : gP + 1 ≤ wdcn.heap.size := hr.lt
          have HNW7 : Hid (∀ j u, ([.int .i64 x1, .int .i64 x2, .int .i64 x3] : List Value)[j]? = some u → wdcn.cell? ((⟨gN, 0, none⟩ : Addr).add j) = some u) := fun j u hu => by rw [Addr.add_lit, Nat.zero_add]; exact (hN.cell j).trans (by simpa using hu)
          refine step_append_mine rfl (.tmp 54) (.tmp 59) 81 rfl (gP + 1) 87 i0 (.agg #[.int .i64 0, .int .i64 0, .int .i64 0]) 3 24 Try.underlying81 HI.out HZ0.out HZ1.out HZ2.out rfl (by decide) (.slice Q j r) j (clsC L) (by simp [Act.eval]) (by exact hown) ⟨gN, 0, none⟩ 1 1 [.int .i64 x1, .int .i64 x2, .int .i64 x3] (by simp [Act.eval]) rfl HNW7.out (by simp [Value.oneCell']) HM.out HY.out hbs7 ?_
          intro v7 wdcna hown7 hgr7
          obtain ⟨A7, q7, rfl⟩ := own_shapeC hown7
          have hrow7 : ∀ y, (.slice Q j r : Value).ownBlock = some y → gP + 1 ≤ y := fun y hy => (hown.lt y hy).1
          clear hN
          replace hr := whole_apartA hr hgr7 (fun e => absurd (hrow7 _ e.symm) (by omega))
          replace hg := whole_apartA hg hgr7 (fun e => absurd (hrow7 _ e.symm) (by omega))
          replace hz := whole_apartA hz hgr7 (fun e => absurd (hrow7 _ e.symm) (by omega))
          replace ht := ht.grown hgr7 ht.size (fun y hy => by have := hrow7 y hy; omega)
          clear hgr7 hrow7 hown
          have hown := hown7
          clear hown7
          refine hK.out _ _ trivial (fun hHeld => ?_)
          clear hK K
          try simp only [Act.put, List.getElem_toArray, List.getElem_cons_succ, List.getElem_cons_zero, List.setIfInBounds_toArray, List.set_cons_succ, List.set_cons_zero]
          refine wpAnyH_take (i := 8) (v := ?_) rfl (by kernel_rfl) (by kernel_rfl) (by kernel_rfl) (fun _ _ _ h => h) (Or.inl ⟨rfl, ?_⟩) hHeld ?_
          rotate_left
          · intro w' hS; skip; go_simp <;> with_reducible rfl
          simp only [Act.put, List.getElem_toArray, List.getElem_cons_succ, List.getElem_cons_zero, List.setIfInBounds_toArray, List.set_cons_succ, List.set_cons_zero]
          refine wpAnyH_ready (rs := [9]) (by kernel_rfl) (by simp) (AllReadyH.cons rfl (fun K hK => ?_) AllReadyH.nil)
          obtain ⟨e0, e1⟩ := hr.cells2
          have hel := hr.lt
          have hop := hr.open_ 1
          go_simp
          clear e0 e1 hel hop
          have hr9 : Whole (World.setCell wdcna ⟨gP, 1, none⟩ (.slice A7 (j + 1) q7)) gP 83 #[.int .i64 (n : Int), (.slice A7 (j + 1) q7)] := hr.set_ 1 _
          have hg9 := hg.off (b := gP) (o := 1) (u := (.slice A7 (j + 1) q7)) (by omega)
          have hz9 := hz.off (b := gP) (o := 1) (u := (.slice A7 (j + 1) q7)) (by omega)
          have hown9 := ownsRow_setCell_below (a := ⟨gP, 1, none⟩) hown (Nat.lt_succ_self _) (.slice A7 (j + 1) q7)
          have ht9 := below_set (b := gP) (o := 1) (u := (.slice A7 (j + 1) q7)) ht (by omega)
          generalize World.setCell wdcna ⟨gP, 1, none⟩ (.slice A7 (j + 1) q7) = wdcnas at hr9 hown9 ht9 hg9 hz9 ⊢
          clear hr hg hz hown ht
          refine hK.out _ _ trivial (fun hHeld => ?_)
          clear hK K
          try simp only [Act.put, List.getElem_toArray, List.getElem_cons_succ, List.getElem_cons_zero, List.setIfInBounds_toArray, List.set_cons_succ, List.set_cons_zero]
          refine wpAnyH_done (by kernel_rfl) ?_ _
          clear hHeld
          go_wp2_with fail
          go_roundw
          case rel => exact ⟨j + 1, A7, q7, by omega, by go_num, hr9, by rw [HLN.out]; exact hown9, hg9, by rw [HZN.out]; exact hz9, ht9⟩
          case measure => simp [intOf]; omega
        · go_simp
          refine (clueOf_any 4 a A n c xs _ (HA.out.below ht) HX.out HH.out (by omega) (by omega) (fun h => HPER.out)).mono ?_
          rintro e wdc ⟨rfl, hb⟩
          rw [HCL.out]
          replace hr := hr.below hb
          replace hg := hg.below hb
          replace hz := hz.below hb
          replace hown := own_belowM hown hb
          replace ht := below_then ht hb ht.size
          clear hb
          refine hK.out _ _ trivial (fun hHeld => ?_)
          clear hK K
          try simp only [Act.put, List.getElem_toArray, List.getElem_cons_succ, List.getElem_cons_zero, List.setIfInBounds_toArray, List.set_cons_succ, List.set_cons_zero]
          refine wpAnyH_ready (rs := [1, 6]) (by kernel_rfl) (by simp) (AllReadyH.cons rfl (fun K hK => ?_) (AllReadyH.cons rfl (fun K hK => ?_) AllReadyH.nil))
          · obtain ⟨e0, e1⟩ := hr.cells2
            have hel := hr.lt
            go_simp
            clear e0 e1 hel
            refine hK.out _ _ trivial (fun hHeld => ?_)
            clear hK K
            try simp only [Act.put, List.getElem_toArray, List.getElem_cons_succ, List.getElem_cons_zero, List.setIfInBounds_toArray, List.set_cons_succ, List.set_cons_zero]
            refine wpAnyH_ready (rs := [6]) (by kernel_rfl) (by simp) (AllReadyH.cons rfl (fun K hK => ?_) AllReadyH.nil)
            go_simp
            have hN := Whole.fresh wdc 87 #[.int .i64 x1, .int .i64 x2, .int .i64 x3]
            obtain ⟨gN, hgN⟩ : ∃ g, g = wdc.heap.size := ⟨_, rfl⟩
            rw [← hgN] at hN ⊢
            clear hgN
            replace hr := hr.alloc (.cells #[.int .i64 x1, .int .i64 x2, .int .i64 x3] 87)
            replace hg := hg.alloc (.cells #[.int .i64 x1, .int .i64 x2, .int .i64 x3] 87)
            replace hz := hz.alloc (.cells #[.int .i64 x1, .int .i64 x2, .int .i64 x3] 87)
            replace hown := hown.alloc (.cells #[.int .i64 x1, .int .i64 x2, .int .i64 x3] 87)
            replace ht := ht.alloc ht.size (.cells #[.int .i64 x1, .int .i64 x2, .int .i64 x3] 87)
            generalize World.alloc wdc (.cells #[.int .i64 x1, .int .i64 x2, .int .i64 x3] 87) = wdcn at hN hr hg hz hown ht ⊢
            refine hK.out _ _ trivial (fun hHeld => ?_)
            clear hK K
            try simp only [Act.put, List.getElem_toArray, List.getElem_cons_succ, List.getElem_cons_zero, List.setIfInBounds_toArray, List.set_cons_succ, List.set_cons_zero]
            refine wpAnyH_ready (rs := [7]) (by kernel_rfl) (by simp) (AllReadyH.cons rfl (fun K hK => ?_) AllReadyH.nil)
            have hbs7 : gP + 1 ≤ wdcn.heap.size := hr.lt
            have HNW7 : Hid (∀ j u, ([.int .i64 x1, .int .i64 x2, .int .i64 x3] : List Value)[j]? = some u → wdcn.cell? ((⟨gN, 0, none⟩ : Addr).add j) = some u) := fun j u hu => by rw [Addr.add_lit, Nat.zero_add]; exact (hN.cell j).trans (by simpa using hu)
            refine step_append_mine rfl (.tmp 54) (.tmp 59) 81 rfl (gP + 1) 87 i0 (.agg #[.int .i64 0, .int .i64 0, .int .i64 0]) 3 24 Try.underlying81 HI.out HZ0.out HZ1.out HZ2.out rfl (by decide) (.slice Q j r) j (clsC L) (by simp [Act.eval]) (by exact hown) ⟨gN, 0, none⟩ 1 1 [.int .i64 x1, .int .i64 x2, .int .i64 x3] (by simp [Act.eval]) rfl HNW7.out (by simp [Value.oneCell']) HM.out HY.out hbs7 ?_
            intro v7 wdcna hown7 hgr7
            obtain ⟨A7, q7, rfl⟩ := own_shapeC hown7
            have hrow7 : ∀ y, (.slice Q j r : Value).ownBlock = some y → gP + 1 ≤ y := fun y hy => (hown.lt y hy).1
            clear hN
            replace hr := whole_apartA hr hgr7 (fun e => absurd (hrow7 _ e.symm) (by omega))
            replace hg := whole_apartA hg hgr7 (fun e => absurd (hrow7 _ e.symm) (by omega))
            replace hz := whole_apartA hz hgr7 (fun e => absurd (hrow7 _ e.symm) (by omega))
            replace ht := ht.grown hgr7 ht.size (fun y hy => by have := hrow7 y hy; omega)
            clear hgr7 hrow7 hown
            have hown := hown7
            clear hown7
            refine hK.out _ _ trivial (fun hHeld => ?_)
            clear hK K
            try simp only [Act.put, List.getElem_toArray, List.getElem_cons_succ, List.getElem_cons_zero, List.setIfInBounds_toArray, List.set_cons_succ, List.set_cons_zero]
            refine wpAnyH_take (i := 8) (v := ?_) rfl (by kernel_rfl) (by kernel_rfl) (by kernel_rfl) (fun _ _ _ h => h) (Or.inl ⟨rfl, ?_⟩) hHeld ?_
            rotate_left
            · intro w' hS; skip; go_simp <;> with_reducible rfl
            simp only [Act.put, List.getElem_toArray, List.getElem_cons_succ, List.getElem_cons_zero, List.setIfInBounds_toArray, List.set_cons_succ, List.set_cons_zero]
            refine wpAnyH_ready (rs := [9]) (by kernel_rfl) (by simp) (AllReadyH.cons rfl (fun K hK => ?_) AllReadyH.nil)
            obtain ⟨e0, e1⟩ := hr.cells2
            have hel := hr.lt
            have hop := hr.open_ 1
            go_simp
            clear e0 e1 hel hop
            have hr9 : Whole (World.setCell wdcna ⟨gP, 1, none⟩ (.slice A7 (j + 1) q7)) gP 83 #[.int .i64 (n : Int), (.slice A7 (j + 1) q7)] := hr.set_ 1 _
            have hg9 := hg.off (b := gP) (o := 1) (u := (.slice A7 (j + 1) q7)) (by omega)
            have hz9 := hz.off (b := gP) (o := 1) (u := (.slice A7 (j + 1) q7)) (by omega)
            have hown9 := ownsRow_setCell_below (a := ⟨gP, 1, none⟩) hown (Nat.lt_succ_self _) (.slice A7 (j + 1) q7)
            have ht9 := below_set (b := gP) (o := 1) (u := (.slice A7 (j + 1) q7)) ht (by omega)
            generalize World.setCell wdcna ⟨gP, 1, none⟩ (.slice A7 (j + 1) q7) = wdcnas at hr9 hown9 ht9 hg9 hz9 ⊢
            clear hr hg hz hown ht
            refine hK.out _ _ trivial (fun hHeld => ?_)
            clear hK K
            try simp only [Act.put, List.getElem_toArray, List.getElem_cons_succ, List.getElem_cons_zero, List.setIfInBounds_toArray, List.set_cons_succ, List.set_cons_zero]
            refine wpAnyH_done (by kernel_rfl) ?_ _
            clear hHeld
            go_wp2_with fail
            go_roundw
            case rel => exact ⟨j + 1, A7, q7, by omega, by go_num, hr9, by rw [HLN.out]; exact hown9, hg9, by rw [HZN.out]; exact hz9, ht9⟩
            case measure => simp [intOf]; omega
          · go_simp
            have hN := Whole.fresh wdc 87 #[.int .i64 x1, .int .i64 x2, .int .i64 x3]
            obtain ⟨gN, hgN⟩ : ∃ g, g = wdc.heap.size := ⟨_, rfl⟩
            rw [← hgN] at hN ⊢
            clear hgN
            replace hr := hr.alloc (.cells #[.int .i64 x1, .int .i64 x2, .int .i64 x3] 87)
            replace hg := hg.alloc (.cells #[.int .i64 x1, .int .i64 x2, .int .i64 x3] 87)
            replace hz := hz.alloc (.cells #[.int .i64 x1, .int .i64 x2, .int .i64 x3] 87)
            replace hown := hown.alloc (.cells #[.int .i64 x1, .int .i64 x2, .int .i64 x3] 87)
            replace ht := ht.alloc ht.size (.cells #[.int .i64 x1, .int .i64 x2, .int .i64 x3] 87)
            generalize World.alloc wdc (.cells #[.int .i64 x1, .int .i64 x2, .int .i64 x3] 87) = wdcn at hN hr hg hz hown ht ⊢
            refine hK.out _ _ trivial (fun hHeld => ?_)
            clear hK K
            try simp only [Act.put, List.getElem_toArray, List.getElem_cons_succ, List.getElem_cons_zero, List.setIfInBounds_toArray, List.set_cons_succ, List.set_cons_zero]
            refine wpAnyH_ready (rs := [1]) (by kernel_rfl) (by simp) (AllReadyH.cons rfl (fun K hK => ?_) AllReadyH.nil)
            obtain ⟨e0, e1⟩ := hr.cells2
            have hel := hr.lt
            go_simp
            clear e0 e1 hel
            refine hK.out _ _ trivial (fun hHeld => ?_)
            clear hK K
            try simp only [Act.put, List.getElem_toArray, List.getElem_cons_succ, List.getElem_cons_zero, List.setIfInBounds_toArray, List.set_cons_succ, List.set_cons_zero]
            refine wpAnyH_ready (rs := [7]) (by kernel_rfl) (by simp) (AllReadyH.cons rfl (fun K hK => ?_) AllReadyH.nil)
            have hbs7 : gP + 1 ≤ wdcn.heap.size := hr.lt
            have HNW7 : Hid (∀ j u, ([.int .i64 x1, .int .i64 x2, .int .i64 x3] : List Value)[j]? = some u → wdcn.cell? ((⟨gN, 0, none⟩ : Addr).add j) = some u) := fun j u hu => by rw [Addr.add_lit, Nat.zero_add]; exact (hN.cell j).trans (by simpa using hu)
            refine step_append_mine rfl (.tmp 54) (.tmp 59) 81 rfl (gP + 1) 87 i0 (.agg #[.int .i64 0, .int .i64 0, .int .i64 0]) 3 24 Try.underlying81 HI.out HZ0.out HZ1.out HZ2.out rfl (by decide) (.slice Q j r) j (clsC L) (by simp [Act.eval]) (by exact hown) ⟨gN, 0, none⟩ 1 1 [.int .i64 x1, .int .i64 x2, .int .i64 x3] (by simp [Act.eval]) rfl HNW7.out (by simp [Value.oneCell']) HM.out HY.out hbs7 ?_
            intro v7 wdcna hown7 hgr7
            obtain ⟨A7, q7, rfl⟩ := own_shapeC hown7
            have hrow7 : ∀ y, (.slice Q j r : Value).ownBlock = some y → gP + 1 ≤ y := fun y hy => (hown.lt y hy).1
            clear hN
            replace hr := whole_apartA hr hgr7 (fun e => absurd (hrow7 _ e.symm) (by omega))
            replace hg := whole_apartA hg hgr7 (fun e => absurd (hrow7 _ e.symm) (by omega))
            replace hz := whole_apartA hz hgr7 (fun e => absurd (hrow7 _ e.symm) (by omega))
            replace ht := ht.grown hgr7 ht.size (fun y hy => by have := hrow7 y hy; omega)
            clear hgr7 hrow7 hown
            have hown := hown7
            clear hown7
            refine hK.out _ _ trivial (fun hHeld => ?_)
            clear hK K
            try simp only [Act.put, List.getElem_toArray, List.getElem_cons_succ, List.getElem_cons_zero, List.setIfInBounds_toArray, List.set_cons_succ, List.set_cons_zero]
            refine wpAnyH_take (i := 8) (v := ?_) rfl (by kernel_rfl) (by kernel_rfl) (by kernel_rfl) (fun _ _ _ h => h) (Or.inl ⟨rfl, ?_⟩) hHeld ?_
            rotate_left
            · intro w' hS; skip; go_simp <;> with_reducible rfl
            simp only [Act.put, List.getElem_toArray, List.getElem_cons_succ, List.getElem_cons_zero, List.setIfInBounds_toArray, List.set_cons_succ, List.set_cons_zero]
            refine wpAnyH_ready (rs := [9]) (by kernel_rfl) (by simp) (AllReadyH.cons rfl (fun K hK => ?_) AllReadyH.nil)
            obtain ⟨e0, e1⟩ := hr.cells2
            have hel := hr.lt
            have hop := hr.open_ 1
            go_simp
            clear e0 e1 hel hop
            have hr9 : Whole (World.setCell wdcna ⟨gP, 1, none⟩ (.slice A7 (j + 1) q7)) gP 83 #[.int .i64 (n : Int), (.slice A7 (j + 1) q7)] := hr.set_ 1 _
            have hg9 := hg.off (b := gP) (o := 1) (u := (.slice A7 (j + 1) q7)) (by omega)
            have hz9 := hz.off (b := gP) (o := 1) (u := (.slice A7 (j + 1) q7)) (by omega)
            have hown9 := ownsRow_setCell_below (a := ⟨gP, 1, none⟩) hown (Nat.lt_succ_self _) (.slice A7 (j + 1) q7)
            have ht9 := below_set (b := gP) (o := 1) (u := (.slice A7 (j + 1) q7)) ht (by omega)
            generalize World.setCell wdcna ⟨gP, 1, none⟩ (.slice A7 (j + 1) q7) = wdcnas at hr9 hown9 ht9 hg9 hz9 ⊢
            clear hr hg hz hown ht
            refine hK.out _ _ trivial (fun hHeld => ?_)
            clear hK K
            try simp only [Act.put, List.getElem_toArray, List.getElem_cons_succ, List.getElem_cons_zero, List.setIfInBounds_toArray, List.set_cons_succ, List.set_cons_zero]
            refine wpAnyH_done (by kernel_rfl) ?_ _
            clear hHeld
            go_wp2_with fail
            go_roundw
            case rel => exact ⟨j + 1, A7, q7, by omega, by go_num, hr9, by rw [HLN.out]; exact hown9, hg9, by rw [HZN.out]; exact hz9, ht9⟩
            case measure => simp [intOf]; omega
      · have hkn : ¬ (k = 0 ∨ k = 4) := by omega
        have hln := (HFAR.out hkn).2
        have HZN : Hid (mkZ xs s (j + 1) = z1) := (HFAR.out hkn).1
        have d0 : (k == 0) = false := by simpa using hk0
        have d4 : (k == 4) = false := by simpa using hk4
        obtain ⟨⟨x1, x2, x3⟩, hcl⟩ : ∃ t, clOfC k 0 xs = t := ⟨_, rfl⟩
        have HCL : Hid (clC (clOfC k 0 xs) = #[.int .i64 x1, .int .i64 x2, .int .i64 x3]) := by show _ = _; rw [hcl]; rfl
        have HLN : Hid (clsC (mkL xs s (j + 1)) = clsC L ++ [.int .i64 x1, .int .i64 x2, .int .i64 x3]) := by show _ = _; rw [hln, hcl, clsC_app]; simp [clsC, clC]
        clear hcl hln
        have HPER := Lib.hid hkn
        clear HNEAR HFAR hkn
        go_wp2_with fail
        refine wp_region_held_drew (S := (fun _ => True)) (by kernel_rfl) trivial (fun hHeld => ?_)
        replace hr := hr.drew
        replace hg := hg.drew
        replace hz := hz.drew
        replace hown := own_belowM hown (Below.refl _ _).drew
        replace ht := ht.drew
        generalize World.drew wk = wd at hr hg hz hown ht hHeld ⊢
        refine wpAnyH_take (i := 0) (v := ?_) rfl (by kernel_rfl) (by kernel_rfl) (by kernel_rfl) (fun _ _ _ h => h) (Or.inl ⟨rfl, ?_⟩) hHeld ?_
        rotate_left
        · intro w' hS; skip; go_simp <;> with_reducible rfl
        simp only [Act.put, List.getElem_toArray, List.getElem_cons_succ, List.getElem_cons_zero, List.setIfInBounds_toArray, List.set_cons_succ, List.set_cons_zero]
        refine wpAnyH_take (i := 2) (v := ?_) rfl (by kernel_rfl) (by kernel_rfl) (by kernel_rfl) (fun _ _ _ h => h) (Or.inl ⟨rfl, ?_⟩) hHeld ?_
        rotate_left
        · intro w' hS; skip; go_simp <;> with_reducible rfl
        simp only [Act.put, List.getElem_toArray, List.getElem_cons_succ, List.getElem_cons_zero, List.setIfInBounds_toArray, List.set_cons_succ, List.set_cons_zero]
        refine wpAnyH_take (i := 3) (v := ?_) rfl (by kernel_rfl) (by kernel_rfl) (by kernel_rfl) (fun _ _ _ h => h) (Or.inl ⟨rfl, ?_⟩) hHeld ?_
        rotate_left
        · intro w' hS; skip; go_simp <;> with_reducible rfl
        simp only [Act.put, List.getElem_toArray, List.getElem_cons_succ, List.getElem_cons_zero, List.setIfInBounds_toArray, List.set_cons_succ, List.set_cons_zero]
        refine wpAnyH_take (i := 4) (v := ?_) rfl (by kernel_rfl) (by kernel_rfl) (by kernel_rfl) (fun _ _ _ h => h) (Or.inl ⟨rfl, ?_⟩) hHeld ?_
        rotate_left
        · intro w' hS; skip; go_simp <;> with_reducible rfl
        simp only [Act.put, List.getElem_toArray, List.getElem_cons_succ, List.getElem_cons_zero, List.setIfInBounds_toArray, List.set_cons_succ, List.set_cons_zero]
        refine wpAnyH_ready (rs := [1, 5]) (by kernel_rfl) (by simp) (AllReadyH.cons rfl (fun K hK => ?_) (AllReadyH.cons rfl (fun K hK => ?_) AllReadyH.nil))
        · obtain ⟨e0, e1⟩ := hr.cells2
          have hel := hr.lt
          go_simp
          clear e0 e1 hel
          refine hK.out _ _ trivial (fun hHeld => ?_)
          clear hK K
          try simp only [Act.put, List.getElem_toArray, List.getElem_cons_succ, List.getElem_cons_zero, List.setIfInBounds_toArray, List.set_cons_succ, List.set_cons_zero]
          refine wpAnyH_ready (rs := [5]) (by kernel_rfl) (by simp) (AllReadyH.cons rfl (fun K hK => ?_) AllReadyH.nil)
          go_simp
          refine (clueOf_any k 0 A n c xs _ (HA.out.below ht) HX.out HH.out (by omega) (by omega) (fun h => absurd h HPER.out)).mono ?_
          rintro e wdc ⟨rfl, hb⟩
          rw [HCL.out]
          replace hr := hr.below hb
          replace hg := hg.below hb
          replace hz := hz.below hb
          replace hown := own_belowM hown hb
          replace ht := below_then ht hb ht.size
          clear hb
          refine hK.out _ _ trivial (fun hHeld => ?_)
          clear hK K
          try simp only [Act.put, List.getElem_toArray, List.getElem_cons_succ, List.getElem_cons_zero, List.setIfInBounds_toArray, List.set_cons_succ, List.set_cons_zero]
          refine wpAnyH_ready (rs := [6]) (by kernel_rfl) (by simp) (AllReadyH.cons rfl (fun K hK => ?_) AllReadyH.nil)
          go_simp
          have hN := Whole.fresh wdc 87 #[.int .i64 x1, .int .i64 x2, .int .i64 x3]
          obtain ⟨gN, hgN⟩ : ∃ g, g = wdc.heap.size := ⟨_, rfl⟩
          rw [← hgN] at hN ⊢
          clear hgN
          replace hr := hr.alloc (.cells #[.int .i64 x1, .int .i64 x2, .int .i64 x3] 87)
          replace hg := hg.alloc (.cells #[.int .i64 x1, .int .i64 x2, .int .i64 x3] 87)
          replace hz := hz.alloc (.cells #[.int .i64 x1, .int .i64 x2, .int .i64 x3] 87)
          replace hown := hown.alloc (.cells #[.int .i64 x1, .int .i64 x2, .int .i64 x3] 87)
          replace ht := ht.alloc ht.size (.cells #[.int .i64 x1, .int .i64 x2, .int .i64 x3] 87)
          generalize World.alloc wdc (.cells #[.int .i64 x1, .int .i64 x2, .int .i64 x3] 87) = wdcn at hN hr hg hz hown ht ⊢
          refine hK.out _ _ trivial (fun hHeld => ?_)
          clear hK K
          try simp only [Act.put, List.getElem_toArray, List.getElem_cons_succ, List.getElem_cons_zero, List.setIfInBounds_toArray, List.set_cons_succ, List.set_cons_zero]
          refine wpAnyH_ready (rs := [7]) (by kernel_rfl) (by simp) (AllReadyH.cons rfl (fun K hK => ?_) AllReadyH.nil)
          have hbs7 : gP + 1 ≤ wdcn.heap.size := hr.lt
          have HNW7 : Hid (∀ j u, ([.int .i64 x1, .int .i64 x2, .int .i64 x3] : List Value)[j]? = some u → wdcn.cell? ((⟨gN, 0, none⟩ : Addr).add j) = some u) := fun j u hu => by rw [Addr.add_lit, Nat.zero_add]; exact (hN.cell j).trans (by simpa using hu)
          refine step_append_mine rfl (.tmp 54) (.tmp 59) 81 rfl (gP + 1) 87 i0 (.agg #[.int .i64 0, .int .i64 0, .int .i64 0]) 3 24 Try.underlying81 HI.out HZ0.out HZ1.out HZ2.out rfl (by decide) (.slice Q j r) j (clsC L) (by simp [Act.eval]) (by exact hown) ⟨gN, 0, none⟩ 1 1 [.int .i64 x1, .int .i64 x2, .int .i64 x3] (by simp [Act.eval]) rfl HNW7.out (by simp [Value.oneCell']) HM.out HY.out hbs7 ?_
          intro v7 wdcna hown7 hgr7
          obtain ⟨A7, q7, rfl⟩ := own_shapeC hown7
          have hrow7 : ∀ y, (.slice Q j r : Value).ownBlock = some y → gP + 1 ≤ y := fun y hy => (hown.lt y hy).1
          clear hN
          replace hr := whole_apartA hr hgr7 (fun e => absurd (hrow7 _ e.symm) (by omega))
          replace hg := whole_apartA hg hgr7 (fun e => absurd (hrow7 _ e.symm) (by omega))
          replace hz := whole_apartA hz hgr7 (fun e => absurd (hrow7 _ e.symm) (by omega))
          replace ht := ht.grown hgr7 ht.size (fun y hy => by have := hrow7 y hy; omega)
          clear hgr7 hrow7 hown
          have hown := hown7
          clear hown7
          refine hK.out _ _ trivial (fun hHeld => ?_)
          clear hK K
          try simp only [Act.put, List.getElem_toArray, List.getElem_cons_succ, List.getElem_cons_zero, List.setIfInBounds_toArray, List.set_cons_succ, List.set_cons_zero]
          refine wpAnyH_take (i := 8) (v := ?_) rfl (by kernel_rfl) (by kernel_rfl) (by kernel_rfl) (fun _ _ _ h => h) (Or.inl ⟨rfl, ?_⟩) hHeld ?_
          rotate_left
          · intro w' hS; skip; go_simp <;> with_reducible rfl
          simp only [Act.put, List.getElem_toArray, List.getElem_cons_succ, List.getElem_cons_zero, List.setIfInBounds_toArray, List.set_cons_succ, List.set_cons_zero]
          refine wpAnyH_ready (rs := [9]) (by kernel_rfl) (by simp) (AllReadyH.cons rfl (fun K hK => ?_) AllReadyH.nil)
          obtain ⟨e0, e1⟩ := hr.cells2
          have hel := hr.lt
          have hop := hr.open_ 1
          go_simp
          clear e0 e1 hel hop
          have hr9 : Whole (World.setCell wdcna ⟨gP, 1, none⟩ (.slice A7 (j + 1) q7)) gP 83 #[.int .i64 (n : Int), (.slice A7 (j + 1) q7)] := hr.set_ 1 _
          have hg9 := hg.off (b := gP) (o := 1) (u := (.slice A7 (j + 1) q7)) (by omega)
          have hz9 := hz.off (b := gP) (o := 1) (u := (.slice A7 (j + 1) q7)) (by omega)
          have hown9 := ownsRow_setCell_below (a := ⟨gP, 1, none⟩) hown (Nat.lt_succ_self _) (.slice A7 (j + 1) q7)
          have ht9 := below_set (b := gP) (o := 1) (u := (.slice A7 (j + 1) q7)) ht (by omega)
          generalize World.setCell wdcna ⟨gP, 1, none⟩ (.slice A7 (j + 1) q7) = wdcnas at hr9 hown9 ht9 hg9 hz9 ⊢
          clear hr hg hz hown ht
          refine hK.out _ _ trivial (fun hHeld => ?_)
          clear hK K
          try simp only [Act.put, List.getElem_toArray, List.getElem_cons_succ, List.getElem_cons_zero, List.setIfInBounds_toArray, List.set_cons_succ, List.set_cons_zero]
          refine wpAnyH_done (by kernel_rfl) ?_ _
          clear hHeld
          go_wp2_with fail
          go_roundw
          case rel => exact ⟨j + 1, A7, q7, by omega, by go_num, hr9, by rw [HLN.out]; exact hown9, hg9, by rw [HZN.out]; exact hz9, ht9⟩
          case measure => simp [intOf]; omega
        · go_simp
          refine (clueOf_any k 0 A n c xs _ (HA.out.below ht) HX.out HH.out (by omega) (by omega) (fun h => absurd h HPER.out)).mono ?_
          rintro e wdc ⟨rfl, hb⟩
          rw [HCL.out]
          replace hr := hr.below hb
          replace hg := hg.below hb
          replace hz := hz.below hb
          replace hown := own_belowM hown hb
          replace ht := below_then ht hb ht.size
          clear hb
          refine hK.out _ _ trivial (fun hHeld => ?_)
          clear hK K
          try simp only [Act.put, List.getElem_toArray, List.getElem_cons_succ, List.getElem_cons_zero, List.setIfInBounds_toArray, List.set_cons_succ, List.set_cons_zero]
          refine wpAnyH_ready (rs := [1, 6]) (by kernel_rfl) (by simp) (AllReadyH.cons rfl (fun K hK => ?_) (AllReadyH.cons rfl (fun K hK => ?_) AllReadyH.nil))
          · obtain ⟨e0, e1⟩ := hr.cells2
            have hel := hr.lt
            go_simp
            clear e0 e1 hel
            refine hK.out _ _ trivial (fun hHeld => ?_)
            clear hK K
            try simp only [Act.put, List.getElem_toArray, List.getElem_cons_succ, List.getElem_cons_zero, List.setIfInBounds_toArray, List.set_cons_succ, List.set_cons_zero]
            refine wpAnyH_ready (rs := [6]) (by kernel_rfl) (by simp) (AllReadyH.cons rfl (fun K hK => ?_) AllReadyH.nil)
            go_simp
            have hN := Whole.fresh wdc 87 #[.int .i64 x1, .int .i64 x2, .int .i64 x3]
            obtain ⟨gN, hgN⟩ : ∃ g, g = wdc.heap.size := ⟨_, rfl⟩
            rw [← hgN] at hN ⊢
            clear hgN
            replace hr := hr.alloc (.cells #[.int .i64 x1, .int .i64 x2, .int .i64 x3] 87)
            replace hg := hg.alloc (.cells #[.int .i64 x1, .int .i64 x2, .int .i64 x3] 87)
            replace hz := hz.alloc (.cells #[.int .i64 x1, .int .i64 x2, .int .i64 x3] 87)
            replace hown := hown.alloc (.cells #[.int .i64 x1, .int .i64 x2, .int .i64 x3] 87)
            replace ht := ht.alloc ht.size (.cells #[.int .i64 x1, .int .i64 x2, .int .i64 x3] 87)
            generalize World.alloc wdc (.cells #[.int .i64 x1, .int .i64 x2, .int .i64 x3] 87) = wdcn at hN hr hg hz hown ht ⊢
            refine hK.out _ _ trivial (fun hHeld => ?_)
            clear hK K
            try simp only [Act.put, List.getElem_toArray, List.getElem_cons_succ, List.getElem_cons_zero, List.setIfInBounds_toArray, List.set_cons_succ, List.set_cons_zero]
            refine wpAnyH_ready (rs := [7]) (by kernel_rfl) (by simp) (AllReadyH.cons rfl (fun K hK => ?_) AllReadyH.nil)
            have hbs7 : gP + 1 ≤ wdcn.heap.size := hr.lt
            have HNW7 : Hid (∀ j u, ([.int .i64 x1, .int .i64 x2, .int .i64 x3] : List Value)[j]? = some u → wdcn.cell? ((⟨gN, 0, none⟩ : Addr).add j) = some u) := fun j u hu => by rw [Addr.add_lit, Nat.zero_add]; exact (hN.cell j).trans (by simpa using hu)
            refine step_append_mine rfl (.tmp 54) (.tmp 59) 81 rfl (gP + 1) 87 i0 (.agg #[.int .i64 0, .int .i64 0, .int .i64 0]) 3 24 Try.underlying81 HI.out HZ0.out HZ1.out HZ2.out rfl (by decide) (.slice Q j r) j (clsC L) (by simp [Act.eval]) (by exact hown) ⟨gN, 0, none⟩ 1 1 [.int .i64 x1, .int .i64 x2, .int .i64 x3] (by simp [Act.eval]) rfl HNW7.out (by simp [Value.oneCell']) HM.out HY.out hbs7 ?_
            intro v7 wdcna hown7 hgr7
            obtain ⟨A7, q7, rfl⟩ := own_shapeC hown7
            have hrow7 : ∀ y, (.slice Q j r : Value).ownBlock = some y → gP + 1 ≤ y := fun y hy => (hown.lt y hy).1
            clear hN
            replace hr := whole_apartA hr hgr7 (fun e => absurd (hrow7 _ e.symm) (by omega))
            replace hg := whole_apartA hg hgr7 (fun e => absurd (hrow7 _ e.symm) (by omega))
            replace hz := whole_apartA hz hgr7 (fun e => absurd (hrow7 _ e.symm) (by omega))
            replace ht := ht.grown hgr7 ht.size (fun y hy => by have := hrow7 y hy; omega)
            clear hgr7 hrow7 hown
            have hown := hown7
            clear hown7
            refine hK.out _ _ trivial (fun hHeld => ?_)
            clear hK K
            try simp only [Act.put, List.getElem_toArray, List.getElem_cons_succ, List.getElem_cons_zero, List.setIfInBounds_toArray, List.set_cons_succ, List.set_cons_zero]
            refine wpAnyH_take (i := 8) (v := ?_) rfl (by kernel_rfl) (by kernel_rfl) (by kernel_rfl) (fun _ _ _ h => h) (Or.inl ⟨rfl, ?_⟩) hHeld ?_
            rotate_left
            · intro w' hS; skip; go_simp <;> with_reducible rfl
            simp only [Act.put, List.getElem_toArray, List.getElem_cons_succ, List.getElem_cons_zero, List.setIfInBounds_toArray, List.set_cons_succ, List.set_cons_zero]
            refine wpAnyH_ready (rs := [9]) (by kernel_rfl) (by simp) (AllReadyH.cons rfl (fun K hK => ?_) AllReadyH.nil)
            obtain ⟨e0, e1⟩ := hr.cells2
            have hel := hr.lt
            have hop := hr.open_ 1
            go_simp
            clear e0 e1 hel hop
            have hr9 : Whole (World.setCell wdcna ⟨gP, 1, none⟩ (.slice A7 (j + 1) q7)) gP 83 #[.int .i64 (n : Int), (.slice A7 (j + 1) q7)] := hr.set_ 1 _
            have hg9 := hg.off (b := gP) (o := 1) (u := (.slice A7 (j + 1) q7)) (by omega)
            have hz9 := hz.off (b := gP) (o := 1) (u := (.slice A7 (j + 1) q7)) (by omega)
            have hown9 := ownsRow_setCell_below (a := ⟨gP, 1, none⟩) hown (Nat.lt_succ_self _) (.slice A7 (j + 1) q7)
            have ht9 := below_set (b := gP) (o := 1) (u := (.slice A7 (j + 1) q7)) ht (by omega)
            generalize World.setCell wdcna ⟨gP, 1, none⟩ (.slice A7 (j + 1) q7) = wdcnas at hr9 hown9 ht9 hg9 hz9 ⊢
            clear hr hg hz hown ht
            refine hK.out _ _ trivial (fun hHeld => ?_)
            clear hK K
            try simp only [Act.put, List.getElem_toArray, List.getElem_cons_succ, List.getElem_cons_zero, List.setIfInBounds_toArray, List.set_cons_succ, List.set_cons_zero]
            refine wpAnyH_done (by kernel_rfl) ?_ _
            clear hHeld
            go_wp2_with fail
            go_roundw
            case rel => exact ⟨j + 1, A7, q7, by omega, by go_num, hr9, by rw [HLN.out]; exact hown9, hg9, by rw [HZN.out]; exact hz9, ht9⟩
            case measure => simp [intOf]; omega
          · go_simp
            have hN := Whole.fresh wdc 87 #[.int .i64 x1, .int .i64 x2, .int .i64 x3]
            obtain ⟨gN, hgN⟩ : ∃ g, g = wdc.heap.size := ⟨_, rfl⟩
            rw [← hgN] at hN ⊢
            clear hgN
            replace hr := hr.alloc (.cells #[.int .i64 x1, .int .i64 x2, .int .i64 x3] 87)
            replace hg := hg.alloc (.cells #[.int .i64 x1, .int .i64 x2, .int .i64 x3] 87)
            replace hz := hz.alloc (.cells #[.int .i64 x1, .int .i64 x2, .int .i64 x3] 87)
            replace hown := hown.alloc (.cells #[.int .i64 x1, .int .i64 x2, .int .i64 x3] 87)
            replace ht := ht.alloc ht.size (.cells #[.int .i64 x1, .int .i64 x2, .int .i64 x3] 87)
            generalize World.alloc wdc (.cells #[.int .i64 x1, .int .i64 x2, .int .i64 x3] 87) = wdcn at hN hr hg hz hown ht ⊢
            refine hK.out _ _ trivial (fun hHeld => ?_)
            clear hK K
            try simp only [Act.put, List.getElem_toArray, List.getElem_cons_succ, List.getElem_cons_zero, List.setIfInBounds_toArray, List.set_cons_succ, List.set_cons_zero]
            refine wpAnyH_ready (rs := [1]) (by kernel_rfl) (by simp) (AllReadyH.cons rfl (fun K hK => ?_) AllReadyH.nil)
            obtain ⟨e0, e1⟩ := hr.cells2
            have hel := hr.lt
            go_simp
            clear e0 e1 hel
            refine hK.out _ _ trivial (fun hHeld => ?_)
            clear hK K
            try simp only [Act.put, List.getElem_toArray, List.getElem_cons_succ, List.getElem_cons_zero, List.setIfInBounds_toArray, List.set_cons_succ, List.set_cons_zero]
            refine wpAnyH_ready (rs := [7]) (by kernel_rfl) (by simp) (AllReadyH.cons rfl (fun K hK => ?_) AllReadyH.nil)
            have hbs7 : gP + 1 ≤ wdcn.heap.size := hr.lt
            have HNW7 : Hid (∀ j u, ([.int .i64 x1, .int .i64 x2, .int .i64 x3] : List Value)[j]? = some u → wdcn.cell? ((⟨gN, 0, none⟩ : Addr).add j) = some u) := fun j u hu => by rw [Addr.add_lit, Nat.zero_add]; exact (hN.cell j).trans (by simpa using hu)
            refine step_append_mine rfl (.tmp 54) (.tmp 59) 81 rfl (gP + 1) 87 i0 (.agg #[.int .i64 0, .int .i64 0, .int .i64 0]) 3 24 Try.underlying81 HI.out HZ0.out HZ1.out HZ2.out rfl (by decide) (.slice Q j r) j (clsC L) (by simp [Act.eval]) (by exact hown) ⟨gN, 0, none⟩ 1 1 [.int .i64 x1, .int .i64 x2, .int .i64 x3] (by simp [Act.eval]) rfl HNW7.out (by simp [Value.oneCell']) HM.out HY.out hbs7 ?_
            intro v7 wdcna hown7 hgr7
            obtain ⟨A7, q7, rfl⟩ := own_shapeC hown7
            have hrow7 : ∀ y, (.slice Q j r : Value).ownBlock = some y → gP + 1 ≤ y := fun y hy => (hown.lt y hy).1
            clear hN
            replace hr := whole_apartA hr hgr7 (fun e => absurd (hrow7 _ e.symm) (by omega))
            replace hg := whole_apartA hg hgr7 (fun e => absurd (hrow7 _ e.symm) (by omega))
            replace hz := whole_apartA hz hgr7 (fun e => absurd (hrow7 _ e.symm) (by omega))
            replace ht := ht.grown hgr7 ht.size (fun y hy => by have := hrow7 y hy; omega)
            clear hgr7 hrow7 hown
            have hown := hown7
            clear hown7
            refine hK.out _ _ trivial (fun hHeld => ?_)
            clear hK K
            try simp only [Act.put, List.getElem_toArray, List.getElem_cons_succ, List.getElem_cons_zero, List.setIfInBounds_toArray, List.set_cons_succ, List.set_cons_zero]
            refine wpAnyH_take (i := 8) (v := ?_) rfl (by kernel_rfl) (by kernel_rfl) (by kernel_rfl) (fun _ _ _ h => h) (Or.inl ⟨rfl, ?_⟩) hHeld ?_
            rotate_left
            · intro w' hS; skip; go_simp <;> with_reducible rfl
            simp only [Act.put, List.getElem_toArray, List.getElem_cons_succ, List.getElem_cons_zero, List.setIfInBounds_toArray, List.set_cons_succ, List.set_cons_zero]
            refine wpAnyH_ready (rs := [9]) (by kernel_rfl) (by simp) (AllReadyH.cons rfl (fun K hK => ?_) AllReadyH.nil)
            obtain ⟨e0, e1⟩ := hr.cells2
            have hel := hr.lt
            have hop := hr.open_ 1
            go_simp
            clear e0 e1 hel hop
            have hr9 : Whole (World.setCell wdcna ⟨gP, 1, none⟩ (.slice A7 (j + 1) q7)) gP 83 #[.int .i64 (n : Int), (.slice A7 (j + 1) q7)] := hr.set_ 1 _
            have hg9 := hg.off (b := gP) (o := 1) (u := (.slice A7 (j + 1) q7)) (by omega)
            have hz9 := hz.off (b := gP) (o := 1) (u := (.slice A7 (j + 1) q7)) (by omega)
            have hown9 := ownsRow_setCell_below (a := ⟨gP, 1, none⟩) hown (Nat.lt_succ_self _) (.slice A7 (j + 1) q7)
            have ht9 := below_set (b := gP) (o := 1) (u := (.slice A7 (j + 1) q7)) ht (by omega)
            generalize World.setCell wdcna ⟨gP, 1, none⟩ (.slice A7 (j + 1) q7) = wdcnas at hr9 hown9 ht9 hg9 hz9 ⊢
            clear hr hg hz hown ht
            refine hK.out _ _ trivial (fun hHeld => ?_)
            clear hK K
            try simp only [Act.put, List.getElem_toArray, List.getElem_cons_succ, List.getElem_cons_zero, List.setIfInBounds_toArray, List.set_cons_succ, List.set_cons_zero]
            refine wpAnyH_done (by kernel_rfl) ?_ _
            clear hHeld
            go_wp2_with fail
            go_roundw
            case rel => exact ⟨j + 1, A7, q7, by omega, by go_num, hr9, by rw [HLN.out]; exact hown9, hg9, by rw [HZN.out]; exact hz9, ht9⟩
            case measure => simp [intOf]; omega
    · obtain rfl : j = cN := by omega
      have hd1 : decide ((j : Int) < (j : Int)) = false := by simp
      obtain ⟨p0, p1⟩ := hr.cells2
      have hel := hr.lt
      have hgl2 := hg.lt
      obtain ⟨r0, r1, f0, f1⟩ := hg.two
      have F9 := Lib.hid (own_freshK (own_lowerA (ownsRow_setCell_below (a := ⟨w.heap.size, 1, none⟩) (ownsRow_setCell_below (a := ⟨w.heap.size, 0, none⟩) hown (by show w.heap.size < gP + 1; omega) (.int .i64 (n : Int))) (by show w.heap.size < gP + 1; omega) (.slice Q j r)) (show w.heap.size ≤ gP + 1 by omega)))
      have T9 := Lib.hid (below_set (o := 1) (u := .slice Q j r) (below_set (o := 0) (u := .int .i64 (n : Int)) ht (Nat.le_refl w.heap.size)) (Nat.le_refl w.heap.size))
      clear hown ht hr hg
      go_wp2
      refine bodyPost_ret (v := .tuple #[.agg #[.int .i64 (n : Int), .slice Q j r], .bool true]) (by simp [results, Try.results65, go_sem, r0, r1]) rfl ⟨Q, r, by rw [mkL_len], F9.out, T9.out⟩
end Go.Proofs.Ytkocompjjogciaa
