/-
  What is proved: contracts of AddedTime, of the model and of the program. Conditions: the times are read as they lie.
-/
import Derived.Test.YtpefgleipjjneaaPairS
import Derived.Test.YtpefgleipjjneaaConcat
namespace Go.Proofs.Ytpefgleipjjneaa
open Go.RowKit

theorem some_if_ok {w : World} {A : Option Addr} {xs : List Int} (hA : Holds w A (nums xs)) (h : prOk xs = true) : A ≠ none := by
  rintro rfl
  rcases hA with h0 | ⟨b, o, h0, -⟩
  · have h1 := congrArg List.length h0
    have := (prOk_parts h).1
    rw [nums_len, List.length_nil] at h1
    omega
  · cases h0

def addOk (xs : List Int) (t : Int) : Bool := prOk xs && prOk (xs ++ [t])
def addV (xs : List Int) (t : Int) : Int := if addOk xs t then timeT (prTs true (xs ++ [t])) - timeT (prTs true xs) else 0
theorem addV_no {xs : List Int} {t : Int} (h : addOk xs t = false) : addV xs t = 0 := if_neg (by simp [h])
theorem addV_yes {xs : List Int} {t : Int} (h : addOk xs t = true) : addV xs t = timeT (prTs true (xs ++ [t])) - timeT (prTs true xs) := if_pos h
theorem prOk_app {xs : List Int} {t : Int} (h : prOk xs = true) : prOk (xs ++ [t]) = (!(xs.length == 12) && within t 1 1000) := by
  obtain ⟨a, b, c⟩ := prOk_parts h
  by_cases h12 : xs.length = 12
  · rw [prOk_len (by simp; omega)]
    simp [h12]
  by_cases ht : 1 ≤ t ∧ t ≤ 1000
  · rw [within_yes ht.1 ht.2, prOk_all (by simp) (by simp; omega) (fun j hj => ?_)]
    · simp [h12]
    · rw [List.getElem_append]
      split
      · exact c _ (List.getElem_mem _)
      · simpa using ht
  · rw [within_no (by omega), Bool.and_false]
    exact prOk_time (k := xs.length) (by simp) (by simp; omega)

set_option maxHeartbeats 800000 in
set_option maxRecDepth 100000 in
theorem specAdded_any (A : Option Addr) (n c : Nat) (xs : List Int) (t : Int) (w : World) (hA : Holds w A (nums xs)) (hx : xs.length = n) (hn : n ≤ 9223372036854775807) :
    Calls Try.prog 5 #[.slice A n c, .int .i64 t] w fun e w' => e = .returned (.tuple #[.int .i64 (addV xs t), .bool (addOk xs t)]) ∧ Below w.heap.size w w' := by
  have HX := Lib.hid hx
  cases hok : prOk xs
  · have HOK := Lib.hid hok
    have HO : Hid (addOk xs t = false) := by show _ = _; rw [addOk, hok]; rfl
    clear hok hx
    go_enter Try.func5, Try.ntmps5
    go_wp2_with (go_at_call 11; refine (prGood_any A n c xs _ hA HX.out hn).mono ?_; rintro e w' ⟨rfl, rfl⟩; rw [HOK.out])
    go_ret2
    exact ⟨by rw [addV_no HO.out, HO.out]; rfl, Below.refl _ _⟩
  have HOK := Lib.hid hok
  have happ := prOk_app (t := t) hok
  have hn12 : n ≤ 12 := by have := (prOk_parts hok).2.1; omega
  by_cases h12 : n = 12
  · subst h12
    have HO : Hid (addOk xs t = false) := by show _ = _; rw [addOk, happ, hx]; simp
    clear hok hx happ hn12
    go_enter Try.func5, Try.ntmps5
    go_wp2_with (go_at_call 11; refine (prGood_any A 12 c xs _ hA HX.out hn).mono ?_; rintro e w' ⟨rfl, rfl⟩; rw [HOK.out])
    go_ret2
    exact ⟨by rw [addV_no HO.out, HO.out]; rfl, Below.refl _ _⟩
  have h12b : ((n : Int) == 12) = false := by simp; omega
  cases hwt : within t 1 1000
  · have HO : Hid (addOk xs t = false) := by show _ = _; rw [addOk, happ, hwt, Bool.and_false, Bool.and_false]
    have HWT := Lib.hid hwt
    clear hok hx happ hwt
    go_enter Try.func5, Try.ntmps5
    go_wp2_with (first | (go_at_call 11; refine (prGood_any A n c xs _ hA HX.out hn).mono ?_; rintro e w' ⟨rfl, rfl⟩; rw [HOK.out]) | (go_at_call 12; refine (l1In_any _ _ _ _).mono ?_; rintro e w' ⟨rfl, rfl⟩; rw [HWT.out]))
    go_ret2
    exact ⟨by rw [addV_no HO.out, HO.out]; rfl, Below.refl _ _⟩
  have HQ : Hid (prOk (xs ++ [t]) = true) := by show _ = _; rw [happ, hwt, hx]; simp; omega
  have HO : Hid (addOk xs t = true) := by show _ = _; rw [addOk, hok, HQ.out]; rfl
  have HV : Hid (addV xs t = timeT (prTs true (xs ++ [t])) - timeT (prTs true xs)) := addV_yes HO.out
  have HWT := Lib.hid hwt
  have hv1 := prTs_bd true xs
  have hv2 := prTs_bd true (xs ++ [t])
  have hwr : IntKind.i64.wrap (timeT (prTs true (xs ++ [t])) - timeT (prTs true xs)) = timeT (prTs true (xs ++ [t])) - timeT (prTs true xs) := IntWalk.i64_in _ (by omega)
  have hne := some_if_ok hA hok
  obtain ⟨i0, hi, hz0, hz1, hz2⟩ := info_parts info_int
  have HI := Lib.hid hi
  have HZ0 := Lib.hid hz0
  have HZ1 := Lib.hid hz1
  have HZ2 := Lib.hid hz2
  clear hok happ hwt hv1 hv2 hi hz0 hz1 hz2
  go_enter Try.func5, Try.ntmps5
  go_wp2_with (first | (go_at_call 11; refine (prGood_any A n c xs _ hA HX.out hn).mono ?_; rintro e w' ⟨rfl, rfl⟩; rw [HOK.out]) | (go_at_call 12; refine (l1In_any _ _ _ _).mono ?_; rintro e w' ⟨rfl, rfl⟩; rw [HWT.out]))
  refine (l1Own_any A n c xs _ hA HX.out (by omega) (fun h => absurd h hne)).mono ?_
  rintro e w1 ⟨G, q, rfl, hown, hb⟩
  rw [hx] at hown ⊢
  have HOW := Lib.hid (hown.alloc (.cells #[.int .i64 t] 3))
  have HBB := Lib.hid (hb.alloc hb.size (.cells #[.int .i64 t] 3))
  have hA1 := hA.below hb
  have hs1 := hb.size
  have HMX := Lib.hid (show n + 1 ≤ maxLen by unfold maxLen; omega)
  have HBY := Lib.hid (show (n + 1) * 8 ≤ 140737488355328 by omega)
  have HBS := Lib.hid (show w.heap.size ≤ (w1.alloc (.cells #[.int .i64 t] 3)).heap.size by simp; omega)
  have HL : Hid ((xs ++ [t]).length = n + 1) := by show _ = _; simp [hx]
  clear hown hb hx
  go_wp2_with (at_builtin; refine wpList_append_own _ rfl (.tmp 20) (.tmp 22) 22 rfl w.heap.size 3 i0 (.int .i64 0) 1 8 Try.underlying22 HI.out HZ0.out HZ1.out HZ2.out rfl (by decide) (.slice G n q) n (nums xs) rfl HOW.out ⟨w1.heap.size, 0, none⟩ 1 1 [.int .i64 t] rfl rfl (cell_one_new _ _ _) (by simp [Value.oneCell']) HMX.out HBY.out HBS.out ?_; intro v' w2 hown1 hg1 _; obtain ⟨D', q', hv', -⟩ := Fresh.of_own hown1 (Nat.le_refl _); rw [hv'] at hown1 ⊢; clear hv')
  have HBN := Lib.hid (HBB.out.grown hg1 HBS.out (fun kk e => (HOW.out.lt _ e).1))
  have HF : Hid (Holds w2 D' (nums (xs ++ [t]))) := by
    show Holds _ _ _
    have h := (own_fresh1 hown1).holds
    simpa [nums] using h
  have hA2 := hA.below HBN.out
  clear hown1 hg1
  refine (prTime_any D' (n + 1) q' (xs ++ [t]) _ HF.out HL.out HQ.out).mono ?_
  rintro e w3 ⟨rfl, hb⟩
  have hA3 := hA2.below hb
  have HB3 := Lib.hid (below_then HBN.out hb HBN.out.size)
  clear hb hA1 hA2
  go_wp2_with fail
  refine (prTime_any A n c xs _ hA3 HX.out HOK.out).mono ?_
  rintro e w4 ⟨rfl, hb⟩
  have HB4 := Lib.hid (below_then HB3.out hb HB3.out.size)
  clear hb
  go_wp2
  go_ret2
  exact ⟨by rw [HV.out, HO.out]; rfl, HB4.out⟩

set_option maxHeartbeats 800000 in
set_option maxRecDepth 100000 in
theorem implAdded_any (A : Option Addr) (n c : Nat) (xs : List Int) (t : Int) (w : World) (hA : Holds w A (nums xs)) (hx : xs.length = n) (hn : n ≤ 9223372036854775807) :
    Calls Try.prog 7 #[.slice A n c, .int .i64 t] w fun e w' => e = .returned (.tuple #[.int .i64 (addV xs t), .bool (addOk xs t)]) ∧ Below w.heap.size w w' := by
  have HX := Lib.hid hx
  cases hok : prOk xs
  · have HOK := Lib.hid hok
    have HO : Hid (addOk xs t = false) := by show _ = _; rw [addOk, hok]; rfl
    clear hok hx
    go_enter Try.func7, Try.ntmps7
    go_wp2_with fail
    refine (implPairTime_any A n c xs _ hA HX.out hn).mono ?_
    rintro e w1 ⟨rfl, hb⟩
    rw [HOK.out]
    have HB := Lib.hid hb
    clear hb
    go_wp2
    go_ret2
    exact ⟨by rw [addV_no HO.out, HO.out]; rfl, HB.out⟩
  have HOK := Lib.hid hok
  have hn12 : n ≤ 12 := by have := (prOk_parts hok).2.1; omega
  have hn1 : 1 ≤ n := by have := (prOk_parts hok).1; omega
  have hne := some_if_ok hA hok
  have hv1 := prTs_bd true xs
  have hv2 := prTs_bd true (xs ++ [t])
  have hwr : IntKind.i64.wrap (timeT (prTs true (xs ++ [t])) - timeT (prTs true xs)) = timeT (prTs true (xs ++ [t])) - timeT (prTs true xs) := IntWalk.i64_in _ (by omega)
  clear hok hv1 hv2
  go_enter Try.func7, Try.ntmps7
  go_wp2_with fail
  refine (implPairTime_any A n c xs _ hA HX.out hn).mono ?_
  rintro e w1 ⟨rfl, hb⟩
  rw [HOK.out]
  have HB := Lib.hid hb
  have hA1 := hA.below hb
  have HB2 := Lib.hid ((hb.alloc hb.size (.cells #[.int .i64 t] 3)).alloc (by have := hb.size; simp; omega) (.cells #[.slice A n c, .slice (some ⟨w1.heap.size, 0, none⟩) 1 1] 22))
  have hw1 := ((Whole.fresh w1 3 #[.int .i64 t]).alloc (.cells #[.slice A n c, .slice (some ⟨w1.heap.size, 0, none⟩) 1 1] 22)).holds
  have hw2 := (Whole.fresh (w1.alloc (.cells #[.int .i64 t] 3)) 22 #[.slice A n c, .slice (some ⟨w1.heap.size, 0, none⟩) 1 1]).holds
  have HG : Hid (Grid ((w1.alloc (.cells #[.int .i64 t] 3)).alloc (.cells #[.slice A n c, .slice (some ⟨w1.heap.size, 0, none⟩) 1 1] 22)) (some ⟨(w1.alloc (.cells #[.int .i64 t] 3)).heap.size, 0, none⟩) [⟨A, n, c, xs⟩, ⟨some ⟨w1.heap.size, 0, none⟩, 1, 1, [t]⟩]) := by
    refine ⟨hw2, fun r hr => ?_⟩
    simp only [List.mem_cons, List.not_mem_nil, or_false] at hr
    rcases hr with rfl | rfl
    · exact ⟨(hA1.alloc _).alloc _, hx, hn⟩
    · exact ⟨hw1, rfl, by show 1 ≤ _; omega⟩
  have HPT : Hid (part [⟨A, n, c, xs⟩, ⟨some ⟨w1.heap.size, 0, none⟩, 1, 1, [t]⟩] 2 = n + 1) := by show _ = _; simp [part]
  have HNIL : Hid (∀ r ∈ ([⟨A, n, c, xs⟩, ⟨some ⟨w1.heap.size, 0, none⟩, 1, 1, [t]⟩] : List RowV), r.A = none → r.c = 0) := by
    intro r hr h
    simp only [List.mem_cons, List.not_mem_nil, or_false] at hr
    rcases hr with rfl | rfl
    · exact absurd h hne
    · cases h
  have HJ : Hid (joined [⟨A, n, c, xs⟩, ⟨some ⟨w1.heap.size, 0, none⟩, 1, 1, [t]⟩] 2 = xs ++ [t]) := by show _ = _; simp [joined]
  have HL : Hid ((xs ++ [t]).length = n + 1) := by show _ = _; simp [hx]
  rw [World.size_alloc] at HG
  clear hb hx hw1 hw2 hne
  go_wp2_with fail
  refine (concat_any _ 2 2 _ _ HG.out rfl (by omega) (by rw [HPT.out]; omega) (by rw [HPT.out]; omega) HNIL.out).mono ?_
  rw [HJ.out]
  rintro e w2 ⟨G, q, rfl, hown, hb⟩
  rw [HL.out] at hown ⊢
  have HF := Lib.hid (own_fresh1 hown).holds
  have HB3 := Lib.hid (below_then HB2.out hb HB2.out.size)
  clear hown hb
  go_wp2_with fail
  refine (implPairTime_any G (n + 1) q (xs ++ [t]) _ HF.out HL.out (by omega)).mono ?_
  rintro e w3 ⟨rfl, hb⟩
  have HB4 := Lib.hid (below_then HB3.out hb HB3.out.size)
  clear hb
  cases hq : prOk (xs ++ [t])
  · have HO : Hid (addOk xs t = false) := by show _ = _; rw [addOk, hq, Bool.and_false]
    clear hq
    go_wp2
    go_ret2
    exact ⟨by rw [addV_no HO.out, HO.out]; rfl, HB4.out⟩
  · have HO : Hid (addOk xs t = true) := by show _ = _; rw [addOk, hq, HOK.out]; rfl
    have HV := Lib.hid (addV_yes HO.out)
    clear hq
    go_wp2
    go_ret2
    exact ⟨by rw [HV.out, HO.out]; rfl, HB4.out⟩
end Go.Proofs.Ytpefgleipjjneaa
