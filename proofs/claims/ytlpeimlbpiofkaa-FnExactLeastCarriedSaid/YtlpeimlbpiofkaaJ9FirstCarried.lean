/-
  What is proved: contracts of the program's BestFirstTrips. Conditions: the party's times are read as they lie.
  What is proved: plain facts on the model's search over a crew's states: what it keeps from round to round, and what it tells at its end. Conditions: each ride costs 1 or more.
  What is proved: contracts of the program's fewest rows of a company, its count of the states that are reached, and its seats for couples. Conditions: none.
  What is proved: a contract of the program's CountReachedCrews. Conditions: the arguments are read as they lie.
  What is proved: plain facts on the model's queue of a crew's states, beside the program's search: the same states in the same order. Conditions: at most seven people.
  What is proved: the contract of the model's number of a crew's first state. Conditions: at most eight people.
  What is proved: the contract of the model's loFar: the least cost from each state of a crew to the last one, by their numbers. Conditions: a crew, whose boat may carry up to 4000.
  What is proved: contracts of the model's loLeast, FewestOfCrew and LeastCarried: the least cost of a plan of a crew. Conditions: the arguments are read as they lie.
  What is proved: contracts of the program's carried and LeastCarried: the routes of a crew on which loads are the times. Conditions: the arguments are read as they lie.
  What is proved: how lists of rows of one's own stand over stores and appends; what a call hands back that makes a list of rows. Conditions: none beyond the reading itself.
-/
import Derived.Deep.DeepCutAuto
import Derived.Deep.LoopGhost
import Derived.Test.YtlpeimlbpiofkaaJ8FirstCarried
set_option linter.unusedSimpArgs false
set_option linter.unusedVariables false
namespace Go.Proofs.Ytlpeimlbpiofkaa
open Go.RowKit Go.Maps Go.WideShapes

set_option maxHeartbeats 3200000 in
set_option maxRecDepth 100000 in
theorem bestLegs_zero (w : World) : Calls Try.prog 71 #[.agg zero11, .agg #[.bool false, .bool false, .bool false, .bool false, .bool false, .bool false, .bool false, .bool false, .bool false]] w fun e w' => e = .returned (.slice none 0 0) ∧ Below w.heap.size w w' := by
  have hb := (Whole.fresh w 78 zero11).alloc (.cells #[.bool false, .bool false, .bool false, .bool false, .bool false, .bool false, .bool false, .bool false, .bool false] 75)
  have HT := Lib.hid (below2 w (.cells zero11 78) (.cells #[.bool false, .bool false, .bool false, .bool false, .bool false, .bool false, .bool false, .bool false, .bool false] 75))
  have hk0 := (cells11 (x0 := .slice none 0 0) hb).1
  have hbl := hb.lt
  clear hb
  unfold zero11 at HT hk0 hbl
  unfold zero11
  go_enter Try.func71, Try.ntmps71
  go_wp2
  go_loopw [5, 11] (fun v i wr => v = .slice none 0 0 ∧ i = .int .i64 0 ∧ Below w.heap.size w wr) (fun _ _ _ => 0)
  case atStart => exact ⟨rfl, rfl, HT.out⟩
  case round =>
    obtain ⟨rfl, rfl, hb⟩ := hrel
    have HT2 := Lib.hid hb
    clear hb
    go_wp2
    go_ret
    exact ⟨rfl, HT2.out⟩

/-- What BestFirstTrips comes to. -/
noncomputable def firstTr (xs : List Int) (s : Int) : List (List Int) := if leastOk xs s then bestOf (slowOf xs) (upLists xs.length s.toNat) (leftM xs xs.length s.toNat) 0 else []
theorem firstTr_no {xs : List Int} {s : Int} (h : leastOk xs s = false) : firstTr xs s = [] := by simp [firstTr, h]
theorem firstTr_yes {xs : List Int} {n q : Nat} (hx : xs.length = n) (h : leastOk xs (q : Int) = true) : firstTr xs (q : Int) = bestOf (slowOf xs) (upLists n q) (leftM xs n q) 0 := by subst hx; simp [firstTr, h]
theorem firstTr_le (xs : List Int) (s : Int) (h8 : leastOk xs s = true → xs.length ≤ 8) : (firstTr xs s).length ≤ 1048576 ∧ ((firstTr xs s).map List.length).sum ≤ 1048576 := by
  cases h : leastOk xs s
  · rw [firstTr_no h]; simp
  · have h8' := h8 h
    rw [firstTr, if_pos h]
    have h1 := best_len (slowOf xs) (upLists xs.length s.toNat) (leftM xs xs.length s.toNat) 0
    have h2 := upLists_small (n := xs.length) (m := s.toNat) h8'
    have h5 := sum_lens (ls := bestOf (slowOf xs) (upLists xs.length s.toNat) (leftM xs xs.length s.toNat) 0) (k := 8) fun l hl => by
      have h3 := up_steps (List.mem_filter.1 hl).1
      have h4 := steps_len h3.1 (by omega)
      omega
    exact ⟨by omega, by omega⟩

set_option maxHeartbeats 6400000 in
set_option maxRecDepth 100000 in
theorem implBestF_zero (A : Option Addr) (n c : Nat) (xs : List Int) (s : Int) (w : World)
    (hpl : Calls Try.prog 63 #[.agg #[.slice A n c, .int .i64 s]] (w.alloc (.cells #[.slice A n c, .int .i64 s] 28)) fun e w' => e = .returned (.tuple #[.agg zero11, .bool false]) ∧ Below (w.alloc (.cells #[.slice A n c, .int .i64 s] 28)).heap.size (w.alloc (.cells #[.slice A n c, .int .i64 s] 28)) w') :
    Calls Try.prog 27 #[.agg #[.slice A n c, .int .i64 s]] w (BackPost [] false w) := by
  have HT := Lib.hid (below1 w (.cells #[.slice A n c, .int .i64 s] 28))
  have HPL := Lib.hid hpl
  clear hpl
  go_enter Try.func27, Try.ntmps27
  go_wp2_with fail
  refine HPL.out.mono ?_
  rintro e w1 ⟨rfl, hb⟩
  have HT1 := Lib.hid (below_then HT.out hb HT.out.size)
  have hbx : Whole (w1.alloc (.cells #[.slice none 0 0, .bool false, .bool false, .bool false, .bool false, .bool false, .bool false, .bool false, .bool false, .bool false, .map none] 78)) w1.heap.size 78 #[.slice none 0 0, .bool false, .bool false, .bool false, .bool false, .bool false, .bool false, .bool false, .bool false, .bool false, .map none] := Whole.fresh _ _ _
  have HT2 := Lib.hid (HT1.out.alloc HT1.out.size (.cells #[.slice none 0 0, .bool false, .bool false, .bool false, .bool false, .bool false, .bool false, .bool false, .bool false, .bool false, .map none] 78))
  clear hb
  unfold zero11
  obtain ⟨c0, c1, c2, c3, c4, c5, c6, c7, c8, c9, c10⟩ := cells11 hbx
  have hbl := hbx.lt
  go_wp2_with fail
  have hln := bestLegs_zero (w1.alloc (.cells #[.slice none 0 0, .bool false, .bool false, .bool false, .bool false, .bool false, .bool false, .bool false, .bool false, .bool false, .map none] 78))
  unfold zero11 at hln
  refine hln.mono ?_
  clear hln
  rintro e w2 ⟨rfl, hb⟩
  have HT3 := Lib.hid (below_then HT2.out hb HT2.out.size)
  clear hb hbx c0 c1 c2 c3 c4 c5 c6 c7 c8 c9 c10 hbl
  go_wp2
  go_loopw [6, 18] (fun v i wr => v = .slice none 0 0 ∧ i = .int .i64 0 ∧ Below w.heap.size w wr) (fun _ _ _ => 0)
  case atStart => exact ⟨rfl, rfl, HT3.out⟩
  case round =>
    obtain ⟨rfl, rfl, hb⟩ := hrel
    have HT4 := Lib.hid hb
    clear hb
    go_wp2
    go_ret2
    exact BackPost.no HT4.out

set_option maxHeartbeats 6400000 in
set_option maxRecDepth 100000 in
theorem implBestF_yes (A : Option Addr) (n c q : Nat) (xs : List Int) (w : World) (hA : Holds w A (nums xs)) (hx : xs.length = n) (hp : isParty xs (q : Int) = true) (hpl : planOk xs n q = true) :
    Calls Try.prog 27 #[.agg #[.slice A n c, .int .i64 (q : Int)]] w (BackPost (bestOf (slowOf xs) (upLists n q) (leftM xs n q) 0) true w) := by
  obtain ⟨g1, g8, gq1, gq8, gxs⟩ := party_parts hp
  rw [hx] at g1 g8
  obtain ⟨i1, ri, rz0, rz1, rz2⟩ := info_parts info_row
  have RI := Lib.hid ri
  have RZ0 := Lib.hid rz0
  have RZ1 := Lib.hid rz1
  have RZ2 := Lib.hid rz2
  have HLO := Lib.hid (left_ok (q := q) hx g8 gxs)
  have HUL := Lib.hid (upLists_small (n := n) (m := q) g8)
  have HPY := Lib.hid (planned_yes A n c q xs _ (hA.alloc (.cells #[.slice A n c, .int .i64 (q : Int)] 28)) hx hp hpl)
  have HT := Lib.hid (below1 w (.cells #[.slice A n c, .int .i64 (q : Int)] 28))
  clear hp hA gxs hpl hx ri rz0 rz1 rz2
  obtain ⟨Ls, hLs⟩ : ∃ Ls, upLists n q = Ls := ⟨_, rfl⟩
  have HUPS : Hid (∀ l ∈ Ls, StepsTo l ((n : Int) - 1) l.length ∧ l.length ≤ 8) := fun l hl => by
    rw [← hLs] at hl
    have h3 := up_steps hl
    have h4 := steps_len h3.1 (by omega)
    exact ⟨h3.1, by omega⟩
  go_enter Try.func27, Try.ntmps27
  go_wp2_with fail
  refine HPY.out.mono ?_
  rintro e w1 ⟨E, cE, mb, rfl, hown, hmap, hb⟩
  have HT1 := Lib.hid (below_then HT.out hb HT.out.size)
  obtain ⟨x, hxx⟩ : ∃ x, codeOf (trues n) true = x := ⟨_, rfl⟩
  obtain ⟨M, hM⟩ : ∃ M, leftM xs n q = M := ⟨_, rfl⟩
  obtain ⟨T, hT⟩ : ∃ T, slowOf xs = T := ⟨_, rfl⟩
  rw [show partyD xs n q (codeOf (trues n) true) = leftM xs n q from rfl, hM] at hmap
  rw [hLs, hT, hM, hxx] at HLO
  rw [hLs, hT] at hown
  rw [hLs] at HUL
  rw [hxx, hLs, hT, hM]
  have HQ9 : Hid (bestOf T Ls M 0 = bestOf (slowOf xs) (upLists n q) (leftM xs n q) 0) := by show _ = _; rw [← hLs, ← hT, ← hM]
  have hbl0 := bestLegs_any T _ E cE Ls x mb M 0 (w1.alloc (.cells (routeC E Ls.length cE x mb) 78)) (hown.alloc _) HUL.out HLO.out.up zero_mem4 (hmap.alloc _) HLO.out.low HLO.out.time
  have HBL := Lib.hid hbl0
  have hbx : Whole (w1.alloc (.cells (routeC E Ls.length cE x mb) 78)) w1.heap.size 78 (routeC E Ls.length cE x mb) := Whole.fresh _ _ _
  have HT2 := Lib.hid (HT1.out.alloc HT1.out.size (.cells (routeC E Ls.length cE x mb) 78))
  clear hb hown hmap hxx hM hT hbl0
  rw [show plcC 4 0 = #[.bool false, .bool false, .bool false, .bool false, .bool false, .bool false, .bool false, .bool false, .bool false] from rfl] at HBL
  unfold routeC at hbx HT2 HBL
  unfold routeC
  obtain ⟨c0, c1, c2, c3, c4, c5, c6, c7, c8, c9, c10⟩ := cells11 hbx
  have hbl := hbx.lt
  go_wp2_with fail
  refine HBL.out.mono ?_
  rintro e w2 ⟨A1, cA, rfl, hown, hb⟩
  have HT3 := Lib.hid (below_then HT2.out hb HT2.out.size)
  have HMEM : Hid (∀ l ∈ bestOf T Ls M 0, l ∈ Ls) := fun l hl => (List.mem_filter.1 hl).1
  have hbn := best_len T Ls M 0
  have hul := HUL.out
  generalize bestOf T Ls M 0 = ls at hown HMEM hbn HQ9 ⊢
  have HO2 := Lib.hid hown
  obtain ⟨k, hk⟩ : ∃ k, ls.length = k := ⟨_, rfl⟩
  have HK := Lib.hid hk
  rw [hk] at hbn ⊢
  clear hb hbx c0 c1 c2 c3 c4 c5 c6 c7 c8 c9 c10 hbl hown hk HBL HPY
  go_wp2
  go_loopw [6, 18] (fun v i wr => ∃ (j : Nat) (D : Option Addr) (r : Nat) (acc : List RowV), j ≤ k ∧ i = .int .i64 j ∧ v = .slice D acc.length r ∧ acc.length = j ∧ rowNums acc ++ ls.drop j = ls ∧ Heads wr w2.heap.size D r acc ∧ Below w2.heap.size w2 wr) (fun _ i _ => k - (intOf i).toNat)
  case atStart => exact ⟨0, none, 0, [], Nat.zero_le _, rfl, rfl, rfl, rfl, Heads.nil _ _, Below.refl _ _⟩
  case round =>
    obtain ⟨j, D, r, acc, hj, rfl, rfl, hacl, hra, hh, hb⟩ := hrel
    have HB := Lib.hid hb
    have HH := Lib.hid hh
    have hbs : w2.heap.size ≤ wr.heap.size := hb.size
    by_cases hlt : j < k
    · have hjl : j < ls.length := by have := HK.out; omega
      have hd : decide ((j : Int) < (k : Int)) = true := by simp; omega
      obtain ⟨gs, rfl, hgl, a0, a1, a2, a3, a4, a5, a6, a7, a8⟩ := legs_row (ownsRow_below HO2.out hb) hjl
      have hst := HUPS.out _ (HMEM.out _ (List.getElem_mem hjl))
      have hdr : ls.drop j = ls[j] :: ls.drop (j + 1) := List.drop_eq_getElem_cons hjl
      rw [hdr] at hra
      obtain ⟨l, hl⟩ : ∃ l, ls[j] = l := ⟨_, rfl⟩
      rw [hl] at a0 a1 a2 a3 a4 a5 a6 a7 a8 hst hra
      obtain ⟨tl, htl⟩ : ∃ tl, T l = tl := ⟨_, rfl⟩
      rw [htl] at a8
      have hxl := hst.2
      have HST := Lib.hid hst.1
      have HRA := Lib.hid hra
      have HACL := Lib.hid hacl
      have hx1 := Whole.fresh wr 89 (legC (has l) tl)
      have hxl1 := hx1.lt
      obtain ⟨b0, b1, b2, b3, b4, b5, b6, b7⟩ : Row8 wr.heap.size (has l) (wr.alloc (.cells (legC (has l) tl) 89)) := ⟨hx1.cell 0, hx1.cell 1, hx1.cell 2, hx1.cell 3, hx1.cell 4, hx1.cell 5, hx1.cell 6, hx1.cell 7⟩
      clear hst hra hdr hh hb hacl hl htl
      unfold legC at b0 b1 b2 b3 b4 b5 b6 b7 hxl1 hx1
      go_wp2_with fail
      have hls := list_any l ((n : Int) - 1) (wr.alloc (.cells #[.bool (has l 0), .bool (has l 1), .bool (has l 2), .bool (has l 3), .bool (has l 4), .bool (has l 5), .bool (has l 6), .bool (has l 7), .int .i64 tl] 89)) HST.out (by omega)
      rw [crowd8] at hls
      unfold cells8 at hls
      refine hls.mono ?_
      clear hls
      rintro e w3 ⟨A2, q2, rfl, hown2, hb2⟩
      have hb3 : Below wr.heap.size wr w3 := below_then (below1 wr (.cells #[.bool (has l 0), .bool (has l 1), .bool (has l 2), .bool (has l 3), .bool (has l 4), .bool (has l 5), .bool (has l 6), .bool (has l 7), .int .i64 tl] 89)) hb2 (by simp)
      obtain ⟨A3, q3, hv3, hf3⟩ := Fresh.of_own hown2 (Nat.le_refl _)
      simp only [Value.slice.injEq, true_and] at hv3
      obtain ⟨rfl, rfl⟩ := hv3
      have hz3 := hb3.size
      have HF := Lib.hid (hf3.more (lo' := wr.heap.size) (hi' := w3.heap.size) (by simp) (Nat.le_refl _))
      have HB2 := Lib.hid hb3
      have HOWN := Lib.hid ((HH.out.below hb3).alloc (.cells #[.slice A2 l.length q2] 22)).1
      have HMAX := Lib.hid (show acc.length + 1 ≤ maxLen by have := HACL.out; unfold maxLen; omega)
      have HBYT := Lib.hid (show (acc.length + 1) * 24 ≤ 140737488355328 by have := HACL.out; omega)
      have HBASE := Lib.hid (show w2.heap.size ≤ (w3.alloc (.cells #[.slice A2 l.length q2] 22)).heap.size by simp; omega)
      clear hown2 hb2 hb3 hf3 a0 a1 a2 a3 a4 a5 a6 a7 a8 b0 b1 b2 b3 b4 b5 b6 b7 hgl hx1 hxl1
      go_wp2_with (at_builtin; refine wpList_append_lies _ rfl (.tmp 22) (.tmp 26) 32 rfl w2.heap.size 22 i1 (.slice none 0 0) 1 24 Try.underlying32 RI.out RZ0.out RZ1.out RZ2.out rfl (by decide) (.slice D acc.length r) acc.length (rowVals acc) rfl HOWN.out ⟨w3.heap.size, 0, none⟩ 1 1 [.slice A2 l.length q2] rfl rfl (cell_one_new _ _ _) (by simp [Value.oneCell']) (by decide) HMAX.out HBYT.out HBASE.out (w3.heap.size + 1) (by simp) ?_; intro g cap w4 hown4 hg4 hat hlt4)
      have HP2 := Lib.hid (Heads.push (r := ⟨A2, l.length, q2, l⟩) HH.out hbs HB2.out HF.out rfl (by show l.length ≤ _; omega) hown4 hg4 hat)
      have HBN := Lib.hid (((below_then HB.out HB2.out hbs).alloc (by omega) (.cells #[.slice A2 l.length q2] 22)).grown hg4 HBASE.out (fun kk hkk => (HOWN.out.lt kk hkk).1))
      clear hown4 hg4 hat hlt4
      go_roundw
      case rel => exact ⟨j + 1, some ⟨g, 0, none⟩, cap, acc ++ [⟨A2, l.length, q2, l⟩], by omega, by go_num, by simp, by simp [HACL.out], by rw [show rowNums (acc ++ [⟨A2, l.length, q2, l⟩]) = rowNums acc ++ [l] by simp [rowNums], List.append_assoc]; exact HRA.out, HP2.out, HBN.out⟩
      case measure => simp [intOf]; omega
    · obtain rfl : j = k := by omega
      have hd : decide ((j : Int) < (j : Int)) = false := by simp
      have HR : Hid (rowNums acc = ls) := by show _ = _; have h1 := hra; rw [List.drop_eq_nil_of_le (by have := HK.out; omega), List.append_nil] at h1; exact h1
      have HBF := Lib.hid (below_then HT3.out HB.out HT3.out.size)
      have hz2 := HT3.out.size
      clear hra hacl hh hb
      go_wp2
      go_ret2
      exact ⟨D, acc.length, r, acc, rfl, HR.out.trans HQ9.out, rfl, (HH.out.raise hz2).free, HBF.out⟩

theorem implBestF_any (A : Option Addr) (n c : Nat) (xs : List Int) (s : Int) (w : World) (hA : Holds w A (nums xs)) (hx : xs.length = n) (hn : n ≤ 9223372036854775807) :
    Calls Try.prog 27 #[.agg #[.slice A n c, .int .i64 s]] w (BackPost (firstTr xs s) (leastOk xs s) w) := by
  have hA1 := hA.alloc (.cells #[.slice A n c, .int .i64 s] 28)
  cases hp : isParty xs s
  · have h0 := (leastOk_none hp).1
    rw [firstTr_no h0, h0]
    exact implBestF_zero A n c xs s w (planned_none A n c xs s _ hA1 hx hn hp)
  · obtain ⟨q, rfl⟩ : ∃ q : Nat, s = (q : Int) := ⟨s.toNat, by simp only [isParty, Bool.and_eq_true, within_iff] at hp; omega⟩
    have hok := leastOk_at hp
    rw [hx] at hok
    cases hpl : planOk xs n q
    · rw [hpl] at hok
      rw [firstTr_no hok, hok]
      exact implBestF_zero A n c xs (q : Int) w (planned_no A n c q xs _ hA1 hx hp hpl)
    · rw [hpl] at hok
      rw [firstTr_yes hx hok, hok]
      exact implBestF_yes A n c q xs w hA hx hp hpl
end Go.Proofs.Ytlpeimlbpiofkaa

namespace Go.Proofs.Ytlpeimlbpiofkaa
open Go.RowKit

/-- What stands between two rounds. -/
structure LoSt (L : List (List Int)) (C : List Int → Int) (n e : Nat) (done : List Bool) (o : List Int) : Prop where
  hd : done.length = 2 ^ (n + 1)
  ho : o.length = 2 ^ (n + 1)
  seek : Seek (LegW L C n) (stateS n e) (settledS n done o) (waitsS n done o)
theorem lo_start {L : List (List Int)} {C : List Int → Int} {n e : Nat} (he : e < 2 ^ (n + 1)) : LoSt L C n e (List.replicate (2 ^ (n + 1)) false) ((List.replicate (2 ^ (n + 1)) (-1)).set e 0) := by
  refine ⟨by simp, by simp, ?_⟩
  have h1 : settledS n (List.replicate (2 ^ (n + 1)) false) ((List.replicate (2 ^ (n + 1)) (-1)).set e 0) = fun _ => none := by
    funext a
    unfold settledS
    rw [if_neg]
    rintro ⟨-, h⟩
    rw [List.getD_eq_getElem?_getD, List.getElem?_replicate] at h
    split at h <;> cases h
  have h2 : waitsS n (List.replicate (2 ^ (n + 1)) false) ((List.replicate (2 ^ (n + 1)) (-1)).set e 0) = fun x => if x = stateS n e then some 0 else none := by
    funext a
    by_cases ha : a.1.length = n
    · by_cases hq : a = stateS n e
      · subst hq
        rw [if_pos rfl]
        refine waits_iff.2 ⟨ha, ?_, Int.le_refl _, ?_⟩
        · rw [List.getD_eq_getElem?_getD, List.getElem?_replicate]; split <;> rfl
        · rw [numS_state he, List.getD_eq_getElem?_getD, List.getElem?_set_self (by simpa using he)]; rfl
      · rw [if_neg hq]
        unfold waitsS
        rw [if_neg]
        rintro ⟨-, -, h⟩
        have hne : e ≠ numS a := fun h => hq (by rw [h, stateS_num ha])
        rw [List.getD_eq_getElem?_getD, List.getElem?_set_ne hne, List.getElem?_replicate] at h
        split at h <;> simp at h
    · have hq : a ≠ stateS n e := fun h => ha (by rw [h]; exact stateS_len n e)
      rw [if_neg hq]
      unfold waitsS
      rw [if_neg (fun h => ha h.1)]
  rw [h1, h2]
  exact seek_start _ _
theorem lo_round {L : List (List Int)} {C : List Int → Int} {n e p : Nat} {done : List Bool} {o : List Int} (hC : ∀ l ∈ L, 1 ≤ C l) (h : LoSt L C n e done o) (hp : pickTo done o (2 ^ (n + 1)) = p) : LoSt L C n e (done.set p true) (relax (o.getD p (-1)) (legsW L C (stateS n p)) o) ∧ done.getD p false = false ∧ p < 2 ^ (n + 1) ∧ 0 ≤ o.getD p (-1) := by
  rcases pick_is done o (2 ^ (n + 1)) with ⟨h1, -⟩ | ⟨p', h1, h2, h3, h4, h5⟩
  · omega
  · obtain rfl : p' = p := by omega
    refine ⟨⟨by rw [List.length_set]; exact h.hd, by rw [relax_len]; exact h.ho, ?_⟩, h3, h1, h4⟩
    exact seek_round (fun x t y he => legW_time hC he) h.seek (round_ofW hC h.hd h.ho h1 h3 h4 (fun j hj hd h0 => h5 j hj hd h0) h.seek)
theorem lo_end {L : List (List Int)} {C : List Int → Int} {n e : Nat} {done : List Bool} {o : List Int} (h : LoSt L C n e done o) (hp : pickTo done o (2 ^ (n + 1)) < 0) : Least (LegW L C n) (stateS n e) (settledS n done o) ∧ ∀ i, i < 2 ^ (n + 1) → done.getD i false = false → o.getD i (-1) < 0 := by
  rcases pick_is done o (2 ^ (n + 1)) with ⟨-, h2⟩ | ⟨p', h1, h2, -⟩
  · refine ⟨seek_end h.seek fun x => ?_, h2⟩
    unfold waitsS
    rw [if_neg]
    rintro ⟨h3, h4, h5⟩
    have := h2 _ (numS_lt h3) h4
    omega
  · omega
theorem count_setW : ∀ (d : List Bool) (i : Nat), i < d.length → d.getD i false = false → (d.set i true).count true = d.count true + 1
  | [], i, h, _ => by simp at h
  | b :: d, 0, _, h => by
    obtain rfl : b = false := by simpa using h
    simp
  | b :: d, i + 1, h, h2 => by
    have ih := count_setW d i (by simpa using h) (by simpa using h2)
    rw [List.set_cons_succ, List.count_cons, List.count_cons, ih]
    omega
end Go.Proofs.Ytlpeimlbpiofkaa

namespace Go.Proofs.Ytlpeimlbpiofkaa
open Go.RowKit Go.Maps Go.WideShapes

theorem plc_first {k : Nat} (hk : k ≤ 4) : plc k 0 = .agg #[.bool false, .bool false, .bool false, .bool false, .bool false, .bool false, .bool false, .bool false, .bool false] := by
  have h : k = 0 ∨ k = 1 ∨ k = 2 ∨ k = 3 ∨ k = 4 := by omega
  rcases h with rfl | rfl | rfl | rfl | rfl <;> rfl
theorem plc_last {k : Nat} (h1 : 1 ≤ k) (hk : k ≤ 4) : plcC k (2 * 2 ^ (2 * k) - 1) = place9 (firstN (2 * k)) true := by
  have h : k = 1 ∨ k = 2 ∨ k = 3 ∨ k = 4 := by omega
  rcases h with rfl | rfl | rfl | rfl <;> rfl
theorem first_mem (k : Nat) : 0 ∈ sts k := sts_mem.2 (by have := Nat.two_pow_pos (2 * k); omega)
noncomputable def fewN (k q : Nat) : Int := (lk (finP k q (2 * 2 ^ (2 * k) - 1)).1 0).getD 0
noncomputable def fewB (k q : Nat) : Bool := (lk (finP k q (2 * 2 ^ (2 * k) - 1)).1 0).isSome
noncomputable def fewI (a b : Int) : Int := if isCo a b then fewN a.toNat b.toNat else 0
noncomputable def fewO (a b : Int) : Bool := isCo a b && fewB a.toNat b.toNat
/-- How many states are reached. -/
noncomputable def reachN (k q : Nat) : Nat := ((sts k).filter fun x => (lk (finP k q 0).1 x).isSome).length
noncomputable def reachI (a b : Int) : Int := if isCo a b then (reachN a.toNat b.toNat : Nat) else 0

end Go.Proofs.Ytlpeimlbpiofkaa

namespace Go.Proofs.Ytlpeimlbpiofkaa
open Go.RowKit Go.Maps Go.WideShapes

theorem crew_up8 {xs : List Int} {bs : List Bool} {s : Int} (h7 : xs.length ≤ 7) : ∀ l ∈ crewLists xs bs s, l ∈ upLists (2 * 4) (2 * 4) := fun _ hl => up_wide (crew_up hl) (by omega)
theorem w9f_of {w : World} {g p gL : Nat} {t : TypeId} (h : Whole w g t (crewCells p gL)) : w.cell? ⟨g, 0, none⟩ = some (.bool false) ∧ w.cell? ⟨g, 1, none⟩ = some (.bool false) ∧ w.cell? ⟨g, 2, none⟩ = some (.bool false) ∧ w.cell? ⟨g, 3, none⟩ = some (.bool false) ∧ w.cell? ⟨g, 4, none⟩ = some (.bool false) ∧ w.cell? ⟨g, 5, none⟩ = some (.bool false) ∧ w.cell? ⟨g, 6, none⟩ = some (.bool false) ∧ w.cell? ⟨g, 7, none⟩ = some (.bool false) ∧ w.cell? ⟨g, 8, none⟩ = some (.bool false) := ⟨h.cell 0, h.cell 1, h.cell 2, h.cell 3, h.cell 4, h.cell 5, h.cell 6, h.cell 7, h.cell 8⟩
/-- How many states a crew reaches. -/
noncomputable def reachL (xs : List Int) (bs : List Bool) (s : Int) : Nat := countIs (sts 4) (lk (finW 4 (crewLists xs bs s) 0).1)
noncomputable def reachW (xs : List Int) (bs : List Bool) (m : Nat) (s : Int) : Int := if isCrew xs m s then (reachL xs bs s : Int) else 0

end Go.Proofs.Ytlpeimlbpiofkaa

namespace Go.Proofs.Ytlpeimlbpiofkaa
open Go.RowKit Go.Maps

/-- The states that are told, in order. -/
def qOf (m : List (Nat × Int)) : List Nat := (m.map Prod.fst).reverse
theorem qOf_new (m : List (Nat × Int)) (y : Nat) (v : Int) : qOf ((y, v) :: m) = qOf m ++ [y] := by simp [qOf]
theorem lk_known : ∀ {m : List (Nat × Int)} {y : Nat} {v : Int}, lk m y = some v → y ∈ m.map Prod.fst
  | [], y, v, h => by cases h
  | (a, b) :: m, y, v, h => by
    rw [lk_cons] at h
    by_cases hq : y = a
    · subst hq; exact List.mem_cons_self ..
    · have h' : lk m y = some v := by simpa [put, hq] using h
      exact List.mem_cons_of_mem _ (lk_known h')
/-- The model's queue. -/
def qN (p : Nat) (m : List (Nat × Int)) : List Int := (qOf m).map fun z => ((phi p z : Nat) : Int)
theorem qN_new (p : Nat) (m : List (Nat × Int)) (y : Nat) (v : Int) : qN p ((y, v) :: m) = qN p m ++ [((phi p y : Nat) : Int)] := by simp [qN, qOf_new]
theorem qN_len (p : Nat) (m : List (Nat × Int)) : (qN p m).length = m.length := by simp [qN, qOf]
theorem has_known {p y : Nat} {m : List (Nat × Int)} {v : Int} (h : lk m y = some v) : hasK (qN p m) ((phi p y : Nat) : Int) = true := by
  unfold hasK
  rw [List.contains_iff_mem]
  exact List.mem_map.2 ⟨y, by simpa [qOf] using lk_known h, rfl⟩
theorem has_fresh {p y : Nat} {m : List (Nat × Int)} (hs : ∀ z ∈ qOf m, z / 2 < 2 ^ p) (hy : y / 2 < 2 ^ p) (h : lk m y = none) : hasK (qN p m) ((phi p y : Nat) : Int) = false := by
  rw [Bool.eq_false_iff]
  intro hc
  unfold hasK at hc
  rw [List.contains_iff_mem] at hc
  obtain ⟨z, hz, he⟩ := List.mem_map.1 hc
  have he' : phi p z = phi p y := by exact_mod_cast he
  obtain rfl := phi_inj (hs z hz) hy he'
  exact lk_none h (by simpa [qOf] using hz)
/-- The model's queue beside the program's search. -/
structure QIs (p n : Nat) (st : SeaSt) : Prop where
  small : ∀ z ∈ qOf st.1, z / 2 < 2 ^ p
  drop : st.2 = (qOf st.1).drop n
theorem QIs.step {p n x : Nat} {st : SeaSt} {l : List Int} (h : QIs p n st) (hn : n ≤ (qOf st.1).length) (hy : stepC x l / 2 < 2 ^ p) : QIs p n (stepP x st l) ∧ n ≤ (qOf (stepP x st l).1).length := by
  cases hs : lk st.1 (stepC x l) with
  | some v => rw [stepP_some hs]; exact ⟨h, hn⟩
  | none =>
    rw [stepP_none hs]
    refine ⟨⟨fun z hz => ?_, ?_⟩, ?_⟩
    · rw [qOf_new] at hz
      rcases List.mem_append.1 hz with hz | hz
      · exact h.small z hz
      · obtain rfl : z = stepC x l := by simpa using hz
        exact hy
    · rw [qOf_new, List.drop_append_of_le_length hn, ← h.drop]
    · rw [qOf_new, List.length_append]; omega
theorem QIs.exp {p n x : Nat} : ∀ (ls : List (List Int)) {st : SeaSt}, QIs p n st → n ≤ (qOf st.1).length → (∀ l ∈ ls, stepC x l / 2 < 2 ^ p) → QIs p n (ls.foldl (stepP x) st) ∧ n ≤ (qOf (ls.foldl (stepP x) st).1).length
  | [], _, h, hn, _ => ⟨h, hn⟩
  | l :: ls, st, h, hn, hl => by
    obtain ⟨h1, h2⟩ := h.step hn (hl l (List.mem_cons_self ..))
    exact QIs.exp ls h1 h2 fun m hm => hl m (List.mem_cons_of_mem _ hm)
theorem QIs.run {p : Nat} {L : List (List Int)} (hup : ∀ l ∈ L, l ∈ upLists p p) : ∀ n, QIs p n (runW 4 L 0 n)
  | 0 => ⟨fun z hz => by obtain rfl : z = 0 := by simpa [runW, qOf] using hz
                         simpa using Nat.two_pow_pos p, by simp [runW, qOf]⟩
  | n + 1 => by
    have h := QIs.run hup n
    rw [runW_next]
    cases hq : (runW 4 L 0 n).2 with
    | nil =>
      rw [nextW_nil hq]
      refine ⟨h.small, ?_⟩
      have h2 := h.drop
      rw [hq] at h2
      have h3 : (qOf (runW 4 L 0 n).1).length ≤ n := List.drop_eq_nil_iff.1 h2.symm
      rw [hq, List.drop_eq_nil_of_le (by omega)]
    | cons x r =>
      rw [nextW_at hq]
      have h2 := h.drop
      rw [hq] at h2
      have hn : n < (qOf (runW 4 L 0 n).1).length := by
        rcases Nat.lt_or_ge n (qOf (runW 4 L 0 n).1).length with h3 | h3
        · exact h3
        · rw [List.drop_eq_nil_of_le h3] at h2; cases h2
      have hx : x / 2 < 2 ^ p := h.small x (List.mem_of_mem_drop (by rw [← h2]; exact List.mem_cons_self ..))
      obtain ⟨h4, h5⟩ := QIs.exp (x := x) (mvsW 4 L x) h (by omega) (fun l hl => (phi_step hx (mvsW_up hup hl)).2)
      refine ⟨h4.small, ?_⟩
      show (expW 4 L x (runW 4 L 0 n)).2.tail = _
      have h6 : (expW 4 L x (runW 4 L 0 n)).2 = (qOf (expW 4 L x (runW 4 L 0 n)).1).drop n := h4.drop
      rw [h6, List.tail_drop]
theorem count_len {dom : List Nat} {m : List (Nat × Int)} (hd : dom.Nodup) (h1 : (m.map Prod.fst).Nodup) (h2 : ∀ q ∈ m, q.1 ∈ dom) : countIs dom (lk m) = m.length := by
  have ha : (dom.filter fun a => (lk m a).isSome).length ≤ (m.map Prod.fst).length := sub_len (hd.filter _) fun y hy => by
    obtain ⟨-, h⟩ := List.mem_filter.1 hy
    obtain ⟨v, hv⟩ := Option.isSome_iff_exists.1 h
    exact lk_known hv
  have hb : (m.map Prod.fst).length ≤ (dom.filter fun a => (lk m a).isSome).length := sub_len h1 fun y hy => by
    obtain ⟨q, hq, rfl⟩ := List.mem_map.1 hy
    refine List.mem_filter.2 ⟨h2 q hq, ?_⟩
    cases hn : lk m q.1 with
    | some v => rfl
    | none => exact absurd hy (lk_none hn)
  rw [List.length_map] at ha hb
  unfold countIs
  omega
/-- What the model counts is what the program counts. -/
theorem reach_len {xs : List Int} {bs : List Bool} {s : Int} (h7 : xs.length ≤ 7) {n : Nat} (hn : n ≤ turns 4) (hq : (runW 4 (crewLists xs bs s) 0 n).2 = []) : reachL xs bs s = (runW 4 (crewLists xs bs s) 0 n).1.length := by
  have hst := runW_stay hq (turns 4 - n)
  rw [show n + (turns 4 - n) = turns 4 by omega] at hst
  have hL := crew_small (xs := xs) bs s h7
  have hup := crew_up8 (xs := xs) (bs := bs) (s := s) h7
  have hc := count_run hup (first_mem 4) (fun n y hy => (mild_runW hL hup (first_mem 4) n).dom y hy) n
  rw [reachL, finW, hst]
  exact count_len (sts_nodup 4) hc.nodup hc.dom
end Go.Proofs.Ytlpeimlbpiofkaa

namespace Go.Proofs.Ytlpeimlbpiofkaa
open Go.RowKit

theorem num_zero (n : Nat) : num (bitsOf 0 n) 0 = 0 := by
  have h : bitsOf 0 n = List.replicate n false := by
    refine List.ext_getElem (by simp [bitsOf]) fun i h1 h2 => ?_
    simp [bitsOf, bitAt]
  rw [h]
  clear h
  induction n with
  | zero => rfl
  | succ n ih => rw [List.replicate_succ, num_cons]; exact ih
theorem num_falses (n : Nat) : num (falses n) 0 = 0 := by
  induction n with
  | zero => rfl
  | succ n ih =>
    have h : falses (n + 1) = falses n ++ [false] := by simp [falses, List.replicate_succ']
    rw [h, num_snoc, ih]; rfl

set_option maxHeartbeats 1600000 in
set_option linter.unusedSimpArgs false in
theorem loStart_any (A : Option Addr) (n c : Nat) (B : Option Addr) (m d : Nat) (s : Int) (w : World) (hn : n ≤ 8) :
    Calls Try.prog 128 #[.agg #[.slice A n c, .slice B m d, .int .i64 s]] w fun e w' => e = .returned (.int .i64 0) ∧ Below w.heap.size w w' := by
  have hc := Whole.fresh w 57 #[.slice A n c, .slice B m d, .int .i64 s]
  have ht := below1 w (.cells #[.slice A n c, .slice B m d, .int .i64 s] 57)
  obtain ⟨c0, c1, c2⟩ := hc.cells3
  go_enter Try.func128, Try.ntmps128
  go_wp2_with fail
  refine (loParty_any A n c B m d s _).mono ?_
  rintro e w1 ⟨rfl, hb⟩
  replace ht := below_then ht hb (by simp)
  clear hb c0 c1 c2 hc
  go_wp2_with fail
  refine (paFirst_any A n c 0 _ (by omega)).mono ?_
  rintro e w2 ⟨rfl, hW, hb⟩
  replace ht := below_then ht hb ht.size
  clear hb
  go_wp2_with fail
  have hsi := seIndex_any (some ⟨w1.heap.size + 1 + 1, 0, none⟩) n n (falses n) false w2 (by have h := hW.holds; simpa using h) (by simp [falses]) hn
  rw [show Bool.toNat false = 0 from rfl, num_falses] at hsi
  refine hsi.mono ?_
  clear hsi
  rintro e w3 ⟨rfl, hb⟩
  replace ht := below_then ht hb ht.size
  go_wp2
  go_ret
  exact ⟨ret_of rfl, ht⟩
end Go.Proofs.Ytlpeimlbpiofkaa

namespace Go.Proofs.Ytlpeimlbpiofkaa
open Go.RowKit

theorem make_intsW {z : Nat} (hz : z ≤ 256) (W : World) : (Instr.makeSlice 22 (.int .i64 (z : Int)) (.int .i64 (z : Int))).run Try.prog W = .ok (.slice (some ⟨W.heap.size, 0, none⟩) z z) (W.alloc (.cells (nums (List.replicate z 0)).toArray 3)) := by
  obtain ⟨i0, hi, hz0, hz1, hz2⟩ := info_parts info_int
  have h := run_make (P := Try.prog) W 22 3 i0 _ Try.underlying22 hi hz0 .i64 .i64 ((z : Nat) : Int) ((z : Nat) : Int) (by omega) (by omega) (by rw [hz2]; omega) (by omega)
  simp only [Int.toNat_natCast, hz1, made_zeros] at h
  rw [h]
theorem make_boolsW {z : Nat} (hz : z ≤ 256) (W : World) : (Instr.makeSlice 38 (.int .i64 (z : Int)) (.int .i64 (z : Int))).run Try.prog W = .ok (.slice (some ⟨W.heap.size, 0, none⟩) z z) (W.alloc (.cells (bits (falses z)).toArray 4)) := by
  obtain ⟨i0, hi, hz0, hz1, hz2⟩ := info_parts info_bool
  have h := run_make (P := Try.prog) W 38 4 i0 _ Try.underlying38 hi hz0 .i64 .i64 ((z : Nat) : Int) ((z : Nat) : Int) (by omega) (by omega) (by rw [hz2]; omega) (by omega)
  simp only [Int.toNat_natCast, hz1, made_falses] at h
  rw [h]
  rfl
/-- Behind the making of the two lists of numbers. -/
def LoCut (w : World) (z : Nat) (cs : Array Value) (s7 s8 : Value) (wx : World) : Prop :=
  ∃ gF gW : Nat, s7 = .slice (some ⟨gF, 0, none⟩) z z ∧ s8 = .slice (some ⟨gW, 0, none⟩) z z ∧ Whole wx gF 3 (nums (List.replicate z 0)).toArray ∧ Whole wx gW 3 (nums (List.replicate z 0)).toArray ∧ Whole wx w.heap.size 57 cs ∧ gF ≠ gW ∧ w.heap.size < gF ∧ w.heap.size < gW ∧ gF < w.heap.size + 3 ∧ gW < w.heap.size + 3 ∧ Below w.heap.size w wx
theorem lo_cut (w : World) (z : Nat) (cs : Array Value) {w0 : World} (h0 : w0 = (w.alloc (.cells cs 57)).drew) : LoCut w z cs (.slice (some ⟨w.heap.size + 1, 0, none⟩) z z) (.slice (some ⟨w.heap.size + 1 + 1, 0, none⟩) z z) ((w0.alloc (.cells (nums (List.replicate z 0)).toArray 3)).alloc (.cells (nums (List.replicate z 0)).toArray 3)) ∧
    LoCut w z cs (.slice (some ⟨w.heap.size + 1 + 1, 0, none⟩) z z) (.slice (some ⟨w.heap.size + 1, 0, none⟩) z z) ((w0.alloc (.cells (nums (List.replicate z 0)).toArray 3)).alloc (.cells (nums (List.replicate z 0)).toArray 3)) := by
  subst h0
  have hs : (w.alloc (.cells cs 57)).drew.heap.size = w.heap.size + 1 := by simp [World.drew]
  have h1 := (Whole.fresh (w.alloc (.cells cs 57)).drew 3 (nums (List.replicate z 0)).toArray).alloc (.cells (nums (List.replicate z 0)).toArray 3)
  have h2 := Whole.fresh ((w.alloc (.cells cs 57)).drew.alloc (.cells (nums (List.replicate z 0)).toArray 3)) 3 (nums (List.replicate z 0)).toArray
  have h3 := (((Whole.fresh w 57 cs).drew).alloc (.cells (nums (List.replicate z 0)).toArray 3)).alloc (.cells (nums (List.replicate z 0)).toArray 3)
  have hb := (((below1 w (.cells cs 57)).drew).alloc (by rw [hs]; omega) (.cells (nums (List.replicate z 0)).toArray 3)).alloc (by rw [World.size_alloc, hs]; omega) (.cells (nums (List.replicate z 0)).toArray 3)
  rw [World.size_alloc, hs] at h2
  rw [hs] at h1
  exact ⟨⟨_, _, rfl, rfl, h1, h2, h3, by omega, by omega, by omega, by omega, by omega, hb⟩, ⟨_, _, rfl, rfl, h2, h1, h3, by omega, by omega, by omega, by omega, by omega, hb⟩⟩

theorem num_cellW {w : World} {g i : Nat} {t : TypeId} {F : List Int} {v : Int} (h : Whole w g t (nums F).toArray) (hi : i < F.length) (hv : F.getD i 0 = v) : w.cell? ⟨g, i, none⟩ = some (.int .i64 v) := by rw [h.cell, nums_at hi, hv]
theorem getD_m1W {o : List Int} {i : Nat} (h : i < o.length) : o.getD i 0 = o.getD i (-1) := by rw [List.getD_eq_getElem?_getD, List.getD_eq_getElem?_getD, List.getElem?_eq_getElem h]; rfl
theorem cost_one {xs : List Int} {n : Nat} {b : Bool} {l : List Int} (hx : xs.length = n) (hn : n ≤ 7) (hw : ∀ y ∈ xs, 1 ≤ y ∧ y ≤ 500) (hl : l ∈ upLists n n) : 1 ≤ costOf xs b l ∧ costOf xs b l ≤ 4000 := by
  obtain ⟨h1, h2, h3⟩ := mem_up.1 hl
  cases b
  · simp [costOf]
  · have h4 := loadOf_bound hw l
    have h5 := steps_len h1 (by omega)
    refine ⟨?_, by show loadOf xs l ≤ 4000; omega⟩
    obtain ⟨k, r, rfl⟩ := List.exists_cons_of_ne_nil (show l ≠ [] by rintro rfl; simp at h2)
    have hk := mem_steps h1 (show k ∈ k :: r from List.mem_cons_self ..)
    have hkx : k.toNat < xs.length := by omega
    have h6 := hw _ (List.getElem_mem hkx)
    have h7 := loadOf_bound hw r
    have h8 : loadOf xs (k :: r) = xs.getD k.toNat 0 + loadOf xs r := by simp [loadOf]
    show 1 ≤ loadOf xs (k :: r)
    rw [h8, getD_at xs hkx]
    omega
theorem below_spanW {lo hi : Nat} {a w w' : World} (h : Below a.heap.size a w) (hs : Span lo hi w w') (hl : a.heap.size ≤ lo) : Below a.heap.size a w' := hs.below h hl h.size
theorem span_setW (w : World) (lo hi b o : Nat) (u : Value) (h1 : lo ≤ b) (h2 : b < hi) : Span lo hi w (w.setCell ⟨b, o, none⟩ u) := by
  have h := below_set (Below.refl b w) (b := b) (o := o) (u := u) (Nat.le_refl _)
  refine ⟨h.os, h.tape, h.output, h.size, fun k hk hd => ?_⟩
  rcases hd with hd | hd
  · exact h.block k (by omega)
  · exact Below.heap_setCell _ _ _ _ (by show k ≠ b; omega)
theorem set_numW {w : World} {g : Nat} {t : TypeId} {F : List Int} (h : Whole w g t (nums F).toArray) (i : Nat) (x : Int) : Whole (w.setCell ⟨g, i, none⟩ (.int .i64 x)) g t (nums (F.set i x)).toArray := by
  have h2 := h.set_ i (.int .i64 x)
  rw [nums_set] at h2
  exact h2
theorem bits_setW (d : List Bool) (i : Nat) (v : Bool) : (bits d).toArray.setIfInBounds i (.bool v) = (bits (d.set i v)).toArray := by
  rw [List.setIfInBounds_toArray]
  congr 1
  simp [bits, List.map_set]
theorem own_partsW {w : World} {lo size c n : Nat} {e : TypeId} {A : Option Addr} {xs : List Value} (h : w.ownsRow lo e size (.slice A n c) n xs) : n ≤ 9223372036854775807 := by
  obtain ⟨-, ⟨hv, h0⟩ | ⟨g, cap, cur, hv, hlo, hh, hnc, hcm, -⟩⟩ := h
  · omega
  · unfold maxLen at hcm
    omega
/-- What stands between two rounds: the three lists, the crew. -/
structure LoO (w wr : World) (cs : Array Value) (gF gW gD : Nat) (done : List Bool) (o W : List Int) : Prop where
  far : Whole wr gF 3 (nums o).toArray
  ways : Whole wr gW 3 (nums W).toArray
  len : W.length = o.length
  don : Whole wr gD 4 (bits done).toArray
  cur : Whole wr w.heap.size 57 cs
  bel : Below w.heap.size w wr

/-- What loFar hands back. -/
def LoPost (xs : List Int) (bs : List Bool) (s : Int) (b : Bool) (n : Nat) (w : World) (e' : Ending) (w' : World) : Prop :=
  ∃ (gF gW : Nat) (done : List Bool) (o W : List Int), e' = .returned (.tuple #[.slice (some ⟨gF, 0, none⟩) o.length o.length, .slice (some ⟨gW, 0, none⟩) o.length o.length]) ∧ o.length = 2 ^ (n + 1) ∧ Whole w' gF 3 (nums o).toArray ∧ Whole w' gW 3 (nums W).toArray ∧ W.length = o.length ∧ Least (LegW (crewLists xs bs s) (costOf xs b) n) (trues n, true) (settledS n done o) ∧ (∀ i, i < 2 ^ (n + 1) → done.getD i false = false → o.getD i (-1) < 0) ∧ (∀ i, -1 ≤ o.getD i (-1) ∧ o.getD i (-1) ≤ 2048000) ∧ w.heap.size ≤ gF ∧ Below w.heap.size w w'

set_option maxHeartbeats 12800000 in
set_option maxRecDepth 100000 in
set_option linter.unusedVariables false in
set_option linter.unusedSimpArgs false in
theorem loFar_any (A : Option Addr) (n c : Nat) (B : Option Addr) (m d : Nat) (xs : List Int) (bs : List Bool) (s : Int) (b : Bool) (w : World) (hA : Holds w A (nums xs)) (hB : Holds w B (bits bs)) (hx : xs.length = n) (hy : bs.length = m) (hok : CrewOk xs m s) :
    Calls Try.prog 127 #[.agg #[.slice A n c, .slice B m d, .int .i64 s], .bool b] w (LoPost xs bs s b n w) := by
  have HX := Lib.hid hx
  have HY := Lib.hid hy
  have hc := Whole.fresh w 57 #[.slice A n c, .slice B m d, .int .i64 s]
  have ht := below1 w (.cells #[.slice A n c, .slice B m d, .int .i64 s] 57)
  obtain ⟨c0, c1, c2⟩ := hc.cells3
  have hn7 : n ≤ 7 := by have := hok.seven; omega
  have HOK := Lib.hid hok
  have HUPL : Hid (∀ l ∈ crewLists xs bs s, l ∈ upLists n n) := fun l hl => by have h := crew_up hl; rw [hx] at h; exact h
  have HCO : Hid (∀ l ∈ crewLists xs bs s, 1 ≤ costOf xs b l ∧ costOf xs b l ≤ 4000) := fun l hl => cost_one hx hn7 hok.weights (HUPL.out l hl)
  have HCO1 : Hid (∀ l ∈ crewLists xs bs s, 1 ≤ costOf xs b l) := fun l hl => (HCO.out l hl).1
  have HA := Lib.hid hA
  have HB := Lib.hid hB
  have HSN : Hid (stateS n (num (trues n) (Bool.toNat true)) = (trues n, true)) := stateS_num (a := (trues n, true)) (by simp [trues])
  clear hx hy hok hA hB
  go_enter Try.func127, Try.ntmps127
  go_upto_region 2 with fail
  obtain ⟨z, hz⟩ : ∃ z, z = 2 ^ (n + 1) := ⟨_, rfl⟩
  have hz256 : z ≤ 256 := by rw [hz]; exact Nat.le_trans (Nat.pow_le_pow_right (by omega) (show n + 1 ≤ 8 by omega)) (by decide)
  have hzi : (2 * 2 ^ n : Int) = ((z : Nat) : Int) := by rw [hz, Nat.pow_succ]; push_cast; omega
  have hwr : IntKind.i64.wrap (2 * 2 ^ n) = ((z : Nat) : Int) := by rw [hzi]; exact IntWalk.i64_in _ (by omega)
  have hwr2 : IntKind.i64.wrap (2 ^ (n + 1)) = ((z : Nat) : Int) := by rw [← hwr, Int.pow_succ, Int.mul_comm]
  have HZ := Lib.hid hz
  clear hz hzi
  have hmk := fun W : World => make_intsW (z := z) hz256 W
  go_cut [7, 8] (fun s7 s8 wx => LoCut w z #[.slice A n c, .slice B m d, .int .i64 s] s7 s8 wx)
  case first =>
    go_region_held3 (fun w' => True) (go_keep) (fail)
    all_goals (go_wp2_with fail; go_meet)
    all_goals first | exact (lo_cut w z _ rfl).1 | exact (lo_cut w z _ rfl).2
  case rest =>
    obtain ⟨gF, gW, rfl, rfl, hf, hw, hcw, hne, hgf, hgw, hgf3, hgw3, ht1⟩ := hcut
    have hlF := hf.lt
    have hlW := hw.lt
    have hmkb := make_boolsW (z := z) hz256 wc
    have hd := Whole.fresh wc 4 (bits (falses z)).toArray
    have H1 := Lib.hid (hf.alloc (.cells (bits (falses z)).toArray 4))
    have H2 := Lib.hid (hw.alloc (.cells (bits (falses z)).toArray 4))
    have H3 := Lib.hid (hcw.alloc (.cells (bits (falses z)).toArray 4))
    have H4 := Lib.hid (ht1.alloc ht1.size (.cells (bits (falses z)).toArray 4))
    have H5 := Lib.hid hd
    have hnd1 : gF ≠ wc.heap.size := by omega
    have hnd2 : gW ≠ wc.heap.size := by omega
    have hgd : w.heap.size + 3 ≤ wc.heap.size := by have := hcw.lt; have := hlF; have := hlW; omega
    clear hf hw hcw ht1 hd ht hc c0 c1 c2 hmk hlF hlW
    go_wp2
    go_loopw [34] (fun i wr => ∃ j : Nat, j ≤ z ∧ i = .int .i64 j ∧ Whole wr gF 3 (nums (negs z j)).toArray ∧ Whole wr gW 3 (nums (List.replicate z 0)).toArray ∧ Whole wr w.heap.size 57 #[.slice A n c, .slice B m d, .int .i64 s] ∧ Whole wr wc.heap.size 4 (bits (falses z)).toArray ∧ Below w.heap.size w wr) (fun i _ => z - (intOf i).toNat)
    case atStart => exact ⟨0, Nat.zero_le _, rfl, by rw [negs_zero]; exact H1.out, H2.out, H3.out, H5.out, H4.out⟩
    case round =>
      clear H1 H2 H3 H4 H5 hmkb
      obtain ⟨j, hj, rfl, hf, hw, hcw, hd, ht⟩ := hrel
      obtain ⟨wo, rfl⟩ : ∃ W : World, W = wr := ⟨_, rfl⟩
      have hlF := hf.lt
      by_cases hlt : j < z
      · have hd1 : decide ((j : Int) < (z : Int)) = true := by simp; omega
        have hcell := (hf.cell j).trans (nums_at (by rw [negs_len]; exact hlt))
        have hfr := hf.open_ j
        have G1 := Lib.hid (show Whole (wo.setCell ⟨gF, j, none⟩ (.int .i64 (-1))) gF 3 (nums (negs z (j + 1))).toArray by have h := hf.set_ j (.int .i64 (-1)); rw [nums_set, negs_next] at h; exact h)
        have G2 := Lib.hid (hw.off (b := gF) (o := j) (u := .int .i64 (-1)) (fun e => hne e.symm))
        have G3 := Lib.hid (hcw.off (b := gF) (o := j) (u := .int .i64 (-1)) (by omega))
        have G5 := Lib.hid (hd.off (b := gF) (o := j) (u := .int .i64 (-1)) (fun e => hnd1 e.symm))
        have G4 := Lib.hid (below_set (b := gF) (o := j) (u := .int .i64 (-1)) ht (by omega))
        clear hf hw hcw hd ht
        go_wp2
        go_roundw
        case rel => exact ⟨j + 1, by omega, by go_num, G1.out, G2.out, G3.out, G5.out, G4.out⟩
        case measure => simp [intOf]; omega
      · obtain rfl : j = z := by omega
        have hd1 : decide ((j : Int) < (j : Int)) = false := by simp
        rw [negs_all] at hf
        obtain ⟨c0, c1, c2⟩ := hcw.cells3
        have hlc := hcw.lt
        go_wp2_with fail
        refine (loParty_any A n c B m d s _).mono ?_
        rintro e w1 ⟨rfl, hb1⟩
        go_wp2_with fail
        refine (paLast_any A n c 0 _ (by omega)).mono ?_
        rintro e w2 ⟨A2, c2', rfl, hf2, hb2⟩
        have hlen2 : (trues n).length = n := by simp [trues]
        rw [hlen2]
        go_wp2_with fail
        refine (seIndex_any A2 n c2' (trues n) true _ hf2.holds hlen2 (by omega)).mono ?_
        rintro e w3 ⟨rfl, hb3⟩
        have hbb := below_then (below_then hb1 hb2 hb1.size) hb3 (Nat.le_trans hb1.size hb2.size)
        obtain ⟨en, hen⟩ : ∃ en, en = num (trues n) (Bool.toNat true) := ⟨_, rfl⟩
        have hel : en < j := by
          have h := num_lt (trues n) true
          rw [hlen2] at h
          rw [hen, HZ.out]
          exact h
        rw [← hen]
        replace hf := hf.below hbb
        replace hw := hw.below hbb
        replace hcw := hcw.below hbb
        replace hd := hd.below hbb
        replace ht := below_then ht hbb ht.size
        have HEN := Lib.hid hen
        clear hb1 hb2 hb3 hbb hf2 hen c0 c1 c2 hlc
        have a0 := num_cellW (v := -1) hf (i := en) (by simpa using hel) (by simp [hel])
        have a1 := hf.open_ en
        have hf1 := hf.set_ en (.int .i64 0)
        rw [nums_set] at hf1
        have hw1 := hw.off (b := gF) (o := en) (u := .int .i64 0) (fun e => hne e.symm)
        have a2 := num_cellW (v := 0) hw1 (i := en) (by simpa using hel) (by simp [hel])
        have a3 := hw1.open_ en
        have a4 := hf.lt
        have a5 := hw.lt
        have hw2 := hw1.set_ en (.int .i64 1)
        rw [nums_set] at hw2
        have hdj : decide ((en : Int) < (j : Int)) = true := by simp; omega
        have HS0 : Hid (LoO w (World.setCell (World.setCell w3 ⟨gF, en, none⟩ (.int .i64 0)) ⟨gW, en, none⟩ (.int .i64 1)) #[.slice A n c, .slice B m d, .int .i64 s] gF gW wc.heap.size (falses j) ((List.replicate j (-1)).set en 0) ((List.replicate j 0).set en 1)) :=
          ⟨hf1.off (b := gW) (o := en) (u := .int .i64 1) hne, hw2, by simp, (hd.off (fun e => hnd1 e.symm)).off (fun e => hnd2 e.symm), (hcw.off (by omega)).off (by omega), below_set (below_set ht (by omega)) (by omega)⟩
        clear hf hw hcw hd ht hf1 hw1 hw2
        go_wp2
        go_loopg [12] j (fun gh v wr => ∃ (done : List Bool) (o W : List Int), done.count true + gh = j ∧ LoSt (crewLists xs bs s) (costOf xs b) n en done o ∧ (∀ i, -1 ≤ o.getD i (-1) ∧ o.getD i (-1) ≤ 4000 * (done.count true : Nat)) ∧ LoO w wr #[.slice A n c, .slice B m d, .int .i64 s] gF gW wc.heap.size done o W)
        case atStart =>
          refine ⟨falses j, _, _, by simp [falses, List.count_replicate], ?_, fun i => ?_, HS0.out⟩
          · have h := lo_start (L := crewLists xs bs s) (C := costOf xs b) (n := n) (e := en) (by rw [← HZ.out]; exact hel)
            rw [← HZ.out] at h
            exact h
          · have h0 : (falses j).count true = 0 := by simp [falses, List.count_replicate]
            rw [h0]
            by_cases hi : en = i
            · subst hi
              rw [List.getD_eq_getElem?_getD, List.getElem?_set_self (by simpa using hel)]
              exact ⟨by show (-1 : Int) ≤ 0; decide, Int.le_refl _⟩
            · rw [List.getD_eq_getElem?_getD, List.getElem?_set_ne hi, List.getElem?_replicate]
              split <;> simp
        case round =>
          clear HS0 a0 a1 a2 a3 a4 a5
          obtain ⟨done, o, W, hcn, hst, hbd, hS⟩ := hrel
          obtain ⟨wz, rfl⟩ : ∃ X : World, X = wr := ⟨_, rfl⟩
          have hdl : done.length = j := by rw [HZ.out]; exact hst.hd
          have hol : o.length = j := by rw [HZ.out]; exact hst.ho
          have HST := Lib.hid hst
          have HBD := Lib.hid hbd
          have HSS := Lib.hid hS
          have HCN := Lib.hid hcn
          have hfar := hS.far
          have hdon := hS.don
          clear hst hbd hS hcn
          go_wp2
          go_loop [12, 53] (fun a i => ∃ k : Nat, k ≤ j ∧ i = .int .i64 k ∧ a = .int .i64 (pickTo done o k)) (fun _ i => j - (intOf i).toNat)
          case atStart => exact ⟨0, Nat.zero_le _, rfl, rfl⟩
          case round =>
            obtain ⟨k, hk, rfl, rfl⟩ := hrel
            by_cases hlt : k < j
            · have hk1 : decide ((k : Int) < (j : Int)) = true := by simp; omega
              have hnx := pick_next done o k
              unfold pickStep at hnx
              have hpi := pick_is done o k
              have b0 := num_cellW (v := o.getD k 0) hfar (i := k) (by omega) rfl
              have hok2 : o.getD k 0 = o.getD k (-1) := by rw [List.getD_eq_getElem?_getD, List.getD_eq_getElem?_getD, List.getElem?_eq_getElem (show k < o.length by omega)]; rfl
              rw [hok2] at b0
              have b1 : wz.cell? ⟨wc.heap.size, k, none⟩ = some (.bool (done.getD k false)) := by rw [hdon.cell k]; simp [bits, show k < done.length by omega]
              generalize o.getD k (-1) = v at b0 hnx
              generalize done.getD k false = dk at b1 hnx
              have hge : ∀ x : Int, decide (0 ≤ x) = true ↔ 0 ≤ x := fun x => by simp
              rcases hpi with ⟨hp, -⟩ | ⟨p, hp0, hp, -, hp3, -⟩
              · rw [hp] at hnx ⊢
                have HNX := Lib.hid hnx
                clear hnx hp
                cases dk
                · by_cases hv : 0 ≤ v
                  · have hd0 : decide (0 ≤ v) = true := by simp [hv]
                    go_wp2
                    go_round
                    case rel => exact ⟨k + 1, by omega, by go_num, by rw [HNX.out, if_pos ⟨rfl, hv, .inl (by omega)⟩]⟩
                    case measure => simp [intOf]; omega
                  · have hd0 : decide (0 ≤ v) = false := by simp; omega
                    go_wp2
                    go_round
                    case rel => exact ⟨k + 1, by omega, by go_num, by rw [HNX.out, if_neg (fun h => hv h.2.1)]⟩
                    case measure => simp [intOf]; omega
                · go_wp2
                  go_round
                  case rel => exact ⟨k + 1, by omega, by go_num, by rw [HNX.out, if_neg (fun h => by cases h.1)]⟩
                  case measure => simp [intOf]; omega
              · have b2 := num_cellW (v := o.getD p 0) hfar (i := p) (by omega) rfl
                have hop2 : o.getD p 0 = o.getD p (-1) := by rw [List.getD_eq_getElem?_getD, List.getD_eq_getElem?_getD, List.getElem?_eq_getElem (show p < o.length by omega)]; rfl
                rw [hop2] at b2
                rw [hp] at hnx ⊢
                simp only [Int.toNat_natCast] at hnx
                have hpj : p < j := by omega
                clear hop2 hp
                obtain ⟨u, hu0⟩ : ∃ u, o.getD p (-1) = u := ⟨_, rfl⟩
                simp only [hu0] at b2 hnx hp3
                clear hu0
                have HNX := Lib.hid hnx
                clear hnx
                cases dk
                · by_cases hv : 0 ≤ v
                  · have hd0 : decide (0 ≤ v) = true := by simp [hv]
                    have hd2 : decide ((p : Int) < 0) = false := by simp
                    by_cases hu : v < u
                    · have hd3 : decide (v < u) = true := by simp [hu]
                      go_wp2
                      go_round
                      case rel => exact ⟨k + 1, by omega, by go_num, by rw [HNX.out, if_pos ⟨rfl, hv, .inr hu⟩]⟩
                      case measure => simp [intOf]; omega
                    · have hd3 : decide (v < u) = false := by simp; omega
                      go_wp2
                      go_round
                      case rel => exact ⟨k + 1, by omega, by go_num, by rw [HNX.out, if_neg (fun h => by rcases h.2.2 with h | h <;> omega)]⟩
                      case measure => simp [intOf]; omega
                  · have hd0 : decide (0 ≤ v) = false := by simp; omega
                    go_wp2
                    go_round
                    case rel => exact ⟨k + 1, by omega, by go_num, by rw [HNX.out, if_neg (fun h => hv h.2.1)]⟩
                    case measure => simp [intOf]; omega
                · go_wp2
                  go_round
                  case rel => exact ⟨k + 1, by omega, by go_num, by rw [HNX.out, if_neg (fun h => by cases h.1)]⟩
                  case measure => simp [intOf]; omega
            · obtain rfl : k = j := by omega
              have hk1 : decide ((k : Int) < (k : Int)) = false := by simp
              have hpi := pick_is done o k
              rcases hpi with ⟨hp, hnone⟩ | ⟨p, hpk, hp, hpd, hp0, -⟩
              · rw [hp]
                have HEND := Lib.hid (lo_end HST.out (by rw [← HZ.out, hp]; omega))
                have hcl : done.count true ≤ 512 := by have h := List.count_le_length (a := true) (l := done); omega
                have HBE : Hid (∀ i, -1 ≤ o.getD i (-1) ∧ o.getD i (-1) ≤ 2048000) := fun i => by have := HBD.out i; omega
                have HOL := Lib.hid hol
                have HLW := Lib.hid HSS.out.len
                clear hp hnone hdl hol hfar hdon
                go_wp2
                go_ret2
                exact ⟨gF, gW, done, o, W, (by rw [HOL.out]; rfl), by rw [HOL.out]; exact HZ.out, HSS.out.far, HSS.out.ways, HLW.out, by have h := HEND.out.1; rw [HEN.out, HSN.out] at h; exact h, HEND.out.2, HBE.out, by omega, HSS.out.bel⟩
              · rw [hp]
                obtain ⟨hst2, -, -, -⟩ := lo_round HCO1.out HST.out (by rw [← HZ.out]; exact hp)
                obtain ⟨v, hv⟩ : ∃ v, o.getD p (-1) = v := ⟨_, rfl⟩
                rw [hv] at hst2 hp0
                have HST2 := Lib.hid hst2
                have hcd := count_setW done p (by omega) hpd
                have hcl : done.count true ≤ 512 := by have h := List.count_le_length (a := true) (l := done); omega
                have hmB : v ≤ 2048000 := by have := (HBD.out p).2; omega
                have HCD := Lib.hid hcd
                have b1 : wz.cell? ⟨wc.heap.size, p, none⟩ = some (.bool (done.getD p false)) := by rw [hdon.cell p]; simp [bits, show p < done.length by omega]
                have b2 := hdon.open_ p
                have b3 := hdon.lt
                have hfar1 := hfar.off (b := wc.heap.size) (o := p) (u := .bool true) hnd1
                have hway1 := HSS.out.ways.off (b := wc.heap.size) (o := p) (u := .bool true) hnd2
                have hdon1 : Whole (wz.setCell ⟨wc.heap.size, p, none⟩ (.bool true)) wc.heap.size 4 (bits (done.set p true)).toArray := by have h := hdon.set_ p (.bool true); rw [bits_setW] at h; exact h
                have hcur1 := HSS.out.cur.off (b := wc.heap.size) (o := p) (u := .bool true) (by omega)
                have hbel1 := below_set (b := wc.heap.size) (o := p) (u := .bool true) HSS.out.bel (by omega)
                have hlow1 : wc.heap.size < (wz.setCell ⟨wc.heap.size, p, none⟩ (.bool true)).heap.size := by simpa [World.setCell] using b3
                have HWL : Hid (W.length = k) := by show _ = _; rw [HSS.out.len]; exact hol
                clear hp hpd hst2 hcd hfar hdon
                go_upto_region 22 with fail
                clear b1 b2 b3
                generalize wz.setCell ⟨wc.heap.size, p, none⟩ (.bool true) = w5 at hfar1 hway1 hdon1 hcur1 hbel1 hlow1 ⊢
                have hdig := digits_len n p
                have htop : topBit n p = (stateS n p).2 := by show _ = decide _; rw [topBit, Bool.eq_iff_iff]; simp
                go_wp2_with fail
                refine (seState_own n p w5 (by omega) (by omega)).mono ?_
                rintro e w6 ⟨E, r, rfl, hE, hb6⟩
                obtain ⟨bE, oE, rfl⟩ : ∃ bE oE, E = some ⟨bE, oE, none⟩ := by
                  rcases hE.holds with h | ⟨bE, oE, h, -, -⟩
                  · have h2 := congrArg List.length h
                    have h1 := HOK.out.one
                    rw [HX.out] at h1
                    simp [bits, hdig] at h2
                    omega
                  · exact ⟨bE, oE, h⟩
                replace hfar1 := hfar1.below hb6
                replace hway1 := hway1.below hb6
                replace hdon1 := hdon1.below hb6
                replace hcur1 := hcur1.below hb6
                replace hbel1 := below_then hbel1 hb6 hbel1.size
                have hlow6 : wc.heap.size < w6.heap.size := by have := hb6.size; omega
                clear hb6
                have hs7 := Whole.fresh w6 44 #[.slice (some ⟨bE, oE, none⟩) n r, .bool (topBit n p)]
                replace hfar1 := hfar1.alloc (.cells #[.slice (some ⟨bE, oE, none⟩) n r, .bool (topBit n p)] 44)
                replace hway1 := hway1.alloc (.cells #[.slice (some ⟨bE, oE, none⟩) n r, .bool (topBit n p)] 44)
                replace hdon1 := hdon1.alloc (.cells #[.slice (some ⟨bE, oE, none⟩) n r, .bool (topBit n p)] 44)
                replace hcur1 := hcur1.alloc (.cells #[.slice (some ⟨bE, oE, none⟩) n r, .bool (topBit n p)] 44)
                replace hbel1 := hbel1.alloc hbel1.size (.cells #[.slice (some ⟨bE, oE, none⟩) n r, .bool (topBit n p)] 44)
                have hE7 := hE.alloc (.cells #[.slice (some ⟨bE, oE, none⟩) n r, .bool (topBit n p)] 44)
                obtain ⟨c0, c1, c2⟩ := hcur1.cells3
                have hcl5 := hcur1.lt
                obtain ⟨d0, d1, -, -⟩ := hs7.two
                have hsl7 := hs7.lt
                have HDIG := Lib.hid hdig
                have HTOP := Lib.hid htop
                clear hdig htop hE
                go_wp2_with fail
                refine (loRides_any A n c B m d xs bs s (some ⟨bE, oE, none⟩) n r (digits n p) (topBit n p) _ (HA.out.below hbel1) (HB.out.below hbel1) hE7.holds HX.out HY.out HDIG.out HOK.out (by rw [HX.out]; exact HDIG.out)).mono ?_
                rintro e w8 ⟨G, cG, rs, rfl, hrn, hG, hb8⟩
                have HRN : Hid (rowNums rs = ridesAt (stateS n p).1 (stateS n p).2 (crewLists xs bs s)) := by show _ = _; rw [hrn, ← HTOP.out]; rfl
                replace hfar1 := hfar1.below hb8
                replace hway1 := hway1.below hb8
                replace hdon1 := hdon1.below hb8
                replace hcur1 := hcur1.below hb8
                replace hbel1 := below_then hbel1 hb8 hbel1.size
                have hs8 := hs7.below hb8
                have hE8 := hE7.below hb8
                have hG8 := hG.free
                have hrl := (own_partsW hG.1)
                have hz68 : w6.heap.size < (w6.alloc (.cells #[.slice (some ⟨bE, oE, none⟩) n r, .bool (topBit n p)] 44)).heap.size := by simp
                have hz8 : w6.heap.size < w8.heap.size := by have := hb8.size; omega
                clear hb8 c0 c1 c2 hcl5 d0 d1 hsl7 hrn hs7 hE7 hG
                have HF8 := Lib.hid hfar1
                have HW8 := Lib.hid hway1
                have HD8 := Lib.hid hdon1
                have HC8 := Lib.hid hcur1
                have HB8 := Lib.hid hbel1
                have HS8 := Lib.hid hs8
                have HE8 := Lib.hid hE8
                have HG8 := Lib.hid hG8
                clear hfar1 hway1 hdon1 hcur1 hbel1 hs8 hE8 hG8
                have HLEG : Hid ((ridesAt (stateS n p).1 (stateS n p).2 (crewLists xs bs s)).map (fun l => (numS (flipped (stateS n p).1 l, !(stateS n p).2), costOf xs b l)) = legsW (crewLists xs bs s) (costOf xs b) (stateS n p)) := rfl
                obtain ⟨es, hes⟩ : ∃ es, es = legsW (crewLists xs bs s) (costOf xs b) (stateS n p) := ⟨_, rfl⟩
                have hrlen : rs.length = es.length := by rw [hes, ← HLEG.out, List.length_map, ← HRN.out, rowNums_len]
                have HES : Hid (∀ (k : Nat) (hk : k < rs.length), ∃ h : k < es.length, es[k] = (num (flipped (digits n p) rs[k].xs) (!topBit n p).toNat, costOf xs b rs[k].xs) ∧ rs[k].xs ∈ crewLists xs bs s) := fun k hk => by
                  have h1 : k < (ridesAt (stateS n p).1 (stateS n p).2 (crewLists xs bs s)).length := by rw [← HRN.out, rowNums_len]; exact hk
                  have h2 : (ridesAt (stateS n p).1 (stateS n p).2 (crewLists xs bs s))[k] = rs[k].xs := by have h := rowNums_get hk; simp only [HRN.out] at h; exact h
                  refine ⟨by omega, ?_, ?_⟩
                  · subst hes
                    simp only [legsW, List.getElem_map, h2, numS]
                    rw [HTOP.out]
                    rfl
                  · have h3 : rs[k].xs ∈ ridesAt (stateS n p).1 (stateS n p).2 (crewLists xs bs s) := by rw [← h2]; exact List.getElem_mem h1
                    exact (List.mem_filter.1 h3).1
                have HE0 := Lib.hid hes
                have HRL := Lib.hid hrlen
                clear hes hrlen
                go_wp2
                go_loopw [95] (fun i wr => ∃ (k' : Nat) (W' : List Int), k' ≤ rs.length ∧ i = .int .i64 k' ∧ Whole wr gF 3 (nums (relax v (es.take k') o)).toArray ∧ Whole wr gW 3 (nums W').toArray ∧ W'.length = k ∧ Span (w.heap.size + 1) (w.heap.size + 3) w8 wr) (fun i _ => rs.length - (intOf i).toNat)
                case atStart => exact ⟨0, W, Nat.zero_le _, rfl, HF8.out, HW8.out, HWL.out, Span.refl _ _ _⟩
                case round =>
                  obtain ⟨i, W', hi, rfl, hf, hway, hwl, hsp⟩ := hrel
                  obtain ⟨wv, rfl⟩ : ∃ X : World, X = wr := ⟨_, rfl⟩
                  by_cases hlt : i < rs.length
                  · have hd2 : decide ((i : Int) < (rs.length : Int)) = true := by simp; omega
                    obtain ⟨hlt2, hei, hup⟩ := HES.out i hlt
                    have hRX : relax v (es.take (i + 1)) o = relax1 v (relax v (es.take i) o) es[i] := by rw [List.take_succ_eq_append_getElem hlt2, relax_snoc]
                    rw [hei] at hRX
                    have hgz := hsp.freeGrid HG8.out (.inr (by omega))
                    obtain ⟨b6, o6, rfl, hbl6, hcell6, hrow6, hrl6, hrn6⟩ := hgz.grid.look hlt
                    have hst1 := (up_steps (HUPL.out _ hup)).1
                    have hsz := hsp.whole HS8.out (.inr (by omega))
                    have hcz := hsp.whole HC8.out (.inl (by omega))
                    have hez := hsp.fresh HE8.out (.inr (by omega))
                    obtain ⟨e0, e1, -, -⟩ := hsz.two
                    have hlz := hsz.lt
                    obtain ⟨y, hy⟩ : ∃ y, num (flipped (digits n p) rs[i].xs) (!topBit n p).toNat = y := ⟨_, rfl⟩
                    obtain ⟨l, hl⟩ : ∃ l, rs[i].xs = l := ⟨_, rfl⟩
                    rw [hl] at hy hRX hst1 hrow6 hrl6 hup
                    rw [hy] at hRX
                    obtain ⟨T, hT⟩ : ∃ T, costOf xs b l = T := ⟨_, rfl⟩
                    rw [hT] at hRX
                    have HY9 := Lib.hid hy
                    have HT9 := Lib.hid hT
                    have HRX := Lib.hid hRX
                    have HROW := Lib.hid hrow6
                    have HLR := Lib.hid hrl6
                    have HF9 := Lib.hid hf
                    have HW9 := Lib.hid hway
                    have HWL9 := Lib.hid hwl
                    have HSP := Lib.hid hsp
                    have HCZ := Lib.hid hcz
                    have HCE : Hid (∀ j u, (bits (digits n p))[j]? = some u → wv.cell? ⟨bE, oE + j, none⟩ = some u) := fun j u hu => by
                      rcases hez.holds with h | ⟨b9, o9, h9, -, hcell⟩
                      · rw [h] at hu; simp at hu
                      · cases h9; exact hcell j u hu
                    have hT0 : 1 ≤ T ∧ T ≤ 4000 := by
                      rw [← hT]
                      exact HCO.out _ hup
                    have hT1 := hT0.1
                    have hT2 := hT0.2
                    have hyj : y < k := by
                      have h := num_lt (flipped (digits n p) l) (!topBit n p)
                      rw [flipped_len, HDIG.out, hy] at h
                      rw [HZ.out]
                      exact h
                    have HLIN : Hid (∀ y ∈ l, 0 ≤ y ∧ y < (n : Int)) := fun y hy => by have := mem_steps hst1 hy; omega
                    have HL8 : Hid (l.length ≤ 8) := by show _ ≤ _; have h := (up_steps (HUPL.out _ hup)).2; omega
                    obtain ⟨rA, hrA⟩ : ∃ rA, rs[i].A = rA := ⟨_, rfl⟩
                    obtain ⟨rN, hrN⟩ : ∃ rN, rs[i].n = rN := ⟨_, rfl⟩
                    obtain ⟨rC, hrC⟩ : ∃ rC, rs[i].c = rC := ⟨_, rfl⟩
                    rw [hrA, hrN, hrC] at hcell6
                    rw [hrA] at HROW
                    rw [hrN] at HLR hrn6
                    have h1n : 1 ≤ n := by have h1 := HOK.out.one; rw [HX.out] at h1; exact h1
                    clear hei hlt2 hgz hf hway hwl hsp hcz hez hsz hT hT0 hy hl hrA hrN hrC hrow6 hrl6 hRX hup
                    have HST1 := Lib.hid hst1
                    clear hst1
                    go_wp2_with fail
                    refine (paCross_any bE oE n r rA rN rC (digits n p) l (topBit n p) wv HCE.out HDIG.out (by omega) (by omega) HROW.out HLR.out hrn6 HST1.out).mono ?_
                    rintro e wa ⟨A3, c3, rfl, hf3, hba⟩
                    go_wp2_with fail
                    refine (seIndex_any A3 (flipped (digits n p) l).length c3 (flipped (digits n p) l) (!topBit n p) wa hf3.holds rfl (by rw [flipped_len, HDIG.out]; omega)).mono ?_
                    rintro e wb ⟨rfl, hbb⟩
                    rw [HY9.out]
                    have hbw := below_then hba hbb hba.size
                    have hFb := HF9.out.below hbw
                    have hWb := HW9.out.below hbw
                    have hSPb : Span (w.heap.size + 1) (w.heap.size + 3) w8 wb := HSP.out.trans (Span.of_below hbw _ _)
                    have hCb := HCZ.out.below hbw
                    have HROWb := Lib.hid (HROW.out.below hbw)
                    have hol2 : (relax v (es.take i) o).length = k := by rw [relax_len]; exact hol
                    have hpm : (relax v (es.take i) o).getD p (-1) = v := by
                      have h := relax_low (m := v) (es.take i) o p (fun e he => by
                        obtain ⟨k9, hk9, rfl⟩ := List.getElem_of_mem (List.mem_of_mem_take he)
                        have h9 := HES.out k9 (by rw [HRL.out]; exact hk9)
                        rw [h9.2.1]
                        have := (HCO.out _ h9.2.2).1
                        show 0 ≤ costOf xs b _
                        omega) (by omega) (by rw [hv]; exact hp0) (by rw [hv]; exact Int.le_refl _)
                      rw [h]
                      exact hv
                    clear hba hbb hbw hf3 e0 e1 hlz hcell6 hbl6
                    have f0 := num_cellW (v := v) hFb (i := p) (by omega) (by rw [getD_m1W (by omega)]; exact hpm)
                    obtain ⟨k0, k1, k2⟩ := hCb.cells3
                    have hkl := hCb.lt
                    have hfl := hFb.lt
                    have hpj : p < k := hpk
                    have HFb := Lib.hid hFb
                    have HWb := Lib.hid hWb
                    have HSPb := Lib.hid hSPb
                    have HCb := Lib.hid hCb
                    have HOL2 := Lib.hid hol2
                    have HPM0 : Hid ((relax v (es.take i) o).getD p 0 = v) := by show _ = _; rw [getD_m1W (by omega)]; exact hpm
                    have hwr9 : IntKind.i64.wrap (v + T) = v + T := IntWalk.i64_in _ (by omega)
                    clear hFb hWb hSPb hCb hol2 hpm
                    go_wp2_with fail
                    go_region_held3 (fun w' => w'.cell? ⟨gF, p, none⟩ = some (.int .i64 v) ∧ w'.cell? ⟨w.heap.size, 0, none⟩ = some (.slice A n c) ∧ w'.cell? ⟨w.heap.size, 1, none⟩ = some (.slice B m d) ∧ w'.cell? ⟨w.heap.size, 2, none⟩ = some (.int .i64 s)) (go_keep)
                      (first | (go_at_call 134; refine (loCost_any A n c B m d xs s rA rN rC l b wb.drew (by exact (HA.out.below (below_spanW HB8.out HSPb.out (by omega))).drew) (by exact HROWb.out.drew) HX.out HLR.out (by omega) (by omega) HOK.out.weights HLIN.out (by have := HLR.out; have := HL8.out; omega)).mono ?_; rintro e wd ⟨rfl, hbd⟩; rw [HT9.out]; have hbd2 : Below wb.heap.size wb wd := (below_then (Below.refl wb.heap.size wb).drew hbd (Nat.le_refl _)); have HBD2 := Lib.hid hbd2; have f2 := num_cellW (v := v) (HFb.out.below hbd2) (i := p) (by rw [HOL2.out]; exact hpj) HPM0.out; have k3 := (HCb.out.below hbd2).cells3.1; have k4 := (HCb.out.below hbd2).cells3.2.1; have k5 := (HCb.out.below hbd2).cells3.2.2; have hfl2 := (HFb.out.below hbd2).lt; clear hbd hbd2))
                    have hF2 := HFb.out.below HBD2.out
                    have hW2 := HWb.out.below HBD2.out
                    obtain ⟨u, hu⟩ : ∃ u, (relax v (es.take i) o).getD y (-1) = u := ⟨_, rfl⟩
                    have g0 := num_cellW (v := u) hF2 (i := y) (by rw [HOL2.out]; exact hyj) (by rw [getD_m1W (by rw [HOL2.out]; exact hyj)]; exact hu)
                    have g1 := hF2.open_ y
                    have gw1 := hW2.open_ y
                    have hRX9 := HRX.out
                    rw [relax1, hu] at hRX9
                    have HSPd : Hid (Span (w.heap.size + 1) (w.heap.size + 3) w8 wd) := HSPb.out.trans (Span.of_below HBD2.out _ _)
                    have HF2 := Lib.hid hF2
                    have HW2 := Lib.hid hW2
                    clear hF2 hu f2 k3 k4 k5 f0 k0 k1 k2
                    have hy0 : (y : Int) < (k : Int) := by omega
                    by_cases h0 : u < 0
                    · have HE1 : Hid (relax v (es.take (i + 1)) o = (relax v (es.take i) o).set y (v + T)) := by show _ = _; rw [hRX9, if_pos (.inl h0)]
                      have hd7 : decide (u < 0) = true := by simpa using h0
                      have hFn := set_numW HF2.out y (v + T)
                      have hWn := HW2.out.off (b := gF) (o := y) (u := .int .i64 (v + T)) (fun e => hne e.symm)
                      have hSn := HSPd.out.trans (span_setW wd (w.heap.size + 1) (w.heap.size + 3) gF y (.int .i64 (v + T)) (by omega) (by omega))
                      have gw3 := hWn.open_ y
                      have gwl := hWn.lt
                      have gwc := num_cellW (v := W'.getD y 0) hWn (i := y) (by rw [HWL9.out]; exact hyj) rfl
                      have hFn2 := hFn.off (b := gW) (o := y) (u := .int .i64 0) hne
                      have hWn2 := set_numW hWn y 0
                      have hSn2 := hSn.trans (span_setW (wd.setCell ⟨gF, y, none⟩ (.int .i64 (v + T))) (w.heap.size + 1) (w.heap.size + 3) gW y (.int .i64 0) (by omega) (by omega))
                      clear hFn hWn hSn hRX9
                      go_upto_region 31 with fail
                      clear g0 g1 gw1 gw3 gwl gwc
                      generalize (wd.setCell ⟨gF, y, none⟩ (.int .i64 (v + T))).setCell ⟨gW, y, none⟩ (.int .i64 0) = we at hFn2 hWn2 hSn2 ⊢
                      have g2 := num_cellW (v := v + T) hFn2 (i := y) (by rw [List.length_set, HOL2.out]; exact hyj) (by rw [List.getD_eq_getElem?_getD, List.getElem?_set_self (by rw [HOL2.out]; exact hyj)]; rfl)
                      obtain ⟨z9, hz9⟩ : ∃ z9, (W'.set y 0).getD p 0 = z9 := ⟨_, rfl⟩
                      have a0 := num_cellW (v := 0) hWn2 (i := y) (by rw [List.length_set, HWL9.out]; exact hyj) (by rw [List.getD_eq_getElem?_getD, List.getElem?_set_self (by rw [HWL9.out]; exact hyj)]; rfl)
                      have a1 := num_cellW (v := z9) hWn2 (i := p) (by rw [List.length_set, HWL9.out]; exact hpj) hz9
                      have a2 := hWn2.open_ y
                      have a3 := hFn2.lt
                      have a4 := hWn2.lt
                      have HF7 := Lib.hid hFn2
                      have HW7 := Lib.hid hWn2
                      have HS7 := Lib.hid hSn2
                      clear hFn2 hWn2 hSn2 hz9
                      go_wp2_with fail
                      go_region
                      go_wp2
                      go_roundw
                      case rel => exact ⟨i + 1, _, by omega, by go_num, by rw [HE1.out]; exact (HF7.out.drew).off hne, set_numW HW7.out.drew y _, by simp [HWL9.out], (HS7.out.trans (Span.of_below (Below.refl _ _).drew _ _)).trans (span_setW _ _ _ _ _ _ (by omega) (by omega))⟩
                      case measure => simp [intOf]; omega
                    · have hd7 : decide (u < 0) = false := by simpa using h0
                      by_cases h2 : v + T < u
                      · have HE1 : Hid (relax v (es.take (i + 1)) o = (relax v (es.take i) o).set y (v + T)) := by show _ = _; rw [hRX9, if_pos (.inr h2)]
                        have hd8 : decide (v + T < u) = true := by simpa using h2
                        have hFn := set_numW HF2.out y (v + T)
                        have hWn := HW2.out.off (b := gF) (o := y) (u := .int .i64 (v + T)) (fun e => hne e.symm)
                        have hSn := HSPd.out.trans (span_setW wd (w.heap.size + 1) (w.heap.size + 3) gF y (.int .i64 (v + T)) (by omega) (by omega))
                        have gw3 := hWn.open_ y
                        have gwl := hWn.lt
                        have gwc := num_cellW (v := W'.getD y 0) hWn (i := y) (by rw [HWL9.out]; exact hyj) rfl
                        have hFn2 := hFn.off (b := gW) (o := y) (u := .int .i64 0) hne
                        have hWn2 := set_numW hWn y 0
                        have hSn2 := hSn.trans (span_setW (wd.setCell ⟨gF, y, none⟩ (.int .i64 (v + T))) (w.heap.size + 1) (w.heap.size + 3) gW y (.int .i64 0) (by omega) (by omega))
                        clear hFn hWn hSn hRX9
                        go_upto_region 31 with fail
                        clear g0 g1 gw1 gw3 gwl gwc
                        generalize (wd.setCell ⟨gF, y, none⟩ (.int .i64 (v + T))).setCell ⟨gW, y, none⟩ (.int .i64 0) = we at hFn2 hWn2 hSn2 ⊢
                        have g2 := num_cellW (v := v + T) hFn2 (i := y) (by rw [List.length_set, HOL2.out]; exact hyj) (by rw [List.getD_eq_getElem?_getD, List.getElem?_set_self (by rw [HOL2.out]; exact hyj)]; rfl)
                        obtain ⟨z9, hz9⟩ : ∃ z9, (W'.set y 0).getD p 0 = z9 := ⟨_, rfl⟩
                        have a0 := num_cellW (v := 0) hWn2 (i := y) (by rw [List.length_set, HWL9.out]; exact hyj) (by rw [List.getD_eq_getElem?_getD, List.getElem?_set_self (by rw [HWL9.out]; exact hyj)]; rfl)
                        have a1 := num_cellW (v := z9) hWn2 (i := p) (by rw [List.length_set, HWL9.out]; exact hpj) hz9
                        have a2 := hWn2.open_ y
                        have a3 := hFn2.lt
                        have a4 := hWn2.lt
                        have HF7 := Lib.hid hFn2
                        have HW7 := Lib.hid hWn2
                        have HS7 := Lib.hid hSn2
                        clear hFn2 hWn2 hSn2 hz9
                        go_wp2_with fail
                        go_region
                        go_wp2
                        go_roundw
                        case rel => exact ⟨i + 1, _, by omega, by go_num, by rw [HE1.out]; exact (HF7.out.drew).off hne, set_numW HW7.out.drew y _, by simp [HWL9.out], (HS7.out.trans (Span.of_below (Below.refl _ _).drew _ _)).trans (span_setW _ _ _ _ _ _ (by omega) (by omega))⟩
                        case measure => simp [intOf]; omega
                      · have HE1 : Hid (relax v (es.take (i + 1)) o = relax v (es.take i) o) := by show _ = _; rw [hRX9, if_neg (fun h => h.elim h0 h2)]
                        have hd8 : decide (v + T < u) = false := by simpa using h2
                        by_cases h3 : v + T = u
                        · have hd9 : (v + T == u) = true := by simpa using h3
                          obtain ⟨z8, hz8⟩ : ∃ z8, W'.getD y 0 = z8 := ⟨_, rfl⟩
                          obtain ⟨z9, hz9⟩ : ∃ z9, W'.getD p 0 = z9 := ⟨_, rfl⟩
                          have a0 := num_cellW (v := z8) HW2.out (i := y) (by rw [HWL9.out]; exact hyj) hz8
                          have a1 := num_cellW (v := z9) HW2.out (i := p) (by rw [HWL9.out]; exact hpj) hz9
                          have a3 := HF2.out.lt
                          have a4 := HW2.out.lt
                          clear hz8 hz9 hRX9
                          go_upto_region 32 with fail
                          go_wp2_with fail
                          go_region
                          go_wp2
                          go_roundw
                          case rel => exact ⟨i + 1, _, by omega, by go_num, by rw [HE1.out]; exact (HF2.out.drew).off hne, set_numW HW2.out.drew y _, by simp [HWL9.out], (HSPd.out.trans (Span.of_below (Below.refl _ _).drew _ _)).trans (span_setW _ _ _ _ _ _ (by omega) (by omega))⟩
                          case measure => simp [intOf]; omega
                        · have hd9 : (v + T == u) = false := by simpa using h3
                          clear hRX9
                          go_wp2
                          go_roundw
                          case rel => exact ⟨i + 1, W', by omega, by go_num, by rw [HE1.out]; exact HF2.out, HW2.out, HWL9.out, HSPd.out⟩
                          case measure => simp [intOf]; omega
                  · have hd2 : decide ((i : Int) < (rs.length : Int)) = false := by simp; omega
                    have hir : i = rs.length := by omega
                    rw [hir, HRL.out, List.take_length, HE0.out] at hf
                    have HF9 := Lib.hid hf
                    have HW9 := Lib.hid hway
                    have HWL9 := Lib.hid hwl
                    have HSP := Lib.hid hsp
                    have HGG : Hid (∃ gh, gh < gk ∧ (done.set p true).count true + gh = k) := by
                      have h := HCN.out
                      have h2 := HCD.out
                      have h3 := List.count_le_length (a := true) (l := done.set p true)
                      rw [List.length_set] at h3
                      exact ⟨gk - 1, by omega, by omega⟩
                    have HBN : Hid (∀ i, -1 ≤ (relax v (legsW (crewLists xs bs s) (costOf xs b) (stateS n p)) o).getD i (-1) ∧ (relax v (legsW (crewLists xs bs s) (costOf xs b) (stateS n p)) o).getD i (-1) ≤ 4000 * ((done.set p true).count true : Nat)) := fun i => by
                      have h2 := HCD.out
                      have hmp := (HBD.out p).2
                      rw [hv] at hmp
                      by_cases hi2 : i < o.length
                      · rcases relax_from v (legsW (crewLists xs bs s) (costOf xs b) (stateS n p)) o i hi2 with h | ⟨e, he, -, h⟩
                        · rw [h]; have := HBD.out i; omega
                        · rw [h]
                          simp only [legsW, List.mem_map] at he
                          obtain ⟨l, hl9, rfl⟩ := he
                          have := HCO.out l (List.mem_filter.1 hl9).1
                          show -1 ≤ v + costOf xs b l ∧ v + costOf xs b l ≤ _
                          omega
                      · rw [List.getD_eq_getElem?_getD, List.getElem?_eq_none (by rw [relax_len]; omega)]
                        show (-1 : Int) ≤ -1 ∧ (-1 : Int) ≤ _
                        omega
                    have HOLN : Hid ((relax v (legsW (crewLists xs bs s) (costOf xs b) (stateS n p)) o).length = k) := by show _ = _; rw [relax_len]; exact hol
                    clear hf hway hwl hsp hir
                    go_wp2
                    obtain ⟨gh, hg1, hg2⟩ := HGG.out
                    go_roundg gh
                    case measure => exact hg1
                    case rel => exact ⟨done.set p true, relax v (legsW (crewLists xs bs s) (costOf xs b) (stateS n p)) o, W', hg2, HST2.out, HBN.out, ⟨HF9.out, HW9.out, by rw [HWL9.out, HOLN.out], HSP.out.whole HD8.out (.inr (by omega)), HSP.out.whole HC8.out (.inl (by omega)), below_spanW HB8.out HSP.out (by omega)⟩⟩
end Go.Proofs.Ytlpeimlbpiofkaa

namespace Go.Proofs.Ytlpeimlbpiofkaa
open Go.RowKit

/-- The least costs from a crew's states to the last one. -/
noncomputable def costM (xs : List Int) (bs : List Bool) (s : Int) (b : Bool) (n : Nat) : Nat → Option Int := leastD (LegE (costOf xs b) 4 (crewLists xs bs s)) (codeOf (trues n) true)
section
variable {xs : List Int} {bs : List Bool} {m n : Nat} {s : Int} {b : Bool}
theorem cost_bound (hok : CrewOk xs m s) (hx : xs.length = n) : ∀ l ∈ crewLists xs bs s, 1 ≤ costOf xs b l ∧ costOf xs b l ≤ 1000000 := fun l hl => by
  have h1 := crew_up hl
  rw [hx] at h1
  have h2 := cost_one (b := b) hx (by have := hok.seven; omega) hok.weights h1
  omega
theorem cost_ok (hok : CrewOk xs m s) (hx : xs.length = n) : LeftOk (costOf xs b) (crewLists xs bs s) (codeOf (trues n) true) (costM xs bs s b n) :=
  leftG_ok (n := n) (a := (trues n, true)) (by have := hok.seven; omega) (fun l hl => by have := crew_up hl; rw [hx] at this; exact this) (cost_bound hok hx) (by simp [trues])
theorem cost_tells {done : List Bool} {o : List Int} (hok : CrewOk xs m s) (hx : xs.length = n) (hL : Least (LegW (crewLists xs bs s) (costOf xs b) n) (trues n, true) (settledS n done o)) (hno : ∀ i, i < 2 ^ (n + 1) → done.getD i false = false → o.getD i (-1) < 0) (hm : ∀ i, -1 ≤ o.getD i (-1)) : TellsO n (costM xs bs s b n) o :=
  tellsG (n := n) (a := (trues n, true)) (by have := hok.seven; omega) (fun l hl => by have := crew_up hl; rw [hx] at this; exact this) (cost_bound hok hx) (by simp [trues]) hL hno hm
theorem num_first (n : Nat) : num (falses n) (Bool.toNat false) = 0 := by
  have h : falses n = bitsOf 0 n := by
    refine List.ext_getElem (by simp [falses, bitsOf]) fun i h1 h2 => ?_
    simp [falses, bitsOf, bitAt]
  rw [h]
  exact num_zero n
/-- The least cost of a plan, or -1. -/
noncomputable def loV (xs : List Int) (bs : List Bool) (s : Int) (b : Bool) (n : Nat) : Int := (costM xs bs s b n 0).getD (-1)
theorem loV_at {o : List Int} (h : TellsO n (costM xs bs s b n) o) : o.getD 0 (-1) = loV xs bs s b n := by
  have h1 := h (falses n) false (by simp [falses])
  rw [farS, num_first, code_first] at h1
  exact h1
end

set_option maxHeartbeats 6400000 in
set_option maxRecDepth 100000 in
theorem loLeast_any (A : Option Addr) (n c : Nat) (B : Option Addr) (m d : Nat) (xs : List Int) (bs : List Bool) (s : Int) (b : Bool) (w : World) (hA : Holds w A (nums xs)) (hB : Holds w B (bits bs)) (hx : xs.length = n) (hy : bs.length = m) (hok : CrewOk xs m s) :
    Calls Try.prog 93 #[.agg #[.slice A n c, .slice B m d, .int .i64 s], .bool b] w fun e w' => e = .returned (.int .i64 (loV xs bs s b n)) ∧ Below w.heap.size w w' := by
  have HA := Lib.hid hA
  have HB := Lib.hid hB
  have HX := Lib.hid hx
  have HY := Lib.hid hy
  have HOK := Lib.hid hok
  have hn8 : n ≤ 8 := by have := hok.seven; omega
  have hc := Whole.fresh w 57 #[.slice A n c, .slice B m d, .int .i64 s]
  have ht := below1 w (.cells #[.slice A n c, .slice B m d, .int .i64 s] 57)
  obtain ⟨c0, c1, c2⟩ := hc.cells3
  clear hA hB hx hy hok
  go_enter Try.func93, Try.ntmps93
  go_wp2_with fail
  refine (loFar_any A n c B m d xs bs s b _ (HA.out.below ht) (HB.out.below ht) HX.out HY.out HOK.out).mono ?_
  rintro e w1 ⟨gF, gW, done, o, W, rfl, hol, hf, -, -, hL, hno, hbd, -, hb⟩
  have HTL := Lib.hid (cost_tells HOK.out HX.out hL hno (fun i => (hbd i).1))
  have HOL := Lib.hid hol
  replace ht := below_then ht hb (by simp)
  replace hc := hc.below hb
  have HF := Lib.hid hf
  clear hb c0 c1 c2 hL hno hbd hf hol
  obtain ⟨c0, c1, c2⟩ := hc.cells3
  have hlc := hc.lt
  go_wp2_with fail
  refine (loStart_any A n c B m d s _ hn8).mono ?_
  rintro e w2 ⟨rfl, hb⟩
  replace ht := below_then ht hb ht.size
  have hf2 := HF.out.below hb
  have h0 : 0 < o.length := by rw [HOL.out]; exact Nat.two_pow_pos _
  have k0 := num_cellW (v := loV xs bs s b n) hf2 (i := 0) h0 (by rw [getD_m1W h0]; exact loV_at HTL.out)
  have hl2 := hf2.lt
  have h0i : (0 : Int) < (o.length : Int) := by omega
  clear hb c0 c1 c2 hlc hc hf2
  go_wp2
  go_ret
  exact ⟨rfl, ht⟩

/-- What FewestOfCrew (b: no) and LeastCarried (b: yes) come to. -/
noncomputable def loOk (xs : List Int) (bs : List Bool) (m : Nat) (s : Int) (b : Bool) : Bool := isCrew xs m s && decide (0 ≤ loV xs bs s b xs.length)
noncomputable def loN (xs : List Int) (bs : List Bool) (m : Nat) (s : Int) (b : Bool) : Int := if loOk xs bs m s b then loV xs bs s b xs.length else 0

set_option maxHeartbeats 3200000 in
set_option maxRecDepth 100000 in
theorem specFewestW_any (A : Option Addr) (n c : Nat) (B : Option Addr) (m d : Nat) (xs : List Int) (bs : List Bool) (s : Int) (w : World) (hA : Holds w A (nums xs)) (hB : Holds w B (bits bs)) (hx : xs.length = n) (hy : bs.length = m) (hn : n ≤ 9223372036854775807) :
    Calls Try.prog 41 #[.agg #[.slice A n c, .slice B m d, .int .i64 s]] w fun e w' => e = .returned (.tuple #[.int .i64 (loN xs bs m s false), .bool (loOk xs bs m s false)]) ∧ Below w.heap.size w w' := by
  have HX := Lib.hid hx
  have HY := Lib.hid hy
  have HA := Lib.hid hA
  have HB := Lib.hid hB
  have hc := Whole.fresh w 57 #[.slice A n c, .slice B m d, .int .i64 s]
  have ht := below1 w (.cells #[.slice A n c, .slice B m d, .int .i64 s] 57)
  obtain ⟨c0, c1, c2⟩ := hc.cells3
  have hlg := loGood_any A n c B m d xs s _ (hA.below ht) HX.out hn
  cases h1 : isCrew xs m s
  · have HV : Hid (loN xs bs m s false = 0 ∧ loOk xs bs m s false = false) := by show _ ∧ _; simp [loN, loOk, h1]
    have H1 := Lib.hid h1
    clear h1 hA hB hx hy
    go_enter Try.func41, Try.ntmps41
    go_wp2_with fail
    refine hlg.mono ?_
    clear hlg
    rintro e w1 ⟨rfl, hb⟩
    rw [H1.out]
    replace ht := below_then ht hb (by simp)
    clear hb hc c0 c1 c2
    go_wp2
    go_ret2
    exact ⟨by rw [HV.out.1, HV.out.2]; rfl, ht⟩
  · have HOK := Lib.hid (isCrew_ok h1)
    have H1 := Lib.hid h1
    obtain ⟨v, hv⟩ : ∃ v, loV xs bs s false n = v := ⟨_, rfl⟩
    have HV0 := Lib.hid hv
    by_cases h0 : v < 0
    · have HV : Hid (loN xs bs m s false = 0 ∧ loOk xs bs m s false = false) := by show _ ∧ _; have h9 : loOk xs bs m s false = false := (by rw [loOk, hx, hv, decide_eq_false (show ¬ 0 ≤ v by omega), Bool.and_false]); exact ⟨by rw [loN, h9]; rfl, h9⟩
      have hd : decide (v < 0) = true := by simpa using h0
      clear h1 hv hA hB hx hy h0
      go_enter Try.func41, Try.ntmps41
      go_wp2_with fail
      refine hlg.mono ?_
      clear hlg
      rintro e w1 ⟨rfl, hb⟩
      rw [H1.out]
      replace ht := below_then ht hb (by simp)
      replace hc := hc.below hb
      clear hb c0 c1 c2
      obtain ⟨c0, c1, c2⟩ := hc.cells3
      have hlc := hc.lt
      go_wp2_with fail
      refine (loLeast_any A n c B m d xs bs s false _ (HA.out.below ht) (HB.out.below ht) HX.out HY.out HOK.out).mono ?_
      rintro e w2 ⟨rfl, hb⟩
      rw [HV0.out]
      replace ht := below_then ht hb ht.size
      clear hb c0 c1 c2 hc hlc
      go_wp2
      go_ret2
      exact ⟨by rw [HV.out.1, HV.out.2]; rfl, ht⟩
    · have h00 : 0 ≤ v := by omega
      have HV : Hid (loN xs bs m s false = v ∧ loOk xs bs m s false = true) := by show _ ∧ _; have h9 : loOk xs bs m s false = true := (by rw [loOk, hx, hv, h1, decide_eq_true h00, Bool.and_true]); exact ⟨by rw [loN, if_pos h9, hx, hv], h9⟩
      have hd : decide (v < 0) = false := by simpa using h00
      clear h1 hv hA hB hx hy h0 h00
      go_enter Try.func41, Try.ntmps41
      go_wp2_with fail
      refine hlg.mono ?_
      clear hlg
      rintro e w1 ⟨rfl, hb⟩
      rw [H1.out]
      replace ht := below_then ht hb (by simp)
      replace hc := hc.below hb
      clear hb c0 c1 c2
      obtain ⟨c0, c1, c2⟩ := hc.cells3
      have hlc := hc.lt
      go_wp2_with fail
      refine (loLeast_any A n c B m d xs bs s false _ (HA.out.below ht) (HB.out.below ht) HX.out HY.out HOK.out).mono ?_
      rintro e w2 ⟨rfl, hb⟩
      rw [HV0.out]
      replace ht := below_then ht hb ht.size
      replace hc := hc.below hb
      clear hb c0 c1 c2 hlc
      obtain ⟨c0, c1, c2⟩ := hc.cells3
      have hlc := hc.lt
      go_wp2_with fail
      refine (loLeast_any A n c B m d xs bs s false _ (HA.out.below ht) (HB.out.below ht) HX.out HY.out HOK.out).mono ?_
      rintro e w3 ⟨rfl, hb⟩
      rw [HV0.out]
      replace ht := below_then ht hb ht.size
      clear hb c0 c1 c2 hc hlc
      go_wp2
      go_ret2
      exact ⟨by rw [HV.out.1, HV.out.2]; rfl, ht⟩

set_option maxHeartbeats 3200000 in
set_option maxRecDepth 100000 in
theorem specLeastCarried_any (A : Option Addr) (n c : Nat) (B : Option Addr) (m d : Nat) (xs : List Int) (bs : List Bool) (s : Int) (w : World) (hA : Holds w A (nums xs)) (hB : Holds w B (bits bs)) (hx : xs.length = n) (hy : bs.length = m) (hn : n ≤ 9223372036854775807) :
    Calls Try.prog 50 #[.agg #[.slice A n c, .slice B m d, .int .i64 s]] w fun e w' => e = .returned (.tuple #[.int .i64 (loN xs bs m s true), .bool (loOk xs bs m s true)]) ∧ Below w.heap.size w w' := by
  have HX := Lib.hid hx
  have HY := Lib.hid hy
  have HA := Lib.hid hA
  have HB := Lib.hid hB
  have hc := Whole.fresh w 57 #[.slice A n c, .slice B m d, .int .i64 s]
  have ht := below1 w (.cells #[.slice A n c, .slice B m d, .int .i64 s] 57)
  obtain ⟨c0, c1, c2⟩ := hc.cells3
  have hlg := loGood_any A n c B m d xs s _ (hA.below ht) HX.out hn
  cases h1 : isCrew xs m s
  · have HV : Hid (loN xs bs m s true = 0 ∧ loOk xs bs m s true = false) := by show _ ∧ _; simp [loN, loOk, h1]
    have H1 := Lib.hid h1
    clear h1 hA hB hx hy
    go_enter Try.func50, Try.ntmps50
    go_wp2_with fail
    refine hlg.mono ?_
    clear hlg
    rintro e w1 ⟨rfl, hb⟩
    rw [H1.out]
    replace ht := below_then ht hb (by simp)
    clear hb hc c0 c1 c2
    go_wp2
    go_ret2
    exact ⟨by rw [HV.out.1, HV.out.2]; rfl, ht⟩
  · have HOK := Lib.hid (isCrew_ok h1)
    have H1 := Lib.hid h1
    obtain ⟨v, hv⟩ : ∃ v, loV xs bs s true n = v := ⟨_, rfl⟩
    have HV0 := Lib.hid hv
    by_cases h0 : v < 0
    · have HV : Hid (loN xs bs m s true = 0 ∧ loOk xs bs m s true = false) := by show _ ∧ _; have h9 : loOk xs bs m s true = false := (by rw [loOk, hx, hv, decide_eq_false (show ¬ 0 ≤ v by omega), Bool.and_false]); exact ⟨by rw [loN, h9]; rfl, h9⟩
      have hd : decide (v < 0) = true := by simpa using h0
      clear h1 hv hA hB hx hy h0
      go_enter Try.func50, Try.ntmps50
      go_wp2_with fail
      refine hlg.mono ?_
      clear hlg
      rintro e w1 ⟨rfl, hb⟩
      rw [H1.out]
      replace ht := below_then ht hb (by simp)
      replace hc := hc.below hb
      clear hb c0 c1 c2
      obtain ⟨c0, c1, c2⟩ := hc.cells3
      have hlc := hc.lt
      go_wp2_with fail
      refine (loLeast_any A n c B m d xs bs s true _ (HA.out.below ht) (HB.out.below ht) HX.out HY.out HOK.out).mono ?_
      rintro e w2 ⟨rfl, hb⟩
      rw [HV0.out]
      replace ht := below_then ht hb ht.size
      clear hb c0 c1 c2 hc hlc
      go_wp2
      go_ret2
      exact ⟨by rw [HV.out.1, HV.out.2]; rfl, ht⟩
    · have h00 : 0 ≤ v := by omega
      have HV : Hid (loN xs bs m s true = v ∧ loOk xs bs m s true = true) := by show _ ∧ _; have h9 : loOk xs bs m s true = true := (by rw [loOk, hx, hv, h1, decide_eq_true h00, Bool.and_true]); exact ⟨by rw [loN, if_pos h9, hx, hv], h9⟩
      have hd : decide (v < 0) = false := by simpa using h00
      clear h1 hv hA hB hx hy h0 h00
      go_enter Try.func50, Try.ntmps50
      go_wp2_with fail
      refine hlg.mono ?_
      clear hlg
      rintro e w1 ⟨rfl, hb⟩
      rw [H1.out]
      replace ht := below_then ht hb (by simp)
      replace hc := hc.below hb
      clear hb c0 c1 c2
      obtain ⟨c0, c1, c2⟩ := hc.cells3
      have hlc := hc.lt
      go_wp2_with fail
      refine (loLeast_any A n c B m d xs bs s true _ (HA.out.below ht) (HB.out.below ht) HX.out HY.out HOK.out).mono ?_
      rintro e w2 ⟨rfl, hb⟩
      rw [HV0.out]
      replace ht := below_then ht hb ht.size
      replace hc := hc.below hb
      clear hb c0 c1 c2 hlc
      obtain ⟨c0, c1, c2⟩ := hc.cells3
      have hlc := hc.lt
      go_wp2_with fail
      refine (loLeast_any A n c B m d xs bs s true _ (HA.out.below ht) (HB.out.below ht) HX.out HY.out HOK.out).mono ?_
      rintro e w3 ⟨rfl, hb⟩
      rw [HV0.out]
      replace ht := below_then ht hb ht.size
      clear hb c0 c1 c2 hc hlc
      go_wp2
      go_ret2
      exact ⟨by rw [HV.out.1, HV.out.2]; rfl, ht⟩

end Go.Proofs.Ytlpeimlbpiofkaa

namespace Go.Proofs.Ytlpeimlbpiofkaa
open Go.RowKit Go.Maps Go.WideShapes

theorem lo_someC {xs : List Int} {bs : List Bool} {m n : Nat} {s : Int} {b : Bool} (hok : CrewOk xs m s) (hx : xs.length = n) : decide (0 ≤ loV xs bs s b n) = (costM xs bs s b n 0).isSome := by
  unfold loV
  cases h : costM xs bs s b n 0 with
  | none => rfl
  | some v => exact decide_eq_true ((cost_ok (bs := bs) (b := b) hok hx).least.low _ _ h)
theorem cost_true (xs : List Int) : costOf xs true = loadOf xs := by funext l; rfl
/-- What carried hands back where there is a plan. -/
def CarPost (xs : List Int) (bs : List Bool) (s : Int) (n : Nat) (w : World) (e : Ending) (w' : World) : Prop :=
  ∃ (E : Option Addr) (cE mb : Nat), e = .returned (.tuple #[.agg (routeC E (crewLists xs bs s).length cE (codeOf (trues n) true) mb), .bool true]) ∧ w'.ownsRow w.heap.size 89 9 (.slice E (crewLists xs bs s).length cE) (crewLists xs bs s).length (legsCells (loadOf xs) (crewLists xs bs s)) ∧ PlaceMap w' mb (costM xs bs s true n) ∧ Below w.heap.size w w'

set_option maxHeartbeats 6400000 in
set_option maxRecDepth 100000 in
set_option linter.unusedVariables false in
set_option linter.unusedSimpArgs false in
theorem carried_none (A : Option Addr) (n kA : Nat) (B : Option Addr) (m d : Nat) (xs : List Int) (bs : List Bool) (s : Int) (w : World) (hA : Holds w A (nums xs)) (hB : Holds w B (bits bs)) (hx : xs.length = n) (hy : bs.length = m) (hn : n ≤ 9223372036854775807) (hkA : n ≤ kA) (hkB : kA ≤ 9223372036854775807) (h1 : isCrew xs m s = false) :
    Calls Try.prog 104 #[.agg #[.slice A n kA, .slice B m d, .int .i64 s]] w fun e w' => e = .returned (.tuple #[.agg zero11, .bool false]) ∧ Below w.heap.size w w' := by
  have HX := Lib.hid hx
  have HY := Lib.hid hy
  have HA := Lib.hid hA
  have HB := Lib.hid hB
  have hq := (Whole.fresh w 57 #[.slice A n kA, .slice B m d, .int .i64 s]).alloc (.cells #[.slice none 0 0, .bool false, .bool false, .bool false, .bool false, .bool false, .bool false, .bool false, .bool false, .bool false, .map none] 78)
  have hr := Whole.fresh (w.alloc (.cells #[.slice A n kA, .slice B m d, .int .i64 s] 57)) 78 #[.slice none 0 0, .bool false, .bool false, .bool false, .bool false, .bool false, .bool false, .bool false, .bool false, .bool false, .map none]
  rw [World.size_alloc] at hr
  have ht := below2 w (.cells #[.slice A n kA, .slice B m d, .int .i64 s] 57) (.cells #[.slice none 0 0, .bool false, .bool false, .bool false, .bool false, .bool false, .bool false, .bool false, .bool false, .bool false, .map none] 78)
  have hic := isCrew_any A n kA B m d xs s _ (hA.below ht) HX.out hn
  have H1 := Lib.hid h1
  clear h1 hA hB hx hy
  go_enter Try.func104, Try.ntmps104
  go_wp2_with fail
  refine hic.mono ?_
  clear hic
  rintro e w1 ⟨rfl, hb⟩
  rw [H1.out]
  have HT1 := Lib.hid (below_then ht hb ht.size)
  replace hr := hr.below hb
  clear hb hq
  go_wp2_with (refine wpList_store_whole rfl 78 (.tmp 2) (.tmp 7) rfl (w.heap.size + 1) #[.slice none 0 0, .bool false, .bool false, .bool false, .bool false, .bool false, .bool false, .bool false, .bool false, .bool false, .map none] rfl rfl 78 _ hr size_routes rfl (by simp [Value.oneCell']) ?_; intro w7 hw7 ho7)
  have HT7 := Lib.hid (ho7.below HT1.out (by omega))
  obtain ⟨c0, c1, c2, c3, c4, c5, c6, c7, c8, c9, c10⟩ := cells11 hw7
  exact bodyPost_ret (v := .tuple #[.agg #[.slice none 0 0, .bool false, .bool false, .bool false, .bool false, .bool false, .bool false, .bool false, .bool false, .bool false, .map none], .bool false]) (by simp [results, Try.results104, go_sem, c0, c1, c2, c3, c4, c5, c6, c7, c8, c9, c10]) rfl ⟨rfl, HT7.out⟩

set_option maxHeartbeats 6400000 in
set_option maxRecDepth 100000 in
set_option linter.unusedVariables false in
set_option linter.unusedSimpArgs false in
theorem carried_no (A : Option Addr) (n kA : Nat) (B : Option Addr) (m d : Nat) (xs : List Int) (bs : List Bool) (s : Int) (w : World) (hA : Holds w A (nums xs)) (hB : Holds w B (bits bs)) (hx : xs.length = n) (hy : bs.length = m) (hn : n ≤ 9223372036854775807) (hkA : n ≤ kA) (hkB : kA ≤ 9223372036854775807) (h1 : isCrew xs m s = true) (hv : costM xs bs s true n 0 = none) :
    Calls Try.prog 104 #[.agg #[.slice A n kA, .slice B m d, .int .i64 s]] w fun e w' => e = .returned (.tuple #[.agg zero11, .bool false]) ∧ Below w.heap.size w w' := by
  have HX := Lib.hid hx
  have HY := Lib.hid hy
  have HA := Lib.hid hA
  have HB := Lib.hid hB
  have hq := (Whole.fresh w 57 #[.slice A n kA, .slice B m d, .int .i64 s]).alloc (.cells #[.slice none 0 0, .bool false, .bool false, .bool false, .bool false, .bool false, .bool false, .bool false, .bool false, .bool false, .map none] 78)
  have hr := Whole.fresh (w.alloc (.cells #[.slice A n kA, .slice B m d, .int .i64 s] 57)) 78 #[.slice none 0 0, .bool false, .bool false, .bool false, .bool false, .bool false, .bool false, .bool false, .bool false, .bool false, .map none]
  rw [World.size_alloc] at hr
  have ht := below2 w (.cells #[.slice A n kA, .slice B m d, .int .i64 s] 57) (.cells #[.slice none 0 0, .bool false, .bool false, .bool false, .bool false, .bool false, .bool false, .bool false, .bool false, .bool false, .map none] 78)
  have hic := isCrew_any A n kA B m d xs s _ (hA.below ht) HX.out hn
  have hok := isCrew_ok h1
  have hn7 : n ≤ 7 := by have := hok.seven; omega
  have h1n : 1 ≤ n := by have := hok.one; omega
  have hm8 : m ≤ 8 := by have := hok.rows; omega
  have HW := Lib.hid hok.weights
  have HSM := Lib.hid (crew_small (xs := xs) bs s (by omega))
  have HUP8 := Lib.hid (fun l (hl : l ∈ crewLists xs bs s) => (up_wide (crew_up hl) (by omega) : l ∈ upLists (2 * 4) (2 * 4)))
  have HTB := Lib.hid (cost_bound (bs := bs) (b := true) hok hx)
  rw [cost_true] at HTB
  have HV0 : Hid (leastD (LegE (loadOf xs) 4 (crewLists xs bs s)) (codeOf (trues n) true) 0 = none) := by show _ = _; rw [← cost_true]; exact hv
  have H1 := Lib.hid h1
  clear h1 hA hB hx hy hok hv
  obtain ⟨T, hT⟩ : ∃ T, loadOf xs = T := ⟨_, rfl⟩
  obtain ⟨Ls, hLs⟩ : ∃ Ls, crewLists xs bs s = Ls := ⟨_, rfl⟩
  obtain ⟨x, hxx⟩ : ∃ x, codeOf (trues n) true = x := ⟨_, rfl⟩
  obtain ⟨k, hk⟩ : ∃ k, Ls.length = k := ⟨_, rfl⟩
  rw [hT, hLs, hxx] at HV0
  rw [hLs] at HSM HUP8
  rw [hT, hLs] at HTB
  have HLD := Lib.hid hLs
  have HXC := Lib.hid hxx
  have HKD := Lib.hid hk
  have HTT := Lib.hid hT
  clear hLs hxx hk
  have hcl := fun W hA hB => crewLegsC_any A n kA B m d xs bs s W hA hB HX.out HY.out h1n hn7 hm8 HW.out hkA hkB
  clear hcl
  go_enter Try.func104, Try.ntmps104
  go_wp2_with fail
  refine hic.mono ?_
  clear hic
  rintro e w1 ⟨rfl, hb⟩
  rw [H1.out]
  replace ht := below_then ht hb ht.size
  replace hq := hq.below hb
  replace hr := hr.below hb
  clear hb
  go_upto_region 3 with fail
  go_wp2_with fail
  refine wp_region_held_drew (S := (Box3 w.heap.size (.slice A n kA) (.slice B m d) (.int .i64 s))) (by kernel_rfl) (box3_of hq.drew) (fun hHeld => ?_)
  replace hq := hq.drew
  replace hr := hr.drew
  replace ht := ht.drew
  generalize World.drew w1 = wd at hq hr ht hHeld ⊢
  have hwd := ht.size
  refine wpAnyH_take (i := 0) (v := ?_) rfl (by kernel_rfl) (by kernel_rfl) (by kernel_rfl) (fun _ _ _ h => h) (Or.inl ⟨rfl, ?_⟩) hHeld ?_
  rotate_left
  · intro w' hS; obtain ⟨s0, s1, s2⟩ := hS; go_simp <;> with_reducible rfl
  simp only [Act.put, List.getElem_toArray, List.getElem_cons_succ, List.getElem_cons_zero, List.setIfInBounds_toArray, List.set_cons_succ, List.set_cons_zero]
  refine wpAnyH_take (i := 2) (v := ?_) rfl (by kernel_rfl) (by kernel_rfl) (by kernel_rfl) (fun _ _ _ h => h) (Or.inl ⟨rfl, ?_⟩) hHeld ?_
  rotate_left
  · intro w' hS; obtain ⟨s0, s1, s2⟩ := hS; go_simp <;> with_reducible rfl
  simp only [Act.put, List.getElem_toArray, List.getElem_cons_succ, List.getElem_cons_zero, List.setIfInBounds_toArray, List.set_cons_succ, List.set_cons_zero]
  refine wpAnyH_take (i := 3) (v := ?_) rfl (by kernel_rfl) (by kernel_rfl) (by kernel_rfl) (fun _ _ _ h => h) (Or.inl ⟨rfl, ?_⟩) hHeld ?_
  rotate_left
  · intro w' hS; obtain ⟨s0, s1, s2⟩ := hS; go_simp <;> with_reducible rfl
  simp only [Act.put, List.getElem_toArray, List.getElem_cons_succ, List.getElem_cons_zero, List.setIfInBounds_toArray, List.set_cons_succ, List.set_cons_zero]
  refine wpAnyH_take (i := 4) (v := ?_) rfl (by kernel_rfl) (by kernel_rfl) (by kernel_rfl) (fun _ _ _ h => h) (Or.inl ⟨rfl, ?_⟩) hHeld ?_
  rotate_left
  · intro w' hS; obtain ⟨s0, s1, s2⟩ := hS; go_simp <;> with_reducible rfl
  simp only [Act.put, List.getElem_toArray, List.getElem_cons_succ, List.getElem_cons_zero, List.setIfInBounds_toArray, List.set_cons_succ, List.set_cons_zero]
  refine wpAnyH_ready (rs := [1]) (by kernel_rfl) (by simp) (AllReadyH.cons rfl (fun K hK => ?_) AllReadyH.nil)
  go_simp
  refine (crewLegsC_any A n kA B m d xs bs s _ (HA.out.below ht) (HB.out.below ht) HX.out HY.out h1n hn7 hm8 HW.out hkA hkB).mono ?_
  rintro e9 wdl ⟨E, cE, rfl, hown, hb⟩
  rw [HLD.out] at hown ⊢
  rw [HTT.out] at hown
  replace hq := hq.below hb
  replace hr := hr.below hb
  replace ht := below_then ht hb ht.size
  clear hb
  refine hK.out _ _ (box3_of hq) (fun hHeld => ?_)
  clear hK K
  try simp only [Act.put, List.getElem_toArray, List.getElem_cons_succ, List.getElem_cons_zero, List.setIfInBounds_toArray, List.set_cons_succ, List.set_cons_zero]
  refine wpAnyH_ready (rs := [5]) (by kernel_rfl) (by simp) (AllReadyH.cons rfl (fun K hK => ?_) AllReadyH.nil)
  go_simp
  refine (routesBy_any T _ E cE Ls n _ hown HSM.out HUP8.out HTB.out h1n (by omega)).mono ?_
  rintro e9 wdlr ⟨mb, rfl, hown2, hmap, hb⟩
  rw [HKD.out] at hown2
  rw [HXC.out] at hmap
  rw [HXC.out, HKD.out]
  have HO2 := Lib.hid hown2
  have HM2 := Lib.hid hmap
  clear hown hown2 hmap
  replace hq := hq.below hb
  replace hr := hr.below hb
  replace ht := below_then ht hb ht.size
  clear hb
  refine hK.out _ _ (box3_of hq) (fun hHeld => ?_)
  clear hK K
  try simp only [Act.put, List.getElem_toArray, List.getElem_cons_succ, List.getElem_cons_zero, List.setIfInBounds_toArray, List.set_cons_succ, List.set_cons_zero]
  refine wpAnyH_ready (rs := [6]) (by kernel_rfl) (by simp) (AllReadyH.cons rfl (fun K hK => ?_) AllReadyH.nil)
  go_simp
  refine (ifPlanned_no E k cE x mb _ _ HM2.out HV0.out).mono ?_
  rintro e9 wdlrp ⟨rfl, hb⟩
  unfold zero11
  replace hq := hq.below hb
  replace hr := hr.below hb
  replace ht := below_then ht hb ht.size
  clear hb
  refine hK.out _ _ (box3_of hq) (fun hHeld => ?_)
  clear hK K
  try simp only [Act.put, List.getElem_toArray, List.getElem_cons_succ, List.getElem_cons_zero, List.setIfInBounds_toArray, List.set_cons_succ, List.set_cons_zero]
  refine wpAnyH_take (i := 7) (v := ?_) rfl (by kernel_rfl) (by kernel_rfl) (by kernel_rfl) (fun _ _ _ h => h) (Or.inl ⟨rfl, ?_⟩) hHeld ?_
  rotate_left
  · intro w' hS; obtain ⟨s0, s1, s2⟩ := hS; go_simp <;> with_reducible rfl
  simp only [Act.put, List.getElem_toArray, List.getElem_cons_succ, List.getElem_cons_zero, List.setIfInBounds_toArray, List.set_cons_succ, List.set_cons_zero]
  refine wpAnyH_take (i := 8) (v := ?_) rfl (by kernel_rfl) (by kernel_rfl) (by kernel_rfl) (fun _ _ _ h => h) (Or.inl ⟨rfl, ?_⟩) hHeld ?_
  rotate_left
  · intro w' hS; obtain ⟨s0, s1, s2⟩ := hS; go_simp <;> with_reducible rfl
  simp only [Act.put, List.getElem_toArray, List.getElem_cons_succ, List.getElem_cons_zero, List.setIfInBounds_toArray, List.set_cons_succ, List.set_cons_zero]
  refine wpAnyH_ready (rs := [9]) (by kernel_rfl) (by simp) (AllReadyH.cons rfl (fun K hK => ?_) AllReadyH.nil)
  refine wp_store_row 78 (.tmp 2) (.tmp 15) rfl (w.heap.size + 1) #[.slice none 0 0, .bool false, .bool false, .bool false, .bool false, .bool false, .bool false, .bool false, .bool false, .bool false, .map none] rfl rfl 78 #[.slice none 0 0, .bool false, .bool false, .bool false, .bool false, .bool false, .bool false, .bool false, .bool false, .bool false, .map none] hr size_routes rfl (by simp [Value.oneCell']) ?_
  have o9 := only_setRow wdlrp (w.heap.size + 1) #[.slice none 0 0, .bool false, .bool false, .bool false, .bool false, .bool false, .bool false, .bool false, .bool false, .bool false, .map none]
  have r9 := whole_setRow #[.slice none 0 0, .bool false, .bool false, .bool false, .bool false, .bool false, .bool false, .bool false, .bool false, .bool false, .map none] hr
  have q9 := o9.whole hq (by omega)
  have t9 := o9.below ht (by omega)
  generalize World.setRow wdlrp (w.heap.size + 1) #[.slice none 0 0, .bool false, .bool false, .bool false, .bool false, .bool false, .bool false, .bool false, .bool false, .bool false, .map none] = w9 at o9 r9 q9 t9 ⊢
  refine hK.out _ _ (box3_of q9) (fun hHeld => ?_)
  clear hK K
  try simp only [Act.put, List.getElem_toArray, List.getElem_cons_succ, List.getElem_cons_zero, List.setIfInBounds_toArray, List.set_cons_succ, List.set_cons_zero]
  refine wpAnyH_take (i := 10) (v := ?_) rfl (by kernel_rfl) (by kernel_rfl) (by kernel_rfl) (fun _ _ _ h => h) (Or.inl ⟨rfl, ?_⟩) hHeld ?_
  rotate_left
  · intro w' hS; obtain ⟨s0, s1, s2⟩ := hS; go_simp <;> with_reducible rfl
  simp only [Act.put, List.getElem_toArray, List.getElem_cons_succ, List.getElem_cons_zero, List.setIfInBounds_toArray, List.set_cons_succ, List.set_cons_zero]
  refine wpAnyH_done (by kernel_rfl) ?_ _
  clear hHeld
  have HT9 := Lib.hid t9
  obtain ⟨c0, c1, c2, c3, c4, c5, c6, c7, c8, c9, c10⟩ := cells11 r9
  clear o9 q9 t9
  clear r9
  go_wp2
  exact bodyPost_ret (v := .tuple #[.agg #[.slice none 0 0, .bool false, .bool false, .bool false, .bool false, .bool false, .bool false, .bool false, .bool false, .bool false, .map none], .bool false]) (by simp [results, Try.results104, go_sem, c0, c1, c2, c3, c4, c5, c6, c7, c8, c9, c10]) rfl ⟨rfl, HT9.out⟩

set_option maxHeartbeats 6400000 in
set_option maxRecDepth 100000 in
set_option linter.unusedVariables false in
set_option linter.unusedSimpArgs false in
theorem carried_yes (A : Option Addr) (n kA : Nat) (B : Option Addr) (m d : Nat) (xs : List Int) (bs : List Bool) (s : Int) (w : World) (hA : Holds w A (nums xs)) (hB : Holds w B (bits bs)) (hx : xs.length = n) (hy : bs.length = m) (hn : n ≤ 9223372036854775807) (hkA : n ≤ kA) (hkB : kA ≤ 9223372036854775807) (v0 : Int) (h1 : isCrew xs m s = true) (hv : costM xs bs s true n 0 = some v0) :
    Calls Try.prog 104 #[.agg #[.slice A n kA, .slice B m d, .int .i64 s]] w (CarPost xs bs s n w) := by
  have HX := Lib.hid hx
  have HY := Lib.hid hy
  have HA := Lib.hid hA
  have HB := Lib.hid hB
  have hq := (Whole.fresh w 57 #[.slice A n kA, .slice B m d, .int .i64 s]).alloc (.cells #[.slice none 0 0, .bool false, .bool false, .bool false, .bool false, .bool false, .bool false, .bool false, .bool false, .bool false, .map none] 78)
  have hr := Whole.fresh (w.alloc (.cells #[.slice A n kA, .slice B m d, .int .i64 s] 57)) 78 #[.slice none 0 0, .bool false, .bool false, .bool false, .bool false, .bool false, .bool false, .bool false, .bool false, .bool false, .map none]
  rw [World.size_alloc] at hr
  have ht := below2 w (.cells #[.slice A n kA, .slice B m d, .int .i64 s] 57) (.cells #[.slice none 0 0, .bool false, .bool false, .bool false, .bool false, .bool false, .bool false, .bool false, .bool false, .bool false, .map none] 78)
  have hic := isCrew_any A n kA B m d xs s _ (hA.below ht) HX.out hn
  have hok := isCrew_ok h1
  have hn7 : n ≤ 7 := by have := hok.seven; omega
  have h1n : 1 ≤ n := by have := hok.one; omega
  have hm8 : m ≤ 8 := by have := hok.rows; omega
  have HW := Lib.hid hok.weights
  have HSM := Lib.hid (crew_small (xs := xs) bs s (by omega))
  have HUP8 := Lib.hid (fun l (hl : l ∈ crewLists xs bs s) => (up_wide (crew_up hl) (by omega) : l ∈ upLists (2 * 4) (2 * 4)))
  have HTB := Lib.hid (cost_bound (bs := bs) (b := true) hok hx)
  rw [cost_true] at HTB
  have HV0 : Hid (leastD (LegE (loadOf xs) 4 (crewLists xs bs s)) (codeOf (trues n) true) 0 = some v0) := by show _ = _; rw [← cost_true]; exact hv
  have H1 := Lib.hid h1
  clear h1 hA hB hx hy hok hv
  obtain ⟨T, hT⟩ : ∃ T, loadOf xs = T := ⟨_, rfl⟩
  obtain ⟨Ls, hLs⟩ : ∃ Ls, crewLists xs bs s = Ls := ⟨_, rfl⟩
  obtain ⟨x, hxx⟩ : ∃ x, codeOf (trues n) true = x := ⟨_, rfl⟩
  obtain ⟨k, hk⟩ : ∃ k, Ls.length = k := ⟨_, rfl⟩
  rw [hT, hLs, hxx] at HV0
  rw [hLs] at HSM HUP8
  rw [hT, hLs] at HTB
  have HLD := Lib.hid hLs
  have HXC := Lib.hid hxx
  have HKD := Lib.hid hk
  have HTT := Lib.hid hT
  have HPS : Hid (∀ (E : Option Addr) (cE mb : Nat) (w' : World), w'.ownsRow w.heap.size 89 9 (.slice E k cE) k (legsCells T Ls) → PlaceMap w' mb (leastD (LegE T 4 Ls) x) → Below w.heap.size w w' → CarPost xs bs s n w (.returned (.tuple #[.agg (routeC E k cE x mb), .bool true])) w') := fun E cE mb w' g1 g2 g3 => ⟨E, cE, mb, by rw [HLD.out, HKD.out, HXC.out], by rw [HLD.out, HKD.out, hT]; exact g1, by rw [costM, cost_true, HLD.out, HXC.out, hT]; exact g2, g3⟩
  clear hLs hxx hk
  have hcl := fun W hA hB => crewLegsC_any A n kA B m d xs bs s W hA hB HX.out HY.out h1n hn7 hm8 HW.out hkA hkB
  clear hcl
  go_enter Try.func104, Try.ntmps104
  go_wp2_with fail
  refine hic.mono ?_
  clear hic
  rintro e w1 ⟨rfl, hb⟩
  rw [H1.out]
  replace ht := below_then ht hb ht.size
  replace hq := hq.below hb
  replace hr := hr.below hb
  clear hb
  go_upto_region 3 with fail
  go_wp2_with fail
  refine wp_region_held_drew (S := (Box3 w.heap.size (.slice A n kA) (.slice B m d) (.int .i64 s))) (by kernel_rfl) (box3_of hq.drew) (fun hHeld => ?_)
  replace hq := hq.drew
  replace hr := hr.drew
  replace ht := ht.drew
  generalize World.drew w1 = wd at hq hr ht hHeld ⊢
  have hwd := ht.size
  refine wpAnyH_take (i := 0) (v := ?_) rfl (by kernel_rfl) (by kernel_rfl) (by kernel_rfl) (fun _ _ _ h => h) (Or.inl ⟨rfl, ?_⟩) hHeld ?_
  rotate_left
  · intro w' hS; obtain ⟨s0, s1, s2⟩ := hS; go_simp <;> with_reducible rfl
  simp only [Act.put, List.getElem_toArray, List.getElem_cons_succ, List.getElem_cons_zero, List.setIfInBounds_toArray, List.set_cons_succ, List.set_cons_zero]
  refine wpAnyH_take (i := 2) (v := ?_) rfl (by kernel_rfl) (by kernel_rfl) (by kernel_rfl) (fun _ _ _ h => h) (Or.inl ⟨rfl, ?_⟩) hHeld ?_
  rotate_left
  · intro w' hS; obtain ⟨s0, s1, s2⟩ := hS; go_simp <;> with_reducible rfl
  simp only [Act.put, List.getElem_toArray, List.getElem_cons_succ, List.getElem_cons_zero, List.setIfInBounds_toArray, List.set_cons_succ, List.set_cons_zero]
  refine wpAnyH_take (i := 3) (v := ?_) rfl (by kernel_rfl) (by kernel_rfl) (by kernel_rfl) (fun _ _ _ h => h) (Or.inl ⟨rfl, ?_⟩) hHeld ?_
  rotate_left
  · intro w' hS; obtain ⟨s0, s1, s2⟩ := hS; go_simp <;> with_reducible rfl
  simp only [Act.put, List.getElem_toArray, List.getElem_cons_succ, List.getElem_cons_zero, List.setIfInBounds_toArray, List.set_cons_succ, List.set_cons_zero]
  refine wpAnyH_take (i := 4) (v := ?_) rfl (by kernel_rfl) (by kernel_rfl) (by kernel_rfl) (fun _ _ _ h => h) (Or.inl ⟨rfl, ?_⟩) hHeld ?_
  rotate_left
  · intro w' hS; obtain ⟨s0, s1, s2⟩ := hS; go_simp <;> with_reducible rfl
  simp only [Act.put, List.getElem_toArray, List.getElem_cons_succ, List.getElem_cons_zero, List.setIfInBounds_toArray, List.set_cons_succ, List.set_cons_zero]
  refine wpAnyH_ready (rs := [1]) (by kernel_rfl) (by simp) (AllReadyH.cons rfl (fun K hK => ?_) AllReadyH.nil)
  go_simp
  refine (crewLegsC_any A n kA B m d xs bs s _ (HA.out.below ht) (HB.out.below ht) HX.out HY.out h1n hn7 hm8 HW.out hkA hkB).mono ?_
  rintro e9 wdl ⟨E, cE, rfl, hown, hb⟩
  rw [HLD.out] at hown ⊢
  rw [HTT.out] at hown
  replace hq := hq.below hb
  replace hr := hr.below hb
  replace ht := below_then ht hb ht.size
  clear hb
  refine hK.out _ _ (box3_of hq) (fun hHeld => ?_)
  clear hK K
  try simp only [Act.put, List.getElem_toArray, List.getElem_cons_succ, List.getElem_cons_zero, List.setIfInBounds_toArray, List.set_cons_succ, List.set_cons_zero]
  refine wpAnyH_ready (rs := [5]) (by kernel_rfl) (by simp) (AllReadyH.cons rfl (fun K hK => ?_) AllReadyH.nil)
  go_simp
  refine (routesBy_any T _ E cE Ls n _ hown HSM.out HUP8.out HTB.out h1n (by omega)).mono ?_
  rintro e9 wdlr ⟨mb, rfl, hown2, hmap, hb⟩
  rw [HKD.out] at hown2
  rw [HXC.out] at hmap
  rw [HXC.out, HKD.out]
  have HO2 := Lib.hid hown2
  have HM2 := Lib.hid hmap
  clear hown hown2 hmap
  replace hq := hq.below hb
  replace hr := hr.below hb
  replace ht := below_then ht hb ht.size
  clear hb
  refine hK.out _ _ (box3_of hq) (fun hHeld => ?_)
  clear hK K
  try simp only [Act.put, List.getElem_toArray, List.getElem_cons_succ, List.getElem_cons_zero, List.setIfInBounds_toArray, List.set_cons_succ, List.set_cons_zero]
  refine wpAnyH_ready (rs := [6]) (by kernel_rfl) (by simp) (AllReadyH.cons rfl (fun K hK => ?_) AllReadyH.nil)
  go_simp
  refine (ifPlanned_yes E k cE x mb _ v0 _ HM2.out HV0.out).mono ?_
  rintro e9 wdlrp ⟨rfl, hb⟩
  have HO3 := Lib.hid (ownsRow_below HO2.out hb)
  have HM3 := Lib.hid (HM2.out.below hb)
  unfold routeC
  replace hq := hq.below hb
  replace hr := hr.below hb
  replace ht := below_then ht hb ht.size
  clear hb
  refine hK.out _ _ (box3_of hq) (fun hHeld => ?_)
  clear hK K
  try simp only [Act.put, List.getElem_toArray, List.getElem_cons_succ, List.getElem_cons_zero, List.setIfInBounds_toArray, List.set_cons_succ, List.set_cons_zero]
  refine wpAnyH_take (i := 7) (v := ?_) rfl (by kernel_rfl) (by kernel_rfl) (by kernel_rfl) (fun _ _ _ h => h) (Or.inl ⟨rfl, ?_⟩) hHeld ?_
  rotate_left
  · intro w' hS; obtain ⟨s0, s1, s2⟩ := hS; go_simp <;> with_reducible rfl
  simp only [Act.put, List.getElem_toArray, List.getElem_cons_succ, List.getElem_cons_zero, List.setIfInBounds_toArray, List.set_cons_succ, List.set_cons_zero]
  refine wpAnyH_take (i := 8) (v := ?_) rfl (by kernel_rfl) (by kernel_rfl) (by kernel_rfl) (fun _ _ _ h => h) (Or.inl ⟨rfl, ?_⟩) hHeld ?_
  rotate_left
  · intro w' hS; obtain ⟨s0, s1, s2⟩ := hS; go_simp <;> with_reducible rfl
  simp only [Act.put, List.getElem_toArray, List.getElem_cons_succ, List.getElem_cons_zero, List.setIfInBounds_toArray, List.set_cons_succ, List.set_cons_zero]
  refine wpAnyH_ready (rs := [9]) (by kernel_rfl) (by simp) (AllReadyH.cons rfl (fun K hK => ?_) AllReadyH.nil)
  refine wp_store_row 78 (.tmp 2) (.tmp 15) rfl (w.heap.size + 1) #[.slice E k cE, .bool (pf 4 x 0), .bool (pf 4 x 1), .bool (pf 4 x 2), .bool (pf 4 x 3), .bool (pf 4 x 4), .bool (pf 4 x 5), .bool (pf 4 x 6), .bool (pf 4 x 7), .bool (pt x), .map (some mb)] rfl rfl 78 #[.slice none 0 0, .bool false, .bool false, .bool false, .bool false, .bool false, .bool false, .bool false, .bool false, .bool false, .map none] hr size_routes rfl (by simp [Value.oneCell']) ?_
  have o9 := only_setRow wdlrp (w.heap.size + 1) #[.slice E k cE, .bool (pf 4 x 0), .bool (pf 4 x 1), .bool (pf 4 x 2), .bool (pf 4 x 3), .bool (pf 4 x 4), .bool (pf 4 x 5), .bool (pf 4 x 6), .bool (pf 4 x 7), .bool (pt x), .map (some mb)]
  have r9 := whole_setRow #[.slice E k cE, .bool (pf 4 x 0), .bool (pf 4 x 1), .bool (pf 4 x 2), .bool (pf 4 x 3), .bool (pf 4 x 4), .bool (pf 4 x 5), .bool (pf 4 x 6), .bool (pf 4 x 7), .bool (pt x), .map (some mb)] hr
  have q9 := o9.whole hq (by omega)
  have t9 := o9.below ht (by omega)
  have m9 := map_only HM3.out o9 hr
  have l9 := own_only HO3.out o9 hr (by decide)
  generalize World.setRow wdlrp (w.heap.size + 1) #[.slice E k cE, .bool (pf 4 x 0), .bool (pf 4 x 1), .bool (pf 4 x 2), .bool (pf 4 x 3), .bool (pf 4 x 4), .bool (pf 4 x 5), .bool (pf 4 x 6), .bool (pf 4 x 7), .bool (pt x), .map (some mb)] = w9 at o9 r9 q9 t9 m9 l9 ⊢
  refine hK.out _ _ (box3_of q9) (fun hHeld => ?_)
  clear hK K
  try simp only [Act.put, List.getElem_toArray, List.getElem_cons_succ, List.getElem_cons_zero, List.setIfInBounds_toArray, List.set_cons_succ, List.set_cons_zero]
  refine wpAnyH_take (i := 10) (v := ?_) rfl (by kernel_rfl) (by kernel_rfl) (by kernel_rfl) (fun _ _ _ h => h) (Or.inl ⟨rfl, ?_⟩) hHeld ?_
  rotate_left
  · intro w' hS; obtain ⟨s0, s1, s2⟩ := hS; go_simp <;> with_reducible rfl
  simp only [Act.put, List.getElem_toArray, List.getElem_cons_succ, List.getElem_cons_zero, List.setIfInBounds_toArray, List.set_cons_succ, List.set_cons_zero]
  refine wpAnyH_done (by kernel_rfl) ?_ _
  clear hHeld
  have HT9 := Lib.hid t9
  obtain ⟨c0, c1, c2, c3, c4, c5, c6, c7, c8, c9, c10⟩ := cells11 r9
  have HM9 := Lib.hid m9
  have HO9 := Lib.hid l9
  clear o9 q9 t9 m9 l9
  clear r9
  go_wp2
  exact bodyPost_ret (v := .tuple #[.agg #[.slice E k cE, .bool (pf 4 x 0), .bool (pf 4 x 1), .bool (pf 4 x 2), .bool (pf 4 x 3), .bool (pf 4 x 4), .bool (pf 4 x 5), .bool (pf 4 x 6), .bool (pf 4 x 7), .bool (pt x), .map (some mb)], .bool true]) (by simp [results, Try.results104, go_sem, c0, c1, c2, c3, c4, c5, c6, c7, c8, c9, c10]) rfl (HPS.out E cE mb _ (own_lower HO9.out (by omega)) HM9.out HT9.out)
end Go.Proofs.Ytlpeimlbpiofkaa

namespace Go.Proofs.Ytlpeimlbpiofkaa
open Go.RowKit

/-- What a call hands back that makes a list of rows. -/
def LPostR (ls : List (List Int)) (w : World) (e : Ending) (w' : World) : Prop :=
  ∃ (A : Option Addr) (c : Nat) (rs : List RowV), e = .returned (.slice A rs.length c) ∧ rowNums rs = ls ∧ Heads w' w.heap.size A c rs ∧ Below w.heap.size w w'
theorem own_apartR {w : World} {base size n b : Nat} {e t : TypeId} {v : Value} {xs : List Value} {cs : Array Value} (h : w.ownsRow base e size v n xs) (hb : Whole w b t cs) (hn : t ≠ e) : v.ownBlock ≠ some b := by
  obtain ⟨-, ⟨hv, -⟩ | ⟨q, cap, cur, hv, hq, hh, r⟩⟩ := h
  · rw [hv]; simp [Value.ownBlock]
  · have hw : Whole w q e cur := hh
    have h1 := whole_ne hb hw hn
    rw [hv]
    simp only [Value.ownBlock, Option.map_some]
    exact fun e => h1 (Option.some.inj e).symm
theorem Fresh.kept_rowR {w w' : World} {lo hi base size n : Nat} {ty e : TypeId} {A : Option Addr} {v : Value} {xs ys : List Value} (hf : Fresh w lo hi ty A xs) (hg : w.grownBy w' v.ownBlock) (ho : w.ownsRow base e size v n ys) (hne : ty ≠ e) : Fresh w' lo hi ty A xs := by
  rcases hf with rfl | ⟨g, cs, hA, h1, h2, hw, h3, h4⟩
  · exact .inl rfl
  · exact .inr ⟨g, cs, hA, h1, h2, whole_apart hw hg (fun e => own_apartR ho hw hne e.symm), h3, h4⟩
theorem Heads.set_lowR {w : World} {lo c b : Nat} {A : Option Addr} {rs : List RowV} (h : Heads w lo A c rs) (hb : b < lo) (o : Nat) (u : Value) : Heads (w.setCell ⟨b, o, none⟩ u) lo A c rs := by
  obtain ⟨h1, ps, ⟨k1, k2, k3⟩, h3, h4⟩ := h
  refine ⟨ownsRow_setCell_below h1 (a := ⟨b, o, none⟩) hb u, ps, ⟨k1, fun k r p hk hp => ⟨(k2 k r p hk hp).1.set_out (.inl (by have := (h3 p (List.mem_of_getElem? hp)).1; omega)), (k2 k r p hk hp).2⟩, k3⟩, fun p hp => ⟨(h3 p hp).1, by have := (h3 p hp).2; simpa [World.setCell] using this⟩, h4⟩
theorem Heads.row_freshR {w : World} {lo c : Nat} {A : Option Addr} {rs : List RowV} (h : Heads w lo A c rs) : ∀ r ∈ rs, Fresh w lo w.heap.size 3 r.A (nums r.xs) ∧ r.xs.length = r.n ∧ r.n ≤ 1048576 := by
  obtain ⟨-, ps, ⟨k1, k2, -⟩, h3, -⟩ := h
  intro r hr
  obtain ⟨i, hi, rfl⟩ := List.getElem_of_mem hr
  have hp : i < ps.length := by omega
  obtain ⟨f1, f2, f3⟩ := k2 i rs[i] ps[i] (by simp [hi]) (by simp [hp])
  obtain ⟨h4, h5⟩ := h3 ps[i] (List.getElem_mem hp)
  exact ⟨f1.more h4 h5, f2, f3⟩
def TwoR (g : Nat) (x y : Value) (w : World) : Prop := w.cell? ⟨g, 0, none⟩ = some x ∧ w.cell? ⟨g, 1, none⟩ = some y
theorem two_ofR {g : Nat} {t : TypeId} {x y : Value} {w : World} (h1 : Whole w g t #[x, y]) : TwoR g x y w := ⟨h1.cell 0, h1.cell 1⟩
theorem goB_smallR {T : List Int → Int} {L : List (List Int)} {M : Nat → Option Int} (hL : ∀ l ∈ L, l.length ≤ 8) : (goB T L M 512 0).length ≤ 1048576 ∧ ((goB T L M 512 0).map List.length).sum ≤ 1048576 := by
  have h1 := goB_len T L M 512 0
  have h2 := sum_lens (ls := goB T L M 512 0) (k := 8) fun l hl => hL l (goB_mem _ _ l hl)
  exact ⟨by omega, by omega⟩
end Go.Proofs.Ytlpeimlbpiofkaa
