/-
  What is proved: the given statement on FnExactBestFirstTrips: at every argument of its kinds the law returns true and the arguments read as before. Conditions: none beyond the statement's own.
  Beside it, what it stands on:
  What is proved: the contract of the model's seNext: the trips in a state that are on a way of least time. Conditions: at most eight people, at most eight seats; each person's time is from 1 to 1000; what is left is told by a list, up to 512000.
  What is proved: contracts of the program's BestFirstTrips. Conditions: the party's times are read as they lie.
  What is proved: contracts of the program's firstPlan and FirstBest: the way along the first trips that lose no time. Conditions: the party's times are read as they lie.
  What is proved: contracts of the model's BestFirstTrips, seBest and FirstBest. Conditions: the party's times are read as they lie.
  What is proved: how long the lists are that FirstBest and BestFirstTrips come to. Conditions: none.
  What is proved: the law FnExactBestFirstTrips returns true at every argument, and leaves all that was there as it was. Conditions: the arguments are read as they lie.
-/
import Derived.Deep.RegionHeld3
import Derived.JoinedOf
import Derived.Test.YtlpeimlbpiofkaaJ3FirstBest
set_option linter.unusedSimpArgs false
set_option linter.unusedVariables false
namespace Go.Proofs.Ytlpeimlbpiofkaa
open Go.RowKit

/-- Is a trip on a way of least time? -/
def nextOk (T : List Int → Int) (o : List Int) (bs : List Bool) (t : Bool) (l : List Int) : Bool := decide (0 ≤ farS o (flipped bs l) (!t)) && decide (farS o (flipped bs l) (!t) + T l = farS o bs t)
/-- What seNext hands back. -/
def NextPost (ls : List (List Int)) (w : World) (e : Ending) (w' : World) : Prop :=
  ∃ (A : Option Addr) (c : Nat) (rs : List RowV), e = .returned (.slice A rs.length c) ∧ rowNums rs = ls ∧ Heads w' w.heap.size A c rs ∧ Below w.heap.size w w'
theorem rows_chosen (f : List Int → Bool) (rs : List RowV) : rowNums (rs.filter (fun r => f r.xs)) = (rowNums rs).filter f := by
  rw [rowNums, rowNums, List.filter_map]; rfl

set_option maxHeartbeats 12800000 in
set_option maxRecDepth 100000 in
set_option linter.unusedVariables false in
set_option linter.unusedSimpArgs false in
theorem seNext_any (A B : Option Addr) (n c q d gF zc : Nat) (xs o : List Int) (bs : List Bool) (t : Bool) (w : World) (hA : Holds w A (nums xs)) (hB0 : Holds w B (bits bs)) (hF0 : Whole w gF 3 (nums o).toArray) (hx : xs.length = n) (hy : bs.length = n) (h1 : 1 ≤ n) (hn : n ≤ 8) (hq : q ≤ 8) (hxs : ∀ y ∈ xs, 1 ≤ y ∧ y ≤ 1000) (hol : o.length = 2 ^ (n + 1)) (hob : ∀ i, -1 ≤ o.getD i (-1) ∧ o.getD i (-1) ≤ 512000) :
    Calls Try.prog 67 #[.agg #[.slice A n c, .int .i64 (q : Int)], .slice (some ⟨gF, 0, none⟩) o.length zc, .agg #[.slice B n d, .bool t]] w (NextPost (nextO (slowOf xs) (upLists n q) o bs t) w) := by
  obtain ⟨T, hT⟩ : ∃ T, T = slowOf xs := ⟨_, rfl⟩
  obtain ⟨bB, oB, rfl, -, hBc⟩ : ∃ bB oB, B = some ⟨bB, oB, none⟩ ∧ True ∧ ∀ j u, (bits bs)[j]? = some u → w.cell? ⟨bB, oB + j, none⟩ = some u := by
    rcases hB0 with h | ⟨bB, oB, h, -, h3⟩
    · have h2 := congrArg List.length h
      simp [bits] at h2
      subst h2
      simp at hy
      omega
    · exact ⟨bB, oB, h, trivial, h3⟩
  obtain ⟨i1, hi1, hy0, hy1, hy2⟩ := info_parts info_row
  have HI1 := Lib.hid hi1
  have HY0 := Lib.hid hy0
  have HY1 := Lib.hid hy1
  have HY2 := Lib.hid hy2
  have HX := Lib.hid hx
  have HY := Lib.hid hy
  have HOL := Lib.hid hol
  have HOB := Lib.hid hob
  have HA := Lib.hid hA
  have HB := Lib.hid hB0
  have HXS := Lib.hid (fun y hy => (hxs y hy).1)
  have HXB := Lib.hid (fun y hy => (hxs y hy).2)
  have HTD := Lib.hid hT
  have HNO : Hid ((subs q (hereTo bs t n) []).filter (nextOk T o bs t) = nextO T (upLists n q) o bs t) := trips_next T n q o bs t
  rw [← HTD.out]
  obtain ⟨z, hz⟩ : ∃ z, o.length = z := ⟨_, rfl⟩
  rw [hz]
  have HZ := Lib.hid hz
  have h0 := (Whole.fresh w 28 #[.slice A n c, .int .i64 (q : Int)]).alloc (.cells #[.slice (some ⟨bB, oB, none⟩) n d, .bool t] 44)
  have hs0 := Whole.fresh (w.alloc (.cells #[.slice A n c, .int .i64 (q : Int)] 28)) 44 #[.slice (some ⟨bB, oB, none⟩) n d, .bool t]
  rw [World.size_alloc] at hs0
  have hbw := below2 w (.cells #[.slice A n c, .int .i64 (q : Int)] 28) (.cells #[.slice (some ⟨bB, oB, none⟩) n d, .bool t] 44)
  have HBW0 := Lib.hid hbw
  have HFL0 := Lib.hid (hF0.below hbw)
  have HB2 := Lib.hid (hB0.below hbw)
  have HH0 := Lib.hid h0
  have HH1 := Lib.hid hs0
  obtain ⟨c0, c1⟩ := h0.cells2
  have hcl := h0.lt
  obtain ⟨e0, e1, -, -⟩ := hs0.two
  have hel := hs0.lt
  clear hi1 hy0 hy1 hy2 hx hy hA hB0 hF0 hxs hol hob hbw h0 hs0 hBc hT hz
  go_enter Try.func67, Try.ntmps67
  go_wp2_with fail
  refine (paTrips_any A (some ⟨bB, oB, none⟩) n c n d q bs t _ HB2.out HY.out hn hq).mono ?_
  rintro e w4 ⟨A4, c4, rs4, rfl, hr4, -, -, hh4, hb4⟩
  have hrl : rs4.length ≤ 255 := by
    have h1 := congrArg List.length hr4
    rw [rowNums_len] at h1
    rw [h1]
    have h2 := subs_len q (hereTo bs t n) []
    have h3 := here_len bs t n
    have h4 : 2 ^ (hereTo bs t n).length ≤ 2 ^ 8 := Nat.pow_le_pow_right (by omega) (by omega)
    omega
  have HUP : Hid (∀ r ∈ rs4, r.xs ∈ upLists n q) := fun r hr => by
    have h3 : r.xs ∈ tripsIn n (q : Int) bs t := by show r.xs ∈ subs q (hereTo bs t n) []; rw [← hr4]; exact List.mem_map.2 ⟨r, hr, rfl⟩
    exact ((trips_mem n q _ _ _).1 h3).1
  have HR4 := Lib.hid hr4
  have HH4 := Lib.hid hh4
  have HB4 := Lib.hid (below_then HBW0.out hb4 HBW0.out.size)
  have HC4 := Lib.hid (HH0.out.below hb4)
  have HS4 := Lib.hid (HH1.out.below hb4)
  have HF4 := Lib.hid (HFL0.out.below hb4)
  have HZ4 : Hid (w.heap.size + 2 ≤ w4.heap.size) := by show _ ≤ _; have := hb4.size; simpa using this
  have HRZ := Lib.hid hb4.size
  clear hr4 hh4 hb4 c0 c1 e0 e1 hcl hel
  go_wp2
  go_loopw [7, 15] (fun v i wx => ∃ (j : Nat) (F5 : Option Addr) (c5 : Nat), j ≤ rs4.length ∧ i = .int .i64 j ∧ v = .slice F5 ((rs4.take j).filter (fun r => nextOk T o bs t r.xs)).length c5 ∧ wx.ownsRow w4.heap.size 22 1 (.slice F5 ((rs4.take j).filter (fun r => nextOk T o bs t r.xs)).length c5) ((rs4.take j).filter (fun r => nextOk T o bs t r.xs)).length (rowVals ((rs4.take j).filter (fun r => nextOk T o bs t r.xs))) ∧ Below w4.heap.size w4 wx) (fun _ i _ => rs4.length - (intOf i).toNat)
  case atStart => exact ⟨0, none, 0, Nat.zero_le _, rfl, rfl, World.ownsRow_nil _ _ _ _, Below.refl _ _⟩
  case round =>
    obtain ⟨j, F5, c5, hj, rfl, rfl, hown, hbr0⟩ := hrel
    obtain ⟨wv, rfl⟩ : ∃ X : World, X = wr := ⟨_, rfl⟩
    have hsl2 : ((rs4.take j).filter (fun r => nextOk T o bs t r.xs)).length ≤ 255 := Nat.le_trans (List.length_filter_le _ _) (by rw [List.length_take]; omega)
    by_cases hlt : j < rs4.length
    · have hd : decide ((j : Int) < (rs4.length : Int)) = true := by simp; omega
      obtain ⟨b5, o5, rfl, hbl5, hcell5, hrow5, hrl5, hrn5⟩ := (HH4.out.free.grid.below hbr0).look hlt
      have hnx : ∀ f : RowV → Bool, (rs4.take (j + 1)).filter f = (rs4.take j).filter f ++ (if f rs4[j] then [rs4[j]] else []) := fun f => by
        rw [List.take_succ_eq_append_getElem hlt, List.filter_append]
        by_cases hf : f rs4[j] = true <;> simp [hf]
      have HNX := Lib.hid (hnx (fun r => nextOk T o bs t r.xs))
      clear hnx
      have hup := HUP.out rs4[j] (List.getElem_mem hlt)
      generalize ((rs4.take j).filter (fun r => nextOk T o bs t r.xs)) = sel at hown hsl2 HNX ⊢
      have HOWN := Lib.hid hown
      have HBR := Lib.hid hbr0
      have HBW := Lib.hid (below_then HB4.out hbr0 HB4.out.size)
      have HQ := Lib.hid (HC4.out.below hbr0)
      have HS := Lib.hid (HS4.out.below hbr0)
      have HFL := Lib.hid (HF4.out.below hbr0)
      obtain ⟨e0, e1, -, -⟩ := HS.out.two
      have hel := HS.out.lt
      have hfl := HFL.out.lt
      generalize hrj : rs4[j] = rr at hcell5 hrow5 hrl5 hrn5 HNX hup
      clear hrj hown hbr0
      obtain ⟨rA, rn, rc, rx⟩ := rr
      simp only [RowV.val] at hcell5 hrow5 hrl5 hrn5 hup
      have HRW := Lib.hid hrow5
      have HRL := Lib.hid hrl5
      have HST1 := Lib.hid (up_steps hup).1
      obtain ⟨y, hy⟩ : ∃ y, num (flipped bs rx) (!t).toNat = y := ⟨_, rfl⟩
      obtain ⟨x0, hx0⟩ : ∃ y, num bs t.toNat = y := ⟨_, rfl⟩
      have hyz : y < 2 ^ (n + 1) := by have h := num_lt (flipped bs rx) (!t); rw [flipped_len, HY.out, hy] at h; exact h
      have hxz : x0 < 2 ^ (n + 1) := by have h := num_lt bs t; rw [HY.out, hx0] at h; exact h
      have hyz2 : y < z := by rw [← HZ.out, HOL.out]; exact hyz
      have hxz2 : x0 < z := by rw [← HZ.out, HOL.out]; exact hxz
      obtain ⟨v, hv⟩ : ∃ v, o.getD y (-1) = v := ⟨_, rfl⟩
      obtain ⟨f0, hf0⟩ : ∃ v, o.getD x0 (-1) = v := ⟨_, rfl⟩
      have hvb := HOB.out y
      rw [hv] at hvb
      obtain ⟨tm, htm⟩ : ∃ tm, slowOf xs rx = tm := ⟨_, rfl⟩
      have htb := slow_boundF (xs := xs) (l := rx) HXS.out HXB.out
      rw [htm] at htb
      have HOK : Hid (nextOk T o bs t rx = (decide (0 ≤ v) && decide (v + tm = f0))) := by show _ = _; rw [nextOk, farS, farS, hy, hx0, hv, hf0, HTD.out, htm]
      have HX0 := Lib.hid hx0
      have HY9 := Lib.hid hy
      have HT9 := Lib.hid htm
      have HF0 : Hid (o.getD x0 0 = f0) := by show _ = _; rw [getD_m1 (by rw [HOL.out]; exact hxz)]; exact hf0
      have HV0 : Hid (o.getD y 0 = v) := by show _ = _; rw [getD_m1 (by rw [HOL.out]; exact hyz)]; exact hv
      have hwrp : IntKind.i64.wrap (v + tm) = v + tm := IntWalk.i64_in _ (by omega)
      have HBC : Hid (∀ j u, (bits bs)[j]? = some u → wv.cell? ⟨bB, oB + j, none⟩ = some u) := fun j u hu => by
        rcases HB.out.below HBW.out with h | ⟨b9, o9, h9, -, hcell⟩
        · rw [h] at hu; simp at hu
        · cases h9; exact hcell j u hu
      clear hrow5 hrl5 hup hy hx0 hv hf0 htm
      go_wp2_with fail
      refine (paCross_any bB oB n d rA rn rc bs rx t wv HBC.out HY.out (by omega) (by omega) HRW.out HRL.out hrn5 HST1.out).mono ?_
      rintro e wa ⟨A3, c3, rfl, hf3, hba⟩
      go_wp2_with fail
      refine (seIndex_any A3 (flipped bs rx).length c3 (flipped bs rx) (!t) wa hf3.holds rfl (by rw [flipped_len, HY.out]; exact hn)).mono ?_
      rintro e wb ⟨rfl, hbb⟩
      rw [HY9.out]
      have hbx := below_then hba hbb hba.size
      have HBB := Lib.hid hbx
      have k0 := num_cellF (v := v) (HFL.out.below hbx) (i := y) (by rw [HOL.out]; exact hyz) HV0.out
      have hfl2 := (HFL.out.below hbx).lt
      have hyi : (y : Int) < (z : Int) := by omega
      have hxi : (x0 : Int) < (z : Int) := by omega
      clear hba hbb hbx hf3 e0 e1 hel hfl hcell5 hbl5
      by_cases hv0 : 0 ≤ v
      · have hdv : decide (0 ≤ v) = true := by simpa using hv0
        by_cases heq : v + tm = f0
        · have HS9 := Lib.hid (HNX.out.trans (by simp [HOK.out, hv0, heq] : sel ++ (if (fun r : RowV => nextOk T o bs t r.xs) (⟨rA, rn, rc, rx⟩ : RowV) then [(⟨rA, rn, rc, rx⟩ : RowV)] else []) = sel ++ [(⟨rA, rn, rc, rx⟩ : RowV)]))
          have HSL1 : Hid ((sel ++ [(⟨rA, rn, rc, rx⟩ : RowV)]).length = sel.length + 1) := by show _ = _; simp
          have HSV : Hid (rowVals (sel ++ [(⟨rA, rn, rc, rx⟩ : RowV)]) = rowVals sel ++ [.slice rA rn rc]) := by show _ = _; simp [rowVals, RowV.val]
          have hbq : (v + tm == f0) = true := by simpa using heq
          clear heq HNX
          go_upto_region 6 with fail
          clear k0 hfl2
          refine wp_region_held_drew (S := (fun w' => Two w.heap.size (.slice A n c) (.int .i64 (q : Int)) w' ∧ Two (w.heap.size + 1) (.slice (some ⟨bB, oB, none⟩) n d) (.bool t) w' ∧ w'.cell? ⟨gF, x0, none⟩ = some (.int .i64 f0))) (by kernel_rfl) ⟨two_of (HQ.out.below (below_then HBB.out (Below.refl wb.heap.size wb).drew HBB.out.size)), two_of (HS.out.below (below_then HBB.out (Below.refl wb.heap.size wb).drew HBB.out.size)), num_cellF (v := f0) (HFL.out.below (below_then HBB.out (Below.refl wb.heap.size wb).drew HBB.out.size)) (i := x0) (by rw [HOL.out]; omega) HF0.out⟩ (fun hHeld => ?_)
          have hbr := below_then HBB.out (Below.refl wb.heap.size wb).drew HBB.out.size
          generalize World.drew wb = wd at hbr hHeld ⊢
          refine wpAnyH_take (i := 0) (v := ?_) rfl (by kernel_rfl) (by kernel_rfl) (by kernel_rfl) (fun _ _ _ h => h) (Or.inl ⟨rfl, ?_⟩) hHeld ?_
          rotate_left
          · intro w' hS; obtain ⟨⟨s0, s1⟩, ⟨s2, s3⟩, s4⟩ := hS; go_simp <;> with_reducible rfl
          simp only [Act.put, List.getElem_toArray, List.getElem_cons_succ, List.getElem_cons_zero, List.setIfInBounds_toArray, List.set_cons_succ, List.set_cons_zero]
          refine wpAnyH_take (i := 1) (v := ?_) rfl (by kernel_rfl) (by kernel_rfl) (by kernel_rfl) (fun _ _ _ h => h) (Or.inl ⟨rfl, ?_⟩) hHeld ?_
          rotate_left
          · intro w' hS; obtain ⟨⟨s0, s1⟩, ⟨s2, s3⟩, s4⟩ := hS; go_simp <;> with_reducible rfl
          simp only [Act.put, List.getElem_toArray, List.getElem_cons_succ, List.getElem_cons_zero, List.setIfInBounds_toArray, List.set_cons_succ, List.set_cons_zero]
          refine wpAnyH_take (i := 2) (v := ?_) rfl (by kernel_rfl) (by kernel_rfl) (by kernel_rfl) (fun _ _ _ h => h) (Or.inl ⟨rfl, ?_⟩) hHeld ?_
          rotate_left
          · intro w' hS; obtain ⟨⟨s0, s1⟩, ⟨s2, s3⟩, s4⟩ := hS; go_simp <;> with_reducible rfl
          simp only [Act.put, List.getElem_toArray, List.getElem_cons_succ, List.getElem_cons_zero, List.setIfInBounds_toArray, List.set_cons_succ, List.set_cons_zero]
          refine wpAnyH_take (i := 3) (v := ?_) rfl (by kernel_rfl) (by kernel_rfl) (by kernel_rfl) (fun _ _ _ h => h) (Or.inl ⟨rfl, ?_⟩) hHeld ?_
          rotate_left
          · intro w' hS; obtain ⟨⟨s0, s1⟩, ⟨s2, s3⟩, s4⟩ := hS; go_simp <;> with_reducible rfl
          simp only [Act.put, List.getElem_toArray, List.getElem_cons_succ, List.getElem_cons_zero, List.setIfInBounds_toArray, List.set_cons_succ, List.set_cons_zero]
          refine wpAnyH_take (i := 4) (v := ?_) rfl (by kernel_rfl) (by kernel_rfl) (by kernel_rfl) (fun _ _ _ h => h) (Or.inl ⟨rfl, ?_⟩) hHeld ?_
          rotate_left
          · intro w' hS; obtain ⟨⟨s0, s1⟩, ⟨s2, s3⟩, s4⟩ := hS; go_simp <;> with_reducible rfl
          simp only [Act.put, List.getElem_toArray, List.getElem_cons_succ, List.getElem_cons_zero, List.setIfInBounds_toArray, List.set_cons_succ, List.set_cons_zero]
          refine wpAnyH_take (i := 5) (v := ?_) rfl (by kernel_rfl) (by kernel_rfl) (by kernel_rfl) (fun _ _ _ h => h) (Or.inl ⟨rfl, ?_⟩) hHeld ?_
          rotate_left
          · intro w' hS; obtain ⟨⟨s0, s1⟩, ⟨s2, s3⟩, s4⟩ := hS; go_simp <;> with_reducible rfl
          simp only [Act.put, List.getElem_toArray, List.getElem_cons_succ, List.getElem_cons_zero, List.setIfInBounds_toArray, List.set_cons_succ, List.set_cons_zero]
          refine wpAnyH_take (i := 8) (v := ?_) rfl (by kernel_rfl) (by kernel_rfl) (by kernel_rfl) (fun _ _ _ h => h) (Or.inl ⟨rfl, ?_⟩) hHeld ?_
          rotate_left
          · intro w' hS; obtain ⟨⟨s0, s1⟩, ⟨s2, s3⟩, s4⟩ := hS; go_simp <;> with_reducible rfl
          simp only [Act.put, List.getElem_toArray, List.getElem_cons_succ, List.getElem_cons_zero, List.setIfInBounds_toArray, List.set_cons_succ, List.set_cons_zero]
          refine wpAnyH_take (i := 9) (v := ?_) rfl (by kernel_rfl) (by kernel_rfl) (by kernel_rfl) (fun _ _ _ h => h) (Or.inl ⟨rfl, ?_⟩) hHeld ?_
          rotate_left
          · intro w' hS; obtain ⟨⟨s0, s1⟩, ⟨s2, s3⟩, s4⟩ := hS; go_simp <;> with_reducible rfl
          simp only [Act.put, List.getElem_toArray, List.getElem_cons_succ, List.getElem_cons_zero, List.setIfInBounds_toArray, List.set_cons_succ, List.set_cons_zero]
          refine wpAnyH_ready (rs := [6]) (by kernel_rfl) (by simp) (AllReadyH.cons rfl (fun K hK => ?_) AllReadyH.nil)
          go_simp
          refine (paTime_any A rA n c rn rc xs rx (q : Int) _ (HA.out.below (below_then HBW.out hbr HBW.out.size)) HX.out (HRW.out.below hbr) HRL.out hrn5 (by omega) HST1.out).mono ?_
          rintro e9 wdp ⟨rfl, hb⟩
          rw [HT9.out]
          replace hbr := below_then hbr hb hbr.size
          clear hb
          refine hK.out _ _ ⟨two_of (HQ.out.below hbr), two_of (HS.out.below hbr), num_cellF (v := f0) (HFL.out.below hbr) (i := x0) (by rw [HOL.out]; omega) HF0.out⟩ (fun hHeld => ?_)
          clear hK K
          try simp only [Act.put, List.getElem_toArray, List.getElem_cons_succ, List.getElem_cons_zero, List.setIfInBounds_toArray, List.set_cons_succ, List.set_cons_zero]
          refine wpAnyH_take (i := 7) (v := ?_) rfl (by kernel_rfl) (by kernel_rfl) (by kernel_rfl) (fun _ _ _ h => h) (Or.inl ⟨rfl, ?_⟩) hHeld ?_
          rotate_left
          · intro w' hS; obtain ⟨⟨s0, s1⟩, ⟨s2, s3⟩, s4⟩ := hS; go_simp <;> with_reducible rfl
          simp only [Act.put, List.getElem_toArray, List.getElem_cons_succ, List.getElem_cons_zero, List.setIfInBounds_toArray, List.set_cons_succ, List.set_cons_zero]
          refine wpAnyH_ready (rs := [10]) (by kernel_rfl) (by simp) (AllReadyH.cons rfl (fun K hK => ?_) AllReadyH.nil)
          go_simp
          refine (seIndex_any (some ⟨bB, oB, none⟩) n d bs t _ (HB.out.below (below_then HBW.out hbr HBW.out.size)) HY.out hn).mono ?_
          rintro e9 wdps ⟨rfl, hb⟩
          rw [HX0.out]
          replace hbr := below_then hbr hb hbr.size
          clear hb
          refine hK.out _ _ ⟨two_of (HQ.out.below hbr), two_of (HS.out.below hbr), num_cellF (v := f0) (HFL.out.below hbr) (i := x0) (by rw [HOL.out]; omega) HF0.out⟩ (fun hHeld => ?_)
          clear hK K
          try simp only [Act.put, List.getElem_toArray, List.getElem_cons_succ, List.getElem_cons_zero, List.setIfInBounds_toArray, List.set_cons_succ, List.set_cons_zero]
          refine wpAnyH_take (i := 11) (v := ?_) rfl (by kernel_rfl) (by kernel_rfl) (by kernel_rfl) (fun _ _ _ h => h) (Or.inl ⟨rfl, ?_⟩) hHeld ?_
          rotate_left
          · intro w' hS; obtain ⟨⟨s0, s1⟩, ⟨s2, s3⟩, s4⟩ := hS; go_simp <;> with_reducible rfl
          simp only [Act.put, List.getElem_toArray, List.getElem_cons_succ, List.getElem_cons_zero, List.setIfInBounds_toArray, List.set_cons_succ, List.set_cons_zero]
          refine wpAnyH_take (i := 12) (v := ?_) rfl (by kernel_rfl) (by kernel_rfl) (by kernel_rfl) (fun _ _ _ h => h) (Or.inl ⟨rfl, ?_⟩) hHeld ?_
          rotate_left
          · intro w' hS; obtain ⟨⟨s0, s1⟩, ⟨s2, s3⟩, s4⟩ := hS; go_simp <;> with_reducible rfl
          simp only [Act.put, List.getElem_toArray, List.getElem_cons_succ, List.getElem_cons_zero, List.setIfInBounds_toArray, List.set_cons_succ, List.set_cons_zero]
          refine wpAnyH_take (i := 13) (v := ?_) rfl (by kernel_rfl) (by kernel_rfl) (by kernel_rfl) (fun _ _ _ h => h) (Or.inl ⟨rfl, ?_⟩) hHeld ?_
          rotate_left
          · intro w' hS; obtain ⟨⟨s0, s1⟩, ⟨s2, s3⟩, s4⟩ := hS; go_simp <;> with_reducible rfl
          simp only [Act.put, List.getElem_toArray, List.getElem_cons_succ, List.getElem_cons_zero, List.setIfInBounds_toArray, List.set_cons_succ, List.set_cons_zero]
          refine wpAnyH_take (i := 14) (v := ?_) rfl (by kernel_rfl) (by kernel_rfl) (by kernel_rfl) (fun _ _ _ h => h) (Or.inl ⟨rfl, ?_⟩) hHeld ?_
          rotate_left
          · intro w' hS; obtain ⟨⟨s0, s1⟩, ⟨s2, s3⟩, s4⟩ := hS; go_simp <;> with_reducible rfl
          simp only [Act.put, List.getElem_toArray, List.getElem_cons_succ, List.getElem_cons_zero, List.setIfInBounds_toArray, List.set_cons_succ, List.set_cons_zero]
          refine wpAnyH_done (by kernel_rfl) ?_ _
          clear hHeld
          have hB6 := below_then HBR.out hbr HBR.out.size
          have hz6 := hB6.size
          have HOW := Lib.hid ((ownsRow_below HOWN.out hbr).alloc (.cells #[.slice rA rn rc] 22))
          have HBX := Lib.hid (hB6.alloc hB6.size (.cells #[.slice rA rn rc] 22))
          have HBASE := Lib.hid (show w4.heap.size ≤ (wdps.alloc (.cells #[.slice rA rn rc] 22)).heap.size by simp; omega)
          have HMAX := Lib.hid (show sel.length + 1 ≤ maxLen by unfold maxLen; omega)
          have HBYT := Lib.hid (show (sel.length + 1) * 24 ≤ 140737488355328 by omega)
          have HCN := Lib.hid (cell_one_new wdps (.slice rA rn rc) 22)
          clear hbr hB6 hz6
          go_wp2_with (at_builtin; refine wpList_append_own _ rfl (.tmp 41) (.tmp 43) 32 rfl w4.heap.size 22 i1 (.slice none 0 0) 1 24 Try.underlying32 HI1.out HY0.out HY1.out HY2.out rfl (by decide) (.slice F5 sel.length c5) sel.length (rowVals sel) rfl HOW.out ⟨wdps.heap.size, 0, none⟩ 1 1 [.slice rA rn rc] rfl rfl HCN.out (by simp [Value.oneCell']) HMAX.out HBYT.out HBASE.out ?_; intro v' w7 hown1 hg1 _; obtain ⟨g2, e2, hv2⟩ := own_form hown1; subst hv2)
          have HBN := Lib.hid (HBX.out.grown hg1 HBASE.out (fun kk hkk => (HOW.out.lt kk hkk).1))
          have HON := Lib.hid hown1
          clear hown1 hg1
          go_roundw
          case rel => exact ⟨j + 1, some ⟨g2, 0, none⟩, e2, by omega, by go_num, by rw [HS9.out, HSL1.out], by rw [HS9.out, HSL1.out, HSV.out]; exact HON.out, HBN.out⟩
          case measure => simp [intOf]; omega
        · have HS9 := Lib.hid (HNX.out.trans (by simp [HOK.out, heq] : sel ++ (if (fun r : RowV => nextOk T o bs t r.xs) (⟨rA, rn, rc, rx⟩ : RowV) then [(⟨rA, rn, rc, rx⟩ : RowV)] else []) = sel))
          have hbq : (v + tm == f0) = false := by simpa using heq
          clear heq HNX
          go_upto_region 6 with fail
          clear k0 hfl2
          refine wp_region_held_drew (S := (fun w' => Two w.heap.size (.slice A n c) (.int .i64 (q : Int)) w' ∧ Two (w.heap.size + 1) (.slice (some ⟨bB, oB, none⟩) n d) (.bool t) w' ∧ w'.cell? ⟨gF, x0, none⟩ = some (.int .i64 f0))) (by kernel_rfl) ⟨two_of (HQ.out.below (below_then HBB.out (Below.refl wb.heap.size wb).drew HBB.out.size)), two_of (HS.out.below (below_then HBB.out (Below.refl wb.heap.size wb).drew HBB.out.size)), num_cellF (v := f0) (HFL.out.below (below_then HBB.out (Below.refl wb.heap.size wb).drew HBB.out.size)) (i := x0) (by rw [HOL.out]; omega) HF0.out⟩ (fun hHeld => ?_)
          have hbr := below_then HBB.out (Below.refl wb.heap.size wb).drew HBB.out.size
          generalize World.drew wb = wd at hbr hHeld ⊢
          refine wpAnyH_take (i := 0) (v := ?_) rfl (by kernel_rfl) (by kernel_rfl) (by kernel_rfl) (fun _ _ _ h => h) (Or.inl ⟨rfl, ?_⟩) hHeld ?_
          rotate_left
          · intro w' hS; obtain ⟨⟨s0, s1⟩, ⟨s2, s3⟩, s4⟩ := hS; go_simp <;> with_reducible rfl
          simp only [Act.put, List.getElem_toArray, List.getElem_cons_succ, List.getElem_cons_zero, List.setIfInBounds_toArray, List.set_cons_succ, List.set_cons_zero]
          refine wpAnyH_take (i := 1) (v := ?_) rfl (by kernel_rfl) (by kernel_rfl) (by kernel_rfl) (fun _ _ _ h => h) (Or.inl ⟨rfl, ?_⟩) hHeld ?_
          rotate_left
          · intro w' hS; obtain ⟨⟨s0, s1⟩, ⟨s2, s3⟩, s4⟩ := hS; go_simp <;> with_reducible rfl
          simp only [Act.put, List.getElem_toArray, List.getElem_cons_succ, List.getElem_cons_zero, List.setIfInBounds_toArray, List.set_cons_succ, List.set_cons_zero]
          refine wpAnyH_take (i := 2) (v := ?_) rfl (by kernel_rfl) (by kernel_rfl) (by kernel_rfl) (fun _ _ _ h => h) (Or.inl ⟨rfl, ?_⟩) hHeld ?_
          rotate_left
          · intro w' hS; obtain ⟨⟨s0, s1⟩, ⟨s2, s3⟩, s4⟩ := hS; go_simp <;> with_reducible rfl
          simp only [Act.put, List.getElem_toArray, List.getElem_cons_succ, List.getElem_cons_zero, List.setIfInBounds_toArray, List.set_cons_succ, List.set_cons_zero]
          refine wpAnyH_take (i := 3) (v := ?_) rfl (by kernel_rfl) (by kernel_rfl) (by kernel_rfl) (fun _ _ _ h => h) (Or.inl ⟨rfl, ?_⟩) hHeld ?_
          rotate_left
          · intro w' hS; obtain ⟨⟨s0, s1⟩, ⟨s2, s3⟩, s4⟩ := hS; go_simp <;> with_reducible rfl
          simp only [Act.put, List.getElem_toArray, List.getElem_cons_succ, List.getElem_cons_zero, List.setIfInBounds_toArray, List.set_cons_succ, List.set_cons_zero]
          refine wpAnyH_take (i := 4) (v := ?_) rfl (by kernel_rfl) (by kernel_rfl) (by kernel_rfl) (fun _ _ _ h => h) (Or.inl ⟨rfl, ?_⟩) hHeld ?_
          rotate_left
          · intro w' hS; obtain ⟨⟨s0, s1⟩, ⟨s2, s3⟩, s4⟩ := hS; go_simp <;> with_reducible rfl
          simp only [Act.put, List.getElem_toArray, List.getElem_cons_succ, List.getElem_cons_zero, List.setIfInBounds_toArray, List.set_cons_succ, List.set_cons_zero]
          refine wpAnyH_take (i := 5) (v := ?_) rfl (by kernel_rfl) (by kernel_rfl) (by kernel_rfl) (fun _ _ _ h => h) (Or.inl ⟨rfl, ?_⟩) hHeld ?_
          rotate_left
          · intro w' hS; obtain ⟨⟨s0, s1⟩, ⟨s2, s3⟩, s4⟩ := hS; go_simp <;> with_reducible rfl
          simp only [Act.put, List.getElem_toArray, List.getElem_cons_succ, List.getElem_cons_zero, List.setIfInBounds_toArray, List.set_cons_succ, List.set_cons_zero]
          refine wpAnyH_take (i := 8) (v := ?_) rfl (by kernel_rfl) (by kernel_rfl) (by kernel_rfl) (fun _ _ _ h => h) (Or.inl ⟨rfl, ?_⟩) hHeld ?_
          rotate_left
          · intro w' hS; obtain ⟨⟨s0, s1⟩, ⟨s2, s3⟩, s4⟩ := hS; go_simp <;> with_reducible rfl
          simp only [Act.put, List.getElem_toArray, List.getElem_cons_succ, List.getElem_cons_zero, List.setIfInBounds_toArray, List.set_cons_succ, List.set_cons_zero]
          refine wpAnyH_take (i := 9) (v := ?_) rfl (by kernel_rfl) (by kernel_rfl) (by kernel_rfl) (fun _ _ _ h => h) (Or.inl ⟨rfl, ?_⟩) hHeld ?_
          rotate_left
          · intro w' hS; obtain ⟨⟨s0, s1⟩, ⟨s2, s3⟩, s4⟩ := hS; go_simp <;> with_reducible rfl
          simp only [Act.put, List.getElem_toArray, List.getElem_cons_succ, List.getElem_cons_zero, List.setIfInBounds_toArray, List.set_cons_succ, List.set_cons_zero]
          refine wpAnyH_ready (rs := [6]) (by kernel_rfl) (by simp) (AllReadyH.cons rfl (fun K hK => ?_) AllReadyH.nil)
          go_simp
          refine (paTime_any A rA n c rn rc xs rx (q : Int) _ (HA.out.below (below_then HBW.out hbr HBW.out.size)) HX.out (HRW.out.below hbr) HRL.out hrn5 (by omega) HST1.out).mono ?_
          rintro e9 wdp ⟨rfl, hb⟩
          rw [HT9.out]
          replace hbr := below_then hbr hb hbr.size
          clear hb
          refine hK.out _ _ ⟨two_of (HQ.out.below hbr), two_of (HS.out.below hbr), num_cellF (v := f0) (HFL.out.below hbr) (i := x0) (by rw [HOL.out]; omega) HF0.out⟩ (fun hHeld => ?_)
          clear hK K
          try simp only [Act.put, List.getElem_toArray, List.getElem_cons_succ, List.getElem_cons_zero, List.setIfInBounds_toArray, List.set_cons_succ, List.set_cons_zero]
          refine wpAnyH_take (i := 7) (v := ?_) rfl (by kernel_rfl) (by kernel_rfl) (by kernel_rfl) (fun _ _ _ h => h) (Or.inl ⟨rfl, ?_⟩) hHeld ?_
          rotate_left
          · intro w' hS; obtain ⟨⟨s0, s1⟩, ⟨s2, s3⟩, s4⟩ := hS; go_simp <;> with_reducible rfl
          simp only [Act.put, List.getElem_toArray, List.getElem_cons_succ, List.getElem_cons_zero, List.setIfInBounds_toArray, List.set_cons_succ, List.set_cons_zero]
          refine wpAnyH_ready (rs := [10]) (by kernel_rfl) (by simp) (AllReadyH.cons rfl (fun K hK => ?_) AllReadyH.nil)
          go_simp
          refine (seIndex_any (some ⟨bB, oB, none⟩) n d bs t _ (HB.out.below (below_then HBW.out hbr HBW.out.size)) HY.out hn).mono ?_
          rintro e9 wdps ⟨rfl, hb⟩
          rw [HX0.out]
          replace hbr := below_then hbr hb hbr.size
          clear hb
          refine hK.out _ _ ⟨two_of (HQ.out.below hbr), two_of (HS.out.below hbr), num_cellF (v := f0) (HFL.out.below hbr) (i := x0) (by rw [HOL.out]; omega) HF0.out⟩ (fun hHeld => ?_)
          clear hK K
          try simp only [Act.put, List.getElem_toArray, List.getElem_cons_succ, List.getElem_cons_zero, List.setIfInBounds_toArray, List.set_cons_succ, List.set_cons_zero]
          refine wpAnyH_take (i := 11) (v := ?_) rfl (by kernel_rfl) (by kernel_rfl) (by kernel_rfl) (fun _ _ _ h => h) (Or.inl ⟨rfl, ?_⟩) hHeld ?_
          rotate_left
          · intro w' hS; obtain ⟨⟨s0, s1⟩, ⟨s2, s3⟩, s4⟩ := hS; go_simp <;> with_reducible rfl
          simp only [Act.put, List.getElem_toArray, List.getElem_cons_succ, List.getElem_cons_zero, List.setIfInBounds_toArray, List.set_cons_succ, List.set_cons_zero]
          refine wpAnyH_take (i := 12) (v := ?_) rfl (by kernel_rfl) (by kernel_rfl) (by kernel_rfl) (fun _ _ _ h => h) (Or.inl ⟨rfl, ?_⟩) hHeld ?_
          rotate_left
          · intro w' hS; obtain ⟨⟨s0, s1⟩, ⟨s2, s3⟩, s4⟩ := hS; go_simp <;> with_reducible rfl
          simp only [Act.put, List.getElem_toArray, List.getElem_cons_succ, List.getElem_cons_zero, List.setIfInBounds_toArray, List.set_cons_succ, List.set_cons_zero]
          refine wpAnyH_take (i := 13) (v := ?_) rfl (by kernel_rfl) (by kernel_rfl) (by kernel_rfl) (fun _ _ _ h => h) (Or.inl ⟨rfl, ?_⟩) hHeld ?_
          rotate_left
          · intro w' hS; obtain ⟨⟨s0, s1⟩, ⟨s2, s3⟩, s4⟩ := hS; go_simp <;> with_reducible rfl
          simp only [Act.put, List.getElem_toArray, List.getElem_cons_succ, List.getElem_cons_zero, List.setIfInBounds_toArray, List.set_cons_succ, List.set_cons_zero]
          refine wpAnyH_take (i := 14) (v := ?_) rfl (by kernel_rfl) (by kernel_rfl) (by kernel_rfl) (fun _ _ _ h => h) (Or.inl ⟨rfl, ?_⟩) hHeld ?_
          rotate_left
          · intro w' hS; obtain ⟨⟨s0, s1⟩, ⟨s2, s3⟩, s4⟩ := hS; go_simp <;> with_reducible rfl
          simp only [Act.put, List.getElem_toArray, List.getElem_cons_succ, List.getElem_cons_zero, List.setIfInBounds_toArray, List.set_cons_succ, List.set_cons_zero]
          refine wpAnyH_done (by kernel_rfl) ?_ _
          clear hHeld
          have HB6 := Lib.hid (below_then HBR.out hbr HBR.out.size)
          have HO6 := Lib.hid (ownsRow_below HOWN.out hbr)
          clear hbr
          go_wp2
          go_roundw
          case rel => exact ⟨j + 1, F5, c5, by omega, by go_num, by rw [HS9.out], by rw [HS9.out]; exact HO6.out, HB6.out⟩
          case measure => simp [intOf]; omega
      · have HS9 := Lib.hid (HNX.out.trans (by simp [HOK.out, hv0] : sel ++ (if (fun r : RowV => nextOk T o bs t r.xs) (⟨rA, rn, rc, rx⟩ : RowV) then [(⟨rA, rn, rc, rx⟩ : RowV)] else []) = sel))
        have hdv : decide (0 ≤ v) = false := by simpa using hv0
        clear HNX
        go_upto_region 6 with fail
        clear k0 hfl2
        refine wp_region_held_drew (S := (fun w' => Two w.heap.size (.slice A n c) (.int .i64 (q : Int)) w' ∧ Two (w.heap.size + 1) (.slice (some ⟨bB, oB, none⟩) n d) (.bool t) w' ∧ w'.cell? ⟨gF, x0, none⟩ = some (.int .i64 f0))) (by kernel_rfl) ⟨two_of (HQ.out.below (below_then HBB.out (Below.refl wb.heap.size wb).drew HBB.out.size)), two_of (HS.out.below (below_then HBB.out (Below.refl wb.heap.size wb).drew HBB.out.size)), num_cellF (v := f0) (HFL.out.below (below_then HBB.out (Below.refl wb.heap.size wb).drew HBB.out.size)) (i := x0) (by rw [HOL.out]; omega) HF0.out⟩ (fun hHeld => ?_)
        have hbr := below_then HBB.out (Below.refl wb.heap.size wb).drew HBB.out.size
        generalize World.drew wb = wd at hbr hHeld ⊢
        refine wpAnyH_take (i := 0) (v := ?_) rfl (by kernel_rfl) (by kernel_rfl) (by kernel_rfl) (fun _ _ _ h => h) (Or.inl ⟨rfl, ?_⟩) hHeld ?_
        rotate_left
        · intro w' hS; obtain ⟨⟨s0, s1⟩, ⟨s2, s3⟩, s4⟩ := hS; go_simp <;> with_reducible rfl
        simp only [Act.put, List.getElem_toArray, List.getElem_cons_succ, List.getElem_cons_zero, List.setIfInBounds_toArray, List.set_cons_succ, List.set_cons_zero]
        refine wpAnyH_take (i := 1) (v := ?_) rfl (by kernel_rfl) (by kernel_rfl) (by kernel_rfl) (fun _ _ _ h => h) (Or.inl ⟨rfl, ?_⟩) hHeld ?_
        rotate_left
        · intro w' hS; obtain ⟨⟨s0, s1⟩, ⟨s2, s3⟩, s4⟩ := hS; go_simp <;> with_reducible rfl
        simp only [Act.put, List.getElem_toArray, List.getElem_cons_succ, List.getElem_cons_zero, List.setIfInBounds_toArray, List.set_cons_succ, List.set_cons_zero]
        refine wpAnyH_take (i := 2) (v := ?_) rfl (by kernel_rfl) (by kernel_rfl) (by kernel_rfl) (fun _ _ _ h => h) (Or.inl ⟨rfl, ?_⟩) hHeld ?_
        rotate_left
        · intro w' hS; obtain ⟨⟨s0, s1⟩, ⟨s2, s3⟩, s4⟩ := hS; go_simp <;> with_reducible rfl
        simp only [Act.put, List.getElem_toArray, List.getElem_cons_succ, List.getElem_cons_zero, List.setIfInBounds_toArray, List.set_cons_succ, List.set_cons_zero]
        refine wpAnyH_take (i := 3) (v := undef) rfl (by kernel_rfl) (by kernel_rfl) (by kernel_rfl) (fun _ _ _ h => h) (Or.inr ⟨by simp [Region.wanted, yielded], rfl⟩) hHeld ?_
        simp only [Act.put, List.getElem_toArray, List.getElem_cons_succ, List.getElem_cons_zero, List.setIfInBounds_toArray, List.set_cons_succ, List.set_cons_zero]
        refine wpAnyH_take (i := 4) (v := undef) rfl (by kernel_rfl) (by kernel_rfl) (by kernel_rfl) (fun _ _ _ h => h) (Or.inr ⟨by simp [Region.wanted, yielded], rfl⟩) hHeld ?_
        simp only [Act.put, List.getElem_toArray, List.getElem_cons_succ, List.getElem_cons_zero, List.setIfInBounds_toArray, List.set_cons_succ, List.set_cons_zero]
        refine wpAnyH_take (i := 5) (v := undef) rfl (by kernel_rfl) (by kernel_rfl) (by kernel_rfl) (fun _ _ _ h => h) (Or.inr ⟨by simp [Region.wanted, yielded], rfl⟩) hHeld ?_
        simp only [Act.put, List.getElem_toArray, List.getElem_cons_succ, List.getElem_cons_zero, List.setIfInBounds_toArray, List.set_cons_succ, List.set_cons_zero]
        refine wpAnyH_take (i := 6) (v := undef) rfl (by kernel_rfl) (by kernel_rfl) (by kernel_rfl) (fun _ _ _ h => h) (Or.inr ⟨by simp [Region.wanted, yielded], rfl⟩) hHeld ?_
        simp only [Act.put, List.getElem_toArray, List.getElem_cons_succ, List.getElem_cons_zero, List.setIfInBounds_toArray, List.set_cons_succ, List.set_cons_zero]
        refine wpAnyH_take (i := 7) (v := undef) rfl (by kernel_rfl) (by kernel_rfl) (by kernel_rfl) (fun _ _ _ h => h) (Or.inr ⟨by simp [Region.wanted, yielded], rfl⟩) hHeld ?_
        simp only [Act.put, List.getElem_toArray, List.getElem_cons_succ, List.getElem_cons_zero, List.setIfInBounds_toArray, List.set_cons_succ, List.set_cons_zero]
        refine wpAnyH_take (i := 8) (v := undef) rfl (by kernel_rfl) (by kernel_rfl) (by kernel_rfl) (fun _ _ _ h => h) (Or.inr ⟨by simp [Region.wanted, yielded], rfl⟩) hHeld ?_
        simp only [Act.put, List.getElem_toArray, List.getElem_cons_succ, List.getElem_cons_zero, List.setIfInBounds_toArray, List.set_cons_succ, List.set_cons_zero]
        refine wpAnyH_take (i := 9) (v := undef) rfl (by kernel_rfl) (by kernel_rfl) (by kernel_rfl) (fun _ _ _ h => h) (Or.inr ⟨by simp [Region.wanted, yielded], rfl⟩) hHeld ?_
        simp only [Act.put, List.getElem_toArray, List.getElem_cons_succ, List.getElem_cons_zero, List.setIfInBounds_toArray, List.set_cons_succ, List.set_cons_zero]
        refine wpAnyH_take (i := 10) (v := undef) rfl (by kernel_rfl) (by kernel_rfl) (by kernel_rfl) (fun _ _ _ h => h) (Or.inr ⟨by simp [Region.wanted, yielded], rfl⟩) hHeld ?_
        simp only [Act.put, List.getElem_toArray, List.getElem_cons_succ, List.getElem_cons_zero, List.setIfInBounds_toArray, List.set_cons_succ, List.set_cons_zero]
        refine wpAnyH_take (i := 11) (v := undef) rfl (by kernel_rfl) (by kernel_rfl) (by kernel_rfl) (fun _ _ _ h => h) (Or.inr ⟨by simp [Region.wanted, yielded], rfl⟩) hHeld ?_
        simp only [Act.put, List.getElem_toArray, List.getElem_cons_succ, List.getElem_cons_zero, List.setIfInBounds_toArray, List.set_cons_succ, List.set_cons_zero]
        refine wpAnyH_take (i := 12) (v := undef) rfl (by kernel_rfl) (by kernel_rfl) (by kernel_rfl) (fun _ _ _ h => h) (Or.inr ⟨by simp [Region.wanted, yielded], rfl⟩) hHeld ?_
        simp only [Act.put, List.getElem_toArray, List.getElem_cons_succ, List.getElem_cons_zero, List.setIfInBounds_toArray, List.set_cons_succ, List.set_cons_zero]
        refine wpAnyH_take (i := 13) (v := undef) rfl (by kernel_rfl) (by kernel_rfl) (by kernel_rfl) (fun _ _ _ h => h) (Or.inr ⟨by simp [Region.wanted, yielded], rfl⟩) hHeld ?_
        simp only [Act.put, List.getElem_toArray, List.getElem_cons_succ, List.getElem_cons_zero, List.setIfInBounds_toArray, List.set_cons_succ, List.set_cons_zero]
        refine wpAnyH_take (i := 14) (v := ?_) rfl (by kernel_rfl) (by kernel_rfl) (by kernel_rfl) (fun _ _ _ h => h) (Or.inl ⟨rfl, ?_⟩) hHeld ?_
        rotate_left
        · intro w' hS; obtain ⟨⟨s0, s1⟩, ⟨s2, s3⟩, s4⟩ := hS; go_simp <;> with_reducible rfl
        simp only [Act.put, List.getElem_toArray, List.getElem_cons_succ, List.getElem_cons_zero, List.setIfInBounds_toArray, List.set_cons_succ, List.set_cons_zero]
        refine wpAnyH_done (by kernel_rfl) ?_ _
        clear hHeld
        have HB6 := Lib.hid (below_then HBR.out hbr HBR.out.size)
        have HO6 := Lib.hid (ownsRow_below HOWN.out hbr)
        clear hbr
        go_wp2
        go_roundw
        case rel => exact ⟨j + 1, F5, c5, by omega, by go_num, by rw [HS9.out], by rw [HS9.out]; exact HO6.out, HB6.out⟩
        case measure => simp [intOf]; omega
    · obtain rfl : j = rs4.length := by omega
      have hd : decide ((rs4.length : Int) < (rs4.length : Int)) = false := by simp
      rw [List.take_length] at hown ⊢
      have HHD := Lib.hid ((Heads.chosen (fun r => nextOk T o bs t r.xs) HH4.out hbr0 hown HRZ.out).raise (show w.heap.size ≤ _ by simp only [World.size_alloc]; omega))
      have HBN := Lib.hid (below_then HB4.out hbr0 HB4.out.size)
      have HRN := Lib.hid (rows_chosen (fun l => nextOk T o bs t l) rs4)
      clear hown hbr0
      go_wp2
      go_ret
      exact ⟨F5, c5, _, rfl, by rw [HRN.out, HR4.out, ← HNO.out], HHD.out, HBN.out⟩
end Go.Proofs.Ytlpeimlbpiofkaa

namespace Go.Proofs.Ytlpeimlbpiofkaa
open Go.RowKit Go.Maps Go.WideShapes

set_option maxHeartbeats 3200000 in
set_option maxRecDepth 100000 in
theorem bestLegs_zero (w : World) : Calls Try.prog 71 #[.agg zero11, .agg #[.bool false, .bool false, .bool false, .bool false, .bool false, .bool false, .bool false, .bool false, .bool false]] w fun e w' => e = .returned (.slice none 0 0) ∧ Below w.heap.size w w' := by
  have hb := (Whole.fresh w 78 zero11).alloc (.cells #[.bool false, .bool false, .bool false, .bool false, .bool false, .bool false, .bool false, .bool false, .bool false] 75)
  have HT := Lib.hid (below2 w (.cells zero11 78) (.cells #[.bool false, .bool false, .bool false, .bool false, .bool false, .bool false, .bool false, .bool false, .bool false] 75))
  have hk0 := (cells11 (x0 := .slice none 0 0) hb).1
  have hbl := hb.lt
  clear hb
  unfold zero11 at HT hk0 hbl
  unfold zero11
  go_enter Try.func71, Try.ntmps71
  go_wp2
  go_loopw [5, 11] (fun v i wr => v = .slice none 0 0 ∧ i = .int .i64 0 ∧ Below w.heap.size w wr) (fun _ _ _ => 0)
  case atStart => exact ⟨rfl, rfl, HT.out⟩
  case round =>
    obtain ⟨rfl, rfl, hb⟩ := hrel
    have HT2 := Lib.hid hb
    clear hb
    go_wp2
    go_ret
    exact ⟨rfl, HT2.out⟩

/-- What BestFirstTrips comes to. -/
noncomputable def firstTr (xs : List Int) (s : Int) : List (List Int) := if leastOk xs s then bestOf (slowOf xs) (upLists xs.length s.toNat) (leftM xs xs.length s.toNat) 0 else []
theorem firstTr_no {xs : List Int} {s : Int} (h : leastOk xs s = false) : firstTr xs s = [] := by simp [firstTr, h]
theorem firstTr_yes {xs : List Int} {n q : Nat} (hx : xs.length = n) (h : leastOk xs (q : Int) = true) : firstTr xs (q : Int) = bestOf (slowOf xs) (upLists n q) (leftM xs n q) 0 := by subst hx; simp [firstTr, h]
theorem firstTr_le (xs : List Int) (s : Int) (h8 : leastOk xs s = true → xs.length ≤ 8) : (firstTr xs s).length ≤ 1048576 ∧ ((firstTr xs s).map List.length).sum ≤ 1048576 := by
  cases h : leastOk xs s
  · rw [firstTr_no h]; simp
  · have h8' := h8 h
    rw [firstTr, if_pos h]
    have h1 := best_len (slowOf xs) (upLists xs.length s.toNat) (leftM xs xs.length s.toNat) 0
    have h2 := upLists_small (n := xs.length) (m := s.toNat) h8'
    have h5 := sum_lens (ls := bestOf (slowOf xs) (upLists xs.length s.toNat) (leftM xs xs.length s.toNat) 0) (k := 8) fun l hl => by
      have h3 := up_steps (List.mem_filter.1 hl).1
      have h4 := steps_len h3.1 (by omega)
      omega
    exact ⟨by omega, by omega⟩

set_option maxHeartbeats 6400000 in
set_option maxRecDepth 100000 in
theorem implBestF_zero (A : Option Addr) (n c : Nat) (xs : List Int) (s : Int) (w : World)
    (hpl : Calls Try.prog 63 #[.agg #[.slice A n c, .int .i64 s]] (w.alloc (.cells #[.slice A n c, .int .i64 s] 28)) fun e w' => e = .returned (.tuple #[.agg zero11, .bool false]) ∧ Below (w.alloc (.cells #[.slice A n c, .int .i64 s] 28)).heap.size (w.alloc (.cells #[.slice A n c, .int .i64 s] 28)) w') :
    Calls Try.prog 27 #[.agg #[.slice A n c, .int .i64 s]] w (BackPost [] false w) := by
  have HT := Lib.hid (below1 w (.cells #[.slice A n c, .int .i64 s] 28))
  have HPL := Lib.hid hpl
  clear hpl
  go_enter Try.func27, Try.ntmps27
  go_wp2_with fail
  refine HPL.out.mono ?_
  rintro e w1 ⟨rfl, hb⟩
  have HT1 := Lib.hid (below_then HT.out hb HT.out.size)
  have hbx : Whole (w1.alloc (.cells #[.slice none 0 0, .bool false, .bool false, .bool false, .bool false, .bool false, .bool false, .bool false, .bool false, .bool false, .map none] 78)) w1.heap.size 78 #[.slice none 0 0, .bool false, .bool false, .bool false, .bool false, .bool false, .bool false, .bool false, .bool false, .bool false, .map none] := Whole.fresh _ _ _
  have HT2 := Lib.hid (HT1.out.alloc HT1.out.size (.cells #[.slice none 0 0, .bool false, .bool false, .bool false, .bool false, .bool false, .bool false, .bool false, .bool false, .bool false, .map none] 78))
  clear hb
  unfold zero11
  obtain ⟨c0, c1, c2, c3, c4, c5, c6, c7, c8, c9, c10⟩ := cells11 hbx
  have hbl := hbx.lt
  go_wp2_with fail
  have hln := bestLegs_zero (w1.alloc (.cells #[.slice none 0 0, .bool false, .bool false, .bool false, .bool false, .bool false, .bool false, .bool false, .bool false, .bool false, .map none] 78))
  unfold zero11 at hln
  refine hln.mono ?_
  clear hln
  rintro e w2 ⟨rfl, hb⟩
  have HT3 := Lib.hid (below_then HT2.out hb HT2.out.size)
  clear hb hbx c0 c1 c2 c3 c4 c5 c6 c7 c8 c9 c10 hbl
  go_wp2
  go_loopw [6, 18] (fun v i wr => v = .slice none 0 0 ∧ i = .int .i64 0 ∧ Below w.heap.size w wr) (fun _ _ _ => 0)
  case atStart => exact ⟨rfl, rfl, HT3.out⟩
  case round =>
    obtain ⟨rfl, rfl, hb⟩ := hrel
    have HT4 := Lib.hid hb
    clear hb
    go_wp2
    go_ret2
    exact BackPost.no HT4.out

set_option maxHeartbeats 6400000 in
set_option maxRecDepth 100000 in
theorem implBestF_yes (A : Option Addr) (n c q : Nat) (xs : List Int) (w : World) (hA : Holds w A (nums xs)) (hx : xs.length = n) (hp : isParty xs (q : Int) = true) (hpl : planOk xs n q = true) :
    Calls Try.prog 27 #[.agg #[.slice A n c, .int .i64 (q : Int)]] w (BackPost (bestOf (slowOf xs) (upLists n q) (leftM xs n q) 0) true w) := by
  obtain ⟨g1, g8, gq1, gq8, gxs⟩ := party_parts hp
  rw [hx] at g1 g8
  obtain ⟨i1, ri, rz0, rz1, rz2⟩ := info_parts info_row
  have RI := Lib.hid ri
  have RZ0 := Lib.hid rz0
  have RZ1 := Lib.hid rz1
  have RZ2 := Lib.hid rz2
  have HLO := Lib.hid (left_ok (q := q) hx g8 gxs)
  have HUL := Lib.hid (upLists_small (n := n) (m := q) g8)
  have HPY := Lib.hid (planned_yes A n c q xs _ (hA.alloc (.cells #[.slice A n c, .int .i64 (q : Int)] 28)) hx hp hpl)
  have HT := Lib.hid (below1 w (.cells #[.slice A n c, .int .i64 (q : Int)] 28))
  clear hp hA gxs hpl hx ri rz0 rz1 rz2
  obtain ⟨Ls, hLs⟩ : ∃ Ls, upLists n q = Ls := ⟨_, rfl⟩
  have HUPS : Hid (∀ l ∈ Ls, StepsTo l ((n : Int) - 1) l.length ∧ l.length ≤ 8) := fun l hl => by
    rw [← hLs] at hl
    have h3 := up_steps hl
    have h4 := steps_len h3.1 (by omega)
    exact ⟨h3.1, by omega⟩
  go_enter Try.func27, Try.ntmps27
  go_wp2_with fail
  refine HPY.out.mono ?_
  rintro e w1 ⟨E, cE, mb, rfl, hown, hmap, hb⟩
  have HT1 := Lib.hid (below_then HT.out hb HT.out.size)
  obtain ⟨x, hxx⟩ : ∃ x, codeOf (trues n) true = x := ⟨_, rfl⟩
  obtain ⟨M, hM⟩ : ∃ M, leftM xs n q = M := ⟨_, rfl⟩
  obtain ⟨T, hT⟩ : ∃ T, slowOf xs = T := ⟨_, rfl⟩
  rw [show partyD xs n q (codeOf (trues n) true) = leftM xs n q from rfl, hM] at hmap
  rw [hLs, hT, hM, hxx] at HLO
  rw [hLs, hT] at hown
  rw [hLs] at HUL
  rw [hxx, hLs, hT, hM]
  have HQ9 : Hid (bestOf T Ls M 0 = bestOf (slowOf xs) (upLists n q) (leftM xs n q) 0) := by show _ = _; rw [← hLs, ← hT, ← hM]
  have hbl0 := bestLegs_any T _ E cE Ls x mb M 0 (w1.alloc (.cells (routeC E Ls.length cE x mb) 78)) (hown.alloc _) HUL.out HLO.out.up zero_mem4 (hmap.alloc _) HLO.out.low HLO.out.time
  have HBL := Lib.hid hbl0
  have hbx : Whole (w1.alloc (.cells (routeC E Ls.length cE x mb) 78)) w1.heap.size 78 (routeC E Ls.length cE x mb) := Whole.fresh _ _ _
  have HT2 := Lib.hid (HT1.out.alloc HT1.out.size (.cells (routeC E Ls.length cE x mb) 78))
  clear hb hown hmap hxx hM hT hbl0
  rw [show plcC 4 0 = #[.bool false, .bool false, .bool false, .bool false, .bool false, .bool false, .bool false, .bool false, .bool false] from rfl] at HBL
  unfold routeC at hbx HT2 HBL
  unfold routeC
  obtain ⟨c0, c1, c2, c3, c4, c5, c6, c7, c8, c9, c10⟩ := cells11 hbx
  have hbl := hbx.lt
  go_wp2_with fail
  refine HBL.out.mono ?_
  rintro e w2 ⟨A1, cA, rfl, hown, hb⟩
  have HT3 := Lib.hid (below_then HT2.out hb HT2.out.size)
  have HMEM : Hid (∀ l ∈ bestOf T Ls M 0, l ∈ Ls) := fun l hl => (List.mem_filter.1 hl).1
  have hbn := best_len T Ls M 0
  have hul := HUL.out
  generalize bestOf T Ls M 0 = ls at hown HMEM hbn HQ9 ⊢
  have HO2 := Lib.hid hown
  obtain ⟨k, hk⟩ : ∃ k, ls.length = k := ⟨_, rfl⟩
  have HK := Lib.hid hk
  rw [hk] at hbn ⊢
  clear hb hbx c0 c1 c2 c3 c4 c5 c6 c7 c8 c9 c10 hbl hown hk HBL HPY
  go_wp2
  go_loopw [6, 18] (fun v i wr => ∃ (j : Nat) (D : Option Addr) (r : Nat) (acc : List RowV), j ≤ k ∧ i = .int .i64 j ∧ v = .slice D acc.length r ∧ acc.length = j ∧ rowNums acc ++ ls.drop j = ls ∧ Heads wr w2.heap.size D r acc ∧ Below w2.heap.size w2 wr) (fun _ i _ => k - (intOf i).toNat)
  case atStart => exact ⟨0, none, 0, [], Nat.zero_le _, rfl, rfl, rfl, rfl, Heads.nil _ _, Below.refl _ _⟩
  case round =>
    obtain ⟨j, D, r, acc, hj, rfl, rfl, hacl, hra, hh, hb⟩ := hrel
    have HB := Lib.hid hb
    have HH := Lib.hid hh
    have hbs : w2.heap.size ≤ wr.heap.size := hb.size
    by_cases hlt : j < k
    · have hjl : j < ls.length := by have := HK.out; omega
      have hd : decide ((j : Int) < (k : Int)) = true := by simp; omega
      obtain ⟨gs, rfl, hgl, a0, a1, a2, a3, a4, a5, a6, a7, a8⟩ := legs_row (ownsRow_below HO2.out hb) hjl
      have hst := HUPS.out _ (HMEM.out _ (List.getElem_mem hjl))
      have hdr : ls.drop j = ls[j] :: ls.drop (j + 1) := List.drop_eq_getElem_cons hjl
      rw [hdr] at hra
      obtain ⟨l, hl⟩ : ∃ l, ls[j] = l := ⟨_, rfl⟩
      rw [hl] at a0 a1 a2 a3 a4 a5 a6 a7 a8 hst hra
      obtain ⟨tl, htl⟩ : ∃ tl, T l = tl := ⟨_, rfl⟩
      rw [htl] at a8
      have hxl := hst.2
      have HST := Lib.hid hst.1
      have HRA := Lib.hid hra
      have HACL := Lib.hid hacl
      have hx1 := Whole.fresh wr 89 (legC (has l) tl)
      have hxl1 := hx1.lt
      obtain ⟨b0, b1, b2, b3, b4, b5, b6, b7⟩ : Row8 wr.heap.size (has l) (wr.alloc (.cells (legC (has l) tl) 89)) := ⟨hx1.cell 0, hx1.cell 1, hx1.cell 2, hx1.cell 3, hx1.cell 4, hx1.cell 5, hx1.cell 6, hx1.cell 7⟩
      clear hst hra hdr hh hb hacl hl htl
      unfold legC at b0 b1 b2 b3 b4 b5 b6 b7 hxl1 hx1
      go_wp2_with fail
      have hls := list_any l ((n : Int) - 1) (wr.alloc (.cells #[.bool (has l 0), .bool (has l 1), .bool (has l 2), .bool (has l 3), .bool (has l 4), .bool (has l 5), .bool (has l 6), .bool (has l 7), .int .i64 tl] 89)) HST.out (by omega)
      rw [crowd8] at hls
      unfold cells8 at hls
      refine hls.mono ?_
      clear hls
      rintro e w3 ⟨A2, q2, rfl, hown2, hb2⟩
      have hb3 : Below wr.heap.size wr w3 := below_then (below1 wr (.cells #[.bool (has l 0), .bool (has l 1), .bool (has l 2), .bool (has l 3), .bool (has l 4), .bool (has l 5), .bool (has l 6), .bool (has l 7), .int .i64 tl] 89)) hb2 (by simp)
      obtain ⟨A3, q3, hv3, hf3⟩ := Fresh.of_own hown2 (Nat.le_refl _)
      simp only [Value.slice.injEq, true_and] at hv3
      obtain ⟨rfl, rfl⟩ := hv3
      have hz3 := hb3.size
      have HF := Lib.hid (hf3.more (lo' := wr.heap.size) (hi' := w3.heap.size) (by simp) (Nat.le_refl _))
      have HB2 := Lib.hid hb3
      have HOWN := Lib.hid ((HH.out.below hb3).alloc (.cells #[.slice A2 l.length q2] 22)).1
      have HMAX := Lib.hid (show acc.length + 1 ≤ maxLen by have := HACL.out; unfold maxLen; omega)
      have HBYT := Lib.hid (show (acc.length + 1) * 24 ≤ 140737488355328 by have := HACL.out; omega)
      have HBASE := Lib.hid (show w2.heap.size ≤ (w3.alloc (.cells #[.slice A2 l.length q2] 22)).heap.size by simp; omega)
      clear hown2 hb2 hb3 hf3 a0 a1 a2 a3 a4 a5 a6 a7 a8 b0 b1 b2 b3 b4 b5 b6 b7 hgl hx1 hxl1
      go_wp2_with (at_builtin; refine wpList_append_lies _ rfl (.tmp 22) (.tmp 26) 32 rfl w2.heap.size 22 i1 (.slice none 0 0) 1 24 Try.underlying32 RI.out RZ0.out RZ1.out RZ2.out rfl (by decide) (.slice D acc.length r) acc.length (rowVals acc) rfl HOWN.out ⟨w3.heap.size, 0, none⟩ 1 1 [.slice A2 l.length q2] rfl rfl (cell_one_new _ _ _) (by simp [Value.oneCell']) (by decide) HMAX.out HBYT.out HBASE.out (w3.heap.size + 1) (by simp) ?_; intro g cap w4 hown4 hg4 hat hlt4)
      have HP2 := Lib.hid (Heads.push (r := ⟨A2, l.length, q2, l⟩) HH.out hbs HB2.out HF.out rfl (by show l.length ≤ _; omega) hown4 hg4 hat)
      have HBN := Lib.hid (((below_then HB.out HB2.out hbs).alloc (by omega) (.cells #[.slice A2 l.length q2] 22)).grown hg4 HBASE.out (fun kk hkk => (HOWN.out.lt kk hkk).1))
      clear hown4 hg4 hat hlt4
      go_roundw
      case rel => exact ⟨j + 1, some ⟨g, 0, none⟩, cap, acc ++ [⟨A2, l.length, q2, l⟩], by omega, by go_num, by simp, by simp [HACL.out], by rw [show rowNums (acc ++ [⟨A2, l.length, q2, l⟩]) = rowNums acc ++ [l] by simp [rowNums], List.append_assoc]; exact HRA.out, HP2.out, HBN.out⟩
      case measure => simp [intOf]; omega
    · obtain rfl : j = k := by omega
      have hd : decide ((j : Int) < (j : Int)) = false := by simp
      have HR : Hid (rowNums acc = ls) := by show _ = _; have h1 := hra; rw [List.drop_eq_nil_of_le (by have := HK.out; omega), List.append_nil] at h1; exact h1
      have HBF := Lib.hid (below_then HT3.out HB.out HT3.out.size)
      have hz2 := HT3.out.size
      clear hra hacl hh hb
      go_wp2
      go_ret2
      exact ⟨D, acc.length, r, acc, rfl, HR.out.trans HQ9.out, rfl, (HH.out.raise hz2).free, HBF.out⟩

theorem implBestF_any (A : Option Addr) (n c : Nat) (xs : List Int) (s : Int) (w : World) (hA : Holds w A (nums xs)) (hx : xs.length = n) (hn : n ≤ 9223372036854775807) :
    Calls Try.prog 27 #[.agg #[.slice A n c, .int .i64 s]] w (BackPost (firstTr xs s) (leastOk xs s) w) := by
  have hA1 := hA.alloc (.cells #[.slice A n c, .int .i64 s] 28)
  cases hp : isParty xs s
  · have h0 := (leastOk_none hp).1
    rw [firstTr_no h0, h0]
    exact implBestF_zero A n c xs s w (planned_none A n c xs s _ hA1 hx hn hp)
  · obtain ⟨q, rfl⟩ : ∃ q : Nat, s = (q : Int) := ⟨s.toNat, by simp only [isParty, Bool.and_eq_true, within_iff] at hp; omega⟩
    have hok := leastOk_at hp
    rw [hx] at hok
    cases hpl : planOk xs n q
    · rw [hpl] at hok
      rw [firstTr_no hok, hok]
      exact implBestF_zero A n c xs (q : Int) w (planned_no A n c q xs _ hA1 hx hp hpl)
    · rw [hpl] at hok
      rw [firstTr_yes hx hok, hok]
      exact implBestF_yes A n c q xs w hA hx hp hpl
end Go.Proofs.Ytlpeimlbpiofkaa

namespace Go.Proofs.Ytlpeimlbpiofkaa
open Go.RowKit Go.Maps Go.WideShapes

set_option maxHeartbeats 12800000 in
set_option maxRecDepth 100000 in
set_option linter.unusedVariables false in
set_option linter.unusedSimpArgs false in
theorem firstPlan_any (T : List Int → Int) (lo : Nat) (E : Option Addr) (c : Nat) (Ls : List (List Int)) (e0 mb : Nat) (M : Nat → Option Int) (v0 : Int) (w : World) (hown0 : w.ownsRow lo 89 9 (.slice E Ls.length c) Ls.length (legsCells T Ls)) (hM0 : PlaceMap w mb M) (hOK : LeftOk T Ls e0 M) (hLs : Ls.length ≤ 255) (he : e0 ∈ sts 4) (hv0 : M 0 = some v0) :
    Calls Try.prog 66 #[.agg (routeC E Ls.length c e0 mb)] w (NextPost (goB T Ls M 512 0) w) := by
  obtain ⟨i1, ri, rz0, rz1, rz2⟩ := info_parts info_row
  have RI := Lib.hid ri
  have RZ0 := Lib.hid rz0
  have RZ1 := Lib.hid rz1
  have RZ2 := Lib.hid rz2
  have HOK := Lib.hid hOK
  have HLS := Lib.hid hLs
  have HED := Lib.hid he
  have HG := Lib.hid hv0
  have HR := Lib.hid (Whole.fresh w 78 (routeC E Ls.length c e0 mb))
  have HLG := Lib.hid (hown0.alloc (.cells (routeC E Ls.length c e0 mb) 78))
  have HM := Lib.hid (hM0.alloc (.cells (routeC E Ls.length c e0 mb) 78))
  have HT := Lib.hid (below1 w (.cells (routeC E Ls.length c e0 mb) 78))
  have hw1 : w.heap.size + 1 = (w.alloc (.cells (routeC E Ls.length c e0 mb) 78)).heap.size := by simp
  clear hown0 hM0 hOK hLs he hv0 ri rz0 rz1 rz2
  unfold routeC at HR HLG HM HT hw1
  unfold routeC
  go_enter Try.func66, Try.ntmps66
  go_upto_region 2 with fail
  generalize w.alloc (.cells #[.slice E Ls.length c, .bool (pf 4 e0 0), .bool (pf 4 e0 1), .bool (pf 4 e0 2), .bool (pf 4 e0 3), .bool (pf 4 e0 4), .bool (pf 4 e0 5), .bool (pf 4 e0 6), .bool (pf 4 e0 7), .bool (pt e0), .map (some mb)] 78) = w1 at HR HLG HM HT hw1 ⊢
  have HP0 : Hid (Whole (w1.alloc (.cells #[.bool false, .bool false, .bool false, .bool false, .bool false, .bool false, .bool false, .bool false, .bool false] 75)) w1.heap.size 75 (plcC 4 0)) := by
    show Whole _ _ _ _
    rw [show plcC 4 0 = #[.bool false, .bool false, .bool false, .bool false, .bool false, .bool false, .bool false, .bool false, .bool false] from rfl]
    exact Whole.fresh _ _ _
  go_wp2
  go_loopg [3, 4] 512 (fun gh v pv wr => ∃ (x gp : Nat) (u : Int) (rs : List RowV) (D : Option Addr) (cD : Nat), M x = some u ∧ lessN (sts 4) M u ≤ gh ∧ rowNums rs ++ goB T Ls M gh x = goB T Ls M 512 0 ∧ v = .slice D rs.length cD ∧ pv = .pointer (some ⟨gp, 0, none⟩) ∧ rs.length + gh = 512 ∧ Heads wr w1.heap.size D cD rs ∧ Whole wr gp 75 (plcC 4 x) ∧ w1.heap.size ≤ gp ∧ Below w1.heap.size w1 wr)
  case atStart => exact ⟨0, w1.heap.size, v0, [], none, 0, HG.out, Nat.le_trans (less_le _ _ _) (by rw [show (sts 4).length = 512 from List.length_range]; exact Nat.le_refl _), rfl, rfl, rfl, rfl, Heads.nil _ _, HP0.out, Nat.le_refl _, below1 _ _⟩
  case round =>
    clear HP0 HG
    obtain ⟨x, gp, u, rs, D, cD, hg, hless, hls, rfl, rfl, hlen, hH, hP, hgp, hb⟩ := hrel
    have hxd := HOK.out.dom x u hg
    obtain ⟨wz, rfl⟩ : ∃ W : World, W = wr := ⟨_, rfl⟩
    have hR1 := HR.out.below hb
    have hrl := hR1.lt
    obtain ⟨c0, c1, c2, c3, c4, c5, c6, c7, c8, c9, c10⟩ := cells11 hR1
    obtain ⟨p0, p1, p2, p3, p4, p5, p6, p7, p8⟩ := nine0_of hP
    have hpl := hP.lt
    have hsp := same_place hxd HED.out
    have HB := Lib.hid hb
    have HHD := Lib.hid hH
    have HPP := Lib.hid hP
    have HR1 := Lib.hid hR1
    have HLS9 := Lib.hid hls
    clear hb hH hP hR1 hls
    by_cases hx : x = e0
    · rw [decide_eq_true hx] at hsp
      have HDN : Hid (rowNums rs = goB T Ls M 512 0) := by
        have h := HLS9.out
        have h0 := (HOK.out.zero hg).2 hx
        rw [goB_stop (by unfold lf; rw [hg]; exact h0), List.append_nil] at h
        exact h
      clear hg hless hx hxd
      go_wp2
      go_ret
      exact ⟨D, cD, rs, rfl, HDN.out, HHD.out.raise (show w.heap.size ≤ w1.heap.size by omega), below_then HT.out HB.out HT.out.size⟩
    · rw [decide_eq_false hx] at hsp
      have hu1 : ¬ u ≤ 0 := fun h => hx ((HOK.out.zero hg).1 h)
      obtain ⟨f', l, r9, u2, rfl, hhd, hgo, hlm, hg2, hl2, -⟩ := goB_next HOK.out hg (by omega) hless
      have hlL := (List.mem_filter.1 hlm).1
      have hup := HOK.out.up l hlL
      have hst := (up_steps hup).1
      have hlen8 := (up_steps hup).2.2
      have hst2 := plcW_step (L := Ls) HOK.out.up hxd hlm
      have HOUT : Hid (∀ i, (bitsOf (x / 2) (2 * 4)).length ≤ i → has l i = false) := fun i hi => has_out hst (by rw [bitsOf_len] at hi; omega)
      have HST := Lib.hid hst
      have HG := Lib.hid hg2
      have HLE := Lib.hid hl2
      have HGO := Lib.hid hgo
      have HHL := Lib.hid hhd
      have HXD := Lib.hid hxd
      obtain ⟨y, hy⟩ : ∃ y, stepC x l = y := ⟨_, rfl⟩
      rw [hy] at hst2
      have HPF : Hid (placeCells (flipped (bitsOf (x / 2) (2 * 4)) l) (!bitAt x 0) = plcC 4 y) := hst2.1
      have HPC : Hid (placeCells (bitsOf (x / 2) (2 * 4)) (bitAt x 0) = plcC 4 x) := rfl
      have HG' : Hid (M y = some u2) := by rw [← hy]; exact HG
      have HGO' : Hid (goB T Ls M (f' + 1) x = l :: goB T Ls M f' y) := by rw [← hy]; exact HGO
      clear hg hg2 hl2 hgo hhd hx hless hu1 hlm hlL hup hst hst2 hy HG HGO hxd
      go_wp2_with (refine wpList_load_row rfl 78 (.tmp 1) rfl w.heap.size rfl 78 #[.slice E Ls.length c, .bool (pf 4 e0 0), .bool (pf 4 e0 1), .bool (pf 4 e0 2), .bool (pf 4 e0 3), .bool (pf 4 e0 4), .bool (pf 4 e0 5), .bool (pf 4 e0 6), .bool (pf 4 e0 7), .bool (pt e0), .map (some mb)] (0, 0) _ HR1.out Try.underlying78 rfl size_routes ?_)
      have HBL := bestLegs_any T lo E c Ls e0 mb M x wz (ownsRow_below HLG.out HB.out) HLS.out HOK.out.up HXD.out (HM.out.below HB.out) HOK.out.low HOK.out.time
      unfold routeC plcC place9 at HBL
      refine HBL.mono ?_
      clear HBL c0 c1 c2 c3 c4 c5 c6 c7 c8 c9 c10 p0 p1 p2 p3 p4 p5 p6 p7 p8 hrl hpl hsp
      rintro e w2 ⟨A1, c1, rfl, hown, hb⟩
      have hb0 : 0 < (bestOf T Ls M x).length := by rw [HHL.out]; simp
      have hbg : (bestOf T Ls M x)[0] = l := by simp only [HHL.out, List.getElem_cons_zero]
      obtain ⟨gs, rfl, hgl, a0, a1, a2, a3, a4, a5, a6, a7, a8⟩ := legs_row hown hb0
      rw [hbg] at a0 a1 a2 a3 a4 a5 a6 a7 a8
      simp only [Nat.zero_mul, Nat.zero_add] at a0 a1 a2 a3 a4 a5 a6 a7 a8
      obtain ⟨tl, htl⟩ : ∃ tl, T l = tl := ⟨_, rfl⟩
      rw [htl] at a8
      clear hown htl hbg
      generalize (bestOf T Ls M x).length = nb at hb0
      have hb0i : (0 : Int) < (nb : Int) := by omega
      have HBA := Lib.hid hb
      have hsz2 := hb.size
      have hlo := HB.out.size
      have HX := Lib.hid (Whole.fresh w2 89 (legC (has l) tl))
      have hxl := HX.out.lt
      obtain ⟨b0, b1, b2, b3, b4, b5, b6, b7⟩ : Row8 w2.heap.size (has l) (w2.alloc (.cells (legC (has l) tl) 89)) := ⟨HX.out.cell 0, HX.out.cell 1, HX.out.cell 2, HX.out.cell 3, HX.out.cell 4, HX.out.cell 5, HX.out.cell 6, HX.out.cell 7⟩
      clear hb
      unfold legC at b0 b1 b2 b3 b4 b5 b6 b7 hxl HX
      go_wp2_with fail
      have hls := list_any l ((2 * 4 : Nat) - 1 : Int) (w2.alloc (.cells #[.bool (has l 0), .bool (has l 1), .bool (has l 2), .bool (has l 3), .bool (has l 4), .bool (has l 5), .bool (has l 6), .bool (has l 7), .int .i64 tl] 89)) HST.out (by omega)
      rw [crowd8] at hls
      unfold cells8 at hls
      refine hls.mono ?_
      clear hls
      rintro e w3 ⟨A2, q2, rfl, hown2, hb2⟩
      have HX3 := Lib.hid (HX.out.below hb2)
      have hb3 : Below wz.heap.size wz w3 := below_then HBA.out (below_then (below1 w2 (.cells #[.bool (has l 0), .bool (has l 1), .bool (has l 2), .bool (has l 3), .bool (has l 4), .bool (has l 5), .bool (has l 6), .bool (has l 7), .int .i64 tl] 89)) hb2 (by simp)) HBA.out.size
      obtain ⟨A3, q3, hv3, hf3⟩ := Fresh.of_own hown2 (Nat.le_refl _)
      simp only [Value.slice.injEq, true_and] at hv3
      obtain ⟨rfl, rfl⟩ := hv3
      have hz3 := hb3.size
      have hzs : wz.heap.size ≤ (w2.alloc (.cells #[.bool (has l 0), .bool (has l 1), .bool (has l 2), .bool (has l 3), .bool (has l 4), .bool (has l 5), .bool (has l 6), .bool (has l 7), .int .i64 tl] 89)).heap.size := by have := HBA.out.size; simp; omega
      have HF := Lib.hid (hf3.more (lo' := wz.heap.size) (hi' := w3.heap.size) hzs (Nat.le_refl _))
      have HB3 := Lib.hid hb3
      have HOWN := Lib.hid ((HHD.out.below hb3).alloc (.cells #[.slice A2 l.length q2] 22)).1
      have HBZ := Lib.hid (hb3.alloc hz3 (.cells #[.slice A2 l.length q2] 22))
      have HMAX := Lib.hid (show rs.length + 1 ≤ maxLen by unfold maxLen; omega)
      have HBYT := Lib.hid (show (rs.length + 1) * 24 ≤ 140737488355328 by omega)
      have HBASE := Lib.hid (show w1.heap.size ≤ (w3.alloc (.cells #[.slice A2 l.length q2] 22)).heap.size by simp; omega)
      have HLEN := Lib.hid hlen
      clear hown2 hb2 hb3 hf3 a0 a1 a2 a3 a4 a5 a6 a7 a8 b0 b1 b2 b3 b4 b5 b6 b7 hgl hxl hlen
      go_upto_region 6 with (at_builtin; refine wpList_append_lies _ rfl (.tmp 16) (.tmp 20) 32 rfl w1.heap.size 22 i1 (.slice none 0 0) 1 24 Try.underlying32 RI.out RZ0.out RZ1.out RZ2.out rfl (by decide) (.slice D rs.length cD) rs.length (rowVals rs) rfl HOWN.out ⟨w3.heap.size, 0, none⟩ 1 1 [.slice A2 l.length q2] rfl rfl (cell_one_new _ _ _) (by simp [Value.oneCell']) (by decide) HMAX.out HBYT.out HBASE.out (w3.heap.size + 1) (by simp) ?_; intro g5 cap w5 hown4 hg4 hat4 hlt4)
      have hwp2 := HPP.out.below HBZ.out
      have hP5 := whole_apart hwp2 hg4 (fun e => own_apart HOWN.out hwp2 (by decide) e.symm)
      have hwx2 := HX3.out.alloc (.cells #[.slice A2 l.length q2] 22)
      have hx5 := whole_apart hwx2 hg4 (fun e => own_apart HOWN.out hwx2 (by decide) e.symm)
      have HH5 := Lib.hid (Heads.push (r := ⟨A2, l.length, q2, l⟩) HHD.out hlo HB3.out HF.out rfl (by show l.length ≤ _; omega) hown4 hg4 hat4)
      have HB5 := Lib.hid ((below_then HB.out HBZ.out HB.out.size).grown hg4 HBASE.out (fun kk hkk => (HOWN.out.lt kk hkk).1))
      obtain ⟨p0, p1, p2, p3, p4, p5, p6, p7, p8⟩ := nine0_of hP5
      have hpl5 := hP5.lt
      obtain ⟨b0, b1, b2, b3, b4, b5, b6, b7⟩ : Row8 w2.heap.size (has l) w5 := ⟨hx5.cell 0, hx5.cell 1, hx5.cell 2, hx5.cell 3, hx5.cell 4, hx5.cell 5, hx5.cell 6, hx5.cell 7⟩
      have hxl5 := hx5.lt
      have HP5 := Lib.hid hP5
      clear hown4 hg4 hat4 hlt4 hwp2 hwx2 hP5 hx5
      go_wp2_with fail
      have hcr := cross_any (bitsOf (x / 2) (2 * 4)) l (bitAt x 0) w5 HOUT.out
      rw [HPF.out, HPC.out, crowd8] at hcr
      unfold plcC place9 cells8 at hcr
      refine hcr.mono ?_
      clear hcr
      rintro e w6 ⟨rfl, hb6⟩
      have HP6 := Lib.hid (HP5.out.below hb6)
      have HH6 := Lib.hid (HH5.out.below hb6)
      have HB6 := Lib.hid (below_then HB5.out hb6 HB5.out.size)
      clear hb6 p0 p1 p2 p3 p4 p5 p6 p7 p8 b0 b1 b2 b3 b4 b5 b6 b7 hpl5 hxl5
      go_upto_region 7 with (refine wpList_store_whole rfl 75 (.tmp 4) (.tmp 25) rfl gp #[.bool (pf 4 y 0), .bool (pf 4 y 1), .bool (pf 4 y 2), .bool (pf 4 y 3), .bool (pf 4 y 4), .bool (pf 4 y 5), .bool (pf 4 y 6), .bool (pf 4 y 7), .bool (pt y)] rfl rfl 75 _ HP6.out size_place rfl (by simp [Value.oneCell']) ?_; intro W5 hw5 ho5)
      have HH7 := Lib.hid (heads_only HH6.out ho5 HP6.out (by decide) (by decide))
      have HB7 := Lib.hid (ho5.below HB6.out hgp)
      obtain ⟨s0, s1, s2, s3, s4, s5, s6, s7, s8⟩ := nine0_of (show Whole W5 gp 75 (plcC 4 y) from hw5)
      have hl6 := hw5.lt
      clear ho5 hw5
      go_wp2
      go_roundg f'
      case measure => omega
      case rel => exact ⟨y, W5.heap.size, u2, rs ++ [⟨A2, l.length, q2, l⟩], some ⟨g5, 0, none⟩, cap, HG'.out, HLE.out, by have h := HLS9.out; rw [HGO'.out] at h; rw [rowNums, List.map_append]; simpa [rowNums] using h, by rw [List.length_append]; rfl, rfl, by have h := HLEN.out; rw [List.length_append, List.length_singleton]; omega, HH7.out.alloc _, Whole.fresh _ _ _, HB7.out.size, HB7.out.alloc HB7.out.size _⟩

set_option maxHeartbeats 3200000 in
set_option maxRecDepth 100000 in
theorem firstPlan_zero (w : World) : Calls Try.prog 66 #[.agg zero11] w fun e w' => e = .returned (.slice none 0 0) ∧ Below w.heap.size w w' := by
  have hb := Whole.fresh w 78 zero11
  have HT := Lib.hid (below2 w (.cells zero11 78) (.cells #[.bool false, .bool false, .bool false, .bool false, .bool false, .bool false, .bool false, .bool false, .bool false] 75))
  have hp := Whole.fresh (w.alloc (.cells zero11 78)) 75 #[.bool false, .bool false, .bool false, .bool false, .bool false, .bool false, .bool false, .bool false, .bool false]
  have hb2 := hb.alloc (.cells #[.bool false, .bool false, .bool false, .bool false, .bool false, .bool false, .bool false, .bool false, .bool false] 75)
  rw [World.size_alloc] at hp
  have HRZ := Lib.hid hb2
  have HPZ := Lib.hid hp
  clear hb hb2 hp
  unfold zero11 at HT HRZ HPZ
  unfold zero11
  go_enter Try.func66, Try.ntmps66
  go_wp2
  go_loopw [3, 4] (fun v pv wr => v = .slice none 0 0 ∧ pv = .pointer (some ⟨w.heap.size + 1, 0, none⟩) ∧ Whole wr w.heap.size 78 #[.slice none 0 0, .bool false, .bool false, .bool false, .bool false, .bool false, .bool false, .bool false, .bool false, .bool false, .map none] ∧ Whole wr (w.heap.size + 1) 75 #[.bool false, .bool false, .bool false, .bool false, .bool false, .bool false, .bool false, .bool false, .bool false] ∧ Below w.heap.size w wr) (fun _ _ _ => 0)
  case atStart => exact ⟨rfl, rfl, HRZ.out, HPZ.out, HT.out⟩
  case round =>
    obtain ⟨rfl, rfl, hr, hp, hb⟩ := hrel
    have HT2 := Lib.hid hb
    obtain ⟨c0, c1, c2, c3, c4, c5, c6, c7, c8, c9, c10⟩ := cells11 hr
    have hrl := hr.lt
    obtain ⟨p0, p1, p2, p3, p4, p5, p6, p7, p8⟩ := nine0_of (show Whole wr (w.heap.size + 1) 75 (plcC 4 0) from hp)
    have hpl := hp.lt
    have hsp : samePlace false false false false false false false false false false false false false false false false false false = true := rfl
    clear hb
    go_wp2
    go_ret
    exact ⟨rfl, HT2.out⟩

/-- What FirstBest comes to. -/
noncomputable def bestPl (xs : List Int) (s : Int) : List (List Int) := if leastOk xs s then goB (slowOf xs) (upLists xs.length s.toNat) (leftM xs xs.length s.toNat) 512 0 else []
theorem bestPl_no {xs : List Int} {s : Int} (h : leastOk xs s = false) : bestPl xs s = [] := by simp [bestPl, h]
theorem bestPl_yes {xs : List Int} {n q : Nat} (hx : xs.length = n) (h : leastOk xs (q : Int) = true) : bestPl xs (q : Int) = goB (slowOf xs) (upLists n q) (leftM xs n q) 512 0 := by subst hx; simp [bestPl, h]
theorem goB_small {T : List Int → Int} {L : List (List Int)} {M : Nat → Option Int} (hL : ∀ l ∈ L, l.length ≤ 8) : (goB T L M 512 0).length ≤ 1048576 ∧ ((goB T L M 512 0).map List.length).sum ≤ 1048576 := by
  have h1 := goB_len T L M 512 0
  have h2 := sum_lens (ls := goB T L M 512 0) (k := 8) fun l hl => hL l (goB_mem _ _ l hl)
  exact ⟨by omega, by omega⟩
theorem bestPl_le (xs : List Int) (s : Int) (h8 : leastOk xs s = true → xs.length ≤ 8) : (bestPl xs s).length ≤ 1048576 ∧ ((bestPl xs s).map List.length).sum ≤ 1048576 := by
  cases h : leastOk xs s
  · rw [bestPl_no h]; simp
  · have h8' := h8 h
    rw [bestPl, if_pos h]
    refine goB_small fun l hl => ?_
    have h3 := up_steps hl
    have h4 := steps_len h3.1 (by omega)
    omega

set_option maxHeartbeats 6400000 in
set_option maxRecDepth 100000 in
theorem implFirstB_zero (A : Option Addr) (n c : Nat) (xs : List Int) (s : Int) (w : World)
    (hpl : Calls Try.prog 63 #[.agg #[.slice A n c, .int .i64 s]] (w.alloc (.cells #[.slice A n c, .int .i64 s] 28)) fun e w' => e = .returned (.tuple #[.agg zero11, .bool false]) ∧ Below (w.alloc (.cells #[.slice A n c, .int .i64 s] 28)).heap.size (w.alloc (.cells #[.slice A n c, .int .i64 s] 28)) w') :
    Calls Try.prog 21 #[.agg #[.slice A n c, .int .i64 s]] w (BackPost [] false w) := by
  have HT := Lib.hid (below1 w (.cells #[.slice A n c, .int .i64 s] 28))
  have HPL := Lib.hid hpl
  clear hpl
  go_enter Try.func21, Try.ntmps21
  go_wp2_with fail
  refine HPL.out.mono ?_
  rintro e w1 ⟨rfl, hb⟩
  have HT1 := Lib.hid (below_then HT.out hb HT.out.size)
  have hbx : Whole (w1.alloc (.cells #[.slice none 0 0, .bool false, .bool false, .bool false, .bool false, .bool false, .bool false, .bool false, .bool false, .bool false, .map none] 78)) w1.heap.size 78 #[.slice none 0 0, .bool false, .bool false, .bool false, .bool false, .bool false, .bool false, .bool false, .bool false, .bool false, .map none] := Whole.fresh _ _ _
  have HT2 := Lib.hid (HT1.out.alloc HT1.out.size (.cells #[.slice none 0 0, .bool false, .bool false, .bool false, .bool false, .bool false, .bool false, .bool false, .bool false, .bool false, .map none] 78))
  clear hb
  unfold zero11
  obtain ⟨c0, c1, c2, c3, c4, c5, c6, c7, c8, c9, c10⟩ := cells11 hbx
  have hbl := hbx.lt
  go_wp2_with fail
  have hln := firstPlan_zero (w1.alloc (.cells #[.slice none 0 0, .bool false, .bool false, .bool false, .bool false, .bool false, .bool false, .bool false, .bool false, .bool false, .map none] 78))
  unfold zero11 at hln
  refine hln.mono ?_
  clear hln
  rintro e w2 ⟨rfl, hb⟩
  have HT3 := Lib.hid (below_then HT2.out hb HT2.out.size)
  clear hb hbx c0 c1 c2 c3 c4 c5 c6 c7 c8 c9 c10 hbl
  go_wp2
  go_ret2
  exact BackPost.no HT3.out

set_option maxHeartbeats 6400000 in
set_option maxRecDepth 100000 in
theorem implFirstB_yes (A : Option Addr) (n c q : Nat) (xs : List Int) (w : World) (hA : Holds w A (nums xs)) (hx : xs.length = n) (hp : isParty xs (q : Int) = true) (hpl : planOk xs n q = true) :
    Calls Try.prog 21 #[.agg #[.slice A n c, .int .i64 (q : Int)]] w (BackPost (goB (slowOf xs) (upLists n q) (leftM xs n q) 512 0) true w) := by
  obtain ⟨g1, g8, gq1, gq8, gxs⟩ := party_parts hp
  rw [hx] at g1 g8
  have HLO := Lib.hid (left_ok (q := q) hx g8 gxs)
  have HUL := Lib.hid (upLists_small (n := n) (m := q) g8)
  have HPY := Lib.hid (planned_yes A n c q xs _ (hA.alloc (.cells #[.slice A n c, .int .i64 (q : Int)] 28)) hx hp hpl)
  have HT := Lib.hid (below1 w (.cells #[.slice A n c, .int .i64 (q : Int)] 28))
  obtain ⟨v0, hv0⟩ : ∃ v0, leftM xs n q 0 = some v0 := by
    rw [show leftM xs n q 0 = partyD xs n q (codeOf (trues n) true) 0 from rfl, party_first hx g8 (fun y hy => (gxs y hy).1)]
    exact Option.isSome_iff_exists.1 hpl
  have HV0 := Lib.hid hv0
  have HED : Hid (codeOf (trues n) true ∈ sts 4) := code_mem (by simp [trues]; omega)
  clear hp hA gxs hpl hx hv0
  obtain ⟨Ls, hLs⟩ : ∃ Ls, upLists n q = Ls := ⟨_, rfl⟩
  go_enter Try.func21, Try.ntmps21
  go_wp2_with fail
  refine HPY.out.mono ?_
  rintro e w1 ⟨E, cE, mb, rfl, hown, hmap, hb⟩
  have HT1 := Lib.hid (below_then HT.out hb HT.out.size)
  obtain ⟨x, hxx⟩ : ∃ x, codeOf (trues n) true = x := ⟨_, rfl⟩
  obtain ⟨M, hM⟩ : ∃ M, leftM xs n q = M := ⟨_, rfl⟩
  obtain ⟨T, hT⟩ : ∃ T, slowOf xs = T := ⟨_, rfl⟩
  have HQ9 : Hid (goB T Ls M 512 0 = goB (slowOf xs) (upLists n q) (leftM xs n q) 512 0) := by show _ = _; rw [← hLs, ← hT, ← hM]
  rw [show partyD xs n q (codeOf (trues n) true) = leftM xs n q from rfl, hM] at hmap
  rw [hLs, hT, hM, hxx] at HLO
  rw [hLs, hT] at hown
  rw [hLs] at HUL
  rw [hM] at HV0
  rw [hxx] at HED
  rw [hxx, hLs]
  have hfp := firstPlan_any T _ E cE Ls x mb M v0 (w1.alloc (.cells (routeC E Ls.length cE x mb) 78)) (hown.alloc _) (hmap.alloc _) HLO.out HUL.out HED.out HV0.out
  have HBL := Lib.hid hfp
  have hbx : Whole (w1.alloc (.cells (routeC E Ls.length cE x mb) 78)) w1.heap.size 78 (routeC E Ls.length cE x mb) := Whole.fresh _ _ _
  have HT2 := Lib.hid (HT1.out.alloc HT1.out.size (.cells (routeC E Ls.length cE x mb) 78))
  clear hb hown hmap hxx hM hT hfp
  unfold routeC at hbx HT2 HBL
  unfold routeC
  obtain ⟨c0, c1, c2, c3, c4, c5, c6, c7, c8, c9, c10⟩ := cells11 hbx
  have hbl := hbx.lt
  go_wp2_with fail
  refine HBL.out.mono ?_
  rintro e w2 ⟨A1, cA, rs, rfl, hrn, hh, hb⟩
  have HT3 := Lib.hid (below_then HT2.out hb HT2.out.size)
  have HRN := Lib.hid (hrn.trans HQ9.out)
  have HH := Lib.hid (hh.raise (show w.heap.size ≤ _ from HT2.out.size))
  clear hb hbx c0 c1 c2 c3 c4 c5 c6 c7 c8 c9 c10 hbl hrn hh HBL HPY
  go_wp2
  go_ret2
  exact ⟨A1, rs.length, cA, rs, rfl, HRN.out, rfl, HH.out.free, HT3.out⟩

theorem implFirstB_any (A : Option Addr) (n c : Nat) (xs : List Int) (s : Int) (w : World) (hA : Holds w A (nums xs)) (hx : xs.length = n) (hn : n ≤ 9223372036854775807) :
    Calls Try.prog 21 #[.agg #[.slice A n c, .int .i64 s]] w (BackPost (bestPl xs s) (leastOk xs s) w) := by
  have hA1 := hA.alloc (.cells #[.slice A n c, .int .i64 s] 28)
  cases hp : isParty xs s
  · have h0 := (leastOk_none hp).1
    rw [bestPl_no h0, h0]
    exact implFirstB_zero A n c xs s w (planned_none A n c xs s _ hA1 hx hn hp)
  · obtain ⟨q, rfl⟩ : ∃ q : Nat, s = (q : Int) := ⟨s.toNat, by simp only [isParty, Bool.and_eq_true, within_iff] at hp; omega⟩
    have hok := leastOk_at hp
    rw [hx] at hok
    cases hpl : planOk xs n q
    · rw [hpl] at hok
      rw [bestPl_no hok, hok]
      exact implFirstB_zero A n c xs (q : Int) w (planned_no A n c q xs _ hA1 hx hp hpl)
    · rw [hpl] at hok
      rw [bestPl_yes hx hok, hok]
      exact implFirstB_yes A n c q xs w hA hx hp hpl
end Go.Proofs.Ytlpeimlbpiofkaa

namespace Go.Proofs.Ytlpeimlbpiofkaa
open Go.RowKit

set_option maxHeartbeats 6400000 in
set_option maxRecDepth 100000 in
set_option linter.unusedVariables false in
set_option linter.unusedSimpArgs false in
theorem specBestF_any (A : Option Addr) (n c : Nat) (xs : List Int) (s : Int) (w : World) (hA0 : Holds w A (nums xs)) (hx : xs.length = n) (hn0 : n ≤ 9223372036854775807) :
    Calls Try.prog 26 #[.agg #[.slice A n c, .int .i64 s]] w (BackPost (firstTr xs s) (leastOk xs s) w) := by
  have HAW := Lib.hid hA0
  have hA := hA0.alloc (.cells #[.slice A n c, .int .i64 s] 28)
  have hq := Whole.fresh w 28 #[.slice A n c, .int .i64 s]
  have HT := Lib.hid (below1 w (.cells #[.slice A n c, .int .i64 s] 28))
  cases hp : isParty xs s
  · have h0 := (leastOk_none hp).1
    have HV : Hid (firstTr xs s = [] ∧ leastOk xs s = false) := ⟨firstTr_no h0, h0⟩
    have HP := Lib.hid hp
    have HX := Lib.hid hx
    have HA := Lib.hid hA
    clear hp hA hA0 hx h0
    go_enter Try.func26, Try.ntmps26
    go_wp2_with fail
    refine (paGood_any A n c xs s _ HA.out HX.out hn0).mono ?_
    rintro e w1 ⟨rfl, hb⟩
    rw [HP.out]
    have HT1 := Lib.hid (below_then HT.out hb HT.out.size)
    clear hb hq
    go_wp2
    go_ret2
    rw [HV.out.1, HV.out.2]
    exact BackPost.no HT1.out
  · obtain ⟨q, rfl⟩ : ∃ q : Nat, s = (q : Int) := ⟨s.toNat, by simp only [isParty, Bool.and_eq_true, within_iff] at hp; omega⟩
    obtain ⟨h1, hn, gq1, hq8, gxs⟩ := party_parts hp
    rw [hx] at h1 hn
    have HP := Lib.hid hp
    have HA := Lib.hid hA
    have HXS := Lib.hid gxs
    have HX := Lib.hid hx
    have hok := leastOk_at hp
    rw [hx] at hok
    cases hpl : planOk xs n q
    · rw [hpl] at hok
      have HV : Hid (firstTr xs (q : Int) = [] ∧ leastOk xs (q : Int) = false) := ⟨firstTr_no hok, hok⟩
      have HLP := Lib.hid (leastP_no hpl)
      clear hp hA hA0 gxs hpl hok hx
      go_enter Try.func26, Try.ntmps26
      go_wp2_with fail
      refine (paGood_any A n c xs (q : Int) _ HA.out HX.out hn0).mono ?_
      rintro e w1 ⟨rfl, hb⟩
      rw [HP.out]
      have HT1 := Lib.hid (below_then HT.out hb HT.out.size)
      have HA1 := Lib.hid (HA.out.below hb)
      replace hq := hq.below hb
      obtain ⟨k0, k1⟩ := hq.cells2
      have hql := hq.lt
      clear hb
      go_wp2_with fail
      refine (seLeast_any A n c q xs _ HA1.out HX.out h1 hn hq8 HXS.out).mono ?_
      rintro e w2 ⟨rfl, hb⟩
      rw [HLP.out]
      have HT2 := Lib.hid (below_then HT1.out hb HT1.out.size)
      clear hb hq k0 k1 hql
      go_wp2
      go_ret2
      rw [HV.out.1, HV.out.2]
      exact BackPost.no HT2.out
    · rw [hpl] at hok
      have HV : Hid (firstTr xs (q : Int) = bestOf (slowOf xs) (upLists n q) (leftM xs n q) 0 ∧ leastOk xs (q : Int) = true) := ⟨firstTr_yes hx hok, hok⟩
      obtain ⟨v, hv⟩ : ∃ v, leastP xs n q = v := ⟨_, rfl⟩
      have hv0 : 0 ≤ v := by rw [← hv]; exact leastP_yes hx (fun y hy => (gxs y hy).1) hpl
      have hv1 : ¬ v < 0 := by omega
      have hd0 : decide (v < 0) = false := by simpa using hv1
      have HLV := Lib.hid hv
      obtain ⟨v0, hvv⟩ : ∃ v0, leftM xs n q 0 = some v0 := by
        rw [show leftM xs n q 0 = partyD xs n q (codeOf (trues n) true) 0 from rfl, party_first hx hn (fun y hy => (gxs y hy).1)]
        exact Option.isSome_iff_exists.1 hpl
      have HV0 := Lib.hid hvv
      have HLO := Lib.hid (left_ok (q := q) hx hn gxs)
      have HTL : Hid ((trues n).length = n) := by show _ = _; simp [trues]
      have HFL : Hid ((falses n).length = n) := by show _ = _; simp [falses]
      clear hp hA0 hA gxs hpl hv hvv hok hx
      rw [HV.out.1, HV.out.2]
      go_enter Try.func26, Try.ntmps26
      go_wp2_with fail
      refine (paGood_any A n c xs (q : Int) _ HA.out HX.out hn0).mono ?_
      rintro e w1 ⟨rfl, hb⟩
      rw [HP.out]
      have HT1 := Lib.hid (below_then HT.out hb HT.out.size)
      have HA1 := Lib.hid (HA.out.below hb)
      replace hq := hq.below hb
      obtain ⟨k0, k1⟩ := hq.cells2
      have hql := hq.lt
      clear hb
      go_wp2_with fail
      refine (seLeast_any A n c q xs _ HA1.out HX.out h1 hn hq8 HXS.out).mono ?_
      rintro e w2 ⟨rfl, hb⟩
      rw [HLV.out]
      have HT2 := Lib.hid (below_then HT1.out hb HT1.out.size)
      have HA2 := Lib.hid (HA1.out.below hb)
      replace hq := hq.below hb
      clear k0 k1 hql hb
      obtain ⟨k0, k1⟩ := hq.cells2
      have hql := hq.lt
      have hA0 := HAW.out
      go_upto_region 3 with fail
      clear k0 k1 hql
      go_wp2_with fail
      refine wp_region_held_drew (S := (Two w.heap.size (.slice A n c) (.int .i64 (q : Int)))) (by kernel_rfl) (two_of hq.drew) (fun hHeld => ?_)
      replace hq := hq.drew
      have ht := HT2.out.drew
      replace HA := Lib.hid hA0
      generalize World.drew w2 = wd at hq ht hHeld ⊢
      refine wpAnyH_take (i := 0) (v := ?_) rfl (by kernel_rfl) (by kernel_rfl) (by kernel_rfl) (fun _ _ _ h => h) (Or.inl ⟨rfl, ?_⟩) hHeld ?_
      rotate_left
      · intro w' hS; obtain ⟨s0, s1⟩ := hS; go_simp <;> with_reducible rfl
      simp only [Act.put, List.getElem_toArray, List.getElem_cons_succ, List.getElem_cons_zero, List.setIfInBounds_toArray, List.set_cons_succ, List.set_cons_zero]
      refine wpAnyH_take (i := 1) (v := ?_) rfl (by kernel_rfl) (by kernel_rfl) (by kernel_rfl) (fun _ _ _ h => h) (Or.inl ⟨rfl, ?_⟩) hHeld ?_
      rotate_left
      · intro w' hS; obtain ⟨s0, s1⟩ := hS; go_simp <;> with_reducible rfl
      simp only [Act.put, List.getElem_toArray, List.getElem_cons_succ, List.getElem_cons_zero, List.setIfInBounds_toArray, List.set_cons_succ, List.set_cons_zero]
      refine wpAnyH_take (i := 2) (v := ?_) rfl (by kernel_rfl) (by kernel_rfl) (by kernel_rfl) (fun _ _ _ h => h) (Or.inl ⟨rfl, ?_⟩) hHeld ?_
      rotate_left
      · intro w' hS; obtain ⟨s0, s1⟩ := hS; go_simp <;> with_reducible rfl
      simp only [Act.put, List.getElem_toArray, List.getElem_cons_succ, List.getElem_cons_zero, List.setIfInBounds_toArray, List.set_cons_succ, List.set_cons_zero]
      refine wpAnyH_take (i := 5) (v := ?_) rfl (by kernel_rfl) (by kernel_rfl) (by kernel_rfl) (fun _ _ _ h => h) (Or.inl ⟨rfl, ?_⟩) hHeld ?_
      rotate_left
      · intro w' hS; obtain ⟨s0, s1⟩ := hS; go_simp <;> with_reducible rfl
      simp only [Act.put, List.getElem_toArray, List.getElem_cons_succ, List.getElem_cons_zero, List.setIfInBounds_toArray, List.set_cons_succ, List.set_cons_zero]
      refine wpAnyH_ready (rs := [3]) (by kernel_rfl) (by simp) (AllReadyH.cons rfl (fun K hK => ?_) AllReadyH.nil)
      go_simp
      refine (paLast_any A n c (q : Int) _ (by omega)).mono ?_
      rintro e wds ⟨A2, c2, rfl, hw9, hb⟩
      rw [HTL.out]
      replace hq := hq.below hb
      replace ht := below_then ht hb ht.size
      have hB2 := hw9.holds
      clear hw9 hb
      refine hK.out _ _ (two_of hq) (fun hHeld => ?_)
      clear hK K
      try simp only [Act.put, List.getElem_toArray, List.getElem_cons_succ, List.getElem_cons_zero, List.setIfInBounds_toArray, List.set_cons_succ, List.set_cons_zero]
      refine wpAnyH_ready (rs := [4]) (by kernel_rfl) (by simp) (AllReadyH.cons rfl (fun K hK => ?_) AllReadyH.nil)
      go_simp
      refine (seFar_any A A2 n c c2 q xs (trues n) true _ (HA.out.below ht) hB2 HX.out HTL.out h1 hn hq8 HXS.out).mono ?_
      rintro e wdss ⟨gF, done, o, rfl, hol, hFr0, hL, hno, hbd, -, hb⟩
      replace hq := hq.below hb
      replace ht := below_then ht hb ht.size
      have hFr := hFr0
      have HOL := Lib.hid hol
      have HTE : Hid (TellsO n (leftM xs n q) o) := left_tells HX.out hn HXS.out hL hno (fun i => (hbd i).1)
      have HNB := Lib.hid hbd
      clear hFr0 hol hL hno hbd hB2 hb
      refine hK.out _ _ (two_of hq) (fun hHeld => ?_)
      clear hK K
      try simp only [Act.put, List.getElem_toArray, List.getElem_cons_succ, List.getElem_cons_zero, List.setIfInBounds_toArray, List.set_cons_succ, List.set_cons_zero]
      refine wpAnyH_ready (rs := [6]) (by kernel_rfl) (by simp) (AllReadyH.cons rfl (fun K hK => ?_) AllReadyH.nil)
      go_simp
      refine (paFirst_any A n c (q : Int) _ (by omega)).mono ?_
      rintro e wdssf ⟨rfl, hw9, hb⟩
      obtain ⟨g1, hg1⟩ : ∃ g, g = wdss.heap.size + 1 + 1 := ⟨_, rfl⟩
      rw [← hg1] at hw9 ⊢
      replace hq := hq.below hb
      replace ht := below_then ht hb ht.size
      replace hFr := hFr.below hb
      have hB1 : Holds wdssf (some ⟨g1, 0, none⟩) (bits (falses n)) := (Fresh.of_whole (lo := 0) (hi := wdssf.heap.size) hw9 (Nat.zero_le _) hw9.lt).holds
      clear hw9 hg1 hb
      refine hK.out _ _ (two_of hq) (fun hHeld => ?_)
      clear hK K
      try simp only [Act.put, List.getElem_toArray, List.getElem_cons_succ, List.getElem_cons_zero, List.setIfInBounds_toArray, List.set_cons_succ, List.set_cons_zero]
      refine wpAnyH_ready (rs := [7]) (by kernel_rfl) (by simp) (AllReadyH.cons rfl (fun K hK => ?_) AllReadyH.nil)
      go_simp
      refine (seNext_any A (some ⟨g1, 0, none⟩) n c q n gF o.length xs o (falses n) false _ (HA.out.below ht) hB1 hFr HX.out HFL.out h1 hn hq8 HXS.out HOL.out HNB.out).mono ?_
      rintro e wdssfn ⟨G, cG, rs, rfl, hrn, hh, hb⟩
      have HH := Lib.hid (hh.raise ht.size)
      replace hq := hq.below hb
      replace ht := below_then ht hb ht.size
      have HRN := Lib.hid hrn
      clear hb hh hrn hB1 hFr
      refine hK.out _ _ (two_of hq) (fun hHeld => ?_)
      clear hK K
      try simp only [Act.put, List.getElem_toArray, List.getElem_cons_succ, List.getElem_cons_zero, List.setIfInBounds_toArray, List.set_cons_succ, List.set_cons_zero]
      refine wpAnyH_take (i := 8) (v := ?_) rfl (by kernel_rfl) (by kernel_rfl) (by kernel_rfl) (fun _ _ _ h => h) (Or.inl ⟨rfl, ?_⟩) hHeld ?_
      rotate_left
      · intro w' hS; obtain ⟨s0, s1⟩ := hS; go_simp <;> with_reducible rfl
      simp only [Act.put, List.getElem_toArray, List.getElem_cons_succ, List.getElem_cons_zero, List.setIfInBounds_toArray, List.set_cons_succ, List.set_cons_zero]
      refine wpAnyH_take (i := 9) (v := ?_) rfl (by kernel_rfl) (by kernel_rfl) (by kernel_rfl) (fun _ _ _ h => h) (Or.inl ⟨rfl, ?_⟩) hHeld ?_
      rotate_left
      · intro w' hS; obtain ⟨s0, s1⟩ := hS; go_simp <;> with_reducible rfl
      simp only [Act.put, List.getElem_toArray, List.getElem_cons_succ, List.getElem_cons_zero, List.setIfInBounds_toArray, List.set_cons_succ, List.set_cons_zero]
      refine wpAnyH_done (by kernel_rfl) ?_ _
      clear hHeld
      have HTT := Lib.hid ht
      clear ht hq
      go_wp2
      go_ret2
      exact ⟨G, rs.length, cG, rs, rfl, by rw [HRN.out]; exact (next_best HLO.out hn (fun l hl => up_all hl) HFL.out HTE.out (by rw [show codeOf (falses n) false = 0 from code_none n]; exact HV0.out)).trans (by rw [show codeOf (falses n) false = 0 from code_none n]), rfl, HH.out.free, HTT.out⟩

theorem Fresh.kept_row {w w' : World} {lo hi base size n : Nat} {ty e : TypeId} {A : Option Addr} {v : Value} {xs ys : List Value} (hf : Fresh w lo hi ty A xs) (hg : w.grownBy w' v.ownBlock) (ho : w.ownsRow base e size v n ys) (hne : ty ≠ e) : Fresh w' lo hi ty A xs := by
  rcases hf with rfl | ⟨g, cs, hA, h1, h2, hw, h3, h4⟩
  · exact .inl rfl
  · exact .inr ⟨g, cs, hA, h1, h2, whole_apart hw hg (fun e => own_apart ho hw hne e.symm), h3, h4⟩
theorem Heads.set_lowB {w : World} {lo c b : Nat} {A : Option Addr} {rs : List RowV} (h : Heads w lo A c rs) (hb : b < lo) (o : Nat) (u : Value) : Heads (w.setCell ⟨b, o, none⟩ u) lo A c rs := by
  obtain ⟨h1, ps, ⟨k1, k2, k3⟩, h3, h4⟩ := h
  refine ⟨ownsRow_setCell_below h1 (a := ⟨b, o, none⟩) hb u, ps, ⟨k1, fun k r p hk hp => ⟨(k2 k r p hk hp).1.set_out (.inl (by have := (h3 p (List.mem_of_getElem? hp)).1; omega)), (k2 k r p hk hp).2⟩, k3⟩, fun p hp => ⟨(h3 p hp).1, by have := (h3 p hp).2; simpa [World.setCell] using this⟩, h4⟩
theorem Heads.row_fresh {w : World} {lo c : Nat} {A : Option Addr} {rs : List RowV} (h : Heads w lo A c rs) : ∀ r ∈ rs, Fresh w lo w.heap.size 3 r.A (nums r.xs) ∧ r.xs.length = r.n ∧ r.n ≤ 1048576 := by
  obtain ⟨-, ps, ⟨k1, k2, -⟩, h3, -⟩ := h
  intro r hr
  obtain ⟨i, hi, rfl⟩ := List.getElem_of_mem hr
  have hp : i < ps.length := by omega
  obtain ⟨f1, f2, f3⟩ := k2 i rs[i] ps[i] (by simp [hi]) (by simp [hp])
  obtain ⟨h4, h5⟩ := h3 ps[i] (List.getElem_mem hp)
  exact ⟨f1.more h4 h5, f2, f3⟩

set_option maxHeartbeats 12800000 in
set_option maxRecDepth 100000 in
set_option linter.unusedVariables false in
set_option linter.unusedSimpArgs false in
theorem seBest_any (A : Option Addr) (n c q : Nat) (xs : List Int) (v0 : Int) (w : World) (hA : Holds w A (nums xs)) (hx : xs.length = n) (h1 : 1 ≤ n) (hn : n ≤ 8) (hq8 : q ≤ 8) (hxs : ∀ y ∈ xs, 1 ≤ y ∧ y ≤ 1000) (hv0 : leftM xs n q 0 = some v0) :
    Calls Try.prog 65 #[.agg #[.slice A n c, .int .i64 (q : Int)]] w (NextPost (goB (slowOf xs) (upLists n q) (leftM xs n q) 512 0) w) := by
  obtain ⟨i1, ri, rz0, rz1, rz2⟩ := info_parts info_row
  have RI := Lib.hid ri
  have RZ0 := Lib.hid rz0
  have RZ1 := Lib.hid rz1
  have RZ2 := Lib.hid rz2
  have HA := Lib.hid hA
  have HX := Lib.hid hx
  have HXS := Lib.hid hxs
  have HG0 := Lib.hid hv0
  have HLO := Lib.hid (left_ok (q := q) hx hn hxs)
  have HTL : Hid ((trues n).length = n) := by show _ = _; simp [trues]
  have HFL : Hid ((falses n).length = n) := by show _ = _; simp [falses]
  have hq := Whole.fresh w 28 #[.slice A n c, .int .i64 (q : Int)]
  have ht := below1 w (.cells #[.slice A n c, .int .i64 (q : Int)] 28)
  obtain ⟨M, hM⟩ : ∃ M, leftM xs n q = M := ⟨_, rfl⟩
  obtain ⟨T, hT⟩ : ∃ T, slowOf xs = T := ⟨_, rfl⟩
  obtain ⟨Ls, hLs⟩ : ∃ Ls, upLists n q = Ls := ⟨_, rfl⟩
  have HMD := Lib.hid hM
  have HTD := Lib.hid hT
  have HLD := Lib.hid hLs
  rw [hM, hT, hLs] at HLO
  rw [hM] at HG0
  rw [hM, hT, hLs]
  clear hA hx hxs hv0 hM hT hLs ri rz0 rz1 rz2
  go_enter Try.func65, Try.ntmps65
  go_wp2_with fail
  refine wp_region_held_drew (S := (Two w.heap.size (.slice A n c) (.int .i64 (q : Int)))) (by kernel_rfl) (two_of hq.drew) (fun hHeld => ?_)
  replace hq := hq.drew
  replace ht := ht.drew
  generalize World.drew (w.alloc (.cells #[.slice A n c, .int .i64 (q : Int)] 28)) = wd at hq ht hHeld ⊢
  refine wpAnyH_take (i := 0) (v := ?_) rfl (by kernel_rfl) (by kernel_rfl) (by kernel_rfl) (fun _ _ _ h => h) (Or.inl ⟨rfl, ?_⟩) hHeld ?_
  rotate_left
  · intro w' hS; obtain ⟨s0, s1⟩ := hS; go_simp <;> with_reducible rfl
  simp only [Act.put, List.getElem_toArray, List.getElem_cons_succ, List.getElem_cons_zero, List.setIfInBounds_toArray, List.set_cons_succ, List.set_cons_zero]
  refine wpAnyH_take (i := 1) (v := ?_) rfl (by kernel_rfl) (by kernel_rfl) (by kernel_rfl) (fun _ _ _ h => h) (Or.inl ⟨rfl, ?_⟩) hHeld ?_
  rotate_left
  · intro w' hS; obtain ⟨s0, s1⟩ := hS; go_simp <;> with_reducible rfl
  simp only [Act.put, List.getElem_toArray, List.getElem_cons_succ, List.getElem_cons_zero, List.setIfInBounds_toArray, List.set_cons_succ, List.set_cons_zero]
  refine wpAnyH_ready (rs := [2]) (by kernel_rfl) (by simp) (AllReadyH.cons rfl (fun K hK => ?_) AllReadyH.nil)
  go_simp
  refine (paLast_any A n c (q : Int) _ (by omega)).mono ?_
  rintro e wdl ⟨A2, c2, rfl, hw9, hb⟩
  rw [HTL.out]
  replace hq := hq.below hb
  replace ht := below_then ht hb ht.size
  have hB2 := hw9.holds
  clear hw9 hb
  refine hK.out _ _ (two_of hq) (fun hHeld => ?_)
  clear hK K
  try simp only [Act.put, List.getElem_toArray, List.getElem_cons_succ, List.getElem_cons_zero, List.setIfInBounds_toArray, List.set_cons_succ, List.set_cons_zero]
  refine wpAnyH_ready (rs := [3]) (by kernel_rfl) (by simp) (AllReadyH.cons rfl (fun K hK => ?_) AllReadyH.nil)
  go_simp
  refine (seFar_any A A2 n c c2 q xs (trues n) true _ (HA.out.below ht) hB2 HX.out HTL.out h1 hn hq8 HXS.out).mono ?_
  rintro e wdls ⟨gF, done, o, rfl, hol, hFr0, hL, hno, hbd, -, hb⟩
  replace hq := hq.below hb
  replace ht := below_then ht hb ht.size
  have hFr := hFr0
  have HOL := Lib.hid hol
  have HTE : Hid (TellsO n (leftM xs n q) o) := left_tells HX.out hn HXS.out hL hno (fun i => (hbd i).1)
  have HNB := Lib.hid hbd
  clear hFr0 hol hL hno hbd hB2 hb
  refine hK.out _ _ (two_of hq) (fun hHeld => ?_)
  clear hK K
  try simp only [Act.put, List.getElem_toArray, List.getElem_cons_succ, List.getElem_cons_zero, List.setIfInBounds_toArray, List.set_cons_succ, List.set_cons_zero]
  refine wpAnyH_take (i := 4) (v := ?_) rfl (by kernel_rfl) (by kernel_rfl) (by kernel_rfl) (fun _ _ _ h => h) (Or.inl ⟨rfl, ?_⟩) hHeld ?_
  rotate_left
  · intro w' hS; obtain ⟨s0, s1⟩ := hS; go_simp <;> with_reducible rfl
  simp only [Act.put, List.getElem_toArray, List.getElem_cons_succ, List.getElem_cons_zero, List.setIfInBounds_toArray, List.set_cons_succ, List.set_cons_zero]
  refine wpAnyH_done (by kernel_rfl) ?_ _
  clear hHeld
  rw [HMD.out] at HTE
  have hFl := hFr.lt
  have HFW := Lib.hid hFr
  have HQW := Lib.hid hq
  have HTW := Lib.hid ht
  obtain ⟨k0, k1⟩ := hq.cells2
  have hql := hq.lt
  clear hq hFr ht
  go_wp2_with fail
  refine (paFirst_any A n c (q : Int) _ (by omega)).mono ?_
  rintro e w2 ⟨rfl, hw9, hb⟩
  obtain ⟨g1, hg1⟩ : ∃ g, g = wdls.heap.size + 1 + 1 := ⟨_, rfl⟩
  rw [← hg1] at hw9 ⊢
  have hg1l := hw9.lt
  have hFr2 := HFW.out.below hb
  have hq2 := HQW.out.below hb
  have ht2 := below_then HTW.out hb HTW.out.size
  have hs2 := hb.size
  clear hb k0 k1 hql
  have HS3 := Lib.hid (Whole.fresh w2 44 #[.slice (some ⟨g1, 0, none⟩) n n, .bool false])
  have HF3 := Lib.hid (hFr2.alloc (.cells #[.slice (some ⟨g1, 0, none⟩) n n, .bool false] 44))
  have HQ3 := Lib.hid (hq2.alloc (.cells #[.slice (some ⟨g1, 0, none⟩) n n, .bool false] 44))
  have HT3 := Lib.hid (ht2.alloc ht2.size (.cells #[.slice (some ⟨g1, 0, none⟩) n n, .bool false] 44))
  have HD3 := Lib.hid (Fresh.of_whole (lo := 0) (hi := w2.heap.size) (hw9.alloc (.cells #[.slice (some ⟨g1, 0, none⟩) n n, .bool false] 44)) (Nat.zero_le _) hg1l)
  have hgS : gF < w2.heap.size := hFr2.lt
  have hws : w.heap.size < w2.heap.size := hq2.lt
  obtain ⟨z, hz⟩ : ∃ z, o.length = z := ⟨_, rfl⟩
  rw [hz]
  have HZ := Lib.hid hz
  clear hw9 hg1l hFr2 hq2 ht2 hs2 hg1 hFl hz
  go_wp2
  go_loopg [5] 512 (fun gh v wr => ∃ (bs : List Bool) (t : Bool) (D : Option Addr) (dC fl fh : Nat) (u : Int) (rs : List RowV) (E : Option Addr) (cE : Nat), bs.length = n ∧ M (codeOf bs t) = some u ∧ lessN (sts 4) M u ≤ gh ∧ rowNums rs ++ goB T Ls M gh (codeOf bs t) = goB T Ls M 512 0 ∧ v = .slice E rs.length cE ∧ rs.length + gh = 512 ∧ Heads wr (w2.heap.size + 1) E cE rs ∧ Whole wr w2.heap.size 44 #[.slice D n dC, .bool t] ∧ Fresh wr fl fh 4 D (bits bs) ∧ (w2.heap.size < fl ∨ fh ≤ w2.heap.size) ∧ Whole wr gF 3 (nums o).toArray ∧ Whole wr w.heap.size 28 #[.slice A n c, .int .i64 (q : Int)] ∧ Below w.heap.size w wr)
  case atStart => exact ⟨falses n, false, some ⟨g1, 0, none⟩, n, 0, w2.heap.size, v0, [], none, 0, HFL.out, by rw [show codeOf (falses n) false = 0 from code_none n]; exact HG0.out, Nat.le_trans (less_le _ _ _) (by rw [show (sts 4).length = 512 from List.length_range]; exact Nat.le_refl _), by rw [show codeOf (falses n) false = 0 from code_none n]; rfl, rfl, rfl, Heads.nil _ _, HS3.out, HD3.out, .inr (Nat.le_refl _), HF3.out, HQ3.out, HT3.out⟩
  case round =>
    clear HS3 HF3 HQ3 HT3 HD3 HG0
    obtain ⟨bs, t, D, dC, fl, fh, u, rs, E, cE, hbl, hg, hless, hls, rfl, hlen, hH, hS, hD, hfh, hF, hQ, hb⟩ := hrel
    obtain ⟨wz, rfl⟩ : ∃ W : World, W = wr := ⟨_, rfl⟩
    obtain ⟨e0, e1, -, -⟩ := hS.two
    have hsl := hS.lt
    have HBL := Lib.hid hbl
    have HB := Lib.hid hb
    have HHD := Lib.hid hH
    have HS := Lib.hid hS
    have HD := Lib.hid hD
    have HF := Lib.hid hF
    have HQ := Lib.hid hQ
    have HLS9 := Lib.hid hls
    have HFA : Hid (farS o bs t = u) := by show _ = _; rw [HTE.out bs t hbl, hg]; rfl
    obtain ⟨y, hy⟩ : ∃ y, num bs t.toNat = y := ⟨_, rfl⟩
    have hyz : y < z := by have h := num_lt bs t; rw [hbl, hy] at h; rw [← HZ.out, HOL.out]; exact h
    have hyi : (y : Int) < (z : Int) := by omega
    have HY := Lib.hid hy
    clear hb hH hS hD hF hQ hls hbl hy
    go_wp2_with fail
    refine (seIndex_any D n dC bs t wz HD.out.holds HBL.out hn).mono ?_
    rintro e wi ⟨rfl, hbi⟩
    rw [HY.out]
    have HBI := Lib.hid hbi
    have k0 := num_cellF (v := u) (HF.out.below hbi) (i := y) (by rw [HZ.out]; exact hyz) (by rw [getD_m1 (by rw [HZ.out]; exact hyz), ← HY.out]; exact HFA.out)
    have hfl := (HF.out.below hbi).lt
    clear hbi e0 e1 hsl
    by_cases hu : 0 < u
    · have hdu : decide (0 < u) = true := by simpa using hu
      obtain ⟨f', l, r9, u2, rfl, hhd, hgo, hlm, hg2, hl2, -⟩ := goB_next HLO.out hg hu hless
      have HNB2 : Hid (nextO (slowOf xs) (upLists n q) o bs t = l :: r9) := by
        show _ = _
        rw [HTD.out, HLD.out, next_best HLO.out hn (fun l hl => by rw [← HLD.out] at hl; exact up_all hl) HBL.out HTE.out hg, hhd]
      have hlL := (List.mem_filter.1 hlm).1
      have HST : Hid (StepsTo l ((n : Int) - 1) l.length) := by rw [← HLD.out] at hlL; exact (up_steps hlL).1
      have hstp := step_code (t := t) HBL.out (fun y hy => by have := mem_steps HST.out hy; omega : ∀ y ∈ l, 0 ≤ y ∧ y < (n : Int))
      rw [hstp] at hg2 hgo
      have HG := Lib.hid hg2
      have HLE := Lib.hid hl2
      have HGO := Lib.hid hgo
      have HLEN := Lib.hid hlen
      clear hg hg2 hl2 hgo hhd hless hlm hlL hstp hu hlen
      obtain ⟨q0, q1⟩ := (HQ.out.below HBI.out).cells2
      have hql := (HQ.out.below HBI.out).lt
      obtain ⟨e0, e1, -, -⟩ := (HS.out.below HBI.out).two
      have hsl := (HS.out.below HBI.out).lt
      go_wp2_with fail
      have hnx := seNext_any A D n c q dC gF z xs o bs t wi (HA.out.below (below_then HB.out HBI.out HB.out.size)) (HD.out.below HBI.out).holds (HF.out.below HBI.out) HX.out HBL.out h1 hn hq8 HXS.out HOL.out HNB.out
      rw [HZ.out, HNB2.out] at hnx
      refine hnx.mono ?_
      clear hnx k0 hfl q0 q1 hql e0 e1 hsl
      rintro e w3 ⟨G, cG, rs1, rfl, hrn, hh, hb⟩
      have h0 : 0 < rs1.length := by have h := congrArg List.length hrn; rw [rowNums_len] at h; rw [h]; simp
      have hr0 : rs1[0].xs = l := by have h := rowNums_get h0; simp only [hrn] at h; exact h.symm
      obtain ⟨hfr, hrl, hr8⟩ := hh.row_fresh rs1[0] (List.getElem_mem h0)
      obtain ⟨b5, o5, rfl, hbl5, hcell5, -, -, -⟩ := hh.free.grid.look h0
      have HB3 := Lib.hid (below_then HBI.out hb HBI.out.size)
      have HFR0 := Lib.hid (hfr.more HBI.out.size (Nat.le_refl _))
      generalize hrj : rs1[0] = rr at hcell5 hr0 hrl hr8 HFR0
      have h0i : (0 : Int) < (rs1.length : Int) := by omega
      clear hrj hfr hh hrn hb
      generalize rs1.length = nb at h0 h0i
      obtain ⟨rA, rn, rc, rx⟩ := rr
      simp only [RowV.val] at hcell5 hr0 hrl hr8 HFR0
      subst hr0
      simp only [Nat.add_zero] at hcell5
      have HRL := Lib.hid hrl
      have hz3 := HB3.out.size
      have hzl := HHD.out.1
      have HOWN := Lib.hid ((HHD.out.below HB3.out).alloc (.cells #[.slice rA rn rc] 22)).1
      have HMAX := Lib.hid (show rs.length + 1 ≤ maxLen by have := HLEN.out; unfold maxLen; omega)
      have HBYT := Lib.hid (show (rs.length + 1) * 24 ≤ 140737488355328 by have := HLEN.out; omega)
      have hlo : w2.heap.size + 1 ≤ wz.heap.size := HS.out.lt
      have HBASE := Lib.hid (show w2.heap.size + 1 ≤ (w3.alloc (.cells #[.slice rA rn rc] 22)).heap.size by simp; omega)
      have HBX := Lib.hid (HB3.out.alloc hz3 (.cells #[.slice rA rn rc] 22))
      have hfr3 : Fresh w3 wz.heap.size w3.heap.size 3 rA (nums rx) := HFR0.out
      have HFR := Lib.hid hfr3
      clear hrl hfr3 hzl
      go_upto_region 7 with (at_builtin; refine wpList_append_lies _ rfl (.tmp 25) (.tmp 27) 32 rfl (w2.heap.size + 1) 22 i1 (.slice none 0 0) 1 24 Try.underlying32 RI.out RZ0.out RZ1.out RZ2.out rfl (by decide) (.slice E rs.length cE) rs.length (rowVals rs) rfl HOWN.out ⟨w3.heap.size, 0, none⟩ 1 1 [.slice rA rn rc] rfl rfl (cell_one_new _ _ _) (by simp [Value.oneCell']) (by decide) HMAX.out HBYT.out HBASE.out (w3.heap.size + 1) (by simp) ?_; intro g5 cap w5 hown4 hg4 hat4 hlt4)
      have hrr : ∀ k, (Value.slice E rs.length cE).ownBlock = some k → w2.heap.size + 1 ≤ k ∧ k < wz.heap.size := fun k hk => HHD.out.1.lt k hk
      have HH5 := Lib.hid (Heads.push (r := ⟨rA, rn, rc, rx⟩) HHD.out hlo HB3.out HFR.out HRL.out hr8 hown4 hg4 hat4)
      have HB5 := Lib.hid ((below_then HB.out HBX.out HB.out.size).grown hg4 (show w.heap.size ≤ (w3.alloc (.cells #[.slice rA rn rc] 22)).heap.size by simp; omega) (fun kk hkk => by have := (hrr kk hkk).1; omega))
      have hS5 := whole_apart (HS.out.below HBX.out) hg4 (fun e => absurd (hrr _ e.symm).1 (by omega))
      have hF5 := whole_apart (HF.out.below HBX.out) hg4 (fun e => absurd (hrr _ e.symm).1 (by omega))
      have hQ5 := whole_apart (HQ.out.below HBX.out) hg4 (fun e => absurd (hrr _ e.symm).1 (by omega))
      have hgb : Below (w2.heap.size + 1) w3 w3 := Below.refl _ _
      have hD5 : Holds w5 D (bits bs) := (Fresh.kept_row (HD.out.below HBX.out) hg4 HOWN.out (by decide)).holds
      have hR5 : Holds w5 rA (nums rx) := (Fresh.kept_row (HFR.out.below (below1 w3 (.cells #[.slice rA rn rc] 22))) hg4 HOWN.out (by decide)).holds
      obtain ⟨e0, e1, -, -⟩ := hS5.two
      have hsl := hS5.lt
      have HS5 := Lib.hid hS5
      have HF5 := Lib.hid hF5
      have HQ5 := Lib.hid hQ5
      obtain ⟨bD, oD, rfl, -, hDc⟩ := hD5.spot (by simp [bits]; have := HBL.out; omega)
      have HDC := Lib.hid hDc
      have HR5 := Lib.hid hR5
      clear hown4 hg4 hat4 hlt4 hS5 hF5 hQ5 hD5 hR5 hcell5 hbl5 hDc hgb
      go_wp2_with fail
      refine (paCross_any bD oD n dC rA rn rc bs rx t w5 HDC.out HBL.out (by omega) (by omega) HR5.out HRL.out (by omega) HST.out).mono ?_
      rintro e w6 ⟨A6, c6, rfl, hf6, hb6⟩
      have hfl : (flipped bs rx).length = n := by rw [flipped_len, HBL.out]
      rw [hfl]
      have hz5 := HB5.out.size
      have hz6 := hb6.size
      have HS6 := Lib.hid (HS5.out.below hb6)
      obtain ⟨a0, a1, a2, a3⟩ := HS6.out.two
      have hal := HS6.out.lt
      have HB7 := Lib.hid (below_set (b := w2.heap.size) (o := 1) (u := .bool (!t)) (below_set (b := w2.heap.size) (o := 0) (u := .slice A6 n c6) (below_then HB5.out hb6 HB5.out.size) (by omega)) (by omega))
      have HH7 := Lib.hid (((HH5.out.below hb6).set_lowB (b := w2.heap.size) (by omega) 0 (.slice A6 n c6)).set_lowB (b := w2.heap.size) (by omega) 1 (.bool (!t)))
      have HS7 := Lib.hid ((HS6.out.set_ 0 (.slice A6 n c6)).set_ 1 (.bool (!t)))
      have HF7 := Lib.hid (((HF5.out.below hb6).off (b := w2.heap.size) (o := 0) (u := .slice A6 n c6) (by omega)).off (b := w2.heap.size) (o := 1) (u := .bool (!t)) (by omega))
      have HQ7 := Lib.hid (((HQ5.out.below hb6).off (b := w2.heap.size) (o := 0) (u := .slice A6 n c6) (by omega)).off (b := w2.heap.size) (o := 1) (u := .bool (!t)) (by omega))
      have HD7 := Lib.hid ((hf6.set_out (b := w2.heap.size) (o := 0) (u := .slice A6 n c6) (.inl (by omega))).set_out (b := w2.heap.size) (o := 1) (u := .bool (!t)) (.inl (by omega)))
      have hlw : w2.heap.size < w5.heap.size := HS5.out.lt
      have HLW := Lib.hid hlw
      have HFLN := Lib.hid hfl
      clear hb6 hf6 e0 e1 hsl hfl
      go_wp2
      go_roundg f'
      case measure => omega
      case rel => exact ⟨flipped bs rx, !t, A6, c6, w5.heap.size, w6.heap.size, u2, rs ++ [⟨rA, rn, rc, rx⟩], some ⟨g5, 0, none⟩, cap, HFLN.out, HG.out, HLE.out, by have h := HLS9.out; rw [HGO.out] at h; rw [rowNums, List.map_append]; simpa [rowNums] using h, by rw [List.length_append]; rfl, by have h := HLEN.out; rw [List.length_append, List.length_singleton]; omega, HH7.out, HS7.out, HD7.out, .inl HLW.out, HF7.out, HQ7.out, HB7.out⟩
    · have hdu : decide (0 < u) = false := by simpa using hu
      have HDN : Hid (rowNums rs = goB T Ls M 512 0) := by
        have h := HLS9.out
        rw [goB_stop (by unfold lf; rw [hg]; show u ≤ 0; omega), List.append_nil] at h
        exact h
      have HHZ := Lib.hid ((HHD.out.below HBI.out).raise (show w.heap.size ≤ w2.heap.size + 1 by omega))
      have HBZ := Lib.hid (below_then HB.out HBI.out HB.out.size)
      clear hg hless hlen hu
      go_wp2
      go_ret
      exact ⟨E, cE, rs, rfl, HDN.out, HHZ.out, HBZ.out⟩

set_option maxHeartbeats 6400000 in
set_option maxRecDepth 100000 in
set_option linter.unusedVariables false in
set_option linter.unusedSimpArgs false in
theorem specFirstB_any (A : Option Addr) (n c : Nat) (xs : List Int) (s : Int) (w : World) (hA0 : Holds w A (nums xs)) (hx : xs.length = n) (hn0 : n ≤ 9223372036854775807) :
    Calls Try.prog 20 #[.agg #[.slice A n c, .int .i64 s]] w (BackPost (bestPl xs s) (leastOk xs s) w) := by
  have hA := hA0.alloc (.cells #[.slice A n c, .int .i64 s] 28)
  have hq := Whole.fresh w 28 #[.slice A n c, .int .i64 s]
  have HT := Lib.hid (below1 w (.cells #[.slice A n c, .int .i64 s] 28))
  cases hp : isParty xs s
  · have h0 := (leastOk_none hp).1
    have HV : Hid (bestPl xs s = [] ∧ leastOk xs s = false) := ⟨bestPl_no h0, h0⟩
    have HP := Lib.hid hp
    have HX := Lib.hid hx
    have HA := Lib.hid hA
    clear hp hA hA0 hx h0
    go_enter Try.func20, Try.ntmps20
    go_wp2_with fail
    refine (paGood_any A n c xs s _ HA.out HX.out hn0).mono ?_
    rintro e w1 ⟨rfl, hb⟩
    rw [HP.out]
    have HT1 := Lib.hid (below_then HT.out hb HT.out.size)
    clear hb hq
    go_wp2
    go_ret2
    rw [HV.out.1, HV.out.2]
    exact BackPost.no HT1.out
  · obtain ⟨q, rfl⟩ : ∃ q : Nat, s = (q : Int) := ⟨s.toNat, by simp only [isParty, Bool.and_eq_true, within_iff] at hp; omega⟩
    obtain ⟨h1, hn, gq1, hq8, gxs⟩ := party_parts hp
    rw [hx] at h1 hn
    have HP := Lib.hid hp
    have HA := Lib.hid hA
    have HXS := Lib.hid gxs
    have HX := Lib.hid hx
    have hok := leastOk_at hp
    rw [hx] at hok
    cases hpl : planOk xs n q
    · rw [hpl] at hok
      have HV : Hid (bestPl xs (q : Int) = [] ∧ leastOk xs (q : Int) = false) := ⟨bestPl_no hok, hok⟩
      have HLP := Lib.hid (leastP_no hpl)
      clear hp hA hA0 gxs hpl hok hx
      go_enter Try.func20, Try.ntmps20
      go_wp2_with fail
      refine (paGood_any A n c xs (q : Int) _ HA.out HX.out hn0).mono ?_
      rintro e w1 ⟨rfl, hb⟩
      rw [HP.out]
      have HT1 := Lib.hid (below_then HT.out hb HT.out.size)
      have HA1 := Lib.hid (HA.out.below hb)
      replace hq := hq.below hb
      obtain ⟨k0, k1⟩ := hq.cells2
      have hql := hq.lt
      clear hb
      go_wp2_with fail
      refine (seLeast_any A n c q xs _ HA1.out HX.out h1 hn hq8 HXS.out).mono ?_
      rintro e w2 ⟨rfl, hb⟩
      rw [HLP.out]
      have HT2 := Lib.hid (below_then HT1.out hb HT1.out.size)
      clear hb hq k0 k1 hql
      go_wp2
      go_ret2
      rw [HV.out.1, HV.out.2]
      exact BackPost.no HT2.out
    · rw [hpl] at hok
      have HV : Hid (bestPl xs (q : Int) = goB (slowOf xs) (upLists n q) (leftM xs n q) 512 0 ∧ leastOk xs (q : Int) = true) := ⟨bestPl_yes hx hok, hok⟩
      obtain ⟨v, hv⟩ : ∃ v, leastP xs n q = v := ⟨_, rfl⟩
      have hv0 : 0 ≤ v := by rw [← hv]; exact leastP_yes hx (fun y hy => (gxs y hy).1) hpl
      have hv1 : ¬ v < 0 := by omega
      have hd0 : decide (v < 0) = false := by simpa using hv1
      have HLV := Lib.hid hv
      obtain ⟨v0, hvv⟩ : ∃ v0, leftM xs n q 0 = some v0 := by
        rw [show leftM xs n q 0 = partyD xs n q (codeOf (trues n) true) 0 from rfl, party_first hx hn (fun y hy => (gxs y hy).1)]
        exact Option.isSome_iff_exists.1 hpl
      have HV0 := Lib.hid hvv
      have HLO := Lib.hid (left_ok (q := q) hx hn gxs)
      have HTL : Hid ((trues n).length = n) := by show _ = _; simp [trues]
      have HFL : Hid ((falses n).length = n) := by show _ = _; simp [falses]
      clear hp hA0 hA gxs hpl hv hvv hok hx
      rw [HV.out.1, HV.out.2]
      go_enter Try.func20, Try.ntmps20
      go_wp2_with fail
      refine (paGood_any A n c xs (q : Int) _ HA.out HX.out hn0).mono ?_
      rintro e w1 ⟨rfl, hb⟩
      rw [HP.out]
      have HT1 := Lib.hid (below_then HT.out hb HT.out.size)
      have HA1 := Lib.hid (HA.out.below hb)
      replace hq := hq.below hb
      obtain ⟨k0, k1⟩ := hq.cells2
      have hql := hq.lt
      clear hb
      go_wp2_with fail
      refine (seLeast_any A n c q xs _ HA1.out HX.out h1 hn hq8 HXS.out).mono ?_
      rintro e w2 ⟨rfl, hb⟩
      rw [HLV.out]
      have HT2 := Lib.hid (below_then HT1.out hb HT1.out.size)
      have HA2 := Lib.hid (HA1.out.below hb)
      replace hq := hq.below hb
      clear k0 k1 hql hb
      obtain ⟨k0, k1⟩ := hq.cells2
      have hql := hq.lt
      go_wp2_with fail
      refine (seBest_any A n c q xs v0 _ HA2.out HX.out h1 hn hq8 HXS.out HV0.out).mono ?_
      rintro e w3 ⟨G, cG, rs, rfl, hrn, hh, hb⟩
      have HT3 := Lib.hid (below_then HT2.out hb HT2.out.size)
      have HRN := Lib.hid hrn
      have HH := Lib.hid (hh.raise HT2.out.size)
      clear hb hrn hh hq k0 k1 hql
      go_wp2
      go_ret2
      exact ⟨G, rs.length, cG, rs, rfl, HRN.out, rfl, HH.out.free, HT3.out⟩
end Go.Proofs.Ytlpeimlbpiofkaa

namespace Go.Proofs.Ytlpeimlbpiofkaa

theorem least_eight {xs : List Int} {s : Int} (h : leastOk xs s = true) : xs.length ≤ 8 := by
  have hp : isParty xs s = true := (Bool.and_eq_true_iff.1 h).1
  obtain ⟨q, rfl⟩ : ∃ q : Nat, s = (q : Int) := ⟨s.toNat, by simp only [isParty, Bool.and_eq_true, within_iff] at hp; omega⟩
  exact (party_parts hp).2.1
theorem bestPl_all (xs : List Int) (s : Int) : (bestPl xs s).length ≤ 1048576 ∧ ((bestPl xs s).map List.length).sum ≤ 1048576 := bestPl_le xs s least_eight
theorem firstTr_all (xs : List Int) (s : Int) : (firstTr xs s).length ≤ 1048576 ∧ ((firstTr xs s).map List.length).sum ≤ 1048576 := firstTr_le xs s least_eight
end Go.Proofs.Ytlpeimlbpiofkaa

namespace Go.Proofs.Ytlpeimlbpiofkaa
open Go.RowKit

set_option maxHeartbeats 800000 in
set_option linter.unusedVariables false in
theorem lawBestFirstTrips_big0 (A0 : Option Addr) (n0 c0 : Nat) (x0 : List Int) (k0 : Int) (w : World) (h0 : Holds w A0 (nums x0)) (hx0 : x0.length = n0) (hn0 : n0 ≤ 9223372036854775807)  (hbig : 1048576 - (n0 : Int) < 0) :
    Calls Try.prog 5 #[.agg #[.slice A0 n0 c0, .int .i64 k0]] w fun e w' => e = .returned (.bool true) ∧ Below w.heap.size w w' := by
  have hb0 := (Whole.fresh w 24 #[.slice A0 n0 c0, .int .i64 k0])
  have ht := below1 w (.cells #[.slice A0 n0 c0, .int .i64 k0] 24)
  have HX0 := Lib.hid hx0
  clear hx0
  obtain ⟨hb0_0, hb0_1⟩ := hb0.cells2
  have hb0_l := hb0.lt
  go_enter Try.func5, Try.ntmps5
  go_wp2_with fail
  refine (szParty_any A0 n0 c0 k0 (1048576) _ (by omega) (by omega) (by omega)).mono ?_
  rintro e v1 ⟨rfl, hb⟩
  rw [if_pos (by omega)]
  have hz1 : w.heap.size + 1 ≤ v1.heap.size := by have := hb.size; simpa using this
  replace ht := below_then ht hb ht.size
  replace hb0 := hb0.below hb
  clear hb
  clear hb0_0 hb0_1 hb0_l
  go_wp2
  go_ret
  exact ⟨rfl, ht⟩

set_option maxHeartbeats 12800000 in
set_option maxRecDepth 100000 in
set_option linter.unusedSimpArgs false in
set_option linter.unusedVariables false in
theorem lawBestFirstTrips_small (A0 : Option Addr) (n0 c0 : Nat) (x0 : List Int) (k0 : Int) (w : World) (h0 : Holds w A0 (nums x0)) (hx0 : x0.length = n0) (hn0 : n0 ≤ 9223372036854775807) (g0 : 0 ≤ 1048576 - (n0 : Int)) :
    Calls Try.prog 5 #[.agg #[.slice A0 n0 c0, .int .i64 k0]] w fun e w' => e = .returned (.bool true) ∧ Below w.heap.size w w' := by
  have hb0 := (Whole.fresh w 24 #[.slice A0 n0 c0, .int .i64 k0])
  have ht := below1 w (.cells #[.slice A0 n0 c0, .int .i64 k0] 24)
  have HX0 := Lib.hid hx0
  clear hx0
  have hlen : ((firstTr x0 k0)).length ≤ 1048576 ∧ (((firstTr x0 k0)).map List.length).sum ≤ 1048576 := firstTr_all _ _
  obtain ⟨hb0_0, hb0_1⟩ := hb0.cells2
  have hb0_l := hb0.lt
  go_enter Try.func5, Try.ntmps5
  -- region 2
  go_wp2_with fail
  refine (szParty_any A0 n0 c0 k0 (1048576) _ (by omega) (by omega) (by omega)).mono ?_
  rintro e v1 ⟨rfl, hb⟩
  rw [if_neg (by omega)]
  have hz1 : w.heap.size + 1 ≤ v1.heap.size := by have := hb.size; simpa using this
  replace ht := below_then ht hb ht.size
  replace hb0 := hb0.below hb
  clear hb
  clear hb0_0 hb0_1 hb0_l
  obtain ⟨hb0_0, hb0_1⟩ := hb0.cells2
  have hb0_l := hb0.lt
  -- region 5
  go_wp2_with fail
  refine (toParty_own A0 n0 c0 x0 k0 _ (by exact h0.below ht) HX0.out (by omega)).mono ?_
  rintro e v2 ⟨gp0, rfl, hgp0, hwp0, hb⟩
  have hz2 : v1.heap.size ≤ v2.heap.size := by have := hb.size; simpa using this
  replace ht := below_then ht hb ht.size
  replace hb0 := hb0.below hb
  have hp0 := Fresh.of_whole (lo := v1.heap.size) (hi := v2.heap.size) hwp0 (by simpa using hgp0) hwp0.lt
  clear hgp0 hwp0
  clear hb
  clear hb0_0 hb0_1 hb0_l
  obtain ⟨hb0_0, hb0_1⟩ := hb0.cells2
  have hb0_l := hb0.lt
  go_wp2_with fail
  refine (specBestF_any _ n0 _ x0 k0 _ (by exact hp0.holds) HX0.out (by omega)).mono ?_
  rintro e v3 ⟨B0, m0, q0, rs0, rfl, he0, hl0, hF0, hb⟩
  have hz3 : v2.heap.size ≤ v3.heap.size := by have := hb.size; simpa using this
  replace ht := below_then ht hb ht.size
  replace hb0 := hb0.below hb
  replace hp0 := hp0.below hb
  have HER0 := Lib.hid he0
  have HLR0 := Lib.hid hl0
  have hnr0 : m0 ≤ 1048576 := by have h1 := hl0; have h2 := congrArg List.length he0; rw [rowNums_len] at h2; have h3 := hlen.1; omega
  clear he0 hl0
  replace hF0 := hF0.more (lo' := v2.heap.size) (hi' := v3.heap.size) (by simp) (Nat.le_refl _)
  clear hb
  clear hp0
  clear hb0_0 hb0_1 hb0_l
  obtain ⟨hb0_0, hb0_1⟩ := hb0.cells2
  have hb0_l := hb0.lt
  -- region 6
  go_wp2_with fail
  refine (toParty_own A0 n0 c0 x0 k0 _ (by exact h0.below ht) HX0.out (by omega)).mono ?_
  rintro e v4 ⟨gx0, rfl, hgx0, hwx0, hb⟩
  have hz4 : v3.heap.size ≤ v4.heap.size := by have := hb.size; simpa using this
  replace ht := below_then ht hb ht.size
  replace hb0 := hb0.below hb
  replace hF0 := hF0.below hb
  have hx0 := Fresh.of_whole (lo := v3.heap.size) (hi := v4.heap.size) hwx0 (by simpa using hgx0) hwx0.lt
  clear hgx0 hwx0
  clear hb
  have hx90 := Whole.fresh v4 28 #[.slice (some ⟨gx0, 0, none⟩) n0 n0, .int .i64 k0]
  replace ht := ht.alloc ht.size (.cells #[.slice (some ⟨gx0, 0, none⟩) n0 n0, .int .i64 k0] 28)
  replace hb0 := hb0.alloc (.cells #[.slice (some ⟨gx0, 0, none⟩) n0 n0, .int .i64 k0] 28)
  replace hF0 := hF0.alloc (.cells #[.slice (some ⟨gx0, 0, none⟩) n0 n0, .int .i64 k0] 28)
  replace hx0 := hx0.alloc (.cells #[.slice (some ⟨gx0, 0, none⟩) n0 n0, .int .i64 k0] 28)
  clear hb0_0 hb0_1 hb0_l
  obtain ⟨hb0_0, hb0_1⟩ := hb0.cells2
  have hb0_l := hb0.lt
  obtain ⟨hx90_0, hx90_1⟩ := hx90.cells2
  have hx90_l := hx90.lt
  -- region 7
  go_wp2_with fail
  refine (implBestF_any _ n0 _ x0 k0 _ (by exact hx0.holds) HX0.out (by omega)).mono ?_
  rintro e v5 ⟨B1, m1, q1, rs1, rfl, he1, hl1, hF1, hb⟩
  have hz5 : v4.heap.size + 1 ≤ v5.heap.size := by have := hb.size; simpa using this
  replace ht := below_then ht hb ht.size
  replace hb0 := hb0.below hb
  replace hF0 := hF0.below hb
  replace hx0 := hx0.below hb
  replace hx90 := hx90.below hb
  have HER1 := Lib.hid he1
  have HLR1 := Lib.hid hl1
  have hnr1 : m1 ≤ 1048576 := by have h1 := hl1; have h2 := congrArg List.length he1; rw [rowNums_len] at h2; have h3 := hlen.1; omega
  clear he1 hl1
  replace hF1 := hF1.more (lo' := v4.heap.size + 1) (hi' := v5.heap.size) (by simp) (Nat.le_refl _)
  clear hb
  clear hb0_0 hb0_1 hb0_l hx90_0 hx90_1 hx90_l
  obtain ⟨hb0_0, hb0_1⟩ := hb0.cells2
  have hb0_l := hb0.lt
  obtain ⟨hx90_0, hx90_1⟩ := hx90.cells2
  have hx90_l := hx90.lt
  -- region 8
  go_wp2_with fail
  refine (eqIntSS_yes B1 B0 m1 m0 q1 q0 rs1 rs0 _ (by exact hF1.grid) (by exact hF0.grid) (by rw [HER1.out, HER0.out]) HLR1.out HLR0.out (by omega)).mono ?_
  rintro e v6 ⟨rfl, hb⟩
  have hz6 : v5.heap.size ≤ v6.heap.size := by have := hb.size; simpa using this
  replace ht := below_then ht hb ht.size
  replace hb0 := hb0.below hb
  replace hF0 := hF0.below hb
  replace hx0 := hx0.below hb
  replace hx90 := hx90.below hb
  replace hF1 := hF1.below hb
  clear hb
  clear hb0_0 hb0_1 hb0_l hx90_0 hx90_1 hx90_l
  obtain ⟨hb0_0, hb0_1⟩ := hb0.cells2
  have hb0_l := hb0.lt
  obtain ⟨hx90_0, hx90_1⟩ := hx90.cells2
  have hx90_l := hx90.lt
  -- region 10
  clear hb0_0 hb0_1 hb0_l hx90_0 hx90_1 hx90_l
  go_wp2_with fail
  refine wp_region_held_drew (S := (fun w' => w'.cell? ⟨w.heap.size, 0, none⟩ = some (.slice A0 n0 c0) ∧ w'.cell? ⟨w.heap.size, 1, none⟩ = some (.int .i64 k0) ∧ w'.cell? ⟨v4.heap.size, 0, none⟩ = some (.slice (some ⟨gx0, 0, none⟩) n0 n0) ∧ w'.cell? ⟨v4.heap.size, 1, none⟩ = some (.int .i64 k0))) (by kernel_rfl) ⟨hb0.drew.cell 0, hb0.drew.cell 1, hx90.drew.cell 0, hx90.drew.cell 1⟩ (fun hHeld => ?_)
  replace ht := ht.drew
  replace hb0 := hb0.drew
  replace hF0 := hF0.drew
  replace hx0 := hx0.drew
  replace hx90 := hx90.drew
  replace hF1 := hF1.drew
  refine wpAnyH_take (i := 0) (v := ?_) rfl (by kernel_rfl) (by kernel_rfl) (by kernel_rfl) (fun _ _ _ h => h) (Or.inl ⟨rfl, ?_⟩) hHeld ?_
  rotate_left
  · intro w' hS; obtain ⟨s0, s1, s2, s3⟩ := hS; go_simp <;> with_reducible rfl
  simp only [Act.put, List.getElem_toArray, List.getElem_cons_succ, List.getElem_cons_zero, List.setIfInBounds_toArray, List.set_cons_succ, List.set_cons_zero]
  refine wpAnyH_take (i := 1) (v := ?_) rfl (by kernel_rfl) (by kernel_rfl) (by kernel_rfl) (fun _ _ _ h => h) (Or.inl ⟨rfl, ?_⟩) hHeld ?_
  rotate_left
  · intro w' hS; obtain ⟨s0, s1, s2, s3⟩ := hS; go_simp <;> with_reducible rfl
  simp only [Act.put, List.getElem_toArray, List.getElem_cons_succ, List.getElem_cons_zero, List.setIfInBounds_toArray, List.set_cons_succ, List.set_cons_zero]
  refine wpAnyH_ready (rs := [2]) (by kernel_rfl) (by simp) (AllReadyH.cons rfl (fun K hK => ?_) AllReadyH.nil)
  go_simp
  refine (toParty_own A0 n0 c0 x0 k0 _ (by exact h0.below ht) HX0.out (by omega)).mono ?_
  rintro e v7 ⟨gy0, rfl, hgy0, hwy0, hb⟩
  have hz7 : v6.heap.size ≤ v7.heap.size := by have := hb.size; simpa using this
  replace ht := below_then ht hb ht.size
  replace hb0 := hb0.below hb
  replace hF0 := hF0.below hb
  replace hx0 := hx0.below hb
  replace hx90 := hx90.below hb
  replace hF1 := hF1.below hb
  have hy0 := Fresh.of_whole (lo := v6.heap.size) (hi := v7.heap.size) hwy0 (by simpa using hgy0) hwy0.lt
  clear hgy0 hwy0
  clear hb
  refine hK.out _ _ ⟨hb0.cell 0, hb0.cell 1, hx90.cell 0, hx90.cell 1⟩ (fun hHeld => ?_)
  clear hK K
  try simp only [Act.put, List.getElem_toArray, List.getElem_cons_succ, List.getElem_cons_zero, List.setIfInBounds_toArray, List.set_cons_succ, List.set_cons_zero]
  refine wpAnyH_ready (rs := [3]) (by kernel_rfl) (by simp) (AllReadyH.cons rfl (fun K hK => ?_) AllReadyH.nil)
  go_simp
  refine (eqParty_yes _ _ n0 _ _ x0 k0 _ (by exact hx0.holds) (by exact hy0.holds) HX0.out (by omega)).mono ?_
  rintro e v8 ⟨rfl, hb⟩
  have hz8 : v7.heap.size ≤ v8.heap.size := by have := hb.size; simpa using this
  replace ht := below_then ht hb ht.size
  replace hb0 := hb0.below hb
  replace hF0 := hF0.below hb
  replace hx0 := hx0.below hb
  replace hx90 := hx90.below hb
  replace hF1 := hF1.below hb
  replace hy0 := hy0.below hb
  clear hb
  clear hy0
  refine hK.out _ _ ⟨hb0.cell 0, hb0.cell 1, hx90.cell 0, hx90.cell 1⟩ (fun hHeld => ?_)
  clear hK K
  try simp only [Act.put, List.getElem_toArray, List.getElem_cons_succ, List.getElem_cons_zero, List.setIfInBounds_toArray, List.set_cons_succ, List.set_cons_zero]
  refine wpAnyH_take (i := 4) (v := ?_) rfl (by kernel_rfl) (by kernel_rfl) (by kernel_rfl) (fun _ _ _ h => h) (Or.inl ⟨rfl, ?_⟩) hHeld ?_
  rotate_left
  · intro w' hS; obtain ⟨s0, s1, s2, s3⟩ := hS; go_simp <;> with_reducible rfl
  simp only [Act.put, List.getElem_toArray, List.getElem_cons_succ, List.getElem_cons_zero, List.setIfInBounds_toArray, List.set_cons_succ, List.set_cons_zero]
  refine wpAnyH_done (by kernel_rfl) ?_ _
  clear hHeld
  obtain ⟨hb0_0, hb0_1⟩ := hb0.cells2
  have hb0_l := hb0.lt
  obtain ⟨hx90_0, hx90_1⟩ := hx90.cells2
  have hx90_l := hx90.lt
  -- region 13
  go_wp2_with fail
  refine (markParty_any (some ⟨gx0, 0, none⟩) n0 n0 _ _ _ k0 (1) _ hx0 (by rw [nums_len]; exact HX0.out) (by omega) (by omega) (by omega)).mono ?_
  rintro e v9 ⟨rfl, hs, -⟩
  have hsz := ht.size
  replace ht := hs.below ht (by omega) hsz
  replace hb0 := hs.whole hb0 (by omega)
  replace hF0 := hs.freeGrid hF0 (by omega)
  replace hF1 := hs.freeGrid hF1 (by omega)
  clear hs hsz hx0 hx90
  have hk_1 : (0 : Int) ≤ 1 + (n0 : Int) := by omega
  clear hb0_0 hb0_1 hb0_l hx90_0 hx90_1 hx90_l
  obtain ⟨hb0_0, hb0_1⟩ := hb0.cells2
  have hb0_l := hb0.lt
  -- region 14
  go_wp2_with fail
  refine (eqIntSS_yes B1 B0 m1 m0 q1 q0 rs1 rs0 _ (by exact hF1.grid) (by exact hF0.grid) (by rw [HER1.out, HER0.out]) HLR1.out HLR0.out (by omega)).mono ?_
  rintro e v10 ⟨rfl, hb⟩
  have hz10 : v9.heap.size ≤ v10.heap.size := by have := hb.size; simpa using this
  replace ht := below_then ht hb ht.size
  replace hb0 := hb0.below hb
  replace hF0 := hF0.below hb
  replace hF1 := hF1.below hb
  clear hb
  clear hb0_0 hb0_1 hb0_l
  obtain ⟨hb0_0, hb0_1⟩ := hb0.cells2
  have hb0_l := hb0.lt
  -- region 17
  go_wp2_with fail
  have hprt : part rs1 rs1.length ≤ 1048576 := by have h1 := part_lens hF1.grid; have h2 := hlen.2; rw [HER1.out] at h1; omega
  refine (markIntSS_any B1 m1 q1 _ _ rs1 1 _ hF1 HLR1.out (by omega) (by omega) hnr1 hprt).mono ?_
  rintro e v11 ⟨rfl, hs, hM⟩
  have hsz := ht.size
  replace ht := hs.below ht (by omega) hsz
  replace hb0 := hs.whole hb0 (by omega)
  replace hF0 := hs.freeGrid hF0 (by omega)
  clear hs hF1 hsz
  clear hb0_0 hb0_1 hb0_l
  obtain ⟨hb0_0, hb0_1⟩ := hb0.cells2
  have hb0_l := hb0.lt
  -- region 19
  go_wp2_with fail
  refine (heldIntSS_any B1 m1 q1 rs1 1 _ (by exact hM.grid) HLR1.out (by omega) (by omega) hnr1 hprt).mono ?_
  rintro e v12 ⟨rfl, hb⟩
  have hz12 : v11.heap.size ≤ v12.heap.size := by have := hb.size; simpa using this
  replace ht := below_then ht hb ht.size
  replace hb0 := hb0.below hb
  replace hF0 := hF0.below hb
  replace hM := hM.below hb
  clear hb
  have hm0 : (0 : Int) ≤ 1 + ((part rs1 rs1.length : Nat) : Int) := by omega
  clear hb0_0 hb0_1 hb0_l
  obtain ⟨hb0_0, hb0_1⟩ := hb0.cells2
  have hb0_l := hb0.lt
  -- region 24
  go_wp2_with fail
  refine (toParty_own A0 n0 c0 x0 k0 _ (by exact h0.below ht) HX0.out (by omega)).mono ?_
  rintro e v13 ⟨gr0, rfl, hgr0, hwr0, hb⟩
  have hz13 : v12.heap.size ≤ v13.heap.size := by have := hb.size; simpa using this
  replace ht := below_then ht hb ht.size
  replace hb0 := hb0.below hb
  replace hF0 := hF0.below hb
  replace hM := hM.below hb
  have hr0 := Fresh.of_whole (lo := v12.heap.size) (hi := v13.heap.size) hwr0 (by simpa using hgr0) hwr0.lt
  clear hgr0 hwr0
  clear hb
  clear hb0_0 hb0_1 hb0_l
  obtain ⟨hb0_0, hb0_1⟩ := hb0.cells2
  have hb0_l := hb0.lt
  go_wp2_with fail
  refine (implBestF_any _ n0 _ x0 k0 _ (by exact hr0.holds) HX0.out (by omega)).mono ?_
  rintro e v14 ⟨B2, m2, q2, rs2, rfl, he2, hl2, hF2, hb⟩
  have hz14 : v13.heap.size ≤ v14.heap.size := by have := hb.size; simpa using this
  replace ht := below_then ht hb ht.size
  replace hb0 := hb0.below hb
  replace hF0 := hF0.below hb
  replace hM := hM.below hb
  replace hr0 := hr0.below hb
  have HER2 := Lib.hid he2
  have HLR2 := Lib.hid hl2
  have hnr2 : m2 ≤ 1048576 := by have h1 := hl2; have h2 := congrArg List.length he2; rw [rowNums_len] at h2; have h3 := hlen.1; omega
  clear he2 hl2
  replace hF2 := hF2.more (lo' := v13.heap.size) (hi' := v14.heap.size) (by simp) (Nat.le_refl _)
  clear hb
  clear hr0
  clear hb0_0 hb0_1 hb0_l
  obtain ⟨hb0_0, hb0_1⟩ := hb0.cells2
  have hb0_l := hb0.lt
  -- region 25
  go_wp2_with fail
  refine (eqIntSS_yes B2 B0 m2 m0 q2 q0 rs2 rs0 _ (by exact hF2.grid) (by exact hF0.grid) (by rw [HER2.out, HER0.out]) HLR2.out HLR0.out (by omega)).mono ?_
  rintro e v15 ⟨rfl, hb⟩
  have hz15 : v14.heap.size ≤ v15.heap.size := by have := hb.size; simpa using this
  replace ht := below_then ht hb ht.size
  replace hb0 := hb0.below hb
  replace hF0 := hF0.below hb
  replace hM := hM.below hb
  replace hF2 := hF2.below hb
  clear hb
  clear hb0_0 hb0_1 hb0_l
  obtain ⟨hb0_0, hb0_1⟩ := hb0.cells2
  have hb0_l := hb0.lt
  -- region 28
  go_wp2_with fail
  refine (heldIntSS_any B1 m1 q1 rs1 1 _ (by exact hM.grid) HLR1.out (by omega) (by omega) hnr1 hprt).mono ?_
  rintro e v16 ⟨rfl, hb⟩
  have hz16 : v15.heap.size ≤ v16.heap.size := by have := hb.size; simpa using this
  replace ht := below_then ht hb ht.size
  replace hb0 := hb0.below hb
  replace hF0 := hF0.below hb
  replace hM := hM.below hb
  replace hF2 := hF2.below hb
  clear hb
  clear hb0_0 hb0_1 hb0_l
  obtain ⟨hb0_0, hb0_1⟩ := hb0.cells2
  have hb0_l := hb0.lt
  go_wp2
  go_ret
  exact ⟨rfl, ht⟩

theorem lawBestFirstTrips_all (A0 : Option Addr) (n0 c0 : Nat) (x0 : List Int) (k0 : Int) (w : World) (h0 : Holds w A0 (nums x0)) (hx0 : x0.length = n0) (hn0 : n0 ≤ 9223372036854775807) :
    Calls Try.prog 5 #[.agg #[.slice A0 n0 c0, .int .i64 k0]] w fun e w' => e = .returned (.bool true) ∧ Below w.heap.size w w' := by
  rcases (inferInstance : Decidable (0 ≤ 1048576 - (n0 : Int))) with g0 | g0
  · exact lawBestFirstTrips_big0 A0 n0 c0 x0 k0 w h0 hx0 hn0  (by omega)
  exact lawBestFirstTrips_small A0 n0 c0 x0 k0 w h0 hx0 hn0 g0
end Go.Proofs.Ytlpeimlbpiofkaa

namespace Go.Proofs.Ytlpeimlbpiofkaa.bestFirstTrips
open Go.ChangeShapes Go.WideShapes Go.ChangeAt Go.RowKit Go.Joins

set_option maxRecDepth 100000 in
theorem lifted (os : Os) (started : os.Started) (H : Type) (enc : TypeId × Value → H) :
    ReturnsInHanded {} Try.checked os 5 .any (Rows.fnExactBestFirstTripsSpec.pre6 enc Try.prog Try.f5 Rows.fnExactBestFirstTripsRow.domain false) (Rows.fnExactBestFirstTripsSpec.post enc Try.prog Try.f5 false true false false) := by
  refine returnsInHanded_of_change (C := Try.checked) own started (by kernel_rfl) Try.func5
    (ChangeSpec.witness6 (enc := enc) (C := Try.checked) false ⟨#[], #[.agg #[.slice none 0 0, .int .i64 0]], []⟩ 8 (by kernel_rfl) (by kernel_rfl) (by kernel_rfl) (by kernel_rfl)) ?_
  intro W base args ds gs before hval0 hW hcnd _
  have hval : ∀ (j : Nat) t v, Try.f5.params[j]? = some t → args[j]? = some v → Value.okWide Try.prog W .any base t v := hval0
  have hW' := hW
  obtain ⟨p, q, hA0, hV, rfl, hfz, hnd⟩ := hW
  have hA : DataW.TrodAll enc Try.prog W 0 (fun _ => true) true Try.f5.params.toList args.toList ds p := hA0
  rw [Try.params5] at hA hval
  obtain ⟨v0, vs0, d0, ds0, p0, q0, hargs, rfl, rfl, h0, r0⟩ := trodAll_cons hA
  obtain ⟨rfl, rfl, rfl⟩ := trodAll_nil r0
  obtain rfl : args = #[v0] := by cases args; simp_all
  obtain ⟨rfl, rfl⟩ := trodVars_none hV
  have lt0 : ∀ x ∈ p0, x.block < W.heap.size := by obtain ⟨m, hm⟩ := h0; exact DataW.trod_lt m _ _ _ hm
  obtain ⟨A0, n0, c0, xs0, s0, hv0, hr0, hx0, hn0⟩ := open_party (hval 0 24 v0 rfl rfl) h0
  subst hv0
  clear hA0 hval0
  refine (lawBestFirstTrips_all A0 n0 c0 xs0 s0 W hr0 hx0 hn0).mono fun e W' ⟨he, bel⟩ => ?_
  subst he
  exact ⟨_, rfl, _, _, _, [], _, [], hW', trodAll_mk1 (shut_bool Try.underlying4 _), (trodAll_cons_mk (Below.trod laidOut (by kernel_rfl) (of_decide_eq_true (by kernel_rfl)) h0 bel lt0) trodAll_mk0), rfl, bel.frame _, fun h => by cases h⟩

set_option maxHeartbeats 8000000 in
theorem facts : joinedFacts Try.prog 5 Try.f5 Rows.fnExactBestFirstTripsSpec Rows.fnExactBestFirstTripsRow = true := by
  unfold joinedFacts
  rw [enter.laid, enter.rowed, enter.heard, enter.keys, enter.mayEnter, enter.liftsFinal, enter.make]
  simp only [Bool.and_eq_true]
  repeat' apply And.intro
  all_goals (first | exact True.intro | (as_aux_lemma => kernel_rfl))

theorem named_ : Try.prog.funcNamed Rows.fnExactBestFirstTripsRow.func = some 5 := by kernel_rfl
theorem instance_ : Try.f5.isInstance Try.prog Rows.fnExactBestFirstTripsRow.origin Rows.fnExactBestFirstTripsRow.targs := of_decide_eq_true (by kernel_rfl)
theorem wrapper_ : Try.f5.isWrapper Try.prog Rows.fnExactBestFirstTripsRow.wrapper Rows.fnExactBestFirstTripsRow.mainSum := by
  unfold Func.isWrapper; first | (rw [if_pos (by decide +kernel)]; kernel_rfl) | (rw [if_neg (by decide +kernel)]; exact ⟨rfl, rfl⟩)

theorem proved : Rows.FnExactBestFirstTripsSaid :=
  OpenClaim.holds_of_wide 5 Try.f5 rfl rfl rfl rfl rfl rfl rfl ⟨rfl, rfl, rfl, rfl, rfl⟩ rfl rfl rfl rfl rfl named_ Try.func5 facts
    instance_ wrapper_ (fun os started H enc _ => lifted os started H enc)
#print axioms proved
end Go.Proofs.Ytlpeimlbpiofkaa.bestFirstTrips
