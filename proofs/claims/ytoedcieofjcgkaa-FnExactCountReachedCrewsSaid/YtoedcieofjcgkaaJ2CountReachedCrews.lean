/-
  What is proved: contracts of the model's rides in a state and of its RidesOfCrew. Conditions: the arguments are read as they lie.
  What is proved: the contract of the model's number of a state. Conditions: at most eight people.
  What is proved: the contract of the model's state with a number. Conditions: at most eight people; a number below 1,048,576.
  What is proved: laws of a slice of the call's own that may begin anywhere in its row (a queue that is cut at its head): what is appended to it, how its head is cut off. Conditions: as each says.
-/
import Derived.Deep.RegionHeld3
import Derived.Deep.DeepCutAuto
import Derived.Deep.AppendLies
import Derived.Test.YtoedcieofjcgkaaJ1CountReachedCrews
set_option linter.unusedSimpArgs false
set_option linter.unusedVariables false
namespace Go.Proofs.Ytoedcieofjcgkaa
open Go.RowKit

/-- Some of the rows that lie spread lie spread. -/
theorem free_pair {w : World} {ps : List (Nat × Nat)} {rs : List RowV} (h : FreeRows w ps rs) : (∀ y ∈ rs.zip ps, Fresh w y.2.1 y.2.2 3 y.1.A (nums y.1.xs) ∧ y.1.xs.length = y.1.n ∧ y.1.n ≤ 1048576) ∧ (rs.zip ps).Pairwise (fun a b => a.2.2 ≤ b.2.1 ∨ b.2.2 ≤ a.2.1) := by
  obtain ⟨h1, h2, h3⟩ := h
  refine ⟨fun y hy => ?_, ?_⟩
  · obtain ⟨k, hk, rfl⟩ := List.getElem_of_mem hy
    have hk' : k < rs.length ∧ k < ps.length := by have h9 := hk; rw [List.length_zip] at h9; omega
    have := h2 k rs[k] ps[k] (by simp [hk'.1]) (by simp [hk'.2])
    simpa using this
  · rw [List.pairwise_iff_getElem]
    intro i j hi hj hij
    have hi' : i < rs.length ∧ i < ps.length := by have h9 := hi; rw [List.length_zip] at h9; omega
    have hj' : j < rs.length ∧ j < ps.length := by have h9 := hj; rw [List.length_zip] at h9; omega
    have := h3 i j ps[i] ps[j] (by omega) (by simp [hi'.2]) (by simp [hj'.2])
    simpa using this
theorem free_of {w : World} {zs : List (RowV × (Nat × Nat))} (h1 : ∀ y ∈ zs, Fresh w y.2.1 y.2.2 3 y.1.A (nums y.1.xs) ∧ y.1.xs.length = y.1.n ∧ y.1.n ≤ 1048576) (h2 : zs.Pairwise (fun a b => a.2.2 ≤ b.2.1 ∨ b.2.2 ≤ a.2.1)) : FreeRows w (zs.map Prod.snd) (zs.map Prod.fst) := by
  refine ⟨by simp, fun k r p hr hp => ?_, fun i j p p' hne hp hp' => ?_⟩
  · rw [List.getElem?_map] at hr hp
    obtain ⟨y, hy, rfl⟩ := Option.map_eq_some_iff.1 hr
    rw [hy] at hp
    obtain rfl : y.2 = p := by simpa using hp
    exact h1 y (List.mem_of_getElem? hy)
  · rw [List.getElem?_map] at hp hp'
    obtain ⟨y, hy, rfl⟩ := Option.map_eq_some_iff.1 hp
    obtain ⟨y', hy', rfl⟩ := Option.map_eq_some_iff.1 hp'
    obtain ⟨hi, rfl⟩ := List.getElem?_eq_some_iff.1 hy
    obtain ⟨hj, rfl⟩ := List.getElem?_eq_some_iff.1 hy'
    rcases Nat.lt_or_gt_of_ne hne with h | h
    · exact List.pairwise_iff_getElem.1 h2 i j hi hj h
    · exact (List.pairwise_iff_getElem.1 h2 j i hj hi h).symm
theorem Heads.some_of {w wr : World} {lo c c' : Nat} {A D : Option Addr} {rs : List RowV} (f : RowV → Bool) (h : Heads w lo A c rs) (hb : Below w.heap.size w wr) (ho : wr.ownsRow w.heap.size 33 1 (.slice D (rs.filter f).length c') (rs.filter f).length (rowVals (rs.filter f))) (hl : lo ≤ w.heap.size) : Heads wr lo D c' (rs.filter f) := by
  obtain ⟨-, ps, hf, hp, -⟩ := h
  obtain ⟨h1, h2⟩ := free_pair hf
  have hz : ((rs.zip ps).filter (fun y => f y.1)).map Prod.fst = rs.filter f := by
    have h0 : (rs.zip ps).map Prod.fst = rs := by rw [List.map_fst_zip]; rw [hf.1]; exact Nat.le_refl _
    have h6 : rs.filter f = ((rs.zip ps).map Prod.fst).filter f := by rw [h0]
    rw [h6, List.filter_map]
    rfl
  have hfree : FreeRows w (((rs.zip ps).filter (fun y => f y.1)).map Prod.snd) (rs.filter f) := by
    rw [← hz]
    exact free_of (fun y hy => h1 y (List.mem_filter.1 hy).1) (h2.sublist List.filter_sublist)
  have hps : ∀ p ∈ ((rs.zip ps).filter (fun y => f y.1)).map Prod.snd, p ∈ ps := fun p hp => by
    obtain ⟨y, hy, rfl⟩ := List.mem_map.1 hp
    exact (List.of_mem_zip (List.mem_filter.1 hy).1).2
  refine ⟨own_lower ho hl, _, hfree.below hb, fun p hp' => ⟨(hp p (hps p hp')).1, Nat.le_trans (hp p (hps p hp')).2 hb.size⟩, fun a ha p hp' => .inr ?_⟩
  subst ha
  exact Nat.le_trans (hp p (hps p hp')).2 (ho.lt a.block rfl).1
theorem subs_any {m m' : Nat} : ∀ (o b : List Int), b.length + o.length ≤ m → b.length + o.length ≤ m' → subs m o b = subs m' o b
  | [], _, _, _ => rfl
  | k :: r, b, h, h' => by
    have h0 : b.length + (r.length + 1) ≤ m := h
    have h0' : b.length + (r.length + 1) ≤ m' := h'
    have e1 : subs m (k :: r) b = ((b ++ [k]) :: subs m r (b ++ [k])) ++ subs m r b := by rw [subs, if_neg (by omega)]
    have e2 : subs m' (k :: r) b = ((b ++ [k]) :: subs m' r (b ++ [k])) ++ subs m' r b := by rw [subs, if_neg (by omega)]
    rw [e1, e2, subs_any (m' := m') r (b ++ [k]) (by simp; omega) (by simp; omega), subs_any (m' := m') r b (by omega) (by omega)]
theorem subs_filter (P : Int → Bool) (m : Nat) : ∀ (o b : List Int), b.length + o.length ≤ m → subs m (o.filter P) b = (subs m o b).filter (fun l => (l.drop b.length).all P)
  | [], _, _ => rfl
  | k :: r, b, h => by
    have h0 : b.length + (r.length + 1) ≤ m := h
    have hd : ∀ l ∈ subs m r (b ++ [k]), ((l.drop b.length).all P) = (P k && (l.drop (b ++ [k]).length).all P) := fun l hl => by
      obtain ⟨c, rfl, -, -, -⟩ := (subs_mem m r (b ++ [k]) l).1 hl
      rw [List.append_assoc, List.drop_left, show b ++ ([k] ++ c) = (b ++ [k]) ++ c by simp, List.drop_left]
      simp
    have ih := subs_filter P m r b (by omega)
    rw [subs, if_neg (by omega), List.filter_append, List.filter_cons, ← ih]
    by_cases hk : P k = true
    · have ih2 := subs_filter P m r (b ++ [k]) (by simp; omega)
      have hlen : (r.filter P).length ≤ r.length := List.length_filter_le _ _
      rw [List.filter_cons, if_pos hk, subs, if_neg (by omega), ih2]
      rw [List.filter_congr hd]
      simp [hk]
    · have hk' : P k = false := by simpa using hk
      rw [List.filter_cons, if_neg hk, List.filter_congr hd]
      simp [hk']
/-- What the model's rides come to. -/
def RidesPost (ls : List (List Int)) (w : World) (e : Ending) (w' : World) : Prop :=
  ∃ (A : Option Addr) (c : Nat) (rs : List RowV), e = .returned (.slice A rs.length c) ∧ rowNums rs = ls ∧ Heads w' w.heap.size A c rs ∧ Below w.heap.size w w'
theorem nums_filter (f : List Int → Bool) (rs : List RowV) : rowNums (rs.filter (fun r => f r.xs)) = (rowNums rs).filter f := by
  rw [rowNums, rowNums, List.filter_map]; rfl
/-- The rides among the groups of those who are where the boat is. -/
theorem rides_groups {xs : List Int} {bs : List Bool} {m : Nat} {s : Int} {sb : List Bool} {t : Bool} (hok : CrewOk xs m s) (hsl : sb.length = xs.length) :
    (subs (hereTo sb t sb.length).length (hereTo sb t sb.length) []).filter (fun l => canRide xs bs s sb t l) = ridesAt sb t (crewLists xs bs s) := by
  have hh : hereTo sb t sb.length = (firsts sb.length).filter (fun k => sb.getD k.toNat false == t) := here_range sb t sb.length
  have hle : (hereTo sb t sb.length).length ≤ sb.length := here_len sb t _
  rw [subs_any (m' := sb.length) (hereTo sb t sb.length) [] (by simp) (by simpa using hle), hh, subs_filter _ _ (firsts sb.length) [] (by simp [firsts_len]), List.filter_filter]
  rw [ridesAt, crewLists, legsIn, List.filter_filter, hsl, upLists]
  refine List.filter_congr fun l hl => ?_
  have hu := up_steps (n := xs.length) (m := xs.length) hl
  have h1 : rising l ((xs.length : Int) - 1) = true := rising_yes hu.1 (Nat.le_refl _)
  have h2 : l ≠ [] := fun e => by subst e; simp at hu
  have h3 : (l.drop ([] : List Int).length).all (fun k => sb.getD k.toNat false == t) = allAt sb t l := rfl
  rw [h3]
  simp only [canRide, h1, legOk, ne_eq, h2, not_false_eq_true, decide_true, Bool.true_and]
  cases allAt sb t l <;> cases canRow bs l <;> cases decide (loadOf xs l ≤ s) <;> rfl

set_option maxHeartbeats 6400000 in
set_option maxRecDepth 100000 in
set_option linter.unusedVariables false in
set_option linter.unusedSimpArgs false in
theorem loRides_any (A : Option Addr) (n c : Nat) (B : Option Addr) (m d : Nat) (xs : List Int) (bs : List Bool) (s : Int) (D : Option Addr) (q z : Nat) (sb : List Bool) (t : Bool) (w : World) (hA : Holds w A (nums xs)) (hB : Holds w B (bits bs)) (hD : Holds w D (bits sb)) (hx : xs.length = n) (hy : bs.length = m) (hqq : sb.length = q) (hok : CrewOk xs m s) (hsl : sb.length = xs.length) :
    Calls Try.prog 72 #[.agg #[.slice A n c, .slice B m d, .int .i64 s], .agg #[.slice D q z, .bool t]] w (RidesPost (ridesAt sb t (crewLists xs bs s)) w) := by
  have hq8 : q ≤ 8 := by have := hok.seven; omega
  obtain ⟨i0, hi, hz0, hz1, hz2⟩ := info_parts info_int
  have HI := Lib.hid hi
  have HZ0 := Lib.hid hz0
  have HZ1 := Lib.hid hz1
  have HZ2 := Lib.hid hz2
  obtain ⟨i1, hi1, hy0, hy1, hy2⟩ := info_parts info_row
  have HI1 := Lib.hid hi1
  have HY0 := Lib.hid hy0
  have HY1 := Lib.hid hy1
  have HY2 := Lib.hid hy2
  have HX := Lib.hid hx
  have HYB := Lib.hid hy
  have HY := Lib.hid hqq
  have HOK := Lib.hid hok
  have HSL := Lib.hid hsl
  have HRG := Lib.hid (rides_groups (bs := bs) (t := t) hok hsl)
  have h0 := (Whole.fresh w 39 #[.slice A n c, .slice B m d, .int .i64 s]).alloc (.cells #[.slice D q z, .bool t] 48)
  have h1 := Whole.fresh (w.alloc (.cells #[.slice A n c, .slice B m d, .int .i64 s] 39)) 48 #[.slice D q z, .bool t]
  rw [World.size_alloc] at h1
  have hbw := below2 w (.cells #[.slice A n c, .slice B m d, .int .i64 s] 39) (.cells #[.slice D q z, .bool t] 48)
  have HBW := Lib.hid hbw
  have HH0 := Lib.hid h0
  have HH1 := Lib.hid h1
  obtain ⟨c0, c1, c2⟩ := h0.cells3
  obtain ⟨e0, e1, -, -⟩ := h1.two
  clear hi hz0 hz1 hz2 hi1 hy0 hy1 hy2 hx hy hqq hok hsl hbw h0 h1
  go_enter Try.func72, Try.ntmps72
  go_wp2
  clear c0 c1 c2 e0 e1
  go_loopw [5, 14] (fun v i wr => ∃ (k : Nat) (E : Option Addr) (r : Nat), k ≤ q ∧ i = .int .i64 k ∧ v = .slice E (hereTo sb t k).length r ∧ wr.ownsRow (w.heap.size + 2) 3 1 (.slice E (hereTo sb t k).length r) (hereTo sb t k).length (nums (hereTo sb t k)) ∧ Below (w.heap.size + 2) ((w.alloc (.cells #[.slice A n c, .slice B m d, .int .i64 s] 39)).alloc (.cells #[.slice D q z, .bool t] 48)) wr) (fun _ i _ => q - (intOf i).toNat)
  case atStart => exact ⟨0, none, 0, Nat.zero_le _, rfl, rfl, World.ownsRow_nil _ _ _ _, Below.refl _ _⟩
  case round =>
    obtain ⟨k, E, r, hk, rfl, rfl, hown, hb⟩ := hrel
    have hb' : Below w.heap.size w wr := HBW.out.trans (hb.mono (by omega))
    have hhl := here_len sb t k
    obtain ⟨c0, c1, c2⟩ := (HH0.out.below' hb (by omega)).cells3
    obtain ⟨e0, e1, -, -⟩ := (HH1.out.below' hb (by omega)).two
    have hs2 : w.heap.size + 2 ≤ wr.heap.size := by have := hb.size; simpa using this
    by_cases hlt : k < q
    · have hkb : k < sb.length := by have := HY.out; omega
      obtain ⟨b1, o1, rfl, hbl1, hcell⟩ := (hD.below hb').look (k := k) (by rw [bits_len]; exact hkb)
      simp only [bits, List.getElem_map] at hcell
      have hg : sb.getD k false = sb[k] := by simp [hkb]
      have hyes := here_yes (bs := sb) (t := t) (k := k)
      have hno := here_no (bs := sb) (t := t) (k := k)
      rw [hg] at hyes hno
      generalize sb[k] = x at hcell hyes hno
      clear hg
      have HOWN := Lib.hid hown
      have HB := Lib.hid hb
      clear hown hb hb'
      by_cases hxt : x = t
      · subst hxt
        have HS := Lib.hid (hyes (by simp))
        have HOW := Lib.hid (HOWN.out.alloc (.cells #[.int .i64 k] 3))
        have HBB := Lib.hid (HB.out.alloc (by simpa using hs2) (.cells #[.int .i64 k] 3))
        have HBASE := Lib.hid (show w.heap.size + 2 ≤ (wr.alloc (.cells #[.int .i64 k] 3)).heap.size by simp; omega)
        have HMAX := Lib.hid (show (hereTo sb x k).length + 1 ≤ maxLen by unfold maxLen; omega)
        have HBYT := Lib.hid (show ((hereTo sb x k).length + 1) * 8 ≤ 140737488355328 by omega)
        have HLEN : Hid ((hereTo sb x (k + 1)).length = (hereTo sb x k).length + 1) := by show _ = _; rw [HS.out]; simp
        clear hyes hno
        go_wp2_with (at_builtin; refine wpList_append_own _ rfl (.tmp 23) (.tmp 25) 33 rfl (w.heap.size + 2) 3 i0 (.int .i64 0) 1 8 Try.underlying33 HI.out HZ0.out HZ1.out HZ2.out rfl (by decide) (.slice E (hereTo sb x k).length r) (hereTo sb x k).length (nums (hereTo sb x k)) rfl HOW.out ⟨wr.heap.size, 0, none⟩ 1 1 [.int .i64 k] rfl rfl (cell_one_new _ _ _) (by simp [Value.oneCell']) HMAX.out HBYT.out HBASE.out ?_; intro v' w2 hown1 hg1 _; obtain ⟨D', q', hv', -⟩ := Fresh.of_own hown1 (Nat.le_refl _); rw [hv'] at hown1 ⊢; clear hv')
        have HBN := Lib.hid (HBB.out.grown hg1 HBASE.out (fun kk e => (HOW.out.lt _ e).1))
        have HON := Lib.hid hown1
        clear hg1 hown1
        go_roundw
        case rel => exact ⟨k + 1, D', q', by omega, by go_num, by rw [HLEN.out], by rw [HLEN.out, HS.out, show nums (hereTo sb x k ++ [(k : Int)]) = nums (hereTo sb x k) ++ [.int .i64 k] by simp [nums]]; exact HON.out, HBN.out⟩
        case measure => simp [intOf]; omega
      · have HS := Lib.hid (hno (by simpa using hxt))
        have hxf : (x == t) = false := by simpa using hxt
        clear hyes hno
        go_wp2
        go_roundw
        case rel => exact ⟨k + 1, E, r, by omega, by go_num, by rw [HS.out], by rw [HS.out]; exact HOWN.out, HB.out⟩
        case measure => simp [intOf]; omega
    · obtain rfl : k = q := by omega
      have HL := Lib.hid (here_len sb t k)
      have HHH := Lib.hid (holds_of_own hown)
      have hwz : w.heap.size ≤ wr.heap.size := by omega
      have HWZ := Lib.hid hwz
      have HB' := Lib.hid hb'
      rw [HY.out] at HRG
      have hcW := HH0.out.below' hb (by omega)
      have hsW := HH1.out.below' hb (by omega)
      clear hown hb hb' hwz
      go_wp2_with fail
      refine (paGroups_any (hereTo sb t k).length (by omega) 10 none E 0 0 (hereTo sb t k).length r 0 [] (hereTo sb t k) _ (by omega) (by omega) (Nat.zero_le _) (Holds.empty _ _) HHH.out rfl rfl (Nat.zero_le _) (fun _ => ⟨rfl, rfl⟩)).mono ?_
      rintro e w4 ⟨A4, c4, rs4, rfl, hr4, hn4, hs4, hh4, hb4⟩
      rw [show groups (hereTo sb t k).length ((hereTo sb t k).drop 0) [] = subs (hereTo sb t k).length (hereTo sb t k) [] from rfl] at hr4
      have hrl : rs4.length ≤ 255 := by
        have h1 := congrArg List.length hr4
        rw [rowNums_len] at h1
        rw [h1]; exact subs_small (by omega)
      have HR4 := Lib.hid hr4
      have HH4 := Lib.hid hh4
      have HB4 := Lib.hid (below_then HB'.out hb4 HWZ.out)
      have HC4 := Lib.hid (hcW.below hb4)
      have HS4 := Lib.hid (hsW.below hb4)
      have HZ4 := Lib.hid (show w.heap.size ≤ w4.heap.size from Nat.le_trans HWZ.out hb4.size)
      have HRZ := Lib.hid hb4.size
      clear hr4 hn4 hs4 hh4 hb4 c0 c1 c2 e0 e1 hcW hsW
      go_wp2
      go_loopw [8, 33] (fun v i wx => ∃ (j : Nat) (F : Option Addr) (c5 : Nat), j ≤ rs4.length ∧ i = .int .i64 j ∧ v = .slice F ((rs4.take j).filter (fun r => canRide xs bs s sb t r.xs)).length c5 ∧ wx.ownsRow w4.heap.size 33 1 (.slice F ((rs4.take j).filter (fun r => canRide xs bs s sb t r.xs)).length c5) ((rs4.take j).filter (fun r => canRide xs bs s sb t r.xs)).length (rowVals ((rs4.take j).filter (fun r => canRide xs bs s sb t r.xs))) ∧ Below w4.heap.size w4 wx) (fun _ i _ => rs4.length - (intOf i).toNat)
      case atStart => exact ⟨0, none, 0, Nat.zero_le _, rfl, rfl, World.ownsRow_nil _ _ _ _, Below.refl _ _⟩
      case round =>
        obtain ⟨j, F, c5, hj, rfl, rfl, hown, hb⟩ := hrel
        have hsl2 : ((rs4.take j).filter (fun r => canRide xs bs s sb t r.xs)).length ≤ 255 := Nat.le_trans (List.length_filter_le _ _) (by rw [List.length_take]; omega)
        by_cases hlt : j < rs4.length
        · have hd : decide ((j : Int) < (rs4.length : Int)) = true := by simp; omega
          obtain ⟨b5, o5, rfl, hbl5, hcell5, hrow5, hrl5, hrn5⟩ := (HH4.out.free.grid.below hb).look hlt
          have hnx : ∀ f : RowV → Bool, (rs4.take (j + 1)).filter f = (rs4.take j).filter f ++ (if f rs4[j] then [rs4[j]] else []) := fun f => by
            rw [List.take_succ_eq_append_getElem hlt, List.filter_append]
            by_cases hf : f rs4[j] = true <;> simp [hf]
          have HNX := Lib.hid (hnx (fun r => canRide xs bs s sb t r.xs))
          clear hnx
          generalize (rs4.take j).filter (fun r => canRide xs bs s sb t r.xs) = sel at hown hsl2 HNX ⊢
          obtain ⟨c0, c1, c2⟩ := (HC4.out.below hb).cells3
          obtain ⟨e0, e1, -, -⟩ := (HS4.out.below hb).two
          have hbw5 : Below w.heap.size w wr := below_then HB4.out hb HZ4.out
          have HOWN := Lib.hid hown
          have HB := Lib.hid hb
          have HBW5 := Lib.hid hbw5
          generalize hrj : rs4[j] = rr at hcell5 hrow5 hrl5 hrn5 HNX
          clear hrj hown hb hbw5
          obtain ⟨rA, rn, rc, rx⟩ := rr
          simp only [RowV.val] at hcell5 hrow5 hrl5 hrn5
          have HRW := Lib.hid hrow5
          have HRL := Lib.hid hrl5
          clear hrow5 hrl5
          go_wp2_with fail
          refine (loCan_any A n c B m d xs bs s D k z sb t rA rn rc rx wr (by exact hA.below HBW5.out) (by exact hB.below HBW5.out) (by exact hD.below HBW5.out) HRW.out HX.out HYB.out HY.out HRL.out hrn5 HOK.out HSL.out).mono ?_
          rintro e w6 ⟨rfl, hb⟩
          have HB6 := Lib.hid (below_then HB.out hb HB.out.size)
          have HO6 := Lib.hid (ownsRow_below HOWN.out hb)
          clear hb c0 c1 c2 e0 e1 hcell5
          cases hcr : canRide xs bs s sb t rx
          · have HS := Lib.hid (HNX.out.trans (by simp [hcr] : sel ++ (if (fun r : RowV => canRide xs bs s sb t r.xs) ⟨rA, rn, rc, rx⟩ then [(⟨rA, rn, rc, rx⟩ : RowV)] else []) = sel))
            clear hcr
            go_wp2
            go_roundw
            case rel => exact ⟨j + 1, F, c5, by omega, by go_num, by rw [HS.out], by rw [HS.out]; exact HO6.out, HB6.out⟩
            case measure => simp [intOf]; omega
          · have HS := Lib.hid (HNX.out.trans (by simp [hcr] : sel ++ (if (fun r : RowV => canRide xs bs s sb t r.xs) ⟨rA, rn, rc, rx⟩ then [(⟨rA, rn, rc, rx⟩ : RowV)] else []) = sel ++ [⟨rA, rn, rc, rx⟩]))
            have HSL1 : Hid ((sel ++ [(⟨rA, rn, rc, rx⟩ : RowV)]).length = sel.length + 1) := by show _ = _; simp
            have HSV : Hid (rowVals (sel ++ [(⟨rA, rn, rc, rx⟩ : RowV)]) = rowVals sel ++ [.slice rA rn rc]) := by show _ = _; simp [rowVals, RowV.val]
            have HOW := Lib.hid (HO6.out.alloc (.cells #[.slice rA rn rc] 33))
            have HBB := Lib.hid (HB6.out.alloc HB6.out.size (.cells #[.slice rA rn rc] 33))
            have hz6 := HB6.out.size
            have HBASE := Lib.hid (show w4.heap.size ≤ (w6.alloc (.cells #[.slice rA rn rc] 33)).heap.size by simp; omega)
            have HMAX := Lib.hid (show sel.length + 1 ≤ maxLen by unfold maxLen; omega)
            have HBYT := Lib.hid (show (sel.length + 1) * 24 ≤ 140737488355328 by omega)
            have HCN := Lib.hid (cell_one_new w6 (.slice rA rn rc) 33)
            clear hcr hz6
            go_wp2_with (at_builtin; refine wpList_append_own _ rfl (.tmp 41) (.tmp 43) 24 rfl w4.heap.size 33 i1 (.slice none 0 0) 1 24 Try.underlying24 HI1.out HY0.out HY1.out HY2.out rfl (by decide) (.slice F sel.length c5) sel.length (rowVals sel) rfl HOW.out ⟨w6.heap.size, 0, none⟩ 1 1 [.slice rA rn rc] rfl rfl HCN.out (by simp [Value.oneCell']) HMAX.out HBYT.out HBASE.out ?_; intro v' w7 hown1 hg1 _; obtain ⟨g2, e2, hv2⟩ := own_form hown1; subst hv2)
            have HBN := Lib.hid (HBB.out.grown hg1 HBASE.out (fun kk hkk => (HOW.out.lt kk hkk).1))
            have HON := Lib.hid hown1
            clear hown1 hg1
            go_roundw
            case rel => exact ⟨j + 1, some ⟨g2, 0, none⟩, e2, by omega, by go_num, by rw [HS.out, HSL1.out], by rw [HS.out, HSL1.out, HSV.out]; exact HON.out, HBN.out⟩
            case measure => simp [intOf]; omega
        · obtain rfl : j = rs4.length := by omega
          have hd : decide ((rs4.length : Int) < (rs4.length : Int)) = false := by simp
          rw [List.take_length] at hown ⊢
          have HHD := Lib.hid ((Heads.some_of (fun r => canRide xs bs s sb t r.xs) HH4.out hb hown HRZ.out).raise HWZ.out)
          have HBN := Lib.hid (below_then HB4.out hb HZ4.out)
          have HRN := Lib.hid (nums_filter (fun l => canRide xs bs s sb t l) rs4)
          clear hown hb
          go_wp2
          go_ret
          exact ⟨F, c5, _, rfl, by rw [HRN.out, HR4.out, HRG.out], HHD.out, HBN.out⟩

set_option maxHeartbeats 3200000 in
set_option maxRecDepth 100000 in
set_option linter.unusedVariables false in
theorem specRidesOfCrew_any (A : Option Addr) (n c : Nat) (B : Option Addr) (m d : Nat) (xs : List Int) (bs : List Bool) (s : Int) (D : Option Addr) (q z : Nat) (sb : List Bool) (t : Bool) (w : World) (hA : Holds w A (nums xs)) (hB : Holds w B (bits bs)) (hD : Holds w D (bits sb)) (hx : xs.length = n) (hy : bs.length = m) (hqq : sb.length = q) (hn : n ≤ 9223372036854775807) (hq : q ≤ 9223372036854775807) :
    Calls Try.prog 27 #[.agg #[.slice A n c, .slice B m d, .int .i64 s], .agg #[.slice D q z, .bool t]] w (BackPost (ridesLs xs bs m s sb t) (crewState xs m s sb t) w) := by
  have HX := Lib.hid hx
  have HY := Lib.hid hy
  have HQ := Lib.hid hqq
  have h0 := (Whole.fresh w 39 #[.slice A n c, .slice B m d, .int .i64 s]).alloc (.cells #[.slice D q z, .bool t] 48)
  have h1 := Whole.fresh (w.alloc (.cells #[.slice A n c, .slice B m d, .int .i64 s] 39)) 48 #[.slice D q z, .bool t]
  rw [World.size_alloc] at h1
  have ht := below2 w (.cells #[.slice A n c, .slice B m d, .int .i64 s] 39) (.cells #[.slice D q z, .bool t] 48)
  cases hp : crewState xs m s sb t
  · have HP := Lib.hid hp
    have HF : Hid (ridesLs xs bs m s sb t = []) := by show _ = _; simp [ridesLs, hp]
    rw [HF.out]
    clear hp hx hy hqq
    go_enter Try.func27, Try.ntmps27
    go_wp2_with fail
    refine (loAsked_any A n c B m d xs s D q z sb t _ (by exact hA.below ht) (by exact hD.below ht) HX.out HQ.out hn hq).mono ?_
    rintro e w1 ⟨rfl, hb⟩
    rw [HP.out]
    replace ht := below_then ht hb ht.size
    clear hb h0 h1
    go_wp2
    go_ret2
    exact BackPost.no ht
  · have HP := Lib.hid hp
    have HF : Hid (ridesLs xs bs m s sb t = ridesAt sb t (crewLists xs bs s)) := by show _ = _; simp [ridesLs, hp]
    obtain ⟨hok, hsl⟩ := crewState_ok hp
    have HOK := Lib.hid hok
    have HSL := Lib.hid hsl
    rw [HF.out]
    clear hp hx hy hqq hok hsl
    go_enter Try.func27, Try.ntmps27
    go_wp2_with fail
    refine (loAsked_any A n c B m d xs s D q z sb t _ (by exact hA.below ht) (by exact hD.below ht) HX.out HQ.out hn hq).mono ?_
    rintro e w1 ⟨rfl, hb⟩
    rw [HP.out]
    replace ht := below_then ht hb ht.size
    obtain ⟨a0, a1, a2⟩ := (h0.below hb).cells3
    obtain ⟨d0, d1, -, -⟩ := (h1.below hb).two
    clear hb h0 h1
    go_wp2_with fail
    refine (loRides_any A n c B m d xs bs s D q z sb t _ (by exact hA.below ht) (by exact hB.below ht) (by exact hD.below ht) HX.out HY.out HQ.out HOK.out HSL.out).mono ?_
    rintro e w2 ⟨A2, c2, rs, rfl, hr, hh, hb⟩
    have HR := Lib.hid hr
    have HH := Lib.hid (hh.raise ht.size)
    have HB := Lib.hid (below_then ht hb ht.size)
    clear hr hh hb a0 a1 a2 d0 d1 ht
    go_wp2
    go_ret2
    exact ⟨A2, rs.length, c2, rs, rfl, HR.out, rfl, HH.out.free, HB.out⟩
theorem rides_le {n : Nat} {xs : List Int} {bs : List Bool} {m : Nat} {s : Int} {sb : List Bool} {t : Bool} : (ridesLs xs bs m s sb t).length ≤ 1048576 ∧ ((ridesLs xs bs m s sb t).map List.length).sum ≤ 1048576 := by
  unfold ridesLs
  cases hp : crewState xs m s sb t
  · simp
  obtain ⟨hok, hsl⟩ := crewState_ok hp
  rw [if_pos rfl]
  have h1 : (ridesAt sb t (crewLists xs bs s)).length ≤ 255 := Nat.le_trans (rides_len _ _ _) (crew_small bs s hok.seven)
  have h2 : ∀ l ∈ ridesAt sb t (crewLists xs bs s), l.length ≤ 7 := fun l hl => by
    have h3 := up_steps (crew_up (List.mem_filter.1 hl).1)
    have := hok.seven
    omega
  have h3 : ∀ (L : List (List Int)), (∀ l ∈ L, l.length ≤ 7) → (L.map List.length).sum ≤ 7 * L.length := fun L => by
    induction L with
    | nil => intro _; simp
    | cons l L ih =>
      intro h
      have := ih fun x hx => h x (List.mem_cons_of_mem _ hx)
      have := h l (List.mem_cons_self ..)
      simp only [List.map_cons, List.sum_cons, List.length_cons]
      omega
  have := h3 _ h2
  omega
end Go.Proofs.Ytoedcieofjcgkaa

namespace Go.Proofs.Ytoedcieofjcgkaa
open Go.RowKit

theorem num_next {bs : List Bool} {j : Nat} (hj : j < bs.length) (a : Nat) : num (bs.take (j + 1)) a = 2 * num (bs.take j) a + bs[j].toNat := by rw [List.take_succ_eq_append_getElem hj, num_snoc]
theorem num_small {bs : List Bool} (j : Nat) (hn : bs.length ≤ 8) (t : Bool) : num (bs.take j) t.toNat < 512 := by
  have h := num_lt (bs.take j) t
  have h2 : 2 ^ ((bs.take j).length + 1) ≤ 2 ^ 9 := Nat.pow_le_pow_right (by omega) (by rw [List.length_take]; omega)
  omega

set_option maxHeartbeats 3200000 in
set_option linter.unusedSimpArgs false in
set_option linter.unusedVariables false in
theorem seIndex_any (A : Option Addr) (n c : Nat) (bs : List Bool) (t : Bool) (w : World) (hA : Holds w A (bits bs)) (hx : bs.length = n) (hn : n ≤ 8) :
    Calls Try.prog 102 #[.agg #[.slice A n c, .bool t]] w fun e w' => e = .returned (.int .i64 (num bs t.toNat : Nat)) ∧ Below w.heap.size w w' := by
  subst hx
  have hs := Whole.fresh w 48 #[.slice A bs.length c, .bool t]
  have ht := below1 w (.cells #[.slice A bs.length c, .bool t] 48)
  have hB := hA.below ht
  obtain ⟨c0, c1, -, -⟩ := hs.two
  go_enter Try.func102, Try.ntmps102
  cases t
  · have HS : Hid (num (bs.take 0) (Bool.toNat false) = 0) := by show _ = _; simp [num]
    go_wp2
    go_loop [3, 11] (fun v i => ∃ j : Nat, j ≤ bs.length ∧ i = .int .i64 j ∧ v = .int .i64 (num (bs.take j) (Bool.toNat false) : Nat)) (fun _ i => bs.length - (intOf i).toNat)
    case atStart => exact ⟨0, Nat.zero_le _, rfl, by rw [HS.out]; rfl⟩
    case round =>
      clear HS
      obtain ⟨j, hj, rfl, rfl⟩ := hrel
      by_cases hlt : j < bs.length
      · obtain ⟨b, o, rfl, hbl, hcc⟩ := hB.look (k := j) (by simpa [bits] using hlt)
        simp only [bits, List.getElem_map] at hcc
        have hnx := num_next hlt (Bool.toNat false)
        have hsm := num_small (bs := bs) j hn false
        generalize num (bs.take j) (Bool.toNat false) = a at hnx hsm ⊢
        have hw1 : IntKind.i64.wrap ((a : Int) * 2) = (a : Int) * 2 := IntWalk.i64_in _ (by omega)
        have hw2 : IntKind.i64.wrap ((a : Int) * 2 + 1) = (a : Int) * 2 + 1 := IntWalk.i64_in _ (by omega)
        have HNX := Lib.hid hnx
        clear hnx
        cases he : bs[j]
        · rw [he] at hcc HNX
          clear he
          go_wp2
          go_round
          case rel => exact ⟨j + 1, by omega, by go_num, by rw [HNX.out]; simp; omega⟩
          case measure => simp [intOf]; omega
        · rw [he] at hcc HNX
          clear he
          go_wp2
          go_round
          case rel => exact ⟨j + 1, by omega, by go_num, by rw [HNX.out]; simp; omega⟩
          case measure => simp [intOf]; omega
      · obtain rfl : j = bs.length := by omega
        have hd : decide ((bs.length : Int) < (bs.length : Int)) = false := by simp
        have HT : Hid (bs.take bs.length = bs) := by show _ = _; simp
        go_wp2
        go_ret
        exact ⟨ret_of rfl, ht⟩
  · have HS : Hid (num (bs.take 0) (Bool.toNat true) = 1) := by show _ = _; simp [num]
    go_wp2
    go_loop [3, 11] (fun v i => ∃ j : Nat, j ≤ bs.length ∧ i = .int .i64 j ∧ v = .int .i64 (num (bs.take j) (Bool.toNat true) : Nat)) (fun _ i => bs.length - (intOf i).toNat)
    case atStart => exact ⟨0, Nat.zero_le _, rfl, by rw [HS.out]; rfl⟩
    case round =>
      clear HS
      obtain ⟨j, hj, rfl, rfl⟩ := hrel
      by_cases hlt : j < bs.length
      · obtain ⟨b, o, rfl, hbl, hcc⟩ := hB.look (k := j) (by simpa [bits] using hlt)
        simp only [bits, List.getElem_map] at hcc
        have hnx := num_next hlt (Bool.toNat true)
        have hsm := num_small (bs := bs) j hn true
        generalize num (bs.take j) (Bool.toNat true) = a at hnx hsm ⊢
        have hw1 : IntKind.i64.wrap ((a : Int) * 2) = (a : Int) * 2 := IntWalk.i64_in _ (by omega)
        have hw2 : IntKind.i64.wrap ((a : Int) * 2 + 1) = (a : Int) * 2 + 1 := IntWalk.i64_in _ (by omega)
        have HNX := Lib.hid hnx
        clear hnx
        cases he : bs[j]
        · rw [he] at hcc HNX
          clear he
          go_wp2
          go_round
          case rel => exact ⟨j + 1, by omega, by go_num, by rw [HNX.out]; simp; omega⟩
          case measure => simp [intOf]; omega
        · rw [he] at hcc HNX
          clear he
          go_wp2
          go_round
          case rel => exact ⟨j + 1, by omega, by go_num, by rw [HNX.out]; simp; omega⟩
          case measure => simp [intOf]; omega
      · obtain rfl : j = bs.length := by omega
        have hd : decide ((bs.length : Int) < (bs.length : Int)) = false := by simp
        have HT : Hid (bs.take bs.length = bs) := by show _ = _; simp
        go_wp2
        go_ret
        exact ⟨ret_of rfl, ht⟩
end Go.Proofs.Ytoedcieofjcgkaa

namespace Go.Proofs.Ytoedcieofjcgkaa
open Go.RowKit

/-- The torch in a state's number. -/
def topBit (n x : Nat) : Bool := x / 2 ^ n == 1
/-- Behind the making of the state: its block and its list's. -/
def SeMade (n : Nat) (tb : Bool) (w : World) (v : Value) (wx : World) : Prop :=
  ∃ gs gb : Nat, v = .pointer (some ⟨gb, 0, none⟩) ∧ gs ≠ gb ∧ w.heap.size + 1 ≤ gs ∧ w.heap.size + 1 ≤ gb ∧ gs < wx.heap.size ∧
    Whole wx w.heap.size 48 #[.slice none 0 0, .bool false] ∧ Whole wx gb 48 #[.slice (some ⟨gs, 0, none⟩) n n, .bool tb] ∧ Whole wx gs 4 (bits (falses n)).toArray ∧ Below w.heap.size w wx

theorem top_int (n x : Nat) : ((x : Int) / 2 ^ n == 1) = topBit n x := by
  have h : (x : Int) / 2 ^ n = ((x / 2 ^ n : Nat) : Int) := by norm_cast
  rw [h, topBit]
  by_cases h : x / 2 ^ n = 1
  · simp [h]
  · have : ((x / 2 ^ n : Nat) : Int) ≠ 1 := by omega
    rw [beq_eq_false_iff_ne.2 this, beq_eq_false_iff_ne.2 h]
theorem digit_int (n x j : Nat) (hx : x < 1048576) (hj : j < n) : (Go.bits BinOp.and IntKind.i64 ((x : Int) / 2 ^ (n - 1 - j)) 1 == 1) = (digits n x)[j]'(by rw [digits_len]; exact hj) := by
  have h1 : x / 2 ^ (n - 1 - j) ≤ x := Nat.div_le_self _ _
  rw [shr_nat, show (1 : Int) = ((1 : Nat) : Int) from rfl, bits_and_nat _ 1 (by omega) (by omega), Nat.and_one_is_mod]
  simp only [digits, List.getElem_map, List.getElem_range]
  generalize x / 2 ^ (n - 1 - j) = y
  by_cases h : y % 2 = 1
  · simp [h]
  · have : y % 2 = 0 := by omega
    simp [this]
theorem se_ab (n : Nat) (tb : Bool) (w : World) : SeMade n tb w (.pointer (some ⟨w.heap.size + 1 + 1, 0, none⟩)) (((w.alloc (.cells #[.slice none 0 0, .bool false] 48)).alloc (.cells (bits (falses n)).toArray 4)).alloc (.cells #[.slice (some ⟨w.heap.size + 1, 0, none⟩) n n, .bool tb] 48)).drew := by
  refine ⟨w.heap.size + 1, w.heap.size + 1 + 1, rfl, by omega, Nat.le_refl _, by omega, by simp [World.drew], ?_, ?_, ?_, (below3 w _ _ _).drew⟩
  · exact (((Whole.fresh w _ _).alloc _).alloc _).drew
  · have h := Whole.fresh ((w.alloc (.cells #[.slice none 0 0, .bool false] 48)).alloc (.cells (bits (falses n)).toArray 4)) 48 #[.slice (some ⟨w.heap.size + 1, 0, none⟩) n n, .bool tb]
    simp only [World.size_alloc] at h
    exact h.drew
  · have h := (Whole.fresh (w.alloc (.cells #[.slice none 0 0, .bool false] 48)) 4 (bits (falses n)).toArray).alloc (.cells #[.slice (some ⟨w.heap.size + 1, 0, none⟩) n n, .bool tb] 48)
    simp only [World.size_alloc] at h
    exact h.drew
theorem se_ba (n : Nat) (tb : Bool) (w : World) : SeMade n tb w (.pointer (some ⟨w.heap.size + 1, 0, none⟩)) (((w.alloc (.cells #[.slice none 0 0, .bool false] 48)).alloc (.cells #[.slice (some ⟨w.heap.size + 1 + 1, 0, none⟩) n n, .bool tb] 48)).alloc (.cells (bits (falses n)).toArray 4)).drew := by
  refine ⟨w.heap.size + 1 + 1, w.heap.size + 1, rfl, by omega, by omega, Nat.le_refl _, by simp [World.drew], ?_, ?_, ?_, (below3 w _ _ _).drew⟩
  · exact (((Whole.fresh w _ _).alloc _).alloc _).drew
  · have h := (Whole.fresh (w.alloc (.cells #[.slice none 0 0, .bool false] 48)) 48 #[.slice (some ⟨w.heap.size + 1 + 1, 0, none⟩) n n, .bool tb]).alloc (.cells (bits (falses n)).toArray 4)
    simp only [World.size_alloc] at h
    exact h.drew
  · have h := Whole.fresh ((w.alloc (.cells #[.slice none 0 0, .bool false] 48)).alloc (.cells #[.slice (some ⟨w.heap.size + 1 + 1, 0, none⟩) n n, .bool tb] 48)) 4 (bits (falses n)).toArray
    simp only [World.size_alloc] at h
    exact h.drew

set_option maxHeartbeats 6400000 in
set_option maxRecDepth 100000 in
set_option linter.unusedSimpArgs false in
theorem seState_own (n x : Nat) (w : World) (hn : n ≤ 8) (hx : x < 1048576) :
    Calls Try.prog 101 #[.int .i64 x, .int .i64 n] w (fun e w' => ∃ (E : Option Addr) (r : Nat), e = .returned (.agg #[.slice E n r, .bool (topBit n x)]) ∧ Fresh w' w.heap.size w'.heap.size 4 E (bits (digits n x)) ∧ Below w.heap.size w w') := by
  obtain ⟨i0, hi, hz0, hz1, hz2⟩ := info_parts info_bool
  have hmk : ∀ W : World, (Instr.makeSlice 34 (.int .i64 (n : Int)) (.int .i64 (n : Int))).run Try.prog W = .ok (.slice (some ⟨W.heap.size, 0, none⟩) n n) (W.alloc (.cells (bits (falses n)).toArray 4)) := by
    intro W
    have h := run_make (P := Try.prog) W 34 4 i0 _ Try.underlying34 hi hz0 .i64 .i64 n n (by omega) (by omega) (by rw [hz2]; omega) (by omega)
    simp only [Int.toNat_natCast, hz1, made_falses] at h
    rw [h]
    rfl
  clear hi hz0 hz1 hz2
  have htb := top_int n x
  generalize topBit n x = tb at htb ⊢
  go_enter Try.func101, Try.ntmps101
  go_upto_region 1 with fail
  go_cut [5] (fun v wx => SeMade n tb w v wx)
  case first =>
    go_region_held3 (fun w' => True) (go_keep) (fail)
    all_goals (go_wp2_with fail; go_meet)
    all_goals first | exact se_ab n tb w | exact se_ba n tb w
  obtain ⟨gs, gb, rfl, hne, h1, h2, h3, hr, hsb, hsl, hb⟩ := hcut
  clear hmk htb
  obtain ⟨c0, c1, -, -⟩ := hsb.two
  go_wp2
  have HR := Lib.hid hr
  have HSB := Lib.hid hsb
  have HSL := Lib.hid hsl
  have HB := Lib.hid hb
  clear hr hsb hsl hb c0 c1
  go_loopw [17] (fun i wr => ∃ j : Nat, j ≤ n ∧ i = .int .i64 j ∧ Whole wr w.heap.size 48 #[.slice none 0 0, .bool false] ∧ Whole wr gb 48 #[.slice (some ⟨gs, 0, none⟩) n n, .bool tb] ∧ Whole wr gs 4 (filledB (digits n x) j) ∧ Below w.heap.size w wr) (fun i _ => n - (intOf i).toNat)
  case atStart => exact ⟨0, Nat.zero_le _, rfl, HR.out, HSB.out, by rw [show filledB (digits n x) 0 = (bits (falses n)).toArray by simp [filledB, digits_len, falses]]; exact HSL.out, HB.out⟩
  case round =>
    clear HR HSB HSL HB
    obtain ⟨j, hj, rfl, hr, hsb, hsl, hb⟩ := hrel
    by_cases hlt : j < n
    · obtain ⟨c0, c1, -, -⟩ := hsb.two
      have hnw : IntKind.i64.wrap ((n : Int) - 1) = (n : Int) - 1 := IntWalk.i64_in _ (by omega)
      have hnj : IntKind.i64.wrap ((n : Int) - 1 - (j : Int)) = ((n - 1 - j : Nat) : Int) := by rw [IntWalk.i64_in _ (by omega)]; omega
      have hlen : j < (digits n x).length := by rw [digits_len]; exact hlt
      have hcell := (hsl.cell j).trans (filledB_at (digits n x) hlen)
      have hfr := hsl.open_ j
      have hji : (j : Int) < (n : Int) := by omega
      have hsl0 := hsl.lt
      have hbit := digit_int n x j hx hlt
      have HNX := Lib.hid (filledB_next (digits n x) hlen)
      have HR := Lib.hid hr
      have HSB := Lib.hid hsb
      have HSL := Lib.hid hsl
      have HB := Lib.hid hb
      have hrl := hr.lt
      clear hr hsb hsl hb
      generalize (digits n x)[j] = b at hbit HNX
      go_wp2_with fail
      go_region_held3 (fun w' => w'.cell? ⟨gb, 0, none⟩ = some (.slice (some ⟨gs, 0, none⟩) n n)) (go_keep) (fail)
      go_wp2
      go_roundw
      case rel => exact ⟨j + 1, by omega, by go_num, (HR.out.off (by omega)).drew, (HSB.out.off (fun h => hne h.symm)).drew, (by have h := HSL.out.set_ j (.bool b); rw [HNX.out] at h; exact h.drew), (below_set HB.out (by omega)).drew⟩
      case measure => simp [intOf]; omega
    · obtain rfl : j = n := by omega
      have hd : decide ((j : Int) < (j : Int)) = false := by simp
      obtain ⟨d0, d1, -, -⟩ := hsb.two
      obtain ⟨e0, e1, f0, f1⟩ := hr.two
      have hl1 := hr.lt
      have hsl' : Whole wr gs 4 (bits (digits j x)).toArray := by
        have h := filledB_done (digits j x)
        rw [digits_len] at h
        rw [← h]
        exact hsl
      have HF := Lib.hid (Fresh.of_whole (lo := w.heap.size) (hi := wr.heap.size) ((hsl'.off (b := w.heap.size) (o := 0) (u := .slice (some ⟨gs, 0, none⟩) j j) (by omega)).off (b := w.heap.size) (o := 1) (u := .bool tb) (by omega)) (by omega) hsl'.lt)
      have HB := Lib.hid (below_set (b := w.heap.size) (o := 1) (u := .bool tb) (below_set (b := w.heap.size) (o := 0) (u := .slice (some ⟨gs, 0, none⟩) j j) hb (Nat.le_refl _)) (Nat.le_refl _))
      clear hr hsb hsl hsl' hb
      go_wp2
      refine bodyPost_ret (v := .agg #[.slice (some ⟨gs, 0, none⟩) j j, .bool tb]) (by simp [results, Try.results101, go_sem, e0, e1]) rfl ⟨some ⟨gs, 0, none⟩, j, rfl, ?_, HB.out⟩
      have h := HF.out
      simpa [World.setCell] using h
end Go.Proofs.Ytoedcieofjcgkaa

namespace Go.Proofs.Ytoedcieofjcgkaa
open Go.RowKit

/-- A slice of the call's own whose first element may lie anywhere in its block. -/
def Win (w : World) (base : Nat) (e : TypeId) (size : Nat) (v : Value) (n : Nat) (xs : List Value) : Prop :=
  xs.length = n * size ∧ ∃ g o cap cur, v = .slice (some ⟨g, o, none⟩) n cap ∧ base ≤ g ∧ w.heap[g]? = some (.cells cur e (0, 0)) ∧ n ≤ cap ∧ cap ≤ maxLen ∧ o + cap * size ≤ cur.size ∧ (cur.toList.drop o).take (n * size) = xs

section
variable {w w' : World} {base n size : Nat} {e : TypeId} {v : Value} {xs : List Value}
theorem Win.below (h : Win w base e size v n xs) (hb : Below w.heap.size w w') : Win w' base e size v n xs := by
  obtain ⟨h1, g, o, cap, cur, h2, h3, h4, r⟩ := h
  exact ⟨h1, g, o, cap, cur, h2, h3, (hb.block g (Array.getElem?_eq_some_iff.1 h4).1).trans h4, r⟩
theorem Win.kept {row : Option Nat} (h : Win w base e size v n xs) (hg : w.grownBy w' row) (hne : v.ownBlock ≠ row) : Win w' base e size v n xs := by
  obtain ⟨h1, g, o, cap, cur, rfl, h3, h4, r⟩ := h
  exact ⟨h1, g, o, cap, cur, rfl, h3, (hg.block g (Array.getElem?_eq_some_iff.1 h4).1 hne).trans h4, r⟩
theorem Win.alloc (h : Win w base e size v n xs) (o : Obj) : Win (w.alloc o) base e size v n xs := h.below (below1 w o)
theorem Win.drew (h : Win w base e size v n xs) : Win w.drew base e size v n xs := h
theorem Win.off {b o : Nat} {u : Value} (h : Win w base e size v n xs) (hb : b < base) : Win (w.setCell ⟨b, o, none⟩ u) base e size v n xs := by
  obtain ⟨h1, g, o', cap, cur, h2, h3, h4, r⟩ := h
  exact ⟨h1, g, o', cap, cur, h2, h3, (Below.heap_setCell w ⟨b, o, none⟩ u g (by show g ≠ b; omega)).trans h4, r⟩
theorem Win.lt (h : Win w base e size v n xs) : ∀ k, v.ownBlock = some k → base ≤ k ∧ k < w.heap.size := by
  obtain ⟨h1, g, o, cap, cur, rfl, h3, h4, r⟩ := h
  intro k hk
  obtain rfl : g = k := by simpa [Value.ownBlock] using hk
  exact ⟨h3, (Array.getElem?_eq_some_iff.1 h4).1⟩
theorem Win.cellAt (h : Win w base e size v n xs) : ∃ g o cap, v = .slice (some ⟨g, o, none⟩) n cap ∧ base ≤ g ∧ g < w.heap.size ∧ n ≤ cap ∧ cap ≤ maxLen ∧ ∀ j u, xs[j]? = some u → w.cell? ⟨g, o + j, none⟩ = some u := by
  obtain ⟨h1, g, o, cap, cur, rfl, h3, h4, h5, h6, h7, h8⟩ := h
  refine ⟨g, o, cap, rfl, h3, (Array.getElem?_eq_some_iff.1 h4).1, h5, h6, fun j u hu => ?_⟩
  rw [← h8, List.getElem?_take] at hu
  split at hu
  · rw [List.getElem?_drop] at hu
    simp only [World.cell?, h4]
    simpa using hu
  · cases hu
/-- The first element is cut off. -/
def cutV (g o n cap size : Nat) : Value := .slice (some (if cap = 1 then ⟨g, o, none⟩ else ⟨g, o + size, none⟩)) n (cap - 1)
theorem Win.cut {g o cap : Nat} {x ys : List Value} (h : Win w base e size (.slice (some ⟨g, o, none⟩) (n + 1) cap) (n + 1) (x ++ ys)) (hx : x.length = size) : Win w base e size (cutV g o n cap size) n ys := by
  obtain ⟨h1, g', o', cap', cur, hv, h3, h4, h5, h6, h7, h8⟩ := h
  obtain ⟨⟨rfl, rfl⟩, rfl⟩ : (g = g' ∧ o = o') ∧ cap = cap' := by simpa using hv
  have hl : ys.length = n * size := by rw [List.length_append, hx, Nat.add_mul] at h1; omega
  have hys : (cur.toList.drop (o + size)).take (n * size) = ys := by
    have h9 := congrArg (List.drop size) h8
    rw [List.drop_left' hx, List.drop_take, List.drop_drop] at h9
    rw [← h9, show (n + 1) * size - size = n * size by rw [Nat.add_mul]; omega]
  by_cases hc : cap = 1
  · subst hc
    obtain rfl : n = 0 := by omega
    obtain rfl : ys = [] := List.eq_nil_of_length_eq_zero (by omega)
    exact ⟨by simp, g, o, 0, cur, by simp [cutV], h3, h4, Nat.le_refl _, by unfold maxLen; omega, by omega, by simp⟩
  · have e1 : (cap - 1) * size + size = cap * size := by
      obtain ⟨c, rfl⟩ : ∃ c, cap = c + 1 := ⟨cap - 1, by omega⟩
      rw [Nat.add_sub_cancel, Nat.add_mul]; omega
    exact ⟨hl, g, o + size, cap - 1, cur, by simp [cutV, hc], h3, h4, by omega, by omega, by omega, hys⟩
end
theorem Win.made (w : World) (base : Nat) (e : TypeId) (cs : Array Value) (hb : base ≤ w.heap.size) : Win (w.alloc (.cells cs e)) base e cs.size (.slice (some ⟨w.heap.size, 0, none⟩) 1 1) 1 cs.toList :=
  ⟨by simp, w.heap.size, 0, 1, cs, rfl, hb, Whole.fresh w e cs, Nat.le_refl _, by unfold maxLen; omega, by simp, by rw [Nat.one_mul, List.drop_zero, List.take_of_length_le (by simp)]⟩

theorem add_at (g o j : Nat) : (⟨g, o, none⟩ : Addr).add j = ⟨g, o + j, none⟩ := by unfold Addr.add; split <;> simp_all
theorem add_at0 (g o : Nat) (spot : Option Nat) (h : spot = none) (j : Nat) : (⟨g, o, spot⟩ : Addr).add j = ⟨g, o + j, none⟩ := by subst h; exact add_at g o j

theorem run_append_win {P : Program} (w : World) (base : Nat) (t ty e : TypeId) (i : TypeInfo) (z : Value) (size bytes : Nat) (ht : P.underlying t = some (.slice e)) (hi : P.info? e = some i) (hz : i.zero = some z)
    (hsize : i.size = size) (hby : i.bytes = bytes) (hzs : z.cells.size = size) (v : Value) (n : Nat) (xs : List Value) (hown : Win w base e size v n xs)
    (a : Addr) (m c : Nat) (news : List Value) (hl : news.length = m * size) (hnews : ∀ j u, news[j]? = some u → w.cell? (a.add j) = some u) (h1 : ∀ u ∈ news, u.oneCell' = true)
    (h63 : n + m ≤ maxLen) (hbytes : (n + m) * bytes ≤ 140737488355328) (hbase : base ≤ w.heap.size) :
    ∃ v' w', (Builtin.append_ #[t, t] ty #[v, .slice (some a) m c]).run P w = .ok v' w' ∧ Win w' base e size v' (n + m) (xs ++ news) ∧ w.grownBy w' v.ownBlock ∧ (v'.ownBlock = v.ownBlock ∨ v'.ownBlock = some w.heap.size) := by
  subst hsize hby
  have hlt : n + m ≤ 9223372036854775807 := by simp only [maxLen] at h63; omega
  have hlen : (xs ++ news).length = (n + m) * i.size := by rw [List.length_append, hown.1, hl, Nat.add_mul]
  obtain ⟨g, o, cap, hv, hbg, hgl, -, -, hcell⟩ := hown.cellAt
  obtain ⟨hxl, g', o', cap', cur, hv', -, hg, hnc, hcm, hcs, htake⟩ := hown
  subst hv
  obtain ⟨⟨rfl, rfl⟩, rfl⟩ : (g = g' ∧ o = o') ∧ cap = cap' := by simpa using hv'
  by_cases hroom : n + m ≤ cap
  · have hm2 : (n + m) * i.size ≤ cap * i.size := Nat.mul_le_mul_right _ hroom
    rw [Nat.add_mul] at hm2
    have hfit : o + n * i.size + 0 + news.length ≤ cur.size := by rw [hl]; omega
    have hf := run_firstCells_some (P := P) w i.size m a m c news hl hnews
    have hst := run_storeCells_at P g (o + n * i.size) e news 0 cur w hg hfit h1
    rw [Nat.add_zero] at hst
    refine ⟨.slice (some ⟨g, o, none⟩) (n + m) cap, w.setRow g (cur.toList.take (o + n * i.size) ++ news ++ cur.toList.drop (o + n * i.size + news.length)).toArray, ?_, ⟨hlen, g, o, cap, _, rfl, hbg, setRow_heap w g cur _ e _ hg, hroom, hcm, ?_, ?_⟩, ⟨rfl, rfl, rfl, by simp, fun k _ hk => setRow_other w g k _ (fun e => hk (by simp [Value.ownBlock, e]))⟩, .inl rfl⟩
    · simp [Builtin.append_, run_underlying ht, sizeOf, typeInfo, hi, Builtin.lenOf, hroom, hf, add_at, hst]
    · simp only [List.size_toArray, List.length_append, List.length_take, List.length_drop, Array.length_toList]
      omega
    · have hcl : o + n * i.size ≤ cur.toList.length := by simp; omega
      have e1 : cur.toList.take (o + n * i.size) = cur.toList.take o ++ xs := by rw [List.take_add, htake]
      rw [e1, List.append_assoc, List.append_assoc, List.drop_append_of_le_length (by simp; omega), List.drop_of_length_le (by simp; omega), List.nil_append, ← List.append_assoc, ← hlen]
      exact List.take_left
  · have holds : ∀ j u, xs[j]? = some u → w.cell? ((⟨g, o, none⟩ : Addr).add j) = some u := fun j u hu => by rw [add_at]; exact hcell j u hu
    have hr := run_append_grow (P := P) w t ty e i z ht hi hz ⟨g, o, none⟩ n cap xs hxl holds a m c news hl hnews (by omega) (by omega) (growslice_fits (by omega) hbytes)
    have hge := grownCap_ge w (n + m) cap e
    have hcm2 : grownCap w (n + m) cap e ≤ maxLen := grownCap_le_maxLen w (n + m) cap e h63
    refine ⟨_, _, hr, ⟨hlen, w.heap.size, 0, _, _, rfl, hbase, heap_alloc_new w.drew _, hge, hcm2, ?_, ?_⟩, ⟨rfl, rfl, rfl, by simp, fun k hk _ => Below.heap_alloc w.drew _ k hk⟩, .inr rfl⟩
    · have e2 : (n + m) * i.size + (grownCap w (n + m) cap e - (n + m)) * i.size = grownCap w (n + m) cap e * i.size := by rw [← Nat.add_mul]; congr 1; omega
      simp only [Array.size_append, List.size_toArray, size_zeroCells, hzs, hxl, hl, Nat.zero_add]
      rw [Nat.add_mul] at e2
      omega
    · simp only [Array.toList_append, List.append_assoc, List.drop_zero]
      rw [← List.append_assoc, ← hlen]
      exact List.take_left

theorem wpList_append_win {P : Program} (w : World) {ops : Array Oper} {rest : List Oper} {o : Oper} {a : Act} {Q : Exit → Act → World → Prop} (hgd : o.guard = none) (s x : Operand) (t : TypeId)
    (ho : o.op = .call { callee := .builtin .append, args := #[s, x], argTypes := #[t, t] })
    (base : Nat) (e : TypeId) (i : TypeInfo) (z : Value) (size bytes : Nat) (ht : P.underlying t = some (.slice e)) (hi : P.info? e = some i) (hz : i.zero = some z)
    (hsize : i.size = size) (hby : i.bytes = bytes) (hzs : z.cells.size = size) (v : Value) (n : Nat) (xs : List Value) (hs : a.eval s = v) (hown : Win w base e size v n xs)
    (ad : Addr) (m c : Nat) (news : List Value) (hx : a.eval x = .slice (some ad) m c) (hl : news.length = m * size) (hnews : ∀ j u, news[j]? = some u → w.cell? (ad.add j) = some u) (h1 : ∀ u ∈ news, u.oneCell' = true)
    (h63 : n + m ≤ maxLen) (hbytes : (n + m) * bytes ≤ 140737488355328) (hbase : base ≤ w.heap.size)
    (h : ∀ v' w', Win w' base e size v' (n + m) (xs ++ news) → w.grownBy w' v.ownBlock → (v'.ownBlock = v.ownBlock ∨ v'.ownBlock = some w.heap.size) → wpList P ops Q rest (a.put o.dst v') w') : wpList P ops Q (o :: rest) a w := by
  refine wpList_plain hgd fun K hK => ?_
  obtain ⟨v', w', hr, h2, h3, h4⟩ := run_append_win (P := P) w base t o.type e i z size bytes ht hi hz hsize hby hzs v n xs hown ad m c news hl hnews h1 h63 hbytes hbase
  unfold Oper.wp execOp
  simp only [ho, resolve, invoke, builtin, Sem.run_bind, Sem.run_pure, Result.andThen_ok, List.map_toArray, List.map_cons, List.map_nil, hs, hx, hr]
  exact hK _ _ (h v' w' h2 h3 h4)
theorem run_cut {P : Program} (W : World) (t e : TypeId) (size : Nat) (g o n cap : Nat) (ht : P.underlying t = some (.slice e)) (he : P.elem t = e) (hs : (P.info? e).map (·.size) = some size) (hn : n + 1 ≤ cap) :
    (Instr.sliceAt t (.slice (some ⟨g, o, none⟩) (n + 1) cap) (some (.int .i64 1)) none none).run P W = .ok (cutV g o n cap size) W := by
  cases hq : P.info? e with
  | none => simp [hq] at hs
  | some i =>
    have hi : i.size = size := by simpa [hq] using hs
    subst he
    have h0 := run_slice_l (P := P) W t (some ⟨g, o, none⟩) (n + 1) cap ht .i64 1 (by omega) (by omega)
    rw [run_sliceAt_slice W t _ _ _ _ ht, h0]
    by_cases hc : cap = 1
    · subst hc
      simp [sizeOf, typeInfo, hq, hi, cutV, sliced, Result.andThen]
    · have hc2 : ¬ (1 = cap) := fun h => hc h.symm
      simp [sizeOf, typeInfo, hq, hi, cutV, sliced, Result.andThen, hc, hc2, add_at]
end Go.Proofs.Ytoedcieofjcgkaa
