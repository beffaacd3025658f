/-
  What is proved: the given statement on FnExactNeededRowers: at every argument of its kinds the law returns true and the arguments read as before. Conditions: none beyond the statement's own.
  Beside it, what it stands on:
  What is proved: contracts of NeededRowers, of the model and of the program. Conditions: the arguments are read as they lie.
  What is proved: the law FnExactNeededRowers returns true at every argument, and leaves all that was there as it was. Conditions: the arguments are read as they lie.
-/
import Derived.Deep.RegionHeld3
import Derived.JoinedOf
import Derived.Test.YtlpeimlbpiofkaaJ1NeededRowers
set_option linter.unusedSimpArgs false
set_option linter.unusedVariables false
namespace Go.Proofs.Ytlpeimlbpiofkaa
open Go.RowKit

theorem rowsSet_set {bs : List Bool} {k : Nat} {x : Bool} (h : k < bs.length) : rowsSet bs k x = bs.set k x := by
  rw [rowsSet, List.set_eq_take_append_cons_drop, if_pos h, List.append_assoc]
  rfl
/-- Is there no plan without a person rowing? -/
noncomputable def needP (xs : List Int) (bs : List Bool) (s : Int) (n : Nat) (k : Int) : Bool := decide (loV xs (rowsSet bs k.toNat false) s false n < 0)
noncomputable def needTo (xs : List Int) (bs : List Bool) (s : Int) (n j : Nat) : List Int := (hereTo bs true j).filter (needP xs bs s n)
noncomputable def needL (xs : List Int) (bs : List Bool) (m : Nat) (s : Int) : List Int := if isCrew xs m s then needTo xs bs s xs.length xs.length else []
section
variable {xs : List Int} {bs : List Bool} {s : Int} {n j m : Nat}
theorem need_skip (h : bs.getD j false = false) : needTo xs bs s n (j + 1) = needTo xs bs s n j := by
  rw [needTo, here_no (by rw [h]; rfl), needTo]
theorem need_no (h : bs.getD j false = true) (h2 : ¬ loV xs (rowsSet bs j false) s false n < 0) : needTo xs bs s n (j + 1) = needTo xs bs s n j := by
  rw [needTo, here_yes (by rw [h]; rfl), List.filter_append, needTo]
  have h3 : needP xs bs s n (j : Int) = false := decide_eq_false h2
  simp [h3]
theorem need_yes (h : bs.getD j false = true) (h2 : loV xs (rowsSet bs j false) s false n < 0) : needTo xs bs s n (j + 1) = needTo xs bs s n j ++ [(j : Int)] := by
  rw [needTo, here_yes (by rw [h]; rfl), List.filter_append, needTo]
  have h3 : needP xs bs s n (j : Int) = true := decide_eq_true h2
  simp [h3]
theorem need_len (xs : List Int) (bs : List Bool) (s : Int) (n j : Nat) : (needTo xs bs s n j).length ≤ j := Nat.le_trans (List.length_filter_le _ _) (here_len bs true j)
theorem needL_le (xs : List Int) (bs : List Bool) (m : Nat) (s : Int) : (needL xs bs m s).length ≤ 1048576 := by
  unfold needL
  split
  · rename_i h
    have h1 := need_len xs bs s xs.length xs.length
    have h2 := (isCrew_ok h).seven
    omega
  · simp
theorem steps_need {l : List Int} {hi : Int} (h1 : l.Pairwise (· < ·)) (h2 : ∀ x ∈ l, 0 ≤ x ∧ x ≤ hi) : StepsTo l hi l.length := fun j hj => by
  have h3 := h2 _ (List.getElem_mem hj)
  refine ⟨by rw [getD_at l hj]; exact h3.1, by rw [getD_at l hj]; exact h3.2, ?_⟩
  cases j with
  | zero => exact .inl rfl
  | succ j =>
    right
    rw [getD_at l hj, show j + 1 - 1 = j from rfl, getD_at l (by omega)]
    exact List.pairwise_iff_getElem.1 h1 j (j + 1) (by omega) hj (by omega)
theorem here_steps (bs : List Bool) (t : Bool) (n : Nat) : StepsTo (hereTo bs t n) ((n : Int) - 1) (hereTo bs t n).length := by
  refine steps_need ?_ fun x hx => ?_
  · rw [hereTo, List.pairwise_map]
    refine (List.Pairwise.filter _ List.pairwise_lt_range).imp fun h => ?_
    exact Int.ofNat_lt.2 h
  · rw [hereTo] at hx
    obtain ⟨i, hi, rfl⟩ := List.mem_map.1 hx
    have := List.mem_range.1 (List.mem_filter.1 hi).1
    exact ⟨Int.natCast_nonneg _, by show (i : Int) ≤ _; omega⟩
theorem here_has (bs : List Bool) (n i : Nat) (hl : bs.length = n) : has (hereTo bs true n) i = rowsFn bs i := by
  rw [Bool.eq_iff_iff, has_iff, hereTo, rowsFn]
  constructor
  · intro h
    obtain ⟨k, hk, he⟩ := List.mem_map.1 h
    obtain rfl : k = i := by have : (k : Int) = (i : Int) := he; omega
    exact beq_iff_eq.1 (List.mem_filter.1 hk).2
  · intro h
    refine List.mem_map.2 ⟨i, List.mem_filter.2 ⟨List.mem_range.2 ?_, beq_iff_eq.2 h⟩, rfl⟩
    rcases Nat.lt_or_ge i n with h1 | h1
    · exact h1
    · rw [List.getD_eq_getElem?_getD, List.getElem?_eq_none (by omega)] at h
      cases h
theorem here_crowd (bs : List Bool) (n : Nat) (hl : bs.length = n) : crowdCells (hereTo bs true n) = cells8 (rowsFn bs) := by
  rw [crowd8]
  unfold cells8
  simp only [here_has bs n _ hl]
end
/-- What a call hands back that makes a list of numbers and tells whether it did. -/
def NeedPost (l : List Int) (ok : Bool) (w : World) (e : Ending) (w' : World) : Prop :=
  ∃ (B : Option Addr) (q : Nat), e = .returned (.tuple #[.slice B l.length q, .bool ok]) ∧ Fresh w' w.heap.size w'.heap.size 3 B (nums l) ∧ Below w.heap.size w w'
theorem need_zero {w w' : World} (h : Below w.heap.size w w') : NeedPost [] false w (.returned (.tuple #[.slice none 0 0, .bool false])) w' := ⟨none, 0, rfl, .inl rfl, h⟩
/-- One truth value of an own list written. -/
theorem own_setB {w : World} {lo n e3 g3 j : Nat} {bs : List Bool} (h : w.ownsRow lo 4 1 (.slice (some ⟨g3, 0, none⟩) n e3) n (bits bs)) (hl : bs.length = n) (hj : j < n) :
    ∃ cur : Array Value, Whole w g3 4 cur ∧ lo ≤ g3 ∧ w.cell? ⟨g3, j, none⟩ = some (.bool (bs.getD j false)) ∧ ∀ x : Bool, ∀ i u, (bits (bs.set j x))[i]? = some u → (w.setCell ⟨g3, j, none⟩ (.bool x)).cell? ⟨g3, 0 + i, none⟩ = some u := by
  have hca := fun k (hk : k < n) => h.cellAt k (by omega)
  obtain ⟨-, ⟨hv, h0⟩ | ⟨g, cap, cur, hv, hlo, hh, -⟩⟩ := h
  · omega
  · obtain ⟨hg, -⟩ := Value.slice.inj hv
    obtain rfl : g3 = g := by simpa using hg
    have hw : Whole w g3 4 cur := hh
    have hcj := hca j hj
    have hbj : (bits bs)[j]? = some (.bool (bs.getD j false)) := by simp [bits, show j < bs.length by omega]
    refine ⟨cur, hw, hlo, hcj.trans hbj, fun x i u hu => ?_⟩
    rw [Nat.zero_add, (hw.set_ j (.bool x)).cell i]
    have hcs : j < cur.size := by
      have h1 := (hw.cell j).symm.trans (hcj.trans hbj)
      exact (Array.getElem?_eq_some_iff.1 h1).1
    by_cases hij : i = j
    · subst hij
      rw [Array.getElem?_setIfInBounds_self_of_lt hcs]
      rw [← hu]
      simp [bits, show i < bs.length by omega]
    · rw [Array.getElem?_setIfInBounds_ne (fun e => hij e.symm)]
      have hi : i < n := by
        have := (List.getElem?_eq_some_iff.1 hu).1
        simp [bits] at this
        omega
      rw [← hw.cell i, hca i hi, ← hu]
      simp [bits, List.getElem?_set, Ne.symm hij]

set_option maxHeartbeats 6400000 in
set_option maxRecDepth 100000 in
set_option linter.unusedVariables false in
set_option linter.unusedSimpArgs false in
theorem specNeed_on (A : Option Addr) (n c b o d : Nat) (xs : List Int) (bs : List Bool) (s : Int) (w : World) (hA : Holds w A (nums xs)) (hcell : ∀ j u, (bits bs)[j]? = some u → w.cell? ⟨b, o + j, none⟩ = some u) (hbl : b < w.heap.size) (hx : xs.length = n) (hy : bs.length = n) (hp : isCrew xs n s = true) :
    Calls Try.prog 54 #[.agg #[.slice A n c, .slice (some ⟨b, o, none⟩) n d, .int .i64 s]] w (NeedPost (needTo xs bs s n n) true w) := by
  obtain ⟨i0, hi, hz0, hz1, hz2⟩ := info_parts info_bool
  have HI := Lib.hid hi
  have HZ0 := Lib.hid hz0
  have HZ1 := Lib.hid hz1
  have HZ2 := Lib.hid hz2
  obtain ⟨i1, hi1, hy0, hy1, hy2⟩ := info_parts info_int
  have HI1 := Lib.hid hi1
  have HY0 := Lib.hid hy0
  have HY1 := Lib.hid hy1
  have HY2 := Lib.hid hy2
  have hok := isCrew_ok hp
  have hn7 : n ≤ 7 := by have := hok.seven; omega
  have h1n : 1 ≤ n := by have := hok.one; omega
  have HX := Lib.hid hx
  have HY := Lib.hid hy
  have HP := Lib.hid hp
  have HOK := Lib.hid hok
  have HA := Lib.hid hA
  have HCL := Lib.hid hcell
  have HBL := Lib.hid (show (bits bs).length = n * 1 by rw [bits_len]; omega)
  have HMX := Lib.hid (show 0 + n ≤ maxLen by unfold maxLen; omega)
  have HBT := Lib.hid (show (0 + n) * 1 ≤ 140737488355328 by omega)
  have hq := Whole.fresh w 57 #[.slice A n c, .slice (some ⟨b, o, none⟩) n d, .int .i64 s]
  have ht := below1 w (.cells #[.slice A n c, .slice (some ⟨b, o, none⟩) n d, .int .i64 s] 57)
  clear hi hz0 hz1 hz2 hi1 hy0 hy1 hy2 hx hy hp hok hA hcell
  obtain ⟨c0, c1, c2⟩ := hq.cells3
  go_enter Try.func54, Try.ntmps54
  go_wp2_with fail
  refine (loGood_any A n c _ n d xs s _ (HA.out.below ht) HX.out (by omega)).mono ?_
  rintro e w1 ⟨rfl, hb⟩
  rw [HP.out]
  have HT1 := Lib.hid (below_then ht hb ht.size)
  have HQ1 := Lib.hid (hq.below hb)
  have hlw : w.heap.size < w1.heap.size := (hq.below hb).lt
  clear hb c0 c1 c2 hq ht
  obtain ⟨c0, c1, c2⟩ := HQ1.out.cells3
  have hql := HQ1.out.lt
  go_wp2
  go_loopw [4, 14] (fun v i wr => ∃ (j : Nat) (Q : Option Addr) (r : Nat), j ≤ n ∧ i = .int .i64 j ∧ v = .slice Q (needTo xs bs s n j).length r ∧ wr.ownsRow w1.heap.size 3 1 (.slice Q (needTo xs bs s n j).length r) (needTo xs bs s n j).length (nums (needTo xs bs s n j)) ∧ Below w1.heap.size w1 wr) (fun _ i _ => n - (intOf i).toNat)
  case atStart => exact ⟨0, none, 0, Nat.zero_le _, rfl, rfl, World.ownsRow_nil _ _ _ _, Below.refl _ _⟩
  case round =>
    clear c0 c1 c2 hql
    obtain ⟨j, Q, r, hj, rfl, rfl, hown, hb⟩ := hrel
    obtain ⟨wz, rfl⟩ : ∃ X : World, X = wr := ⟨_, rfl⟩
    have hnl := need_len xs bs s n j
    by_cases hlt : j < n
    · have hd1 : decide ((j : Int) < (n : Int)) = true := by simp; omega
      have HBW := Lib.hid (below_then HT1.out hb HT1.out.size)
      have hcj : wz.cell? ⟨b, o + j, none⟩ = some (.bool (bs.getD j false)) := (HBW.out.cell (p := ⟨b, o + j, none⟩) hbl).trans (HCL.out j _ (by simp [bits, show j < bs.length by have := HY.out; omega]))
      have hblz : b < wz.heap.size := Nat.lt_of_lt_of_le hbl HBW.out.size
      obtain ⟨x, hxv⟩ : ∃ x, bs.getD j false = x := ⟨_, rfl⟩
      rw [hxv] at hcj
      have HXV := Lib.hid hxv
      have HOWN := Lib.hid hown
      have HB := Lib.hid hb
      clear hown hb hxv
      cases x
      · have HS := Lib.hid (need_skip (xs := xs) (s := s) (n := n) HXV.out)
        go_wp2
        go_roundw
        case rel => exact ⟨j + 1, Q, r, by omega, by go_num, by rw [HS.out], by rw [HS.out]; exact HOWN.out, HB.out⟩
        case measure => simp [intOf]; omega
      · have HNO := fun h => Lib.hid (need_no (xs := xs) (s := s) (n := n) HXV.out h)
        have HYES := fun h => Lib.hid (need_yes (xs := xs) (s := s) (n := n) HXV.out h)
        obtain ⟨q0, q1, q2⟩ := (HQ1.out.below HB.out).cells3
        have hqz := (HQ1.out.below HB.out).lt
        have HNW : Hid (∀ k u, (bits bs)[k]? = some u → (wz.alloc (.cells #[] 4)).cell? ((⟨b, o, none⟩ : Addr).add k) = some u) := fun k u hu => by
          rw [show (⟨b, o, none⟩ : Addr).add k = ⟨b, o + k, none⟩ from by unfold Addr.add; split <;> simp_all]
          exact ((HBW.out.alloc HBW.out.size (.cells #[] 4)).cell (p := ⟨b, o + k, none⟩) hbl).trans (HCL.out k u hu)
        have HK1 := Lib.hid (HB.out.alloc HB.out.size (.cells #[] 4))
        go_upto_region 9 with (at_builtin; refine wpList_append_grows _ rfl (.tmp 21) (.tmp 23) 38 rfl 4 i0 (.bool false) 1 1 Try.underlying38 HI.out HZ0.out HZ1.out HZ2.out rfl (by decide) (some ⟨wz.heap.size, 0, none⟩) 0 0 [] rfl (fun h => by cases h) rfl (fun _ _ j u hu => by simp at hu) ⟨b, o, none⟩ n d (bits bs) rfl HBL.out HNW.out (bits_one _) (by omega) HMX.out HBT.out ?_; intro v' w5 hown5 hg5)
        rw [Nat.zero_add, List.nil_append] at hown5
        rw [show n = n - 1 + 1 by omega] at hown5
        obtain ⟨g3, e3, rfl⟩ := own_form hown5
        rw [show n - 1 + 1 = n by omega] at hown5 ⊢
        have HB5 := Lib.hid (HK1.out.grown hg5 HK1.out.size (fun x hx => by cases hx))
        have hg3l := hown5.lt g3 rfl
        obtain ⟨cur, hwh, hg3, hcg, hset⟩ := own_setB hown5 HY.out hlt
        have hopn := hwh.open_ j
        have hwl := hwh.lt
        rw [HXV.out] at hcg
        have hgz : w1.heap.size ≤ wz.heap.size := HB.out.size
        have hg3z : wz.heap.size + 1 ≤ g3 := by have := hg3l.1; simpa using this
        have HSET := Lib.hid (hset false)
        have HB6 := Lib.hid (below_set (b := g3) (o := j) (u := .bool false) HB5.out (by omega))
        have hO5 := ownsRow_below (HOWN.out.alloc (.cells #[] 4)) (show Below (wz.alloc (.cells #[] 4)).heap.size (wz.alloc (.cells #[] 4)) w5 from (Below.refl _ _).grown hg5 (Nat.le_refl _) (fun x hx => by cases hx))
        have HO6 := Lib.hid (ownsRow_setCell_other (a := ⟨g3, j, none⟩) hO5 (fun e => absurd (HOWN.out.lt _ e).2 (by show ¬ g3 < _; omega)) _ : (w5.setCell ⟨g3, j, none⟩ (.bool false)).ownsRow w1.heap.size 3 1 (.slice Q (needTo xs bs s n j).length r) (needTo xs bs s n j).length (nums (needTo xs bs s n j)))
        have HW6 := Lib.hid (hwh.set_ j (.bool false))
        clear hown5 hg5 hset q0 q1 q2 hqz hcj hblz hg3l
        go_upto_region 10 with fail
        clear hcg hopn hwh hwl
        obtain ⟨w6, hw6⟩ : ∃ X, X = w5.setCell ⟨g3, j, none⟩ (.bool false) := ⟨_, rfl⟩
        rw [← hw6] at HSET HB6 HW6 HO6 ⊢
        clear hw6
        obtain ⟨q0, q1, q2⟩ := (HQ1.out.below HB6.out).cells3
        have hqz := (HQ1.out.below HB6.out).lt
        have HR6 : Hid (Holds w6 (some ⟨g3, 0, none⟩) (bits (rowsSet bs j false))) := by
          show Holds _ _ _
          rw [rowsSet_set (by rw [HY.out]; exact hlt)]
          exact .inr ⟨g3, 0, rfl, HW6.out.lt, fun i u hu => HSET.out i u hu⟩
        obtain ⟨v, hv⟩ : ∃ v, loV xs (rowsSet bs j false) s false n = v := ⟨_, rfl⟩
        have HV := Lib.hid hv
        rw [hv] at HNO HYES
        clear hv
        go_wp2_with fail
        refine (loLeast_any A n c (some ⟨g3, 0, none⟩) n e3 xs (rowsSet bs j false) s false _ (HA.out.below (below_then HT1.out HB6.out HT1.out.size)) HR6.out HX.out (by rw [rowsSet_len (by rw [HY.out]; exact hlt)]; exact HY.out) HOK.out).mono ?_
        rintro e w7 ⟨rfl, hb7⟩
        rw [HV.out]
        have HB7 := Lib.hid (below_then HB6.out hb7 HB6.out.size)
        have HB67 := Lib.hid hb7
        clear hb7 q0 q1 q2 hqz
        have HO7 : Hid (w7.ownsRow w1.heap.size 3 1 (.slice Q (needTo xs bs s n j).length r) (needTo xs bs s n j).length (nums (needTo xs bs s n j))) := by
          show World.ownsRow _ _ _ _ _ _ _
          exact (ownsRow_below (HO6.out) HB67.out)
        by_cases h0 : v < 0
        · have hdv : decide (v < 0) = true := by simpa using h0
          have HS := Lib.hid (HYES h0).out
          have HB8 := Lib.hid (HB7.out.alloc HB7.out.size (.cells #[.int .i64 (j : Int)] 3))
          have HO8 := Lib.hid (HO7.out.alloc (.cells #[.int .i64 (j : Int)] 3))
          have HNEW := Lib.hid (cells_new w7 3 #[.int .i64 (j : Int)])
          have HMAX := Lib.hid (show (needTo xs bs s n j).length + 1 ≤ maxLen by unfold maxLen; omega)
          have HBYT := Lib.hid (show ((needTo xs bs s n j).length + 1) * 8 ≤ 140737488355328 by omega)
          have HBASE := Lib.hid (show w1.heap.size ≤ (w7.alloc (.cells #[.int .i64 (j : Int)] 3)).heap.size by have := HB7.out.size; simp; omega)
          clear HNO HYES h0
          generalize needTo xs bs s n j = nl at hnl HO8 HS HMAX HBYT ⊢
          go_wp2_with (at_builtin; refine wpList_append_own _ rfl (.tmp 36) (.tmp 38) 22 rfl w1.heap.size 3 i1 (.int .i64 0) 1 8 Try.underlying22 HI1.out HY0.out HY1.out HY2.out rfl (by decide) (.slice Q nl.length r) nl.length (nums nl) rfl HO8.out ⟨w7.heap.size, 0, none⟩ 1 1 [.int .i64 (j : Int)] rfl rfl HNEW.out (by simp [Value.oneCell']) HMAX.out HBYT.out HBASE.out ?_; intro v' w9 hown9 hg9 _; obtain ⟨g2, e2, hv2⟩ := own_form hown9; subst hv2)
          have HB9 := Lib.hid (HB8.out.grown hg9 HBASE.out (fun kk hkk => (HO8.out.lt kk hkk).1))
          have HO9 := Lib.hid hown9
          clear hown9 hg9
          go_roundw
          case rel => exact ⟨j + 1, some ⟨g2, 0, none⟩, e2, by omega, by go_num, by rw [HS.out, List.length_append]; rfl, by rw [HS.out, List.length_append, show nums (nl ++ [(j : Int)]) = nums nl ++ [.int .i64 (j : Int)] by simp [nums]]; exact HO9.out, HB9.out⟩
          case measure => simp [intOf]; omega
        · have hdv : decide (v < 0) = false := by simpa using h0
          have HS := Lib.hid (HNO (by omega)).out
          clear HNO HYES h0
          go_wp2
          go_roundw
          case rel => exact ⟨j + 1, Q, r, by omega, by go_num, by rw [HS.out], by rw [HS.out]; exact HO7.out, HB7.out⟩
          case measure => simp [intOf]; omega
    · obtain rfl : j = n := by omega
      have hd1 : decide ((j : Int) < (j : Int)) = false := by simp
      have HF := Lib.hid ((Fresh.of_own' hown).more (lo' := w.heap.size) (hi' := wz.heap.size) (by omega) (Nat.le_refl _))
      have HT2 := Lib.hid (below_then HT1.out hb HT1.out.size)
      clear hown hb
      go_wp2
      go_ret2
      exact ⟨Q, r, rfl, HF.out, HT2.out⟩

set_option maxHeartbeats 6400000 in
set_option maxRecDepth 100000 in
set_option linter.unusedVariables false in
set_option linter.unusedSimpArgs false in
theorem implNeed_on (A : Option Addr) (n b o : Nat) (xs : List Int) (bs : List Bool) (s : Int) (w : World) (hA : Holds w A (nums xs)) (hcell : ∀ j u, (bits bs)[j]? = some u → w.cell? ⟨b, o + j, none⟩ = some u) (hbl : b < w.heap.size) (hx : xs.length = n) (hy : bs.length = n) (hp : isCrew xs n s = true) (hnil : A = none → n = 0) :
    Calls Try.prog 55 #[.agg #[.slice A n n, .slice (some ⟨b, o, none⟩) n n, .int .i64 s]] w (NeedPost (needTo xs bs s n n) true w) := by
  obtain ⟨i1, hi1, hy0, hy1, hy2⟩ := info_parts info_int
  have HI1 := Lib.hid hi1
  have HY0 := Lib.hid hy0
  have HY1 := Lib.hid hy1
  have HY2 := Lib.hid hy2
  have hok := isCrew_ok hp
  have hn7 : n ≤ 7 := by have := hok.seven; omega
  have h1n : 1 ≤ n := by have := hok.one; omega
  have HX := Lib.hid hx
  have HY := Lib.hid hy
  have HP := Lib.hid hp
  have HOK := Lib.hid hok
  have HA := Lib.hid hA
  have HCL := Lib.hid hcell
  have HNIL : Hid (A = none → n = 0 ∧ n = 0) := fun h => ⟨hnil h, hnil h⟩
  have HB0 : Hid (Holds w (some ⟨b, o, none⟩) (bits bs)) := .inr ⟨b, o, rfl, hbl, hcell⟩
  have hq := Whole.fresh w 57 #[.slice A n n, .slice (some ⟨b, o, none⟩) n n, .int .i64 s]
  have ht := below1 w (.cells #[.slice A n n, .slice (some ⟨b, o, none⟩) n n, .int .i64 s] 57)
  clear hi1 hy0 hy1 hy2 hx hy hp hok hA hcell hnil
  obtain ⟨c0, c1, c2⟩ := hq.cells3
  go_enter Try.func55, Try.ntmps55
  go_wp2_with fail
  refine (isCrew_any A n n _ n n xs s _ (HA.out.below ht) HX.out (by omega)).mono ?_
  rintro e w1 ⟨rfl, hb⟩
  rw [HP.out]
  have HT1 := Lib.hid (below_then ht hb ht.size)
  have HQ1 := Lib.hid (hq.below hb)
  clear hb c0 c1 c2 hq ht
  obtain ⟨c0, c1, c2⟩ := HQ1.out.cells3
  have hql := HQ1.out.lt
  go_wp2_with fail
  refine (rowersOf_any A n n _ n n bs s _ (HB0.out.below HT1.out) HY.out (by omega)).mono ?_
  rintro e w2 ⟨rfl, hb2⟩
  rw [← here_crowd bs n HY.out]
  go_wp2_with fail
  refine (list_any (hereTo bs true n) ((n : Int) - 1) _ (here_steps bs true n) (by omega)).mono ?_
  rintro e w3 ⟨A3, c3, rfl, hown3, hb3⟩
  have hb23 := below_then hb2 hb3 hb2.size
  have HT3 := Lib.hid (below_then HT1.out hb23 HT1.out.size)
  have HQ3 := Lib.hid (HQ1.out.below hb23)
  have hlw : w.heap.size < w3.heap.size := HQ3.out.lt
  have HL3 := Lib.hid (Fresh.of_own' hown3).holds
  have hll := here_len bs true n
  have HELT : Hid (∀ k (hk : k < (hereTo bs true n).length), ∃ i : Nat, (hereTo bs true n)[k] = (i : Int) ∧ i < n ∧ bs.getD i false = true) := fun k hk => by
    have h := List.getElem_mem hk
    generalize (hereTo bs true n)[k] = y at h ⊢
    unfold hereTo at h
    obtain ⟨i, hi, he⟩ := List.mem_map.1 h
    obtain ⟨h1, h2⟩ := List.mem_filter.1 hi
    exact ⟨i, he.symm, List.mem_range.1 h1, beq_iff_eq.1 h2⟩
  have HND : Hid (needTo xs bs s n n = (hereTo bs true n).filter (needP xs bs s n)) := rfl
  clear hb2 hb3 hb23 c0 c1 c2 hql hown3
  generalize hereTo bs true n = hs at HL3 hll HELT HND ⊢
  obtain ⟨q, hqq⟩ : ∃ q, hs.length = q := ⟨_, rfl⟩
  have HQQ := Lib.hid hqq
  rw [hqq] at hll ⊢
  clear hqq
  go_wp2
  go_loopw [4, 16] (fun v i wr => ∃ (j : Nat) (Q : Option Addr) (r : Nat), j ≤ q ∧ i = .int .i64 j ∧ v = .slice Q ((hs.take j).filter (needP xs bs s n)).length r ∧ wr.ownsRow w3.heap.size 3 1 (.slice Q ((hs.take j).filter (needP xs bs s n)).length r) ((hs.take j).filter (needP xs bs s n)).length (nums ((hs.take j).filter (needP xs bs s n))) ∧ Below w3.heap.size w3 wr) (fun _ i _ => q - (intOf i).toNat)
  case atStart => exact ⟨0, none, 0, Nat.zero_le _, rfl, rfl, World.ownsRow_nil _ _ _ _, Below.refl _ _⟩
  case round =>
    obtain ⟨j, Q, r, hj, rfl, rfl, hown, hb⟩ := hrel
    obtain ⟨wz, rfl⟩ : ∃ X : World, X = wr := ⟨_, rfl⟩
    have hnl : ((hs.take j).filter (needP xs bs s n)).length ≤ 8 := Nat.le_trans (List.length_filter_le _ _) (by rw [List.length_take]; omega)
    by_cases hlt : j < q
    · have hd1 : decide ((j : Int) < (q : Int)) = true := by simp; omega
      have hjl : j < hs.length := by rw [HQQ.out]; exact hlt
      obtain ⟨i, hi, hin, hbi⟩ := HELT.out j hjl
      have hnx : (hs.take (j + 1)).filter (needP xs bs s n) = (hs.take j).filter (needP xs bs s n) ++ (if needP xs bs s n (i : Int) then [(i : Int)] else []) := by
        rw [List.take_succ_eq_append_getElem hjl, List.filter_append, hi]
        cases hc : needP xs bs s n (i : Int) <;> simp [hc]
      obtain ⟨b5, o5, rfl, hbl5, hcell5⟩ := (HL3.out.below hb).look (k := j) (by simpa [nums] using hjl)
      simp only [nums, List.getElem_map, hi] at hcell5
      have HNX := Lib.hid hnx
      have HOWN := Lib.hid hown
      have HB := Lib.hid hb
      have HBW := Lib.hid (below_then HT3.out hb HT3.out.size)
      obtain ⟨q0, q1, q2⟩ := (HQ3.out.below hb).cells3
      have hqz := (HQ3.out.below hb).lt
      clear hown hb hnx hi hbi
      go_wp2_with fail
      refine (withRower_any A n n b o n xs bs s i false wz (HA.out.below HBW.out) (fun k u hu => (HBW.out.cell (p := ⟨b, o + k, none⟩) hbl).trans (HCL.out k u hu)) (Nat.lt_of_lt_of_le hbl HBW.out.size) HX.out HY.out h1n hn7 hin (Nat.le_refl _) (by omega) HNIL.out).mono ?_
      rintro e w4 ⟨E, c4, F, f4, rfl, hE, hF, hb4, hc1, hc2⟩
      have hrs : (rowsSet bs i false).length = n := by rw [rowsSet_len (by rw [HY.out]; exact hin)]; exact HY.out
      rw [hrs]
      have HRS := Lib.hid hrs
      have HE := Lib.hid hE.holds
      have HF := Lib.hid hF.holds
      rw [HX.out] at hc1 ⊢
      clear hE hF hrs q0 q1 q2 hqz hcell5 hbl5
      go_wp2_with fail
      refine (implFewestW_on E n c4 F n f4 xs (rowsSet bs i false) s w4 HE.out HF.out HX.out HRS.out (by omega) hc1 hc2).mono ?_
      rintro e w5 ⟨rfl, hb5⟩
      have hOK5 : loOk xs (rowsSet bs i false) n s false = !needP xs bs s n (i : Int) := by
        rw [loOk, HP.out, Bool.true_and, HX.out, needP, Int.toNat_natCast]
        by_cases h : loV xs (rowsSet bs i false) s false n < 0
        · rw [decide_eq_true h, decide_eq_false (by omega)]; rfl
        · rw [decide_eq_false h, decide_eq_true (by omega)]; rfl
      rw [hOK5]
      have HB5 := Lib.hid (below_then HB.out (below_then hb4 hb5 hb4.size) HB.out.size)
      have HO5 := Lib.hid (ownsRow_below HOWN.out (below_then hb4 hb5 hb4.size))
      clear hb4 hb5 hOK5
      generalize loN xs (rowsSet bs i false) n s false = dummy
      cases hnp : needP xs bs s n (i : Int)
      · have HS := Lib.hid (HNX.out.trans (by rw [hnp]; simp : _ = (hs.take j).filter (needP xs bs s n)))
        clear hnp
        go_wp2
        go_roundw
        case rel => exact ⟨j + 1, Q, r, by omega, by go_num, by rw [HS.out], by rw [HS.out]; exact HO5.out, HB5.out⟩
        case measure => simp [intOf]; omega
      · have HS := Lib.hid (HNX.out.trans (by rw [hnp]; rfl : _ = (hs.take j).filter (needP xs bs s n) ++ [(i : Int)]))
        clear hnp
        generalize (hs.take j).filter (needP xs bs s n) = nl at hnl HO5 HS ⊢
        have HB8 := Lib.hid (HB5.out.alloc HB5.out.size (.cells #[.int .i64 (i : Int)] 3))
        have HO8 := Lib.hid (HO5.out.alloc (.cells #[.int .i64 (i : Int)] 3))
        have HNEW := Lib.hid (cells_new w5 3 #[.int .i64 (i : Int)])
        have HMAX := Lib.hid (show nl.length + 1 ≤ maxLen by unfold maxLen; omega)
        have HBYT := Lib.hid (show (nl.length + 1) * 8 ≤ 140737488355328 by omega)
        have HBASE := Lib.hid (show w3.heap.size ≤ (w5.alloc (.cells #[.int .i64 (i : Int)] 3)).heap.size by have := HB5.out.size; simp; omega)
        go_wp2_with (at_builtin; refine wpList_append_own _ rfl (.tmp 29) (.tmp 31) 22 rfl w3.heap.size 3 i1 (.int .i64 0) 1 8 Try.underlying22 HI1.out HY0.out HY1.out HY2.out rfl (by decide) (.slice Q nl.length r) nl.length (nums nl) rfl HO8.out ⟨w5.heap.size, 0, none⟩ 1 1 [.int .i64 (i : Int)] rfl rfl HNEW.out (by simp [Value.oneCell']) HMAX.out HBYT.out HBASE.out ?_; intro v' w9 hown9 hg9 _; obtain ⟨g2, e2, hv2⟩ := own_form hown9; subst hv2)
        have HB9 := Lib.hid (HB8.out.grown hg9 HBASE.out (fun kk hkk => (HO8.out.lt kk hkk).1))
        have HO9 := Lib.hid hown9
        clear hown9 hg9
        go_roundw
        case rel => exact ⟨j + 1, some ⟨g2, 0, none⟩, e2, by omega, by go_num, by rw [HS.out, List.length_append]; rfl, by rw [HS.out, List.length_append, show nums (nl ++ [(i : Int)]) = nums nl ++ [.int .i64 (i : Int)] by simp [nums]]; exact HO9.out, HB9.out⟩
        case measure => simp [intOf]; omega
    · obtain rfl : j = q := by omega
      have hd1 : decide ((j : Int) < (j : Int)) = false := by simp
      rw [List.take_of_length_le (by rw [HQQ.out]; exact Nat.le_refl _)] at hown ⊢
      have HF := Lib.hid ((Fresh.of_own' hown).more (lo' := w.heap.size) (hi' := wz.heap.size) (by omega) (Nat.le_refl _))
      have HT2 := Lib.hid (below_then HT3.out hb HT3.out.size)
      clear hown hb
      go_wp2
      go_ret2
      rw [HND.out]
      exact ⟨Q, r, rfl, HF.out, HT2.out⟩

set_option maxHeartbeats 1600000 in
set_option maxRecDepth 100000 in
theorem specNeed_any (A : Option Addr) (n : Nat) (B : Option Addr) (m : Nat) (xs : List Int) (bs : List Bool) (s : Int) (w : World) (hA : Holds w A (nums xs)) (hB : Holds w B (bits bs)) (hx : xs.length = n) (hy : bs.length = m) (hn : n ≤ 1048576) (hm : m ≤ 1048576) (hnil : A = none → n = 0) :
    Calls Try.prog 54 #[.agg #[.slice A n n, .slice B m m, .int .i64 s]] w (NeedPost (needL xs bs m s) (isCrew xs m s) w) := by
  cases hp : isCrew xs m s
  · have ht := below1 w (.cells #[.slice A n n, .slice B m m, .int .i64 s] 57)
    have hq := Whole.fresh w 57 #[.slice A n n, .slice B m m, .int .i64 s]
    have hlg := loGood_any A n n B m m xs s _ (hA.below ht) hx (by omega)
    have HV : Hid (needL xs bs m s = []) := by show _ = _; simp [needL, hp]
    have HP := Lib.hid hp
    obtain ⟨c0, c1, c2⟩ := hq.cells3
    rw [HV.out]
    clear hp hA hB hx hy hnil
    go_enter Try.func54, Try.ntmps54
    go_wp2_with fail
    refine hlg.mono ?_
    clear hlg
    rintro e w1 ⟨rfl, hb⟩
    rw [HP.out]
    have HT1 := Lib.hid (below_then ht hb ht.size)
    clear hb hq c0 c1 c2 ht
    go_wp2
    go_ret2
    exact need_zero HT1.out
  · have hok := isCrew_ok hp
    have hmn : m = n := by have := hok.rows; omega
    subst hmn
    have h1 := hok.one
    rw [needL, if_pos hp, hx]
    rcases hB with hnl | ⟨b, o, rfl, hbl, hcell⟩
    · exfalso
      have := congrArg List.length hnl
      rw [bits_len, hy] at this
      simp at this
      omega
    exact specNeed_on A m m b o m xs bs s w hA hcell hbl hx hy hp

set_option maxHeartbeats 1600000 in
set_option maxRecDepth 100000 in
theorem implNeed_any (A : Option Addr) (n : Nat) (B : Option Addr) (m : Nat) (xs : List Int) (bs : List Bool) (s : Int) (w : World) (hA : Holds w A (nums xs)) (hB : Holds w B (bits bs)) (hx : xs.length = n) (hy : bs.length = m) (hn : n ≤ 1048576) (hm : m ≤ 1048576) (hnil : A = none → n = 0) :
    Calls Try.prog 55 #[.agg #[.slice A n n, .slice B m m, .int .i64 s]] w (NeedPost (needL xs bs m s) (isCrew xs m s) w) := by
  cases hp : isCrew xs m s
  · have ht := below1 w (.cells #[.slice A n n, .slice B m m, .int .i64 s] 57)
    have hq := Whole.fresh w 57 #[.slice A n n, .slice B m m, .int .i64 s]
    have hlg := isCrew_any A n n B m m xs s _ (hA.below ht) hx (by omega)
    have HV : Hid (needL xs bs m s = []) := by show _ = _; simp [needL, hp]
    have HP := Lib.hid hp
    obtain ⟨c0, c1, c2⟩ := hq.cells3
    rw [HV.out]
    clear hp hA hB hx hy hnil
    go_enter Try.func55, Try.ntmps55
    go_wp2_with fail
    refine hlg.mono ?_
    clear hlg
    rintro e w1 ⟨rfl, hb⟩
    rw [HP.out]
    have HT1 := Lib.hid (below_then ht hb ht.size)
    clear hb hq c0 c1 c2 ht
    go_wp2
    go_ret2
    exact need_zero HT1.out
  · have hok := isCrew_ok hp
    have hmn : m = n := by have := hok.rows; omega
    subst hmn
    have h1 := hok.one
    rw [needL, if_pos hp, hx]
    rcases hB with hnl | ⟨b, o, rfl, hbl, hcell⟩
    · exfalso
      have := congrArg List.length hnl
      rw [bits_len, hy] at this
      simp at this
      omega
    exact implNeed_on A m b o xs bs s w hA hcell hbl hx hy hp hnil

end Go.Proofs.Ytlpeimlbpiofkaa

namespace Go.Proofs.Ytlpeimlbpiofkaa
open Go.RowKit

set_option maxHeartbeats 800000 in
set_option linter.unusedVariables false in
theorem lawNeededRowers_big0 (A0 : Option Addr) (n0 c0 : Nat) (x0 : List Int) (A1 : Option Addr) (n1 c1 : Nat) (x1 : List Bool) (k0 : Int) (w : World) (h0 : Holds w A0 (nums x0)) (hx0 : x0.length = n0) (hn0 : n0 ≤ 9223372036854775807) (h1 : Holds w A1 (bits x1)) (hx1 : x1.length = n1) (hn1 : n1 ≤ 9223372036854775807)  (hbig : 1048576 - (n0 : Int) - (n1 : Int) < 0) :
    Calls Try.prog 14 #[.agg #[.slice A0 n0 c0, .slice A1 n1 c1, .int .i64 k0]] w fun e w' => e = .returned (.bool true) ∧ Below w.heap.size w w' := by
  have hb0 := (Whole.fresh w 54 #[.slice A0 n0 c0, .slice A1 n1 c1, .int .i64 k0])
  have ht := below1 w (.cells #[.slice A0 n0 c0, .slice A1 n1 c1, .int .i64 k0] 54)
  have HX0 := Lib.hid hx0
  have HX1 := Lib.hid hx1
  clear hx0 hx1
  obtain ⟨hb0_0, hb0_1, hb0_2⟩ := hb0.cells3
  have hb0_l := hb0.lt
  go_enter Try.func14, Try.ntmps14
  go_wp2_with fail
  refine (szCrew_any A0 n0 c0 A1 n1 c1 k0 (1048576) _ (by omega) (by omega) (by omega) (by omega)).mono ?_
  rintro e v1 ⟨rfl, hb⟩
  rw [crewLeft_bad (by omega)]
  have hz1 : w.heap.size + 1 ≤ v1.heap.size := by have := hb.size; simpa using this
  replace ht := below_then ht hb ht.size
  replace hb0 := hb0.below hb
  clear hb
  clear hb0_0 hb0_1 hb0_2 hb0_l
  go_wp2
  go_ret
  exact ⟨rfl, ht⟩

set_option maxHeartbeats 12800000 in
set_option maxRecDepth 100000 in
set_option linter.unusedSimpArgs false in
set_option linter.unusedVariables false in
theorem lawNeededRowers_small (A0 : Option Addr) (n0 c0 : Nat) (x0 : List Int) (A1 : Option Addr) (n1 c1 : Nat) (x1 : List Bool) (k0 : Int) (w : World) (h0 : Holds w A0 (nums x0)) (hx0 : x0.length = n0) (hn0 : n0 ≤ 9223372036854775807) (h1 : Holds w A1 (bits x1)) (hx1 : x1.length = n1) (hn1 : n1 ≤ 9223372036854775807) (g0 : 0 ≤ 1048576 - (n0 : Int) - (n1 : Int)) :
    Calls Try.prog 14 #[.agg #[.slice A0 n0 c0, .slice A1 n1 c1, .int .i64 k0]] w fun e w' => e = .returned (.bool true) ∧ Below w.heap.size w w' := by
  have hb0 := (Whole.fresh w 54 #[.slice A0 n0 c0, .slice A1 n1 c1, .int .i64 k0])
  have ht := below1 w (.cells #[.slice A0 n0 c0, .slice A1 n1 c1, .int .i64 k0] 54)
  have HX0 := Lib.hid hx0
  have HX1 := Lib.hid hx1
  clear hx0 hx1
  have hlen : ((needL x0 x1 n1 k0)).length ≤ 1048576 := needL_le _ _ _ _
  obtain ⟨hb0_0, hb0_1, hb0_2⟩ := hb0.cells3
  have hb0_l := hb0.lt
  go_enter Try.func14, Try.ntmps14
  -- region 2
  go_wp2_with fail
  refine (szCrew_any A0 n0 c0 A1 n1 c1 k0 (1048576) _ (by omega) (by omega) (by omega) (by omega)).mono ?_
  rintro e v1 ⟨rfl, hb⟩
  rw [crewLeft_ok (by omega)]
  have hz1 : w.heap.size + 1 ≤ v1.heap.size := by have := hb.size; simpa using this
  replace ht := below_then ht hb ht.size
  replace hb0 := hb0.below hb
  clear hb
  clear hb0_0 hb0_1 hb0_2 hb0_l
  obtain ⟨hb0_0, hb0_1, hb0_2⟩ := hb0.cells3
  have hb0_l := hb0.lt
  -- region 5
  go_wp2_with fail
  refine (toCrew_own A0 n0 c0 x0 A1 n1 c1 x1 k0 _ (by exact h0.below ht) (by exact h1.below ht) HX0.out HX1.out (by omega) (by omega)).mono ?_
  rintro e v2 ⟨gp0, gp1, rfl, hgp0, hwp0, hgp1, hwp1, hb⟩
  have hz2 : v1.heap.size ≤ v2.heap.size := by have := hb.size; simpa using this
  replace ht := below_then ht hb ht.size
  replace hb0 := hb0.below hb
  have hgmp0 : v1.heap.size ≤ gp1 ∧ gp1 < v2.heap.size := ⟨by have := hgp0; (try simp at this); omega, hwp1.lt⟩
  have hp0 := Fresh.of_whole (lo := v1.heap.size) (hi := gp1) hwp0 (by simpa using hgp0) hgp1
  have hp1 := Fresh.of_whole (lo := gp1) (hi := v2.heap.size) hwp1 (Nat.le_refl _) hwp1.lt
  clear hgp0 hwp0 hgp1 hwp1
  clear hb
  clear hb0_0 hb0_1 hb0_2 hb0_l
  obtain ⟨hb0_0, hb0_1, hb0_2⟩ := hb0.cells3
  have hb0_l := hb0.lt
  go_wp2_with fail
  refine (specNeed_any _ n0 _ n1 x0 x1 k0 _ (by exact hp0.holds) (by exact hp1.holds) HX0.out HX1.out (by omega) (by omega) (fun h => by cases h)).mono ?_
  rintro e v3 ⟨B0, q0, rfl, hF0, hb⟩
  have hz3 : v2.heap.size ≤ v3.heap.size := by have := hb.size; simpa using this
  replace ht := below_then ht hb ht.size
  replace hb0 := hb0.below hb
  replace hp0 := hp0.below hb
  replace hp1 := hp1.below hb
  replace hF0 := hF0.more (lo' := v2.heap.size) (hi' := v3.heap.size) (by simp) (Nat.le_refl _)
  clear hb
  clear hp0 hp1
  clear hb0_0 hb0_1 hb0_2 hb0_l
  obtain ⟨hb0_0, hb0_1, hb0_2⟩ := hb0.cells3
  have hb0_l := hb0.lt
  -- region 6
  go_wp2_with fail
  refine (toCrew_own A0 n0 c0 x0 A1 n1 c1 x1 k0 _ (by exact h0.below ht) (by exact h1.below ht) HX0.out HX1.out (by omega) (by omega)).mono ?_
  rintro e v4 ⟨gx0, gx1, rfl, hgx0, hwx0, hgx1, hwx1, hb⟩
  have hz4 : v3.heap.size ≤ v4.heap.size := by have := hb.size; simpa using this
  replace ht := below_then ht hb ht.size
  replace hb0 := hb0.below hb
  replace hF0 := hF0.below hb
  have hgmx0 : v3.heap.size ≤ gx1 ∧ gx1 < v4.heap.size := ⟨by have := hgx0; (try simp at this); omega, hwx1.lt⟩
  have hx0 := Fresh.of_whole (lo := v3.heap.size) (hi := gx1) hwx0 (by simpa using hgx0) hgx1
  have hx1 := Fresh.of_whole (lo := gx1) (hi := v4.heap.size) hwx1 (Nat.le_refl _) hwx1.lt
  clear hgx0 hwx0 hgx1 hwx1
  clear hb
  have hx90 := Whole.fresh v4 57 #[.slice (some ⟨gx0, 0, none⟩) n0 n0, .slice (some ⟨gx1, 0, none⟩) n1 n1, .int .i64 k0]
  replace ht := ht.alloc ht.size (.cells #[.slice (some ⟨gx0, 0, none⟩) n0 n0, .slice (some ⟨gx1, 0, none⟩) n1 n1, .int .i64 k0] 57)
  replace hb0 := hb0.alloc (.cells #[.slice (some ⟨gx0, 0, none⟩) n0 n0, .slice (some ⟨gx1, 0, none⟩) n1 n1, .int .i64 k0] 57)
  replace hF0 := hF0.alloc (.cells #[.slice (some ⟨gx0, 0, none⟩) n0 n0, .slice (some ⟨gx1, 0, none⟩) n1 n1, .int .i64 k0] 57)
  replace hx0 := hx0.alloc (.cells #[.slice (some ⟨gx0, 0, none⟩) n0 n0, .slice (some ⟨gx1, 0, none⟩) n1 n1, .int .i64 k0] 57)
  replace hx1 := hx1.alloc (.cells #[.slice (some ⟨gx0, 0, none⟩) n0 n0, .slice (some ⟨gx1, 0, none⟩) n1 n1, .int .i64 k0] 57)
  clear hb0_0 hb0_1 hb0_2 hb0_l
  obtain ⟨hb0_0, hb0_1, hb0_2⟩ := hb0.cells3
  have hb0_l := hb0.lt
  obtain ⟨hx90_0, hx90_1, hx90_2⟩ := hx90.cells3
  have hx90_l := hx90.lt
  -- region 7
  go_wp2_with fail
  refine (implNeed_any _ n0 _ n1 x0 x1 k0 _ (by exact hx0.holds) (by exact hx1.holds) HX0.out HX1.out (by omega) (by omega) (fun h => by cases h)).mono ?_
  rintro e v5 ⟨B1, q1, rfl, hF1, hb⟩
  have hz5 : v4.heap.size + 1 ≤ v5.heap.size := by have := hb.size; simpa using this
  replace ht := below_then ht hb ht.size
  replace hb0 := hb0.below hb
  replace hF0 := hF0.below hb
  replace hx0 := hx0.below hb
  replace hx1 := hx1.below hb
  replace hx90 := hx90.below hb
  replace hF1 := hF1.more (lo' := v4.heap.size + 1) (hi' := v5.heap.size) (by simp) (Nat.le_refl _)
  clear hb
  clear hb0_0 hb0_1 hb0_2 hb0_l hx90_0 hx90_1 hx90_2 hx90_l
  obtain ⟨hb0_0, hb0_1, hb0_2⟩ := hb0.cells3
  have hb0_l := hb0.lt
  obtain ⟨hx90_0, hx90_1, hx90_2⟩ := hx90.cells3
  have hx90_l := hx90.lt
  -- region 8
  go_wp2_with fail
  refine (eqIntS_yes B1 B0 ((needL x0 x1 n1 k0)).length q1 q0 ((needL x0 x1 n1 k0)) _ (by exact hF1.holds) (by exact hF0.holds) rfl (by omega)).mono ?_
  rintro e v6 ⟨rfl, hb⟩
  have hz6 : v5.heap.size ≤ v6.heap.size := by have := hb.size; simpa using this
  replace ht := below_then ht hb ht.size
  replace hb0 := hb0.below hb
  replace hF0 := hF0.below hb
  replace hx0 := hx0.below hb
  replace hx1 := hx1.below hb
  replace hx90 := hx90.below hb
  replace hF1 := hF1.below hb
  clear hb
  clear hb0_0 hb0_1 hb0_2 hb0_l hx90_0 hx90_1 hx90_2 hx90_l
  obtain ⟨hb0_0, hb0_1, hb0_2⟩ := hb0.cells3
  have hb0_l := hb0.lt
  obtain ⟨hx90_0, hx90_1, hx90_2⟩ := hx90.cells3
  have hx90_l := hx90.lt
  -- region 10
  clear hb0_0 hb0_1 hb0_2 hb0_l hx90_0 hx90_1 hx90_2 hx90_l
  go_wp2_with fail
  refine wp_region_held_drew (S := (fun w' => w'.cell? ⟨w.heap.size, 0, none⟩ = some (.slice A0 n0 c0) ∧ w'.cell? ⟨w.heap.size, 1, none⟩ = some (.slice A1 n1 c1) ∧ w'.cell? ⟨w.heap.size, 2, none⟩ = some (.int .i64 k0) ∧ w'.cell? ⟨v4.heap.size, 0, none⟩ = some (.slice (some ⟨gx0, 0, none⟩) n0 n0) ∧ w'.cell? ⟨v4.heap.size, 1, none⟩ = some (.slice (some ⟨gx1, 0, none⟩) n1 n1) ∧ w'.cell? ⟨v4.heap.size, 2, none⟩ = some (.int .i64 k0))) (by kernel_rfl) ⟨hb0.drew.cell 0, hb0.drew.cell 1, hb0.drew.cell 2, hx90.drew.cell 0, hx90.drew.cell 1, hx90.drew.cell 2⟩ (fun hHeld => ?_)
  replace ht := ht.drew
  replace hb0 := hb0.drew
  replace hF0 := hF0.drew
  replace hx0 := hx0.drew
  replace hx1 := hx1.drew
  replace hx90 := hx90.drew
  replace hF1 := hF1.drew
  refine wpAnyH_take (i := 0) (v := ?_) rfl (by kernel_rfl) (by kernel_rfl) (by kernel_rfl) (fun _ _ _ h => h) (Or.inl ⟨rfl, ?_⟩) hHeld ?_
  rotate_left
  · intro w' hS; obtain ⟨s0, s1, s2, s3, s4, s5⟩ := hS; go_simp <;> with_reducible rfl
  simp only [Act.put, List.getElem_toArray, List.getElem_cons_succ, List.getElem_cons_zero, List.setIfInBounds_toArray, List.set_cons_succ, List.set_cons_zero]
  refine wpAnyH_take (i := 1) (v := ?_) rfl (by kernel_rfl) (by kernel_rfl) (by kernel_rfl) (fun _ _ _ h => h) (Or.inl ⟨rfl, ?_⟩) hHeld ?_
  rotate_left
  · intro w' hS; obtain ⟨s0, s1, s2, s3, s4, s5⟩ := hS; go_simp <;> with_reducible rfl
  simp only [Act.put, List.getElem_toArray, List.getElem_cons_succ, List.getElem_cons_zero, List.setIfInBounds_toArray, List.set_cons_succ, List.set_cons_zero]
  refine wpAnyH_ready (rs := [2]) (by kernel_rfl) (by simp) (AllReadyH.cons rfl (fun K hK => ?_) AllReadyH.nil)
  go_simp
  refine (toCrew_own A0 n0 c0 x0 A1 n1 c1 x1 k0 _ (by exact h0.below ht) (by exact h1.below ht) HX0.out HX1.out (by omega) (by omega)).mono ?_
  rintro e v7 ⟨gy0, gy1, rfl, hgy0, hwy0, hgy1, hwy1, hb⟩
  have hz7 : v6.heap.size ≤ v7.heap.size := by have := hb.size; simpa using this
  replace ht := below_then ht hb ht.size
  replace hb0 := hb0.below hb
  replace hF0 := hF0.below hb
  replace hx0 := hx0.below hb
  replace hx1 := hx1.below hb
  replace hx90 := hx90.below hb
  replace hF1 := hF1.below hb
  have hgmy0 : v6.heap.size ≤ gy1 ∧ gy1 < v7.heap.size := ⟨by have := hgy0; (try simp at this); omega, hwy1.lt⟩
  have hy0 := Fresh.of_whole (lo := v6.heap.size) (hi := gy1) hwy0 (by simpa using hgy0) hgy1
  have hy1 := Fresh.of_whole (lo := gy1) (hi := v7.heap.size) hwy1 (Nat.le_refl _) hwy1.lt
  clear hgy0 hwy0 hgy1 hwy1
  clear hb
  refine hK.out _ _ ⟨hb0.cell 0, hb0.cell 1, hb0.cell 2, hx90.cell 0, hx90.cell 1, hx90.cell 2⟩ (fun hHeld => ?_)
  clear hK K
  try simp only [Act.put, List.getElem_toArray, List.getElem_cons_succ, List.getElem_cons_zero, List.setIfInBounds_toArray, List.set_cons_succ, List.set_cons_zero]
  refine wpAnyH_ready (rs := [3]) (by kernel_rfl) (by simp) (AllReadyH.cons rfl (fun K hK => ?_) AllReadyH.nil)
  go_simp
  refine (eqCrew_yes _ _ n0 _ _ x0 _ _ n1 _ _ x1 k0 _ (by exact hx0.holds) (by exact hy0.holds) (by exact hx1.holds) (by exact hy1.holds) HX0.out HX1.out (by omega) (by omega)).mono ?_
  rintro e v8 ⟨rfl, hb⟩
  have hz8 : v7.heap.size ≤ v8.heap.size := by have := hb.size; simpa using this
  replace ht := below_then ht hb ht.size
  replace hb0 := hb0.below hb
  replace hF0 := hF0.below hb
  replace hx0 := hx0.below hb
  replace hx1 := hx1.below hb
  replace hx90 := hx90.below hb
  replace hF1 := hF1.below hb
  replace hy0 := hy0.below hb
  replace hy1 := hy1.below hb
  clear hb
  clear hy0 hy1
  refine hK.out _ _ ⟨hb0.cell 0, hb0.cell 1, hb0.cell 2, hx90.cell 0, hx90.cell 1, hx90.cell 2⟩ (fun hHeld => ?_)
  clear hK K
  try simp only [Act.put, List.getElem_toArray, List.getElem_cons_succ, List.getElem_cons_zero, List.setIfInBounds_toArray, List.set_cons_succ, List.set_cons_zero]
  refine wpAnyH_take (i := 4) (v := ?_) rfl (by kernel_rfl) (by kernel_rfl) (by kernel_rfl) (fun _ _ _ h => h) (Or.inl ⟨rfl, ?_⟩) hHeld ?_
  rotate_left
  · intro w' hS; obtain ⟨s0, s1, s2, s3, s4, s5⟩ := hS; go_simp <;> with_reducible rfl
  simp only [Act.put, List.getElem_toArray, List.getElem_cons_succ, List.getElem_cons_zero, List.setIfInBounds_toArray, List.set_cons_succ, List.set_cons_zero]
  refine wpAnyH_done (by kernel_rfl) ?_ _
  clear hHeld
  obtain ⟨hb0_0, hb0_1, hb0_2⟩ := hb0.cells3
  have hb0_l := hb0.lt
  obtain ⟨hx90_0, hx90_1, hx90_2⟩ := hx90.cells3
  have hx90_l := hx90.lt
  -- region 13
  go_wp2_with fail
  refine (markCrew_any (some ⟨gx0, 0, none⟩) n0 n0 _ _ _ _ (some ⟨gx1, 0, none⟩) n1 n1 _ k0 (1) _ hx0 hx1 (by rw [nums_len]; exact HX0.out) (by rw [bits_len]; exact HX1.out) (by omega) (by omega) (by omega) (by omega) (by omega) (by omega) (by omega)).mono ?_
  rintro e v9 ⟨rfl, hs, -⟩
  have hsz := ht.size
  replace ht := hs.below ht (by omega) hsz
  replace hb0 := hs.whole hb0 (by omega)
  replace hF0 := hs.fresh hF0 (by omega)
  replace hF1 := hs.fresh hF1 (by omega)
  clear hs hsz hx0 hx1 hx90
  have hk_1 : (0 : Int) ≤ 1 + (n0 : Int) + (n1 : Int) := by omega
  clear hb0_0 hb0_1 hb0_2 hb0_l hx90_0 hx90_1 hx90_2 hx90_l
  obtain ⟨hb0_0, hb0_1, hb0_2⟩ := hb0.cells3
  have hb0_l := hb0.lt
  -- region 14
  go_wp2_with fail
  refine (eqIntS_yes B1 B0 ((needL x0 x1 n1 k0)).length q1 q0 ((needL x0 x1 n1 k0)) _ (by exact hF1.holds) (by exact hF0.holds) rfl (by omega)).mono ?_
  rintro e v10 ⟨rfl, hb⟩
  have hz10 : v9.heap.size ≤ v10.heap.size := by have := hb.size; simpa using this
  replace ht := below_then ht hb ht.size
  replace hb0 := hb0.below hb
  replace hF0 := hF0.below hb
  replace hF1 := hF1.below hb
  clear hb
  clear hb0_0 hb0_1 hb0_2 hb0_l
  obtain ⟨hb0_0, hb0_1, hb0_2⟩ := hb0.cells3
  have hb0_l := hb0.lt
  -- region 17
  go_wp2_with fail
  refine (markIntS_any B1 ((needL x0 x1 n1 k0)).length q1 _ _ _ 1 _ hF1 (by rw [nums_len]) (by omega) (by omega) hlen).mono ?_
  rintro e v11 ⟨rfl, hs, hM⟩
  have hsz := ht.size
  replace ht := hs.below ht (by omega) hsz
  replace hb0 := hs.whole hb0 (by omega)
  replace hF0 := hs.fresh hF0 (by omega)
  clear hs hF1 hsz
  clear hb0_0 hb0_1 hb0_2 hb0_l
  obtain ⟨hb0_0, hb0_1, hb0_2⟩ := hb0.cells3
  have hb0_l := hb0.lt
  -- region 19
  go_wp2_with fail
  refine (heldIntS_any B1 ((needL x0 x1 n1 k0)).length q1 1 _ (by exact hM.holds) (by omega) (by omega) hlen).mono ?_
  rintro e v12 ⟨rfl, rfl⟩
  have hm0 : (0 : Int) ≤ 1 + (((needL x0 x1 n1 k0)).length : Int) := by omega
  clear hb0_0 hb0_1 hb0_2 hb0_l
  obtain ⟨hb0_0, hb0_1, hb0_2⟩ := hb0.cells3
  have hb0_l := hb0.lt
  -- region 24
  go_wp2_with fail
  refine (toCrew_own A0 n0 c0 x0 A1 n1 c1 x1 k0 _ (by exact h0.below ht) (by exact h1.below ht) HX0.out HX1.out (by omega) (by omega)).mono ?_
  rintro e v12 ⟨gr0, gr1, rfl, hgr0, hwr0, hgr1, hwr1, hb⟩
  have hz12 : v11.heap.size ≤ v12.heap.size := by have := hb.size; simpa using this
  replace ht := below_then ht hb ht.size
  replace hb0 := hb0.below hb
  replace hF0 := hF0.below hb
  replace hM := hM.below hb
  have hgmr0 : v11.heap.size ≤ gr1 ∧ gr1 < v12.heap.size := ⟨by have := hgr0; (try simp at this); omega, hwr1.lt⟩
  have hr0 := Fresh.of_whole (lo := v11.heap.size) (hi := gr1) hwr0 (by simpa using hgr0) hgr1
  have hr1 := Fresh.of_whole (lo := gr1) (hi := v12.heap.size) hwr1 (Nat.le_refl _) hwr1.lt
  clear hgr0 hwr0 hgr1 hwr1
  clear hb
  clear hb0_0 hb0_1 hb0_2 hb0_l
  obtain ⟨hb0_0, hb0_1, hb0_2⟩ := hb0.cells3
  have hb0_l := hb0.lt
  go_wp2_with fail
  refine (implNeed_any _ n0 _ n1 x0 x1 k0 _ (by exact hr0.holds) (by exact hr1.holds) HX0.out HX1.out (by omega) (by omega) (fun h => by cases h)).mono ?_
  rintro e v13 ⟨B2, q2, rfl, hF2, hb⟩
  have hz13 : v12.heap.size ≤ v13.heap.size := by have := hb.size; simpa using this
  replace ht := below_then ht hb ht.size
  replace hb0 := hb0.below hb
  replace hF0 := hF0.below hb
  replace hM := hM.below hb
  replace hr0 := hr0.below hb
  replace hr1 := hr1.below hb
  replace hF2 := hF2.more (lo' := v12.heap.size) (hi' := v13.heap.size) (by simp) (Nat.le_refl _)
  clear hb
  clear hr0 hr1
  clear hb0_0 hb0_1 hb0_2 hb0_l
  obtain ⟨hb0_0, hb0_1, hb0_2⟩ := hb0.cells3
  have hb0_l := hb0.lt
  -- region 25
  go_wp2_with fail
  refine (eqIntS_yes B2 B0 ((needL x0 x1 n1 k0)).length q2 q0 ((needL x0 x1 n1 k0)) _ (by exact hF2.holds) (by exact hF0.holds) rfl (by omega)).mono ?_
  rintro e v14 ⟨rfl, hb⟩
  have hz14 : v13.heap.size ≤ v14.heap.size := by have := hb.size; simpa using this
  replace ht := below_then ht hb ht.size
  replace hb0 := hb0.below hb
  replace hF0 := hF0.below hb
  replace hM := hM.below hb
  replace hF2 := hF2.below hb
  clear hb
  clear hb0_0 hb0_1 hb0_2 hb0_l
  obtain ⟨hb0_0, hb0_1, hb0_2⟩ := hb0.cells3
  have hb0_l := hb0.lt
  -- region 28
  go_wp2_with fail
  refine (heldIntS_any B1 ((needL x0 x1 n1 k0)).length q1 1 _ (by exact hM.holds) (by omega) (by omega) hlen).mono ?_
  rintro e v15 ⟨rfl, rfl⟩
  clear hb0_0 hb0_1 hb0_2 hb0_l
  obtain ⟨hb0_0, hb0_1, hb0_2⟩ := hb0.cells3
  have hb0_l := hb0.lt
  go_wp2
  go_ret
  exact ⟨rfl, ht⟩

theorem lawNeededRowers_all (A0 : Option Addr) (n0 c0 : Nat) (x0 : List Int) (A1 : Option Addr) (n1 c1 : Nat) (x1 : List Bool) (k0 : Int) (w : World) (h0 : Holds w A0 (nums x0)) (hx0 : x0.length = n0) (hn0 : n0 ≤ 9223372036854775807) (h1 : Holds w A1 (bits x1)) (hx1 : x1.length = n1) (hn1 : n1 ≤ 9223372036854775807) :
    Calls Try.prog 14 #[.agg #[.slice A0 n0 c0, .slice A1 n1 c1, .int .i64 k0]] w fun e w' => e = .returned (.bool true) ∧ Below w.heap.size w w' := by
  rcases (inferInstance : Decidable (0 ≤ 1048576 - (n0 : Int) - (n1 : Int))) with g0 | g0
  · exact lawNeededRowers_big0 A0 n0 c0 x0 A1 n1 c1 x1 k0 w h0 hx0 hn0 h1 hx1 hn1  (by omega)
  exact lawNeededRowers_small A0 n0 c0 x0 A1 n1 c1 x1 k0 w h0 hx0 hn0 h1 hx1 hn1 g0
end Go.Proofs.Ytlpeimlbpiofkaa

namespace Go.Proofs.Ytlpeimlbpiofkaa.neededRowers
open Go.ChangeShapes Go.WideShapes Go.ChangeAt Go.RowKit Go.Joins

set_option maxRecDepth 100000 in
theorem lifted (os : Os) (started : os.Started) (H : Type) (enc : TypeId × Value → H) :
    ReturnsInHanded {} Try.checked os 14 .any (Rows.fnExactNeededRowersSpec.pre6 enc Try.prog Try.f14 Rows.fnExactNeededRowersRow.domain false) (Rows.fnExactNeededRowersSpec.post enc Try.prog Try.f14 false true false false) := by
  refine returnsInHanded_of_change (C := Try.checked) own started (by kernel_rfl) Try.func14
    (ChangeSpec.witness6 (enc := enc) (C := Try.checked) false ⟨#[], #[.agg #[.slice none 0 0, .slice none 0 0, .int .i64 0]], []⟩ 8 (by kernel_rfl) (by kernel_rfl) (by kernel_rfl) (by kernel_rfl)) ?_
  intro W base args ds gs before hval0 hW hcnd _
  have hval : ∀ (j : Nat) t v, Try.f14.params[j]? = some t → args[j]? = some v → Value.okWide Try.prog W .any base t v := hval0
  have hW' := hW
  obtain ⟨p, q, hA0, hV, rfl, hfz, hnd⟩ := hW
  have hA : DataW.TrodAll enc Try.prog W 0 (fun _ => true) true Try.f14.params.toList args.toList ds p := hA0
  rw [Try.params14] at hA hval
  obtain ⟨v0, vs0, d0, ds0, p0, q0, hargs, rfl, rfl, h0, r0⟩ := trodAll_cons hA
  obtain ⟨rfl, rfl, rfl⟩ := trodAll_nil r0
  obtain rfl : args = #[v0] := by cases args; simp_all
  obtain ⟨rfl, rfl⟩ := trodVars_none hV
  have lt0 : ∀ x ∈ p0, x.block < W.heap.size := by obtain ⟨m, hm⟩ := h0; exact DataW.trod_lt m _ _ _ hm
  obtain ⟨A0, n0, c0, xs0, B0, q0_, d0, ys0, k0, hv0, hr0, hx0, hn0, hs0, hy0, hm0⟩ := open_crew (hval 0 54 v0 rfl rfl) h0
  subst hv0
  clear hA0 hval0
  refine (lawNeededRowers_all A0 n0 c0 xs0 B0 q0_ d0 ys0 k0 W hr0 hx0 hn0 hs0 hy0 hm0).mono fun e W' ⟨he, bel⟩ => ?_
  subst he
  exact ⟨_, rfl, _, _, _, [], _, [], hW', trodAll_mk1 (shut_bool Try.underlying4 _), (trodAll_cons_mk (Below.trod laidOut (by kernel_rfl) (of_decide_eq_true (by kernel_rfl)) h0 bel lt0) trodAll_mk0), rfl, bel.frame _, fun h => by cases h⟩

set_option maxHeartbeats 8000000 in
theorem facts : joinedFacts Try.prog 14 Try.f14 Rows.fnExactNeededRowersSpec Rows.fnExactNeededRowersRow = true := by
  unfold joinedFacts
  rw [enter.laid, enter.rowed, enter.heard, enter.keys, enter.mayEnter, enter.liftsFinal, enter.make]
  simp only [Bool.and_eq_true]
  repeat' apply And.intro
  all_goals (first | exact True.intro | (as_aux_lemma => kernel_rfl))

theorem named_ : Try.prog.funcNamed Rows.fnExactNeededRowersRow.func = some 14 := by kernel_rfl
theorem instance_ : Try.f14.isInstance Try.prog Rows.fnExactNeededRowersRow.origin Rows.fnExactNeededRowersRow.targs := of_decide_eq_true (by kernel_rfl)
theorem wrapper_ : Try.f14.isWrapper Try.prog Rows.fnExactNeededRowersRow.wrapper Rows.fnExactNeededRowersRow.mainSum := by
  unfold Func.isWrapper; first | (rw [if_pos (by decide +kernel)]; kernel_rfl) | (rw [if_neg (by decide +kernel)]; exact ⟨rfl, rfl⟩)

theorem proved : Rows.FnExactNeededRowersSaid :=
  OpenClaim.holds_of_wide 14 Try.f14 rfl rfl rfl rfl rfl rfl rfl ⟨rfl, rfl, rfl, rfl, rfl⟩ rfl rfl rfl rfl rfl named_ Try.func14 facts
    instance_ wrapper_ (fun os started H enc _ => lifted os started H enc)
#print axioms proved
end Go.Proofs.Ytlpeimlbpiofkaa.neededRowers
