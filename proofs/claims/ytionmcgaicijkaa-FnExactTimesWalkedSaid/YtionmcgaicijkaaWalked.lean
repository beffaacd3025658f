/-
  What is proved: contracts of TimesWalked, of the model and of the program. Conditions: the arguments are read as they lie.
-/
import Derived.Test.YtionmcgaicijkaaTally
namespace Go.Proofs.Ytionmcgaicijkaa
open Go.RowKit

/-- What a call hands back that makes a list of numbers and tells whether it did. -/
def NumsPost (xs : List Int) (ok : Bool) (w : World) (e : Ending) (w' : World) : Prop :=
  ∃ (A : Option Addr) (c : Nat), e = .returned (.tuple #[.slice A xs.length c, .bool ok]) ∧ Fresh w' w.heap.size w'.heap.size 3 A (nums xs) ∧ Below w.heap.size w w'
noncomputable def walked (xs : List Int) (n : Nat) (s : Int) (ls : List (List Int)) : List Int := if planOk xs n s ls then walkTo n ls ls.length else []
theorem walked_le {xs : List Int} {n : Nat} {s : Int} {ls : List (List Int)} (hx : xs.length = n) : (walked xs n s ls).length ≤ 1048576 := by
  unfold walked
  split
  · rename_i h
    have := isParty_le (planOk_parts h).1
    rw [walkTo_len]
    omega
  · simp
theorem NumsPost.no {w w' : World} (h : Below w.heap.size w w') : NumsPost [] false w (.returned (.tuple #[.slice none 0 0, .bool false])) w' := ⟨none, 0, rfl, .inl rfl, h⟩
theorem make_ints {n : Nat} (hn : n ≤ 1048576) (W : World) : (Instr.makeSlice 22 (.int .i64 (n : Int)) (.int .i64 (n : Int))).run Try.prog W = .ok (.slice (some ⟨W.heap.size, 0, none⟩) n n) (W.alloc (.cells (nums (List.replicate n 0)).toArray 3)) := by
  obtain ⟨i0, hi, hz0, hz1, hz2⟩ := info_parts info_int
  have h := run_make (P := Try.prog) W 22 3 i0 _ Try.underlying22 hi hz0 .i64 .i64 n n (by omega) (by omega) (by rw [hz2]; omega) (by omega)
  simp only [Int.toNat_natCast, hz1, made_zeros] at h
  rw [h]

set_option maxHeartbeats 1600000 in
set_option maxRecDepth 100000 in
theorem specTimesWalked_any (A D : Option Addr) (n c q z : Nat) (xs : List Int) (rs : List RowV) (s : Int) (w : World) (hA : Holds w A (nums xs)) (hD : Grid w D rs) (hx : xs.length = n) (hz : rs.length = q) (hn : n ≤ 9223372036854775807) (hq : q ≤ 9223372036854775807) :
    Calls Try.prog 44 #[.agg #[.slice A n c, .int .i64 s], .slice D q z] w (NumsPost (walked xs n s (rowNums rs)) (planOk xs n s (rowNums rs)) w) := by
  have HX := Lib.hid hx
  have HZ := Lib.hid hz
  have HLS := Lib.hid (rowNums_len rs)
  have hA2 := hA.alloc (.cells #[.slice A n c, .int .i64 s] 33)
  have hD2 := hD.alloc (.cells #[.slice A n c, .int .i64 s] 33)
  have h0 := Whole.fresh w 33 #[.slice A n c, .int .i64 s]
  have hbw := below1 w (.cells #[.slice A n c, .int .i64 s] 33)
  cases hp : isParty xs s
  · have HP := Lib.hid hp
    have hf : planOk xs n s (rowNums rs) = false := by simp [planOk, hp]
    rw [show walked xs n s (rowNums rs) = [] by simp [walked, hf], hf]
    clear hp hx hz hf
    go_enter Try.func44, Try.ntmps44
    go_wp2_with fail
    refine (paGood_any A n c xs s _ hA2 HX.out hn).mono ?_
    rintro e w1 ⟨rfl, hb⟩
    rw [HP.out]
    have ht := below_then hbw hb (by simp)
    clear hb
    go_wp2
    go_ret2
    exact NumsPost.no ht
  · have HP := Lib.hid hp
    have h8 := isParty_le hp
    have hpos := isParty_pos hp
    rw [hx] at h8 hpos
    clear hp hx hz
    cases hpl : isPlan n s (rowNums rs)
    · have HL := Lib.hid hpl
      have hf : planOk xs n s (rowNums rs) = false := by simp [planOk, hpl]
      rw [show walked xs n s (rowNums rs) = [] by simp [walked, hf], hf]
      clear hpl hf
      go_enter Try.func44, Try.ntmps44
      go_wp2_with fail
      refine (paGood_any A n c xs s _ hA2 HX.out hn).mono ?_
      rintro e w1 ⟨rfl, hb⟩
      rw [HP.out]
      have ht := below_then hbw hb (by simp)
      have hD3 := hD2.below hb
      obtain ⟨c0, c1, -, -⟩ := (h0.below hb).two
      clear hb h0
      go_wp2_with fail
      refine (paPlan_any A D n c q z rs s _ hD3 HZ.out hpos h8 hq).mono ?_
      rintro e w2 ⟨rfl, hb⟩
      rw [HL.out]
      replace ht := below_then ht hb ht.size
      clear hb c0 c1 hD3
      go_wp2
      go_ret2
      exact NumsPost.no ht
    · have HL := Lib.hid hpl
      have hf : planOk xs n s (rowNums rs) = true := by simp [planOk, hpl, HP.out]
      rw [show walked xs n s (rowNums rs) = walkTo n (rowNums rs) (rowNums rs).length by simp [walked, hf], hf]
      have hpt := plan_trips hpl
      have HPT := Lib.hid hpt.2
      have hq40 : q ≤ 40 := by have := hpt.1; have := HLS.out; have := HZ.out; omega
      clear hpl hf hpt
      have hmk := fun W : World => make_ints (n := n) (by omega) W
      go_enter Try.func44, Try.ntmps44
      go_wp2_with fail
      refine (paGood_any A n c xs s _ hA2 HX.out hn).mono ?_
      rintro e w1 ⟨rfl, hb⟩
      rw [HP.out]
      have ht := below_then hbw hb (by simp)
      have hD3 := hD2.below hb
      have h1 := h0.below hb
      obtain ⟨c0, c1, -, -⟩ := h1.two
      clear hb h0
      go_wp2_with fail
      refine (paPlan_any A D n c q z rs s _ hD3 HZ.out hpos h8 hq).mono ?_
      rintro e w2 ⟨rfl, hb⟩
      rw [HL.out]
      replace ht := below_then ht hb ht.size
      have h2 := h1.below hb
      clear hb c0 c1 hD3 h1
      obtain ⟨c0, c1, -, -⟩ := h2.two
      clear h2
      go_wp2
      have HG := Lib.hid (Whole.fresh w2 3 (nums (List.replicate n 0)).toArray)
      have HB := Lib.hid (ht.alloc ht.size (.cells (nums (List.replicate n 0)).toArray 3))
      have hwz : w.heap.size ≤ w2.heap.size := ht.size
      clear ht hmk c0 c1
      go_loopw [26] (fun i wr => ∃ j : Nat, j ≤ q ∧ i = .int .i64 j ∧ Whole wr w2.heap.size 3 (nums (walkTo n (rowNums rs) j)).toArray ∧ Below w.heap.size w wr) (fun i _ => q - (intOf i).toNat)
      case atStart => exact ⟨0, Nat.zero_le _, rfl, by rw [walkTo_zero]; exact HG.out, HB.out⟩
      case round =>
        obtain ⟨wo, rfl⟩ : ∃ wo : World, wo = wr := ⟨_, rfl⟩
        obtain ⟨j, hj, rfl, hg, hb⟩ := hrel
        clear HG HB
        by_cases hlt : j < q
        · have hjr : j < rs.length := by have := HZ.out; omega
          have hjl : j < (rowNums rs).length := by have := HLS.out; omega
          obtain ⟨b1, o1, rfl, hbl1, hc, hok⟩ := (hD.below hb).look hjr
          have hst := HPT.out j hjl
          rw [rowNums_get hjr] at hst
          have hmem := List.getElem_mem hjr
          have hdn : ∀ t, rs[j].xs.length ≤ t → stepTo n (rowNums rs) j rs[j].xs t = walkTo n (rowNums rs) (j + 1) := by
            intro t ht
            have h := stepTo_done n hjl (t := t) (by rw [rowNums_get hjr]; exact ht)
            rw [rowNums_get hjr] at h
            exact h
          generalize rs[j] = r at hc hst hok hdn hmem
          obtain ⟨A1, n1, d1, x1⟩ := r
          obtain ⟨ok1, ok2, ok3⟩ := hok
          dsimp only at hc hst hdn ok1 ok2 ok3
          have HST := Lib.hid hst
          have HRX := Lib.hid ok2
          have HG0 : Hid (Whole wo w2.heap.size 3 (nums (stepTo n (rowNums rs) j x1 0)).toArray) := by show Whole _ _ _ _; rw [stepTo_zero]; exact hg
          have HB0 := Lib.hid hb
          have HDN := Lib.hid hdn
          clear hst hdn ok1 ok2 hg hb
          go_wp2
          go_loopw [32] (fun i wr => ∃ t : Nat, t ≤ n1 ∧ i = .int .i64 t ∧ Whole wr w2.heap.size 3 (nums (stepTo n (rowNums rs) j x1 t)).toArray ∧ Below w.heap.size w wr) (fun i _ => n1 - (intOf i).toNat)
          case atStart => exact ⟨0, Nat.zero_le _, rfl, HG0.out, HB0.out⟩
          case round =>
            obtain ⟨t, ht, rfl, hg, hb⟩ := hrel
            clear HG0 HB0 hc
            by_cases htl : t < n1
            · have htx : t < x1.length := by have := HRX.out; omega
              obtain ⟨k1, -, -⟩ := (hD.below hb).2 _ hmem
              dsimp only at k1
              obtain ⟨b2, o2, rfl, hbl2, hc2⟩ := k1.look (k := t) (by rw [nums_len]; exact htx)
              simp only [nums, List.getElem_map] at hc2
              have hs := HST.out t htx
              have hlo := hs.1
              have hhi := hs.2.1
              rw [getD_at x1 htx] at hlo hhi
              obtain ⟨i0, hi0⟩ := Int.eq_ofNat_of_zero_le hlo
              have hin : i0 < n := by omega
              have hv := cnt_bd (rowNums rs) j i0
              have ho := one_bd (has (x1.take t) i0)
              have hq2 : (rowNums rs).length ≤ 40 := by have := HLS.out; have := HZ.out; omega
              have hcell : wr.cell? ⟨w2.heap.size, i0, none⟩ = some (.int .i64 (cnt (rowNums rs) j i0 + one (has (x1.take t) i0))) := by
                rw [hg.cell i0, nums_cell _ (by rw [stepTo_len]; exact hin), stepTo_get (rowNums rs) j x1 t hin]
              have hfr := hg.open_ i0
              have hset := hg.set_ i0 (.int .i64 (cnt (rowNums rs) j i0 + one (has (x1.take t) i0) + 1))
              rw [nums_set, stepTo_next HST.out htx hi0] at hset
              have HSET := Lib.hid hset
              have hv0 : 0 ≤ cnt (rowNums rs) j i0 + one (has (x1.take t) i0) := by omega
              have hv1 : cnt (rowNums rs) j i0 + one (has (x1.take t) i0) ≤ 41 := by omega
              rw [hi0] at hc2
              clear hs hlo hhi hi0 hv ho hq2 hset hg k1
              have hi1 : (0 : Int) ≤ (i0 : Int) := by omega
              have hi2 : (i0 : Int) < (n : Int) := by omega
              generalize cnt (rowNums rs) j i0 + one (has (x1.take t) i0) = vv at *
              go_wp2
              go_roundw
              case rel => exact ⟨t + 1, by omega, by go_num, HSET.out, below_set hb (by omega)⟩
              case measure => simp [intOf]; omega
            · have HD := Lib.hid (HDN.out t (by have := HRX.out; omega))
              have HGG : Hid (Whole wr w2.heap.size 3 (nums (walkTo n (rowNums rs) (j + 1))).toArray) := by show Whole _ _ _ _; rw [← HD.out]; exact hg
              clear hg
              go_wp2
              go_roundw
              case rel => exact ⟨j + 1, by omega, by go_num, HGG.out, hb⟩
              case measure => simp [intOf]; omega
        · have hjq : j = (rowNums rs).length := by have := HLS.out; have := HZ.out; omega
          have HGG : Hid (Whole wo w2.heap.size 3 (nums (walkTo n (rowNums rs) (rowNums rs).length)).toArray) := by show Whole _ _ _ _; rw [← hjq]; exact hg
          have hgl := hg.lt
          clear hg hjq
          go_wp2
          go_ret2
          exact ⟨some ⟨w2.heap.size, 0, none⟩, n, by rw [walkTo_len]; rfl, Fresh.of_whole HGG.out hwz hgl, hb⟩

/-- The counts of the first k people, the others not yet. -/
def doneTo (n : Nat) (ls : List (List Int)) (k : Nat) : List Int := (List.range n).map fun i => if i < k then cnt ls ls.length i else 0
theorem doneTo_len (n : Nat) (ls : List (List Int)) (k : Nat) : (doneTo n ls k).length = n := by simp [doneTo]
theorem doneTo_zero (n : Nat) (ls : List (List Int)) : doneTo n ls 0 = List.replicate n 0 := by
  apply List.ext_getElem
  · simp [doneTo]
  · intro i h1 h2
    simp [doneTo]
theorem doneTo_all (n : Nat) (ls : List (List Int)) : doneTo n ls n = walkTo n ls ls.length := by
  apply List.ext_getElem
  · simp [doneTo, walkTo]
  · intro i h1 h2
    simp [doneTo, walkTo] at h1 ⊢
    intro h
    omega
theorem doneTo_get {n : Nat} (ls : List (List Int)) {k : Nat} (h : k < n) : (doneTo n ls k)[k]'(by rw [doneTo_len]; exact h) = 0 := by simp [doneTo]
theorem doneTo_next (n : Nat) (ls : List (List Int)) (k : Nat) : (doneTo n ls k).set k (cnt ls ls.length k) = doneTo n ls (k + 1) := by
  apply List.ext_getElem
  · simp [doneTo_len]
  · intro i h1 h2
    rw [List.getElem_set]
    by_cases he : k = i
    · subst he
      simp [doneTo]
    · rw [if_neg he]
      simp only [doneTo, List.getElem_map, List.getElem_range]
      by_cases hi : i < k
      · rw [if_pos hi, if_pos (by omega)]
      · rw [if_neg hi, if_neg (by omega)]

set_option maxHeartbeats 1600000 in
set_option maxRecDepth 100000 in
theorem implTimesWalked_any (A D : Option Addr) (n c q z : Nat) (xs : List Int) (rs : List RowV) (s : Int) (w : World) (hA : Holds w A (nums xs)) (hD : Grid w D rs) (hx : xs.length = n) (hz : rs.length = q) (hn : n ≤ 9223372036854775807) (hq : q ≤ 9223372036854775807) :
    Calls Try.prog 45 #[.agg #[.slice A n c, .int .i64 s], .slice D q z] w (NumsPost (walked xs n s (rowNums rs)) (planOk xs n s (rowNums rs)) w) := by
  have HX := Lib.hid hx
  have HZ := Lib.hid hz
  have hA2 := hA.alloc (.cells #[.slice A n c, .int .i64 s] 33)
  have hD2 := hD.alloc (.cells #[.slice A n c, .int .i64 s] 33)
  have h0 := Whole.fresh w 33 #[.slice A n c, .int .i64 s]
  have hbw := below1 w (.cells #[.slice A n c, .int .i64 s] 33)
  clear hx hz
  go_enter Try.func45, Try.ntmps45
  go_wp2_with fail
  refine (planOf_any A D n c q z xs rs s _ hA2 hD2 HX.out HZ.out hn hq).mono ?_
  rintro e w1 ⟨⟨hp, T, c2, rfl, base, -, hown⟩ | ⟨hp, rfl⟩, hb⟩
  · have HF := Lib.hid (show planOk xs n s (rowNums rs) = true from hp)
    have hpp := planOk_parts HF.out
    have hpt := plan_trips hpp.2
    have hq40 := hpt.1
    have h8 := isParty_le hpp.1
    rw [HX.out] at h8
    have ht := below_then hbw hb (by simp)
    have h1 := h0.below hb
    have hT := own_holds hown
    have hmk := fun W : World => make_ints (n := n) (by omega) W
    clear hp hb hD2 h0 hpt hpp hown hA2
    obtain ⟨c0, c1, -, -⟩ := h1.two
    clear h1
    go_wp2
    have HG := Lib.hid (Whole.fresh w1 3 (nums (List.replicate n 0)).toArray)
    have HB := Lib.hid (ht.alloc ht.size (.cells (nums (List.replicate n 0)).toArray 3))
    have HBT := Lib.hid (below1 w1 (.cells (nums (List.replicate n 0)).toArray 3))
    have hwz : w.heap.size ≤ w1.heap.size := ht.size
    clear ht hmk c0 c1
    go_loopw [24] (fun i wr => ∃ k : Nat, k ≤ n ∧ i = .int .i64 k ∧ Whole wr w1.heap.size 3 (nums (doneTo n (rowNums rs) k)).toArray ∧ Below w.heap.size w wr ∧ Below w1.heap.size w1 wr) (fun i _ => n - (intOf i).toNat)
    case atStart => exact ⟨0, Nat.zero_le _, rfl, by rw [doneTo_zero]; exact HG.out, HB.out, HBT.out⟩
    case round =>
      obtain ⟨k, hk, rfl, hg, hb, hbt⟩ := hrel
      clear HG HB HBT
      by_cases hlt : k < n
      · go_wp2_with fail
        refine (addUpHere_any T _ _ k (rowNums rs) _ (hT.below hbt) rfl (by omega) hq40).mono ?_
        rintro e w2 ⟨rfl, hb2⟩
        have hg2 := hg.below hb2
        have hbb := below_then hb hb2 hb.size
        have hbtt := below_then hbt hb2 hbt.size
        have hcell : w2.cell? ⟨w1.heap.size, k, none⟩ = some (.int .i64 0) := by
          rw [hg2.cell k, nums_cell _ (by rw [doneTo_len]; exact hlt), doneTo_get _ hlt]
        have hfr := hg2.open_ k
        have hset := hg2.set_ k (.int .i64 (cnt (rowNums rs) (rowNums rs).length k))
        rw [nums_set, doneTo_next] at hset
        clear hb hbt hb2 hg hg2
        go_wp2
        go_roundw
        case rel => exact ⟨k + 1, by omega, by go_num, hset, below_set hbb hwz, below_set hbtt (Nat.le_refl _)⟩
        case measure => simp [intOf]; omega
      · have hkn : k = n := by omega
        subst hkn
        have hgl := hg.lt
        rw [doneTo_all] at hg
        go_wp2
        go_ret2
        rw [show walked xs k s (rowNums rs) = walkTo k (rowNums rs) (rowNums rs).length by simp [walked, HF.out], HF.out]
        exact ⟨some ⟨w1.heap.size, 0, none⟩, k, by rw [walkTo_len]; rfl, Fresh.of_whole hg hwz hgl, hb⟩
  · have HF := Lib.hid (show planOk xs n s (rowNums rs) = false from hp)
    have ht := below_then hbw hb (by simp)
    clear hp hb hD2 h0
    go_wp2
    go_ret2
    rw [show walked xs n s (rowNums rs) = [] by simp [walked, HF.out], HF.out]
    exact NumsPost.no ht
theorem specTimesWalked_on (A D : Option Addr) (n c q z : Nat) (xs : List Int) (rs : List RowV) (ls : List (List Int)) (s : Int) (w : World) (hA : Holds w A (nums xs)) (hD : Grid w D rs) (he : rowNums rs = ls) (hx : xs.length = n) (hz : rs.length = q) (hn : n ≤ 9223372036854775807) (hq : q ≤ 9223372036854775807) :
    Calls Try.prog 44 #[.agg #[.slice A n c, .int .i64 s], .slice D q z] w (NumsPost (walked xs n s ls) (planOk xs n s ls) w) := by
  subst he
  exact specTimesWalked_any A D n c q z xs rs s w hA hD hx hz hn hq
theorem implTimesWalked_on (A D : Option Addr) (n c q z : Nat) (xs : List Int) (rs : List RowV) (ls : List (List Int)) (s : Int) (w : World) (hA : Holds w A (nums xs)) (hD : Grid w D rs) (he : rowNums rs = ls) (hx : xs.length = n) (hz : rs.length = q) (hn : n ≤ 9223372036854775807) (hq : q ≤ 9223372036854775807) :
    Calls Try.prog 45 #[.agg #[.slice A n c, .int .i64 s], .slice D q z] w (NumsPost (walked xs n s ls) (planOk xs n s ls) w) := by
  subst he
  exact implTimesWalked_any A D n c q z xs rs s w hA hD hx hz hn hq
end Go.Proofs.Ytionmcgaicijkaa
