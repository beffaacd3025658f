/-
  What is proved: the contract of the program's squadOf: the people with some times in their order. Conditions: the times are read as they lie.
-/
import Derived.Test.YtpefgleipjjneaaSquadC
namespace Go.Proofs.Ytpefgleipjjneaa
open Go.RowKit

theorem squad_ret {w : World} {tmps : Array Value} {g : Nat} {cs : Array Value} {b : Bool} (h2 : tmps.getD 2 undef = .pointer (some ⟨g, 0, none⟩)) (h3 : tmps.getD 3 undef = .bool b) (hw : Whole w g 55 cs) (hs : cs.size = 25) :
    (results Try.f30 tmps).run Try.prog w = .ok (.tuple #[.agg cs, .bool b]) w := by
  have hl := run_loadVar_row (P := Try.prog) w g 55 55 cs (0, 0) _ hw Try.underlying55 rfl (by rw [hs]; exact size_squad)
  have h2' : tmps[2]?.getD undef = .pointer (some ⟨g, 0, none⟩) := by simpa using h2
  have h3' : tmps[3]?.getD undef = .bool b := by simpa using h3
  simp [results, Try.results30, h2', h3', asAddr, hl]

set_option maxHeartbeats 6400000 in
set_option maxRecDepth 100000 in
theorem squadOf_any (A : Option Addr) (n c : Nat) (xs : List Int) (w : World) (hA : Holds w A (nums xs)) (hx : xs.length = n) (hn : n ≤ 9223372036854775807) :
    Calls Try.prog 30 #[.slice A n c] w (SquadPost xs w) := by
  have HX := Lib.hid hx
  by_cases hlen : n < 1 ∨ 12 < n
  · have HNO := Lib.hid (prOk_len (xs := xs) (by omega))
    clear hx
    rcases hlen with hlen | hlen
    all_goals
      go_enter Try.func30, Try.ntmps30
      go_upto_region 1 with fail
      refine (?_ : ∀ W0, W0 = w.alloc (.cells (squadCells [] 0) 55) → Code.wp _ _ _ _ W0) _ rfl
      intro W0 hW0
      have h0 : Whole W0 w.heap.size 55 (squadCells [] 0) := by rw [hW0]; exact Whole.fresh w _ _
      have hb0 : Below w.heap.size w W0 := by rw [hW0]; exact below1 w _
      have HH0 := Lib.hid h0
      have HB0 := Lib.hid hb0
      clear hW0 h0 hb0
      go_upto_region 2 with fail
      go_wp2_with (refine wpList_store_whole rfl 55 (.tmp 2) (.tmp 15) rfl w.heap.size (squadCells [] 0) rfl rfl 55 (squadCells [] 0) HH0.out size_squad rfl (squad_one _ _) ?_; intro W1 hw1 ho1)
      have HW1 := Lib.hid hw1
      have HB1 := Lib.hid (ho1.below HB0.out (Nat.le_refl _))
      clear hw1 ho1
      refine bodyPost_ret (v := .tuple #[.agg (squadCells [] 0), .bool false]) (squad_ret rfl rfl HW1.out rfl) rfl ?_
      exact ⟨.inr ⟨HNO.out, rfl⟩, HB1.out⟩
  · have h12 : n ≤ 12 := by omega
    have h1n : 1 ≤ n := by omega
    clear hx hlen
    go_enter Try.func30, Try.ntmps30
    go_upto_region 1 with fail
    refine (?_ : ∀ W0, W0 = w.alloc (.cells (squadCells [] 0) 55) → Code.wp _ _ _ _ W0) _ rfl
    intro W0 hW0
    have h0 : Whole W0 w.heap.size 55 (squadCells [] 0) := by rw [hW0]; exact Whole.fresh w _ _
    have hb0 : Below w.heap.size w W0 := by rw [hW0]; exact below1 w _
    have hlt0 : w.heap.size < W0.heap.size := by rw [hW0]; simp
    have HH0 := Lib.hid h0
    have HB0 := Lib.hid hb0
    clear hW0 h0 hb0
    go_upto_region 3 with fail
    go_upto_region 4 with (refine wpList_store_whole rfl 55 (.tmp 4) (.tmp 18) rfl W0.heap.size (squadCells [] n) rfl rfl 55 _ (Whole.fresh _ _ _) size_squad rfl (squad_one _ _) ?_; intro W1 hw1 ho1)
    have hb1 := ho1.below (HB0.out.alloc HB0.out.size (.cells (squadCells [] 0) 55)) (Nat.le_of_lt hlt0)
    have h01 := ho1.whole (HH0.out.alloc (.cells (squadCells [] 0) 55)) (by omega)
    have HB1 := Lib.hid hb1
    have HW1 := Lib.hid hw1
    have H01 := Lib.hid h01
    clear hw1 ho1 hb1 h01
    go_wp2_with fail
    go_loopw [21] (fun i wr => ∃ k : Nat, k ≤ n ∧ i = .int .i64 k ∧ Whole wr w.heap.size 55 (squadCells [] 0) ∧ Whole wr W0.heap.size 55 (squadCells (plain xs k) n) ∧ Below w.heap.size w wr ∧ (∀ j (hj : j < xs.length), j < k → 1 ≤ xs[j] ∧ xs[j] ≤ 1000)) (fun i _ => n - (intOf i).toNat)
    case atStart => exact ⟨0, Nat.zero_le _, rfl, H01.out, HW1.out, HB1.out, fun j _ h => absurd h (by omega)⟩
    case round =>
      obtain ⟨k, hk, rfl, hz, hw, hb, hall⟩ := hrel
      clear HB1 HW1 H01
      by_cases hkn : k < n
      · have hkx : k < xs.length := by have := HX.out; omega
        obtain ⟨b1, o1, rfl, hbl1, hcell⟩ := (hA.below hb).look (k := k) (by rw [nums_len]; exact hkx)
        simp only [nums, List.getElem_map] at hcell
        have HZ := Lib.hid hz
        have HW := Lib.hid hw
        have HB := Lib.hid hb
        have HALL := Lib.hid hall
        have hbad := prOk_time (xs := xs) hkx
        have hgood : ∀ j (hj : j < xs.length), j < k + 1 → 1 ≤ xs[k] → xs[k] ≤ 1000 → 1 ≤ xs[j] ∧ xs[j] ≤ 1000 := fun j hj hjk h1 h2 => by
          rcases Nat.lt_or_ge j k with h | h
          · exact HALL.out j hj h
          · obtain rfl : j = k := by omega
            exact ⟨h1, h2⟩
        have htm := tm_at hkx
        generalize xs[k] = x at hcell hbad hgood htm
        have HGOOD := Lib.hid hgood
        have HTM := Lib.hid htm
        by_cases hxb : x < 1 ∨ 1000 < x
        · have HNO := Lib.hid (hbad hxb)
          clear hz hw hb hall hbad hgood htm
          rcases hxb with hxb | hxb
          all_goals
            go_wp2_with (refine wpList_store_whole rfl 55 (.tmp 2) (.tmp 32) rfl w.heap.size (squadCells [] 0) rfl rfl 55 (squadCells [] 0) HZ.out size_squad rfl (squad_one _ _) ?_; intro W2 hw2 ho2)
            have HW2 := Lib.hid hw2
            have HB2 := Lib.hid (ho2.below HB.out (Nat.le_refl _))
            clear hw2 ho2
            refine bodyPost_ret (v := .tuple #[.agg (squadCells [] 0), .bool false]) (squad_ret rfl rfl HW2.out rfl) rfl ?_
            exact ⟨.inr ⟨HNO.out, rfl⟩, HB2.out⟩
        · have hx1 : 1 ≤ x := by omega
          have hx2 : x ≤ 1000 := by omega
          have hk12 : (k : Int) < 12 := by omega
          have hc0 := (hw.cell (2 * k)).trans (squad_who _ _ (by omega))
          have hc1 := (hw.cell (2 * k + 1)).trans (squad_time _ _ (by omega))
          have hf0 := hw.open_ (2 * k)
          have hf1 := hw.open_ (2 * k + 1)
          clear hz hw hb hall hbad hgood htm hxb
          rw [show 2 * k = k * 2 from Nat.mul_comm _ _] at hc0 hc1 hf0 hf1
          go_upto_region 10 with fail
          have hwn : Whole ((wr.setCell ⟨W0.heap.size, k * 2, none⟩ (.int .i64 k)).setCell ⟨W0.heap.size, k * 2 + 1, none⟩ (.int .i64 x)) W0.heap.size 55 (squadCells (plain xs (k + 1)) n) := by
            have h := (HW.out.set_ (k * 2) (.int .i64 k)).set_ (k * 2 + 1) (.int .i64 x)
            have hn := squad_next (plain xs k) n ((k : Int), x) (by rw [plain_len]; omega)
            rw [plain_len, show 2 * k = k * 2 from Nat.mul_comm _ _] at hn
            rw [plain_next, HTM.out, ← hn]
            exact h
          have HWN := Lib.hid hwn
          have HZN := Lib.hid ((HZ.out.off (b := W0.heap.size) (o := k * 2) (u := .int .i64 k) (by omega)).off (b := W0.heap.size) (o := k * 2 + 1) (u := .int .i64 x) (by omega))
          have HBN := Lib.hid (below_set (below_set HB.out (b := W0.heap.size) (o := k * 2) (u := .int .i64 k) (by omega)) (b := W0.heap.size) (o := k * 2 + 1) (u := .int .i64 x) (by omega))
          clear hwn
          go_wp2
          go_roundw
          case rel => exact ⟨k + 1, by omega, by go_num, HZN.out, HWN.out, HBN.out, fun j hj h => HGOOD.out j hj h hx1 hx2⟩
          case measure => simp [intOf]; omega
      · obtain rfl : k = n := by omega
        have hok : prOk xs = true := prOk_all (by have := HX.out; omega) (by have := HX.out; omega) (fun j hj => hall j hj (by have := HX.out; omega))
        have HOK := Lib.hid hok
        have HZ := Lib.hid hz
        have HW := Lib.hid hw
        have HB := Lib.hid hb
        have hw24 := hw.cell 24
        rw [squad_n] at hw24
        have hgl := hw.lt
        have hds : (plain xs k).toArray.size = k := by simp [plain_len]
        have hsort := sortBy_any (plain xs k).toArray W0.heap.size 12 wr (holdsK_squad hw (by rw [plain_len]; omega)) hgl (by rw [hds]; omega)
        rw [hds] at hsort
        have hrl : (Go.Sort.insertionSort wlt (plain xs k).toArray 0 k).toList = mk xs (ord xs) := by
          have := sort_list xs (plain xs k).toArray (by simp [plain, HX.out])
          rw [HX.out] at this
          exact this
        generalize Go.Sort.insertionSort wlt (plain xs k).toArray 0 k = r at hsort hrl
        have hrs : r.size = (plain xs k).length := by rw [plain_len, ← Array.length_toList, hrl, mk_len, ord_len, HX.out]
        have HS := Lib.hid hsort
        have HRL := Lib.hid hrl
        have HRS := Lib.hid hrs
        have HPL := Lib.hid (plain_len xs k)
        have hk0 : (0 : Int) ≤ (k : Int) := by omega
        have hk12 : (k : Int) ≤ 12 := by omega
        clear hz hw hb hall hok hsort hrl hrs hds
        unfold paceV at HS
        go_wp2_with fail
        refine HS.out.mono ?_
        rintro e w2 ⟨rfl, m, os, hw2⟩
        have HWA := HW.out.alloc (.cells #[paceV] 64)
        have hw3 : Whole w2 W0.heap.size 55 (squadCells r.toList k) := by rw [hw2]; exact whole_sorted HWA (by rw [HPL.out]; omega) HRS.out
        obtain ⟨q1, q2, q3, q4, q5⟩ := others_sorted (w := wr.alloc (.cells #[paceV] 64)) (g := W0.heap.size) (m := m) (os := os) (r := r)
        have hz3 : Whole w2 w.heap.size 55 (squadCells [] 0) := by rw [hw2]; exact (q5 _ (HZ.out.alloc _).lt (by omega)).trans (HZ.out.alloc _)
        have hb3 : Below w.heap.size w w2 := by
          rw [hw2]
          refine (HB.out.alloc HB.out.size (.cells #[paceV] 64)).trans ⟨q1, q2, q3, q4, fun j hj => q5 j (by have := HB.out.size; simp; omega) (by omega)⟩
        have HW3 := Lib.hid hw3
        have HZ3 := Lib.hid hz3
        have HB3 := Lib.hid hb3
        clear hw2 HWA hw3 q1 q2 q3 q4 q5 hz3 hb3 hw24
        go_wp2_with (first | (refine wpList_load_row rfl 55 (.tmp 4) rfl W0.heap.size rfl 55 (squadCells r.toList k) (0, 0) _ HW3.out Try.underlying55 rfl size_squad ?_) | (refine wpList_store_whole rfl 55 (.tmp 2) (.tmp 45) rfl w.heap.size (squadCells r.toList k) rfl rfl 55 (squadCells [] 0) HZ3.out size_squad rfl (squad_one _ _) ?_; intro W4 hw4 ho4))
        have HW4 := Lib.hid hw4
        have HB4 := Lib.hid (ho4.below HB3.out (Nat.le_refl _))
        clear hw4 ho4
        refine bodyPost_ret (v := .tuple #[.agg (squadCells r.toList k), .bool true]) (squad_ret rfl rfl HW4.out rfl) rfl ?_
        rw [HRL.out]
        exact ⟨.inl ⟨HOK.out, by rw [HX.out]⟩, HB4.out⟩
end Go.Proofs.Ytpefgleipjjneaa
