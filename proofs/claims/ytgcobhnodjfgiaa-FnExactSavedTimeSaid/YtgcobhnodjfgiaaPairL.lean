/-
  What is proved: contracts of the program's pairTrip.list and listsOfTrips. Conditions: at most 24 trips, read as they lie.
-/
import Derived.Test.YtgcobhnodjfgiaaPairI
namespace Go.Proofs.Ytgcobhnodjfgiaa
open Go.RowKit

theorem made_own {w : World} {base g : Nat} {e : TypeId} {cs : Array Value} (h : Whole w g e cs) (hb : base ≤ g) (hm : cs.size ≤ maxLen) : w.ownsRow base e 1 (.slice (some ⟨g, 0, none⟩) cs.size cs.size) cs.size cs.toList :=
  ⟨by simp, .inr ⟨g, cs.size, cs, rfl, hb, h, Nat.le_refl _, hm, by simp, List.take_of_length_le (by simp)⟩⟩

theorem list_alone' (x : Wk) : listT (x, x) = [x.1] := by simp [listT, isAlone]
theorem list_two' {x y : Wk} (h : ¬ x = y) : listT (x, y) = [min x.1 y.1, max x.1 y.1] := by simp [listT, isAlone, h]
set_option maxHeartbeats 1600000 in
set_option maxRecDepth 100000 in
theorem ptList_any (t : Pt) (w : World) : Calls Try.prog 92 #[.agg (ptCells t)] w (OwnPost (listT t) w) := by
  obtain ⟨⟨t1, t2⟩, t3, t4⟩ := t
  have h0 := Whole.fresh w 101 (ptCells ((t1, t2), t3, t4))
  have c0 := (h0.cell 0).trans (show (ptCells ((t1, t2), t3, t4))[0]? = some (.int .i64 t1) from rfl)
  have c1 := (h0.cell 1).trans (show (ptCells ((t1, t2), t3, t4))[1]? = some (.int .i64 t2) from rfl)
  have c2 := (h0.cell 2).trans (show (ptCells ((t1, t2), t3, t4))[2]? = some (.int .i64 t3) from rfl)
  have c3 := (h0.cell 3).trans (show (ptCells ((t1, t2), t3, t4))[3]? = some (.int .i64 t4) from rfl)
  have hb0 := below1 w (.cells (ptCells ((t1, t2), t3, t4)) 101)
  have HB0 := Lib.hid hb0
  clear h0 hb0
  unfold ptCells at *
  dsimp only at *
  by_cases h : t1 = t3 ∧ t2 = t4
  · obtain ⟨rfl, rfl⟩ := h
    have HL : Hid (listT ((t1, t2), t1, t2) = [t1]) := list_alone' (t1, t2)
    go_enter Try.func92, Try.ntmps92
    go_wp2
    go_ret
    rw [HL.out]
    have hw := Whole.fresh (w.alloc (.cells #[.int .i64 t1, .int .i64 t2, .int .i64 t1, .int .i64 t2] 101)) 3 #[.int .i64 t1]
    rw [World.size_alloc] at hw
    exact ⟨some ⟨w.heap.size + 1, 0, none⟩, 1, rfl, made_own (base := w.heap.size) hw (Nat.le_succ _) (by show 1 ≤ maxLen; decide), HB0.out.alloc (by simp) _⟩
  · have HL : Hid (listT ((t1, t2), t3, t4) = [min t1 t3, max t1 t3]) := list_two' (fun e => h (by simpa using e))
    by_cases h1 : t1 = t3
    · subst h1
      have h2 : ¬ t2 = t4 := fun e => h ⟨rfl, e⟩
      have HLO := HL
      clear HL
      have HL : Hid (listT ((t1, t2), t1, t4) = [t1, t1]) := by show _ = _; rw [HLO.out]; simp
      clear h
      go_enter Try.func92, Try.ntmps92
      go_wp2
      go_ret
      rw [HL.out]
      have hw := Whole.fresh (w.alloc (.cells #[.int .i64 t1, .int .i64 t2, .int .i64 t1, .int .i64 t4] 101)) 3 #[.int .i64 t1, .int .i64 t1]
      rw [World.size_alloc] at hw
      exact ⟨some ⟨w.heap.size + 1, 0, none⟩, 2, rfl, made_own (base := w.heap.size) hw (Nat.le_succ _) (by show 2 ≤ maxLen; decide), HB0.out.alloc (by simp) _⟩
    · clear h
      go_enter Try.func92, Try.ntmps92
      go_wp2
      go_ret
      rw [HL.out]
      have hw := Whole.fresh (w.alloc (.cells #[.int .i64 t1, .int .i64 t2, .int .i64 t3, .int .i64 t4] 101)) 3 #[.int .i64 (min t1 t3), .int .i64 (max t1 t3)]
      rw [World.size_alloc] at hw
      exact ⟨some ⟨w.heap.size + 1, 0, none⟩, 2, rfl, made_own (base := w.heap.size) hw (Nat.le_succ _) (by show 2 ≤ maxLen; decide), HB0.out.alloc (by simp) _⟩

set_option maxHeartbeats 3200000 in
set_option maxRecDepth 100000 in
theorem listsOfTrips_any (E : Option Addr) (n d : Nat) (ts : List Pt) (w : World) (hE : Holds w E (ptsCells ts)) (hn : ts.length = n) (h24 : n ≤ 24) :
    Calls Try.prog 69 #[.slice E n d] w (SubsPost (ts.map listT) w) := by
  obtain ⟨i1, ri, rz0, rz1, rz2⟩ := info_parts info_row
  have RI := Lib.hid ri
  have RZ0 := Lib.hid rz0
  have RZ1 := Lib.hid rz1
  have RZ2 := Lib.hid rz2
  have HN := Lib.hid hn
  clear hn ri rz0 rz1 rz2
  go_enter Try.func69, Try.ntmps69
  go_wp2
  go_loopw [3, 8] (fun v i wr => ∃ (k : Nat) (G : Option Addr) (r : Nat) (acc : List RowV), k ≤ n ∧ i = .int .i64 k ∧ v = .slice G k r ∧ acc.length = k ∧ rowNums acc = (ts.take k).map listT ∧ (G = none → k = 0 ∧ r = 0) ∧ (∀ a, G = some a → a = ⟨a.block, 0, none⟩ ∧ 0 < k) ∧ Heads wr w.heap.size G r acc ∧ Below w.heap.size w wr) (fun _ i _ => n - (intOf i).toNat)
  case atStart => exact ⟨0, none, 0, [], Nat.zero_le _, rfl, rfl, rfl, rfl, fun _ => ⟨rfl, rfl⟩, fun a h => (by cases h), Heads.nil _ _, Below.refl _ _⟩
  case round =>
    obtain ⟨k, G, r, acc, hk, rfl, rfl, hal, hra, hGn, hGs, hh, hb⟩ := hrel
    by_cases hlt : k < n
    · have hkt : k < ts.length := by have := HN.out; omega
      obtain ⟨b1, o1, rfl, -, hcell⟩ := holds_at (hE.below hb) (by rw [pts_len]; omega)
      obtain ⟨c0, c1, c2, c3⟩ := pt_row hcell hkt
      have hnx : rowNums acc ++ [listT ts[k]] = (ts.take (k + 1)).map listT := by rw [hra, List.take_succ_eq_append_getElem hkt, List.map_append]; rfl
      generalize ts[k] = t at c0 c1 c2 c3 hnx
      obtain ⟨⟨t1, t2⟩, t3, t4⟩ := t
      dsimp only at c0 c1 c2 c3
      have HNX := Lib.hid hnx
      have HAL := Lib.hid hal
      have HH := Lib.hid hh
      have HB := Lib.hid hb
      have hbs : w.heap.size ≤ wr.heap.size := hb.size
      clear hcell hnx hal hra hGn hGs hh hb
      go_wp2_with fail
      refine (ptList_any ((t1, t2), t3, t4) _).mono ?_
      rintro e w3 ⟨A2, q2, rfl, hown2, hb2⟩
      have hll : (listT ((t1, t2), t3, t4)).length ≤ 1048576 := by unfold listT; split <;> simp
      have HLL := Lib.hid hll
      clear hll
      generalize listT ((t1, t2), t3, t4) = l at hown2 HNX HLL ⊢
      have hb2' := below_then ((Below.refl wr.heap.size wr).alloc (Nat.le_refl _) (.cells #[.int .i64 t1, .int .i64 t2, .int .i64 t3, .int .i64 t4] 101)) hb2 (by simp)
      have hs2 : wr.heap.size ≤ w3.heap.size := hb2'.size
      have hown3 := (HH.out.below hb2').alloc (.cells #[.slice A2 l.length q2] 22) |>.1
      rw [HAL.out] at hown3
      have HOWN := Lib.hid hown3
      have HF := Lib.hid (own_fresh1 (own_lower hown2 (base' := wr.heap.size) (by simp)))
      have HB2 := Lib.hid hb2'
      have HMAX := Lib.hid (show k + 1 ≤ maxLen by unfold maxLen; omega)
      have HBYT := Lib.hid (show (k + 1) * 24 ≤ 140737488355328 by omega)
      have HBASE := Lib.hid (show w.heap.size ≤ (w3.alloc (.cells #[.slice A2 l.length q2] 22)).heap.size by simp; omega)
      clear hown2 hown3 hb2 hb2'
      go_wp2_with (at_builtin; refine wpList_append_lies _ rfl (.tmp 12) (.tmp 15) 30 rfl w.heap.size 22 i1 (.slice none 0 0) 1 24 Try.underlying30 RI.out RZ0.out RZ1.out RZ2.out rfl (by decide) (.slice G k r) k (rowVals acc) rfl HOWN.out ⟨w3.heap.size, 0, none⟩ 1 1 [.slice A2 l.length q2] rfl rfl (cell_one_new _ _ _) (by simp [Value.oneCell']) (by decide) HMAX.out HBYT.out HBASE.out (w3.heap.size + 1) (by simp) ?_; intro g3 c3' w4 hown4 hg4 hat4 hlt4)
      rw [← HAL.out] at hown4 hg4 hat4
      have HP := Lib.hid (Heads.push (r := ⟨A2, l.length, q2, l⟩) HH.out hbs HB2.out HF.out rfl HLL.out hown4 hg4 hat4)
      have HBN := Lib.hid (((below_then HB.out HB2.out hbs).alloc (by omega) (.cells #[.slice A2 l.length q2] 22)).grown hg4 HBASE.out (fun kk hkk => by rw [HAL.out] at hkk; exact (HOWN.out.lt kk hkk).1))
      have HLA : Hid ((acc ++ [(⟨A2, l.length, q2, l⟩ : RowV)]).length = k + 1) := by show _ = _; simp [HAL.out]
      clear hown4 hg4 hat4 hlt4
      go_roundw
      case rel => exact ⟨k + 1, some ⟨g3, 0, none⟩, c3', acc ++ [⟨A2, l.length, q2, l⟩], by omega, by go_num, by simp [HAL.out], HLA.out, by rw [show rowNums (acc ++ [(⟨A2, l.length, q2, l⟩ : RowV)]) = rowNums acc ++ [l] by simp [rowNums]]; exact HNX.out, fun h => (by cases h), fun a h => by obtain rfl := Option.some.inj h; exact ⟨rfl, by omega⟩, HP.out, HBN.out⟩
      case measure => simp [intOf]; omega
    · obtain rfl : k = n := by omega
      have HRA : Hid (rowNums acc = ts.map listT) := by show _ = _; rw [hra, List.take_of_length_le (by have := HN.out; omega)]
      have HAL := Lib.hid hal
      have HGN : Hid (G = none → acc = [] ∧ r = 0) := fun h => ⟨List.length_eq_zero_iff.1 (by have := (hGn h).1; omega), (hGn h).2⟩
      have HGS : Hid (∀ a, G = some a → a = ⟨a.block, 0, none⟩ ∧ 0 < acc.length) := fun a h => ⟨(hGs a h).1, by have := (hGs a h).2; omega⟩
      have HH := Lib.hid hh
      clear hal hra hGn hGs hh
      go_wp2
      go_ret
      exact ⟨G, r, acc, by rw [HAL.out]; rfl, HRA.out, HGN.out, HGS.out, HH.out, hb⟩
end Go.Proofs.Ytgcobhnodjfgiaa
