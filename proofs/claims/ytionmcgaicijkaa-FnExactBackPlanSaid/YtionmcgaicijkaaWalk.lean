/-
  What is proved: the contract of trips made one after the other by the program. Conditions: the lists are read as they lie; at most eight people.
-/
import Derived.Test.YtionmcgaicijkaaPaPlay
namespace Go.Proofs.Ytionmcgaicijkaa
open Go.RowKit

/-- The cells of the trips' own list. -/
def crowdsOf (ls : List (List Int)) : List Value := ls.flatMap fun l => (crowdCells l).toList
theorem crowdsOf_len (ls : List (List Int)) : (crowdsOf ls).length = ls.length * 8 := by
  induction ls with
  | nil => rfl
  | cons l ls ih => simp only [crowdsOf, List.flatMap_cons, List.length_append] at ih ⊢; rw [ih]; simp [crowdCells]; omega
theorem crowdsOf_next {ls : List (List Int)} {k : Nat} (hk : k < ls.length) : crowdsOf (ls.take k) ++ (crowdCells ls[k]).toList = crowdsOf (ls.take (k + 1)) := by
  rw [List.take_succ_eq_append_getElem hk]
  simp only [crowdsOf, List.flatMap_append, List.flatMap_cons, List.flatMap_nil, List.append_nil]
theorem info_crowd : (Try.prog.info? 80).map (fun i => (i.zero, i.size, i.bytes)) = some (some (.agg #[.bool false, .bool false, .bool false, .bool false, .bool false, .bool false, .bool false, .bool false]), 8, 8) := by kernel_rfl

theorem ownsRow_below {w w' : World} {base : Nat} {e : TypeId} {size : Nat} {v : Value} {n : Nat} {xs : List Value} (h : w.ownsRow base e size v n xs) (hb : Below w.heap.size w w') : w'.ownsRow base e size v n xs := by
  obtain ⟨hl, h | ⟨g, cap, cur, hv, hg, hh, r⟩⟩ := h
  · exact ⟨hl, .inl h⟩
  · exact ⟨hl, .inr ⟨g, cap, cur, hv, hg, (hb.block g (Array.getElem?_eq_some_iff.1 hh).1).trans hh, r⟩⟩
theorem ownsRow_only {w w' : World} {base g : Nat} {e : TypeId} {size : Nat} {v : Value} {n : Nat} {xs : List Value} (h : w.ownsRow base e size v n xs) (ho : Only g w w') (hg : g < base) : w'.ownsRow base e size v n xs := by
  obtain ⟨hl, h | ⟨q, cap, cur, hv, hq, hh, r⟩⟩ := h
  · exact ⟨hl, .inl h⟩
  · exact ⟨hl, .inr ⟨q, cap, cur, hv, hq, (ho.block q (by omega)).trans hh, r⟩⟩
theorem own_form {w : World} {base : Nat} {e : TypeId} {size : Nat} {v : Value} {n : Nat} {xs : List Value} (h : w.ownsRow base e size v (n + 1) xs) : ∃ g cap, v = .slice (some ⟨g, 0, none⟩) (n + 1) cap := by
  obtain ⟨-, ⟨-, h⟩ | ⟨g, cap, -, hv, -⟩⟩ := h
  · omega
  · exact ⟨g, cap, hv⟩
theorem cells_new (w : World) (ty : TypeId) (cs : Array Value) : ∀ j u, cs.toList[j]? = some u → (w.alloc (.cells cs ty)).cell? ((⟨w.heap.size, 0, none⟩ : Addr).add j) = some u := fun j u hu => by
  rw [show (⟨w.heap.size, 0, none⟩ : Addr).add j = ⟨w.heap.size, j, none⟩ from by unfold Addr.add; split <;> simp_all, (Whole.fresh w ty cs).cell j]
  simpa using hu
theorem crowd_ones (l : List Int) : ∀ u ∈ (crowdCells l).toList, u.oneCell' = true := by
  have h := crowd_one l
  rw [Array.all_eq_true_iff_forall_mem] at h
  exact fun u hu => h u (by simpa using hu)

theorem own_place {w : World} {base g : Nat} {e : TypeId} {size : Nat} {v : Value} {n : Nat} {xs : List Value} {v0 v1 v2 v3 v4 v5 v6 v7 v8 : Value} (h : w.ownsRow base e size v n xs) (hg : g < base) :
    World.ownsRow (((((((((w.setCell ⟨g, 0, none⟩ v0).setCell ⟨g, 1, none⟩ v1).setCell ⟨g, 2, none⟩ v2).setCell ⟨g, 3, none⟩ v3).setCell ⟨g, 4, none⟩ v4).setCell ⟨g, 5, none⟩ v5).setCell ⟨g, 6, none⟩ v6).setCell ⟨g, 7, none⟩ v7).setCell ⟨g, 8, none⟩ v8) base e size v n xs :=
  ownsRow_setCell_below (ownsRow_setCell_below (ownsRow_setCell_below (ownsRow_setCell_below (ownsRow_setCell_below (ownsRow_setCell_below (ownsRow_setCell_below (ownsRow_setCell_below (ownsRow_setCell_below h hg _) hg _) hg _) hg _) hg _) hg _) hg _) hg _) hg _

/-- What walk hands back. -/
def WalkPost (n : Nat) (s : Int) (bs : List Bool) (t : Bool) (ls : List (List Int)) (w : World) (e : Ending) (w' : World) : Prop :=
  ∃ (T : Option Addr) (c : Nat), e = .returned (.tuple #[.slice T (made n s bs t ls) c, .agg (placeCells (ended n s bs t ls).1 (ended n s bs t ls).2)]) ∧ w'.ownsRow (w.heap.size + 1 + 1 + 1) 80 8 (.slice T (made n s bs t ls) c) (made n s bs t ls) (crowdsOf (ls.take (made n s bs t ls))) ∧ Below w.heap.size w w'

set_option maxHeartbeats 3200000 in
set_option maxRecDepth 100000 in
theorem walk_any (P D : Option Addr) (n c q z : Nat) (bs : List Bool) (rs : List RowV) (s : Int) (t : Bool) (w : World) (hD : Grid w D rs) (hy : bs.length = n) (hz : rs.length = q) (hn : n ≤ 8) (hq : q ≤ 1048576) :
    Calls Try.prog 69 #[.agg #[.slice P n c, .int .i64 s], .agg (placeCells bs t), .slice D q z] w (WalkPost n s bs t (rowNums rs) w) := by
  obtain ⟨i0, hi, hz0, hz1, hz2⟩ := info_parts info_crowd
  have HI := Lib.hid hi
  have HZ0 := Lib.hid hz0
  have HZ1 := Lib.hid hz1
  have HZ2 := Lib.hid hz2
  have gp := ((Whole.fresh w 33 #[.slice P n c, .int .i64 s]).alloc (.cells (placeCells bs t) 82)).alloc (.cells (placeCells [] false) 82)
  have gs := (Whole.fresh (w.alloc (.cells #[.slice P n c, .int .i64 s] 33)) 82 (placeCells bs t)).alloc (.cells (placeCells [] false) 82)
  have gr := Whole.fresh ((w.alloc (.cells #[.slice P n c, .int .i64 s] 33)).alloc (.cells (placeCells bs t) 82)) 82 (placeCells [] false)
  have hb := below3 w (.cells #[.slice P n c, .int .i64 s] 33) (.cells (placeCells bs t) 82) (.cells (placeCells [] false) 82)
  simp only [World.size_alloc] at gs gr
  have GP := Lib.hid gp
  have GS := Lib.hid gs
  have GR := Lib.hid gr
  have HBW := Lib.hid hb
  have HY := Lib.hid hy
  have HZ := Lib.hid hz
  have HLS := Lib.hid (rowNums_len rs)
  clear gp gs gr hb hy hz hi hz0 hz1 hz2
  go_enter Try.func69, Try.ntmps69
  go_wp2
  go_loopw [8, 15] (fun v i wr => ∃ (k : Nat) (T : Option Addr) (e : Nat), k ≤ q ∧ i = .int .i64 k ∧ v = .slice T k e ∧ wr.ownsRow (w.heap.size + 1 + 1 + 1) 80 8 (.slice T k e) k (crowdsOf ((rowNums rs).take k)) ∧ Whole wr w.heap.size 33 #[.slice P n c, .int .i64 s] ∧ Whole wr (w.heap.size + 1) 82 (placeCells (after bs t ((rowNums rs).take k)).1 (after bs t ((rowNums rs).take k)).2) ∧ Whole wr (w.heap.size + 1 + 1) 82 (placeCells [] false) ∧ Below w.heap.size w wr ∧ MadeTo n s bs t (rowNums rs) k) (fun _ i _ => q - (intOf i).toNat)
  case atStart => exact ⟨0, none, 0, Nat.zero_le _, rfl, rfl, World.ownsRow_nil _ _ _ _, GP.out, GS.out, GR.out, HBW.out, MadeTo.start _ _ _ _ _⟩
  case round =>
    clear GP GS GR HBW
    obtain ⟨k, T, e, hk, rfl, rfl, hown, gp, gs, gr, hb, hmade⟩ := hrel
    obtain ⟨p0, p1, -, -⟩ := gp.two
    have hgl := gr.lt
    have HM := Lib.hid hmade
    have HAL := Lib.hid (after_len ((rowNums rs).take k) bs t)
    have HOWN := Lib.hid hown
    clear hmade hown
    by_cases hlt : k < q
    · have hkr : k < rs.length := by have := HZ.out; omega
      have hkl : k < (rowNums rs).length := by have := HLS.out; omega
      obtain ⟨b1, o1, rfl, hbl1, hc, hok⟩ := (hD.below hb).look hkr
      have HGET := Lib.hid (rowNums_get hkr)
      go_wp2_with (refine wpList_load_row rfl 82 (.tmp 4) rfl (w.heap.size + 1) rfl 82 (placeCells (after bs t ((rowNums rs).take k)).1 (after bs t ((rowNums rs).take k)).2) (0, 0) _ gs Try.underlying82 rfl size_place ?_)
      refine (tripOf_any P _ n c _ _ _ _ s _ _ hok.1 hok.2.1 hok.2.2 hn).mono ?_
      rintro e1 w1 ⟨⟨hcan, rfl⟩ | ⟨hcan, rfl⟩, hb1⟩
      · have HC := Lib.hid hcan
        have HNX := Lib.hid (HM.out.next hkl (by rw [HGET.out]; exact HC.out))
        have hst := can_steps hcan
        have HOUT : Hid (∀ i, (after bs t ((rowNums rs).take k)).1.length ≤ i → has rs[k].xs i = false) := fun i hi => has_out hst (by have := HAL.out; have := HY.out; omega)
        have haf : after bs t ((rowNums rs).take (k + 1)) = (flipped (after bs t ((rowNums rs).take k)).1 rs[k].xs, !(after bs t ((rowNums rs).take k)).2) := by
          rw [List.take_succ_eq_append_getElem hkl, after_snoc, HGET.out]
        have HAF := Lib.hid haf
        have hcn := crowdsOf_next hkl
        rw [HGET.out] at hcn
        have HCN := Lib.hid hcn
        have hbb := below_then hb hb1 hb.size
        have HBB := Lib.hid ((hbb.alloc hbb.size (.cells (crowdCells rs[k].xs) 80)).alloc (Nat.le_trans hbb.size (by simp)) (.cells (crowdCells rs[k].xs) 80))
        have HOW := Lib.hid (((ownsRow_below HOWN.out hb1).alloc (.cells (crowdCells rs[k].xs) 80)).alloc (.cells (crowdCells rs[k].xs) 80))
        have hnew := cells_new (w1.alloc (.cells (crowdCells rs[k].xs) 80)) 80 (crowdCells rs[k].xs)
        rw [World.size_alloc] at hnew
        have HNEW := Lib.hid hnew
        have HONE := Lib.hid (crowd_ones rs[k].xs)
        have HMAX := Lib.hid (show k + 1 ≤ maxLen by unfold maxLen; omega)
        have HBYT := Lib.hid (show (k + 1) * 8 ≤ 140737488355328 by omega)
        have hw1l : wr.heap.size ≤ w1.heap.size := hb1.size
        have HBASE := Lib.hid (show w.heap.size + 1 + 1 + 1 ≤ ((w1.alloc (.cells (crowdCells rs[k].xs) 80)).alloc (.cells (crowdCells rs[k].xs) 80)).heap.size by simp; omega)
        have GP := Lib.hid (((gp.below hb1).alloc (.cells (crowdCells rs[k].xs) 80)).alloc (.cells (crowdCells rs[k].xs) 80))
        have GS := Lib.hid (((gs.below hb1).alloc (.cells (crowdCells rs[k].xs) 80)).alloc (.cells (crowdCells rs[k].xs) 80))
        have GR := Lib.hid (((gr.below hb1).alloc (.cells (crowdCells rs[k].xs) 80)).alloc (.cells (crowdCells rs[k].xs) 80))
        have GC := Lib.hid ((Whole.fresh w1 80 (crowdCells rs[k].xs)).alloc (.cells (crowdCells rs[k].xs) 80))
        clear hcan p0 p1 hst haf hcn hb hb1 hbb gp gs gr hok hc hnew
        unfold crowdCells at HNEW HONE HOW HBASE HBB GP GS GR GC
        unfold crowdCells
        go_wp2_with (first | (at_builtin; refine wpList_append_own _ rfl (.tmp 28) (.tmp 30) 85 rfl (w.heap.size + 1 + 1 + 1) 80 i0 (.agg #[.bool false, .bool false, .bool false, .bool false, .bool false, .bool false, .bool false, .bool false]) 8 8 Try.underlying85 HI.out HZ0.out HZ1.out HZ2.out rfl (by decide) (.slice T k e) k (crowdsOf ((rowNums rs).take k)) rfl HOW.out ⟨w1.heap.size + 1, 0, none⟩ 1 1 [.bool (has rs[k].xs 0), .bool (has rs[k].xs 1), .bool (has rs[k].xs 2), .bool (has rs[k].xs 3), .bool (has rs[k].xs 4), .bool (has rs[k].xs 5), .bool (has rs[k].xs 6), .bool (has rs[k].xs 7)] rfl rfl HNEW.out HONE.out HMAX.out HBYT.out HBASE.out ?_; intro v' w2 hown1 hg1 _; obtain ⟨g2, e2, hv2⟩ := own_form hown1; subst hv2; have gs2 := (hg1.block _ GS.out.lt (fun x => by have := (HOW.out.lt _ x.symm).1; omega)).trans GS.out; have gc2 := (hg1.block _ GC.out.lt (fun x => by have := (HOWN.out.lt _ x.symm).2; omega)).trans GC.out; have gp2 := (hg1.block _ GP.out.lt (fun x => by have := (HOW.out.lt _ x.symm).1; omega)).trans GP.out; have gr2 := (hg1.block _ GR.out.lt (fun x => by have := (HOW.out.lt _ x.symm).1; omega)).trans GR.out; have hbb2 := HBB.out.grown hg1 (by have := HBB.out.size; omega) (fun kk x => by have := (HOW.out.lt _ x).1; omega)) | (refine wpList_load_row rfl 82 (.tmp 4) rfl (w.heap.size + 1) rfl 82 (placeCells (after bs t ((rowNums rs).take k)).1 (after bs t ((rowNums rs).take k)).2) (0, 0) _ gs2 Try.underlying82 rfl size_place ?_) | (refine wpList_load_row rfl 80 (.tmp 11) rfl w1.heap.size rfl 80 #[.bool (has rs[k].xs 0), .bool (has rs[k].xs 1), .bool (has rs[k].xs 2), .bool (has rs[k].xs 3), .bool (has rs[k].xs 4), .bool (has rs[k].xs 5), .bool (has rs[k].xs 6), .bool (has rs[k].xs 7)] (0, 0) _ gc2 Try.underlying80 rfl size_crowd ?_))
        refine (cross_any _ rs[k].xs _ _ HOUT.out).mono ?_
        rintro e3 w3 ⟨rfl, hb3⟩
        have hown1' : w2.ownsRow (w.heap.size + 1 + 1 + 1) 80 8 (.slice (some ⟨g2, 0, none⟩) (k + 1) e2) (k + 1) (crowdsOf ((rowNums rs).take (k + 1))) := by rw [← HCN.out]; exact hown1
        have hbc := below_then hbb2 hb3 hbb2.size
        have hown3 := ownsRow_below hown1' hb3
        have gs3 := Whole.below (show Whole w2 (w.heap.size + 1) _ _ from gs2) hb3
        have gp3 := Whole.below (show Whole w2 w.heap.size _ _ from gp2) hb3
        have gr3 := Whole.below (show Whole w2 (w.heap.size + 1 + 1) _ _ from gr2) hb3
        have HO3 := Lib.hid hown3
        have GP3 := Lib.hid gp3
        have GR3 := Lib.hid gr3
        clear hown1 hown1' hg1 gs2 gc2 gp2 gr2 hown3 gp3 gr3 hb3 hbb2
        go_wp2_with (refine wpList_store_whole rfl 82 (.tmp 4) (.tmp 34) rfl (w.heap.size + 1) (placeCells (flipped (after bs t ((rowNums rs).take k)).1 rs[k].xs) (!(after bs t ((rowNums rs).take k)).2)) rfl rfl 82 (placeCells (after bs t ((rowNums rs).take k)).1 (after bs t ((rowNums rs).take k)).2) gs3 size_place rfl (place_one _ _) ?_; intro w4 hw4 ho4)
        go_roundw
        case rel => exact ⟨k + 1, _, e2, by omega, by go_num, rfl, ownsRow_only HO3.out ho4 (by omega), ho4.whole GP3.out (by omega), by rw [HAF.out]; exact hw4, ho4.whole GR3.out (by omega), ho4.below hbc (by omega), HNX.out⟩
        case measure => simp [intOf]; omega
      · have HC := Lib.hid hcan
        have HEND := Lib.hid (HM.out.stop hkl (by rw [HGET.out]; exact HC.out))
        have hbb := below_then hb hb1 hb.size
        have gs1 := (gs.below hb1).alloc (.cells (crowdCells []) 80)
        have gr1 := (gr.below hb1).alloc (.cells (crowdCells []) 80)
        have HOW := Lib.hid ((ownsRow_below HOWN.out hb1).alloc (.cells (crowdCells []) 80))
        have HBB := Lib.hid (hbb.alloc hbb.size (.cells (crowdCells []) 80))
        obtain ⟨a0, a1, a2, a3, a4, a5, a6, a7, a8⟩ := place_cells gs1
        obtain ⟨r0, r1, r2, r3, r4, r5, r6, r7, r8⟩ := place_cells gr1
        obtain ⟨f0, f1, f2, f3, f4, f5, f6, f7, f8⟩ := place_open gr1
        clear hcan p0 p1 hb hb1 hbb
        unfold crowdCells at *
        go_wp2_with fail
        go_region
        all_goals
          go_wp2
          refine bodyPost_ret (v := .tuple #[.slice T k e, .agg (placeCells (after bs t ((rowNums rs).take k)).1 (after bs t ((rowNums rs).take k)).2)]) (by simp [results, Try.results69, go_sem, r0, r1, r2, r3, r4, r5, r6, r7, r8, placeCells]) rfl ⟨T, e, by rw [ended, HEND.out], ?_, ?_⟩
          · rw [HEND.out]
            exact (own_place HOW.out (by omega)).drew
          · exact (set_place HBB.out (by omega)).drew
    · have hkq : k = q := by omega
      subst hkq
      have HEND := Lib.hid (HM.out.done (by have := HLS.out; have := HZ.out; omega))
      obtain ⟨a0, a1, a2, a3, a4, a5, a6, a7, a8⟩ := place_cells gs
      obtain ⟨r0, r1, r2, r3, r4, r5, r6, r7, r8⟩ := place_cells gr
      obtain ⟨f0, f1, f2, f3, f4, f5, f6, f7, f8⟩ := place_open gr
      have HBB := Lib.hid hb
      have HOW := Lib.hid HOWN.out
      clear p0 p1 hb
      go_wp2_with fail
      go_region
      all_goals
        go_wp2
        refine bodyPost_ret (v := .tuple #[.slice T k e, .agg (placeCells (after bs t ((rowNums rs).take k)).1 (after bs t ((rowNums rs).take k)).2)]) (by simp [results, Try.results69, go_sem, r0, r1, r2, r3, r4, r5, r6, r7, r8, placeCells]) rfl ⟨T, e, by rw [ended, HEND.out], ?_, ?_⟩
        · rw [HEND.out]
          exact (own_place HOW.out (by omega)).drew
        · exact (set_place HBB.out (by omega)).drew
end Go.Proofs.Ytionmcgaicijkaa
