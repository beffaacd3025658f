/-
  What is proved: the contract of the model's LeastWatched. Conditions: the arguments are read as they lie.
  What is proved: contracts of the laws' own helpers for keeps: their size, their copy, their comparison, their marks. Conditions: the given lists are read as they lie; a copy is of at most 1,048,576 numbers.
  What is proved: the law FnExactLeastWatched returns true at every argument, and leaves all that was there as it was. Conditions: the arguments are read as they lie.
-/
import Derived.Deep.RegionHeld3
import Derived.Test.YtcikimjpjebflaaJ3LeastWatched
set_option linter.unusedSimpArgs false
set_option linter.unusedVariables false
namespace Go.Proofs.Ytcikimjpjebflaa
open Go.RowKit

theorem hit_K (l d : List Int) : hit l d = (hasK l (d.getD 0 0) || hasK l (d.getD 1 0)) := rfl

/-- What stands in the list of all things behind j rounds. -/
def fillK (n j : Nat) : List Int := (List.range n).map fun i => if i < j then (i : Int) else 0
theorem fillK_zero (n : Nat) : fillK n 0 = List.replicate n 0 := by
  refine List.ext_getElem (by simp [fillK]) fun i h1 h2 => ?_
  simp [fillK]
theorem fillK_all (n : Nat) : fillK n n = firsts n := by
  refine List.map_congr_left fun i hi => ?_
  rw [if_pos (List.mem_range.1 hi)]
  rfl
theorem fillK_next {n j : Nat} (hj : j < n) : (nums (fillK n j)).toArray.setIfInBounds j (.int .i64 (j : Int)) = (nums (fillK n (j + 1))).toArray := by
  rw [List.setIfInBounds_toArray]
  congr 1
  refine List.ext_getElem (by simp [nums, fillK]) fun i h1 h2 => ?_
  have hi : i < n := by simpa [nums, fillK] using h2
  rw [List.getElem_set]
  simp only [nums, fillK, List.getElem_map, List.getElem_range]
  by_cases h : j = i
  · subst h
    rw [if_pos rfl, if_pos (by omega)]
  · rw [if_neg h]
    by_cases h3 : i < j
    · rw [if_pos h3, if_pos (by omega)]
    · rw [if_neg h3, if_neg (by omega)]
theorem fillK_at {n j : Nat} (hj : j < n) : (nums (fillK n j)).toArray[j]? = some (.int .i64 0) := by
  simp [nums, fillK, hj]
theorem make_intsK {n : Nat} (hn : n ≤ 1048576) (W : World) : (Instr.makeSlice 22 (.int .i64 (n : Int)) (.int .i64 (n : Int))).run Try.prog W = .ok (.slice (some ⟨W.heap.size, 0, none⟩) n n) (W.alloc (.cells (nums (List.replicate n 0)).toArray 3)) := by
  obtain ⟨i0, hi, hz0, hz1, hz2⟩ := info_parts info_int
  have h := run_make (P := Try.prog) W 22 3 i0 _ Try.underlying22 hi hz0 .i64 .i64 n n (by omega) (by omega) (by rw [hz2]; omega) (by omega)
  simp only [Int.toNat_natCast, hz1, made_zeros] at h
  rw [h]
theorem heads_rows {w : World} {lo c : Nat} {A : Option Addr} {rs : List RowV} (h : Heads w lo A c rs) : ∀ r ∈ rs, ∃ a b, lo ≤ a ∧ b ≤ w.heap.size ∧ Fresh w a b 3 r.A (nums r.xs) ∧ r.xs.length = r.n ∧ r.n ≤ 1048576 := by
  obtain ⟨-, ps, ⟨k1, k2, -⟩, h3, -⟩ := h
  intro r hr
  obtain ⟨i, hi, rfl⟩ := List.getElem_of_mem hr
  have hp : i < ps.length := by rw [k1]; exact hi
  obtain ⟨f1, f2, f3⟩ := k2 i _ _ (List.getElem?_eq_getElem hi) (List.getElem?_eq_getElem hp)
  have := h3 _ (List.getElem_mem hp)
  exact ⟨_, _, this.1, this.2, f1, f2, f3⟩
theorem rows_ones (rs : List RowV) : ∀ u ∈ rowVals rs, u.oneCell' = true := by
  intro u hu
  simp only [rowVals, List.mem_map] at hu
  obtain ⟨r, -, rfl⟩ := hu
  rfl
/-- The lists of the model, in memory. -/
def LoadsAt (n lo : Nat) (D : Option Addr) (rs : List RowV) (w : World) : Prop :=
  rowNums rs = loads n n ∧ Grid w D rs ∧ ∀ r ∈ rs, Fresh w lo w.heap.size 3 r.A (nums r.xs)
theorem LoadsAt.below {n lo : Nat} {D : Option Addr} {rs : List RowV} {w w' : World} (h : LoadsAt n lo D rs w) (hb : Below w.heap.size w w') : LoadsAt n lo D rs w' :=
  ⟨h.1, h.2.1.below hb, fun r hr => ((h.2.2 r hr).below hb).more (Nat.le_refl _) hb.size⟩
def LwCut (n gb m c : Nat) (s : Int) (A : Option Addr) (w : World) (v : Value) (wx : World) : Prop :=
  ∃ (D : Option Addr) (q : Nat) (rs : List RowV), v = .slice D rs.length q ∧ LoadsAt n w.heap.size D rs wx ∧ Whole wx w.heap.size 69 #[.int .i64 (n : Int), .slice A m c, .int .i64 s] ∧ Whole wx gb 3 (nums (firsts n)).toArray ∧ Below w.heap.size w wx

set_option maxHeartbeats 12800000 in
set_option maxRecDepth 100000 in
theorem specLeastWatched_any (k s : Int) (A : Option Addr) (m c : Nat) (rs : List RowV) (w : World) (hA : Grid w A rs) (hx : rs.length = m) (hm : m ≤ 1048576) :
    Calls Try.prog 55 #[.agg #[.int .i64 k, .slice A m c, .int .i64 s]] w (WatchPost (watchedK k s (rowNums rs)) (keepOk k s (rowNums rs)) w) := by
  have HX := Lib.hid hx
  clear hx
  have h0 := Whole.fresh w 69 #[.int .i64 k, .slice A m c, .int .i64 s]
  have hbw := below1 w (.cells #[.int .i64 k, .slice A m c, .int .i64 s] 69)
  have hA2 := hA.below hbw
  cases hk : keepOk k s (rowNums rs)
  · have HK := Lib.hid hk
    have HS : Hid (watchedK k s (rowNums rs) = []) := by show _ = _; rw [watchedK, hk]; rfl
    clear hk
    go_enter Try.func55, Try.ntmps55
    go_wp2_with fail
    refine (keGood_any k s A m c rs _ hA2 HX.out hm).mono ?_
    rintro e w1 ⟨rfl, hb⟩
    rw [HK.out]
    have ht := below_then hbw hb (by simp)
    clear hb
    go_wp2
    go_ret2
    rw [HS.out]
    exact WatchPost.no ht
  · obtain ⟨n, rfl⟩ : ∃ n : Nat, k = n := ⟨k.toNat, by have := (keepOk_iff.1 hk).1; omega⟩
    have hn8 : n ≤ 8 := by have := (keepOk_iff.1 hk).1; omega
    have HK := Lib.hid hk
    have HDG : Hid (∀ d ∈ rowNums rs, IsDg (n : Int) d) := fun d hd => by
      obtain ⟨j, hj, rfl⟩ := List.getElem_of_mem hd
      exact dg_at hk hj
    have HS : Hid (watchedK (n : Int) s (rowNums rs) = bestOf (safeL (rowNums rs)) (firsts n) (loads n n)) := by show _ = _; rw [watchedK, hk]; rfl
    have hmk := fun W : World => make_intsK (n := n) (by omega) W
    obtain ⟨i1, ri, rz0, rz1, rz2⟩ := info_parts info_row
    have RI := Lib.hid ri
    have RZ0 := Lib.hid rz0
    have RZ1 := Lib.hid rz1
    have RZ2 := Lib.hid rz2
    clear hk ri rz0 rz1 rz2
    go_enter Try.func55, Try.ntmps55
    go_wp2_with fail
    refine (keGood_any (n : Int) s A m c rs _ hA2 HX.out hm).mono ?_
    rintro e w1 ⟨rfl, hb⟩
    rw [HK.out]
    have h1 := h0.below hb
    have ht := below_then hbw hb (by simp)
    have HG := Lib.hid hA
    obtain ⟨z0, z1, z2⟩ := h1.cells3
    obtain ⟨gb, hgb⟩ : ∃ gb, gb = w1.heap.size := ⟨_, rfl⟩
    have hlw : w.heap.size < gb := by rw [hgb]; exact h1.lt
    have H0 := Lib.hid (h1.alloc (.cells (nums (List.replicate n 0)).toArray 3))
    have HBX : Hid (Whole (w1.alloc (.cells (nums (List.replicate n 0)).toArray 3)) gb 3 (nums (fillK n 0)).toArray) := by show Whole _ _ _ _; rw [fillK_zero, hgb]; exact Whole.fresh _ _ _
    have HT := Lib.hid (ht.alloc ht.size (.cells (nums (List.replicate n 0)).toArray 3))
    clear hb h0 hbw hA hA2 h1 ht
    go_wp2
    clear z0 z1 z2 hmk
    rw [← hgb]
    clear hgb
    go_loopw [20] (fun i wr => ∃ j : Nat, j ≤ n ∧ i = .int .i64 j ∧ Whole wr w.heap.size 69 #[.int .i64 (n : Int), .slice A m c, .int .i64 s] ∧ Whole wr gb 3 (nums (fillK n j)).toArray ∧ Below w.heap.size w wr) (fun i _ => n - (intOf i).toNat)
    case atStart => exact ⟨0, Nat.zero_le _, rfl, H0.out, HBX.out, HT.out⟩
    case round =>
      clear H0 HBX HT
      obtain ⟨j, hj, rfl, h0, h1, hb⟩ := hrel
      by_cases hlt : j < n
      · have hcell := (h1.cell j).trans (fillK_at hlt)
        have hfr := h1.open_ j
        have hset := h1.set_ j (.int .i64 (j : Int))
        rw [fillK_next hlt] at hset
        have HSET := Lib.hid hset
        have H0 := Lib.hid h0
        have HB := Lib.hid hb
        have hl1 := h1.lt
        have hji : (j : Int) < (n : Int) := by omega
        clear hset h0 hb h1
        go_wp2
        go_roundw
        case rel => exact ⟨j + 1, by omega, by go_num, H0.out.off (by omega), HSET.out, below_set HB.out (by omega)⟩
        case measure => simp [intOf]; omega
      · obtain rfl : j = n := by omega
        have hd : decide ((j : Int) < (j : Int)) = false := by simp
        rw [fillK_all] at h1
        have h0a := (h0.alloc (.cells #[] 3)).alloc (.cells #[.slice (some ⟨wr.heap.size, 0, none⟩) 0 0] 22)
        have h1a := (h1.alloc (.cells #[] 3)).alloc (.cells #[.slice (some ⟨wr.heap.size, 0, none⟩) 0 0] 22)
        have hba := (hb.alloc hb.size (.cells #[] 3)).alloc (Nat.le_trans hb.size (by simp)) (.cells #[.slice (some ⟨wr.heap.size, 0, none⟩) 0 0] 22)
        have hwr := hb.size
        have hOW : (((wr.alloc (.cells #[] 3)).alloc (.cells #[.slice (some ⟨wr.heap.size, 0, none⟩) 0 0] 22))).ownsRow (wr.heap.size + 1) 22 1 (.slice (some ⟨wr.heap.size + 1, 0, none⟩) 1 1) 1 [.slice (some ⟨wr.heap.size, 0, none⟩) 0 0] :=
          ⟨rfl, .inr ⟨wr.heap.size + 1, 1, #[.slice (some ⟨wr.heap.size, 0, none⟩) 0 0], rfl, Nat.le_refl _, by have := heap_alloc_new (wr.alloc (.cells #[] 3)) (.cells #[.slice (some ⟨wr.heap.size, 0, none⟩) 0 0] 22); simpa using this, Nat.le_refl _, by decide, rfl, rfl⟩⟩
        obtain ⟨z0, z1, z2⟩ := h0a.cells3
        have H0 := Lib.hid h0a
        have H1 := Lib.hid h1a
        have HB := Lib.hid hba
        have HOW := Lib.hid hOW
        have hg1 := h1.lt
        clear h0 h1 hb h0a h1a hba hOW
        go_upto_if 32 with fail
        go_cut [6] (fun v wx => LwCut j gb m c s A w v wx)
        case first =>
          by_cases hj0 : j = 0
          · subst hj0
            have hd0 : decide ((0 : Int) < ((0 : Nat) : Int)) = false := rfl
            go_wp2_with fail
            go_meet
            refine ⟨some ⟨wr.heap.size + 1, 0, none⟩, 1, [⟨some ⟨wr.heap.size, 0, none⟩, 0, 0, []⟩], rfl, ⟨(by show ([[]] : List (List Int)) = loads 0 0; decide), ⟨holds_of_own HOW.out, fun r hr => ?_⟩, fun r hr => ?_⟩, H0.out, H1.out, HB.out⟩
            · obtain rfl := List.mem_singleton.1 hr
              exact ⟨.inl rfl, rfl, by show 0 ≤ _; omega⟩
            · obtain rfl := List.mem_singleton.1 hr
              exact .inl rfl
          · have hjp : 0 < j := by omega
            have hd0 : decide ((0 : Int) < (j : Int)) = true := by simp; omega
            have hgr : groups j ((firsts j).drop 0) [] = upLists j j := rfl
            have hup : 0 < (upLists j j).length := by
              have h : ∀ n, n < 9 → 0 < n → 0 < (upLists n n).length := by decide +kernel
              exact h j (by omega) hjp
            have hsm := upLists_small (m := j) hn8
            clear hj0
            go_wp2_with fail
            refine (paGroups_any j hn8 (j + 1) none (some ⟨gb, 0, none⟩) 0 0 j j 0 [] (firsts j) _ (by omega) hn8 (by omega) (Holds.empty _ _) (by exact H1.out.holds) rfl (firsts_len j) (by omega) (fun _ => ⟨rfl, rfl⟩)).mono ?_
            rintro e w3 ⟨E2, c2, gs, rfl, hrn, hn2, hs2, hh, hb3⟩
            rw [hgr] at hrn
            obtain ⟨b2, rfl, hp2⟩ := subs_some hn2 hs2 hrn hup
            have hgl : gs.length ≤ 255 := by rw [← rowNums_len, hrn]; exact hsm
            have hz3 : wr.heap.size + 1 + 1 ≤ w3.heap.size := by have := hb3.size; simpa using this
            have HO3 := Lib.hid (own_keep HOW.out hb3)
            have HNEW := Lib.hid (heads_news hh)
            have HONE := Lib.hid (rows_ones gs)
            have HMAX := Lib.hid (show 1 + gs.length ≤ maxLen by unfold maxLen; omega)
            have HBYT := Lib.hid (show (1 + gs.length) * 24 ≤ 140737488355328 by omega)
            have HBASE := Lib.hid (show wr.heap.size + 1 ≤ w3.heap.size by omega)
            have HRN := Lib.hid hrn
            have HHR := Lib.hid (heads_rows hh)
            have H03 := Lib.hid (H0.out.below hb3)
            have H13 := Lib.hid (H1.out.below hb3)
            have HB3 := Lib.hid (below_then HB.out hb3 HB.out.size)
            clear hn2 hs2 hrn hup hgr hh hb3 hp2 hsm
            go_wp2_with (at_builtin; refine wpList_append_own _ rfl (.tmp 33) (.tmp 37) 41 rfl (wr.heap.size + 1) 22 i1 (.slice none 0 0) 1 24 Try.underlying41 RI.out RZ0.out RZ1.out RZ2.out rfl (by decide) (.slice (some ⟨wr.heap.size + 1, 0, none⟩) 1 1) 1 [.slice (some ⟨wr.heap.size, 0, none⟩) 0 0] rfl HO3.out ⟨b2, 0, none⟩ gs.length c2 (rowVals gs) rfl (rows_len1 gs) HNEW.out HONE.out HMAX.out HBYT.out HBASE.out ?_; intro v' w4 hown4 hg4 hz4)
            obtain ⟨D, q, rfl⟩ : ∃ D q, v' = .slice D (1 + gs.length) q := by
              obtain ⟨-, ⟨-, h0⟩ | ⟨g2, cap, cur, h, -⟩⟩ := hown4
              · omega
              · exact ⟨_, _, h⟩
            have hsz4 : w3.heap.size ≤ w4.heap.size := hg4.size
            go_meet
            have hgro : ∀ {r : RowV}, r ∈ gs → Fresh w4 w.heap.size w4.heap.size 3 r.A (nums r.xs) ∧ r.xs.length = r.n ∧ r.n ≤ 1048576 := fun {r} hr => by
              obtain ⟨a, b, ha, hb, hf, h5, h6⟩ := HHR.out r hr
              simp only [World.size_alloc] at ha
              refine ⟨(fresh_grown hf hg4 fun g hg => ?_).more (by omega) (by omega), h5, h6⟩
              simp only [Value.ownBlock, Option.some.injEq] at hg
              omega
            have hne : ∀ x, x < wr.heap.size + 1 → (Value.slice (some ⟨wr.heap.size + 1, 0, none⟩) 1 1).ownBlock ≠ some x := fun x hx h => by
              simp only [Value.ownBlock, Option.some.injEq] at h
              omega
            refine ⟨D, q, ⟨some ⟨wr.heap.size, 0, none⟩, 0, 0, []⟩ :: gs, by rw [List.length_cons, Nat.add_comm], ⟨?_, ⟨?_, fun r hr => ?_⟩, fun r hr => ?_⟩, whole_grown H03.out hg4 (hne _ (by omega)), whole_grown H13.out hg4 (hne _ (by omega)), HB3.out.grown hg4 (by omega) (fun kk hkk => by simp only [Value.ownBlock, Option.some.injEq] at hkk; omega)⟩
            · show [] :: rowNums gs = _
              rw [HRN.out]
              rfl
            · exact holds_as (holds_of_own hown4) rfl
            · rcases List.mem_cons.1 hr with rfl | hr
              · exact ⟨.inl rfl, rfl, by show 0 ≤ _; omega⟩
              · obtain ⟨f1, f2, f3⟩ := hgro hr
                exact ⟨f1.holds, f2, by omega⟩
            · rcases List.mem_cons.1 hr with rfl | hr
              · exact .inl rfl
              · exact (hgro hr).1
        case rest =>
          obtain ⟨D, q, ls, rfl, hL, h0', h1', hb'⟩ := hcut
          have HLN : Hid (ls.length = (loads j j).length) := by show _ = _; rw [← hL.1, rowNums_len]
          have hl256 : ls.length ≤ 256 := by have := upLists_small (m := j) hn8; have := HLN.out; rw [loads, List.length_cons] at this; omega
          have HSAFE : Hid (∀ l, (rowNums rs).all (hit l) = safeL (rowNums rs) l) := fun l => hit_safe hn8 HDG.out
          have HL := Lib.hid hL
          have H0c := Lib.hid h0'
          have HBc := Lib.hid hb'
          have HF0 := Lib.hid (Fresh.of_whole (lo := w.heap.size) (hi := wc.heap.size) h1' (by omega) h1'.lt)
          clear hL h0' h1' hb' H0 H1 HB HOW z0 z1 z2
          generalize hp : safeL (rowNums rs) = p at HSAFE HS
          have HPP := Lib.hid hp
          clear hp
          go_wp2
          go_loopw [4, 41] (fun v i w5 => ∃ (x : Nat) (E : Option Addr) (r : Nat), x ≤ ls.length ∧ i = .int .i64 x ∧ v = .slice E (bestOf p (firsts j) ((loads j j).take x)).length r ∧ Fresh w5 w.heap.size w5.heap.size 3 E (nums (bestOf p (firsts j) ((loads j j).take x))) ∧ Below wc.heap.size wc w5) (fun _ i _ => ls.length - (intOf i).toNat)
          case atStart => exact ⟨0, some ⟨gb, 0, none⟩, j, Nat.zero_le _, rfl, by rw [List.take_zero]; show _ = Value.slice _ (firsts j).length _; rw [firsts_len], by rw [List.take_zero]; exact HF0.out, Below.refl _ _⟩
          case round =>
            obtain ⟨w5, rfl⟩ : ∃ w5 : World, w5 = wr := ⟨_, rfl⟩
            obtain ⟨x, E, r, hx, rfl, rfl, hf, hb⟩ := hrel
            clear HF0
            by_cases hlx : x < ls.length
            · have hdx : decide ((x : Int) < (ls.length : Int)) = true := by simp; omega
              have hLx := HL.out.below hb
              obtain ⟨b5, o5, rfl, hbl5, hc5, hrow5, hrl5, hrn5⟩ := grid_row hLx.2.1 hlx
              have hfr5 := hLx.2.2 _ (List.getElem_mem hlx)
              have hat5 := rows_at ls hlx
              rw [hLx.1] at hat5
              obtain ⟨R, hR⟩ : ∃ R, R = ls[x] := ⟨_, rfl⟩
              rw [← hR] at hc5 hrow5 hrl5 hrn5 hat5 hfr5
              obtain ⟨rA, rn, rc, l⟩ := R
              replace hc5 : World.cell? w5 ⟨b5, o5 + x, none⟩ = some (.slice rA rn rc) := hc5
              replace hrl5 : l.length = rn := hrl5
              subst hrl5
              have HRW : Hid (Holds w5 rA (nums l)) := hrow5
              have HFR : Hid (Fresh w5 w.heap.size w5.heap.size 3 rA (nums l)) := hfr5
              have hxl : x < (loads j j).length := by have := HLN.out; omega
              have HNX : Hid (bestOf p (firsts j) ((loads j j).take (x + 1)) = better p (bestOf p (firsts j) ((loads j j).take x)) l) := by
                show _ = _
                rw [List.take_succ_eq_append_getElem hxl, bestOf_snoc]
                have : (loads j j)[x] = l := by
                  rw [List.getD_eq_getElem?_getD, List.getElem?_eq_getElem hxl] at hat5
                  exact hat5
                rw [this]
              have hblen : (bestOf p (firsts j) ((loads j j).take x)).length ≤ j := by
                have h := (bestOf_is p ((loads j j).take x) (firsts j)).1
                rw [firsts_len] at h
                exact h
              have HF := Lib.hid hf
              have HB := Lib.hid hb
              clear hLx hrow5 hrn5 hat5 hfr5 hR hf hb hxl
              generalize bestOf p (firsts j) ((loads j j).take x) = bst at *
              by_cases hlen : l.length < bst.length
              · have hge : decide ((bst.length : Int) ≤ (l.length : Int)) = false := by simp; omega
                have hge2 : ¬ (bst.length : Int) ≤ (l.length : Int) := by omega
                have HLEN := Lib.hid hlen
                obtain ⟨y0, y1, y2⟩ := (H0c.out.below HB.out).cells3
                clear hlen
                go_wp2
                clear y0 y1 y2
                go_loopw [9, 53] (fun f i w6 => ∃ y : Nat, y ≤ rs.length ∧ i = .int .i64 y ∧ f = .bool (((rowNums rs).take y).all (hit l)) ∧ Below w5.heap.size w5 w6) (fun _ i _ => rs.length - (intOf i).toNat)
                case atStart => exact ⟨0, Nat.zero_le _, rfl, rfl, Below.refl _ _⟩
                case round =>
                  obtain ⟨w6, rfl⟩ : ∃ w6 : World, w6 = wr := ⟨_, rfl⟩
                  obtain ⟨y, hy, rfl, rfl, hb6⟩ := hrel
                  have HB6 := Lib.hid hb6
                  have hw5 := HB.out.size
                  have HW6 := Lib.hid (below_then (below_then HBc.out HB.out HBc.out.size) hb6 (by have := HBc.out.size; omega))
                  clear hb6
                  by_cases hly : y < rs.length
                  · have hlym : y < m := by have := HX.out; omega
                    have hdy : decide ((y : Int) < (m : Int)) = true := by simp; omega
                    obtain ⟨b7, o7, rfl, hbl7, hc7, hrow7, hrl7, hrn7⟩ := grid_row HG.out hly
                    replace hc7 := (HW6.out.cell (p := ⟨b7, o7 + y, none⟩) hbl7).trans hc7
                    have hat7 := rows_at rs hly
                    have hyl : y < (rowNums rs).length := by rw [rowNums_len]; exact hly
                    have hdg7 : IsDg (j : Int) rs[y].xs := HDG.out _ (by rw [← hat7, List.getD_eq_getElem?_getD, List.getElem?_eq_getElem hyl]; exact List.getElem_mem _)
                    obtain ⟨R, hR⟩ : ∃ R, R = rs[y] := ⟨_, rfl⟩
                    rw [← hR] at hc7 hrow7 hrl7 hrn7 hat7 hdg7
                    obtain ⟨dA, dn, dc, dxs⟩ := R
                    replace hc7 : World.cell? w6 ⟨b7, o7 + y, none⟩ = some (.slice dA dn dc) := hc7
                    obtain rfl : dn = 2 := by have h1 : dxs.length = dn := hrl7; have h2 : dxs.length = 2 := hdg7.1; omega
                    have hrw7 : Holds w6 dA (nums dxs) := Holds.below (w := w) hrow7 HW6.out
                    obtain ⟨b8, o8, rfl, hbl8, a0, a1⟩ := two_at hrw7 hdg7.1
                    have HAL : Hid (((rowNums rs).take (y + 1)).all (hit l) = (((rowNums rs).take y).all (hit l) && (hasK l (dxs.getD 0 0) || hasK l (dxs.getD 1 0)))) := by
                      show _ = _
                      rw [List.take_succ_eq_append_getElem hyl, List.all_append, ← hit_K]
                      have : (rowNums rs)[y] = dxs := by
                        rw [List.getD_eq_getElem?_getD, List.getElem?_eq_getElem hyl] at hat7
                        exact hat7
                      rw [this]
                      simp
                    have HRW6 := Lib.hid (HRW.out.below HB6.out)
                    clear hrow7 hrl7 hrn7 hat7 hdg7 hR hyl hrw7
                    generalize dxs.getD 0 0 = d0 at *
                    generalize dxs.getD 1 0 = d1 at *
                    generalize ((rowNums rs).take y).all (hit l) = fy at *
                    cases fy
                    · have HAF : Hid (((rowNums rs).take (y + 1)).all (hit l) = false) := by show _ = _; rw [HAL.out]; rfl
                      clear HAL
                      go_wp2
                      go_roundw
                      case rel => exact ⟨y + 1, by omega, by go_num, by rw [HAF.out], HB6.out⟩
                      case measure => simp [intOf]; omega
                    · cases hk0 : hasK l d0
                      · have HAF : Hid (((rowNums rs).take (y + 1)).all (hit l) = hasK l d1) := by show _ = _; rw [HAL.out, hk0]; simp
                        have HK0 := Lib.hid hk0
                        clear HAL hk0
                        go_wp2_with (go_at_call 101; refine (l1Has_any _ _ _ l _ _ HRW6.out rfl (by omega)).mono ?_; rintro e w' ⟨rfl, rfl⟩; (try rw [HK0.out]))
                        go_roundw
                        case rel => exact ⟨y + 1, by omega, by go_num, by rw [HAF.out], HB6.out⟩
                        case measure => simp [intOf]; omega
                      · have HAF : Hid (((rowNums rs).take (y + 1)).all (hit l) = true) := by show _ = _; rw [HAL.out, hk0]; rfl
                        have HK0 := Lib.hid hk0
                        clear HAL hk0
                        go_wp2_with (go_at_call 101; refine (l1Has_any _ _ _ l _ _ HRW6.out rfl (by omega)).mono ?_; rintro e w' ⟨rfl, rfl⟩; rw [HK0.out])
                        go_roundw
                        case rel => exact ⟨y + 1, by omega, by go_num, by rw [HAF.out], HB6.out⟩
                        case measure => simp [intOf]; omega
                  · have hym : y = m := by have := HX.out; omega
                    have hnym : ¬ y < m := by omega
                    have hdy : decide ((y : Int) < (m : Int)) = false := by simp; omega
                    clear hym
                    have HALL : Hid (((rowNums rs).take y).all (hit l) = p l) := by
                      show _ = _
                      rw [← HSAFE.out l, List.take_of_length_le (by rw [rowNums_len]; have := HX.out; omega)]
                    rw [HALL.out]
                    have hb6s := HB6.out.size
                    have HBB := Lib.hid (below_then HB.out HB6.out HB.out.size)
                    cases hpl : p l
                    · have HBE : Hid (better p bst l = bst) := by show _ = _; rw [better, if_neg (by rw [hpl]; simp)]
                      clear hpl
                      go_wp2
                      go_roundw
                      case rel => exact ⟨x + 1, E, r, by omega, by go_num, by rw [HNX.out, HBE.out], by rw [HNX.out, HBE.out]; exact (HF.out.below HB6.out).more (Nat.le_refl _) hb6s, HBB.out⟩
                      case measure => simp [intOf]; omega
                    · have HBE : Hid (better p bst l = l) := by show _ = _; rw [better, if_pos ⟨HLEN.out, hpl⟩]
                      clear hpl
                      go_wp2
                      go_roundw
                      case rel => exact ⟨x + 1, rA, rc, by omega, by go_num, by rw [HNX.out, HBE.out], by rw [HNX.out, HBE.out]; exact (HFR.out.below HB6.out).more (Nat.le_refl _) hb6s, HBB.out⟩
                      case measure => simp [intOf]; omega
              · have hge : decide ((bst.length : Int) ≤ (l.length : Int)) = true := by simp; omega
                have hge2 : (bst.length : Int) ≤ (l.length : Int) := by omega
                have HBE : Hid (better p bst l = bst) := by show _ = _; rw [better, if_neg (fun h => hlen h.1)]
                clear hlen
                go_wp2
                go_roundw
                case rel => exact ⟨x + 1, E, r, by omega, by go_num, by rw [HNX.out, HBE.out], by rw [HNX.out, HBE.out]; exact HF.out, HB.out⟩
                case measure => simp [intOf]; omega
            · obtain rfl : x = ls.length := by omega
              have hdx : decide ((ls.length : Int) < (ls.length : Int)) = false := by simp
              have HTA : Hid ((loads j j).take ls.length = loads j j) := by show _ = _; rw [HLN.out, List.take_length]
              rw [HTA.out] at hf ⊢
              have HF := Lib.hid hf
              have HBZ := Lib.hid (below_then HBc.out hb HBc.out.size)
              clear hf hb
              go_wp2
              go_ret2
              rw [HS.out]
              exact ⟨E, r, rfl, HF.out, HBZ.out⟩

theorem specLeastWatched_on (k s : Int) (A : Option Addr) (m c : Nat) (rs : List RowV) (ls : List (List Int)) (w : World) (hA : Grid w A rs) (he : rowNums rs = ls) (hx : rs.length = m) (hm : m ≤ 1048576) :
    Calls Try.prog 55 #[.agg #[.int .i64 k, .slice A m c, .int .i64 s]] w (WatchPost (watchedK k s ls) (keepOk k s ls) w) :=
  he ▸ specLeastWatched_any k s A m c rs w hA hx hm
theorem implLeastWatched_on (k s : Int) (A : Option Addr) (m c : Nat) (rs : List RowV) (ls : List (List Int)) (w : World) (hA : Grid w A rs) (he : rowNums rs = ls) (hx : rs.length = m) (hm : m ≤ 1048576) :
    Calls Try.prog 57 #[.agg #[.int .i64 k, .slice A m c, .int .i64 s]] w (WatchPost (watchedK k s ls) (keepOk k s ls) w) :=
  he ▸ implLeastWatched_any k s A m c rs w hA hx hm
end Go.Proofs.Ytcikimjpjebflaa

namespace Go.Proofs.Ytcikimjpjebflaa
open Go.RowKit

theorem OwnGrid.set_out {w : World} {g hi b o : Nat} {u : Value} {rs : List RowV} (h : OwnGrid w g hi rs) (hb : b < g) : OwnGrid (w.setCell ⟨b, o, none⟩ u) g hi rs :=
  ⟨h.1.off (by omega), h.2.set_out (.inl (by omega))⟩

set_option maxHeartbeats 800000 in
theorem szKeep_any (k : Int) (A : Option Addr) (n c : Nat) (rs : List RowV) (s l : Int) (w : World) (hA : Grid w A rs) (hx : rs.length = n) (hn : n ≤ 9223372036854775807) (h0 : 0 ≤ l) (h1 : l ≤ 1048576) :
    Calls Try.prog 54 #[.agg #[.int .i64 k, .slice A n c, .int .i64 s], .int .i64 l] w fun e w' => e = .returned (.int .i64 (if l - (total rs : Int) < 0 then -1 else l - (total rs : Int))) ∧ Below w.heap.size w w' := by
  have HX := Lib.hid hx
  clear hx
  by_cases h : l - (total rs : Int) < 0
  · have hb1 := below1 w (.cells #[.int .i64 k, .slice A n c, .int .i64 s] 66)
    go_enter Try.func54, Try.ntmps54
    go_wp2_with fail
    refine (szIntSS_any A n c rs l _ (hA.below hb1) HX.out hn h0 h1).mono ?_
    rintro e w' ⟨rfl, rfl⟩
    rw [totalLeft, if_pos (by omega)]
    go_wp2
    go_ret
    exact ⟨rfl, hb1⟩
  · have hb1 := below1 w (.cells #[.int .i64 k, .slice A n c, .int .i64 s] 66)
    have h' : ¬ l - (total rs : Int) < 0 := h
    go_enter Try.func54, Try.ntmps54
    go_wp2_with fail
    refine (szIntSS_any A n c rs l _ (hA.below hb1) HX.out hn h0 h1).mono ?_
    rintro e w' ⟨rfl, rfl⟩
    rw [totalLeft, if_neg (by omega)]
    go_wp2
    go_ret
    exact ⟨rfl, hb1⟩

/-- What toKeep hands back. -/
def KeepTo (k : Int) (n : Nat) (s : Int) (rs : List RowV) (w : World) (e : Ending) (w' : World) : Prop :=
  ∃ (g : Nat) (ws : List RowV), e = .returned (.agg #[.int .i64 k, .slice (some ⟨g, 0, none⟩) n n, .int .i64 s]) ∧ w.heap.size ≤ g ∧ OwnGrid w' g w'.heap.size ws ∧ rowNums ws = rowNums rs ∧ ws.length = n ∧ Below w.heap.size w w'

set_option maxHeartbeats 800000 in
theorem toKeep_own (k : Int) (A : Option Addr) (n c : Nat) (rs : List RowV) (s : Int) (w : World) (hA : Grid w A rs) (hx : rs.length = n) (ht : total rs ≤ 1048576) :
    Calls Try.prog 56 #[.agg #[.int .i64 k, .slice A n c, .int .i64 s]] w (KeepTo k n s rs w) := by
  have HX := Lib.hid hx
  clear hx
  go_enter Try.func56, Try.ntmps56
  go_wp2_with fail
  refine (toIntSS_any A n c rs _ (by exact hA.below (below3 w _ _ _)) HX.out ht).mono ?_
  rintro e w1 ⟨g, ws, rfl, hg, hw, he, hl, hb⟩
  obtain ⟨hc, hf⟩ := kept hb
  have hg' : w.heap.size + 3 ≤ g := by simpa using hg
  have hz : w.heap.size + 3 ≤ w1.heap.size := by have := hb.size; simpa using this
  have HB := Lib.hid (below_then (below3 w _ _ _) hb (by simp; omega))
  have HG := Lib.hid hw
  have HE := Lib.hid he
  have HL := Lib.hid hl
  clear hw hg he hl hb
  go_wp2
  refine bodyPost_ret (v := .agg #[.int .i64 k, .slice (some ⟨g, 0, none⟩) n n, .int .i64 s]) (by simp [results, Try.results56, go_sem, hc]) rfl ⟨g, ws, rfl, by omega, ?_, HE.out, HL.out, ?_⟩
  · have h := (((((HG.out.set_out (b := w.heap.size + 1 + 1) (o := 1) (u := .slice (some ⟨g, 0, none⟩) n n) (by omega)).set_out (b := w.heap.size + 1 + 1) (o := 2) (u := .int .i64 s) (by omega)).set_out (b := w.heap.size + 1) (o := 0) (u := .int .i64 k) (by omega)).set_out (b := w.heap.size + 1) (o := 1) (u := .slice (some ⟨g, 0, none⟩) n n) (by omega)).set_out (b := w.heap.size + 1) (o := 2) (u := .int .i64 s) (by omega))
    simpa [World.setCell] using h
  · exact below_set (below_set (below_set (below_set (below_set HB.out (by omega)) (by omega)) (by omega)) (by omega)) (by omega)

set_option maxHeartbeats 800000 in
theorem eqKeep_yes (k : Int) (A B : Option Addr) (n m c d : Nat) (s : Int) (rs ss : List RowV) (w : World) (hA : Grid w A rs) (hB : Grid w B ss) (he : rowNums rs = rowNums ss) (hx : rs.length = n) (hy : ss.length = m) (hn : n ≤ 9223372036854775807) :
    Calls Try.prog 58 #[.agg #[.int .i64 k, .slice A n c, .int .i64 s], .agg #[.int .i64 k, .slice B m d, .int .i64 s]] w fun e w' => e = .returned (.bool true) ∧ Below w.heap.size w w' := by
  have HX := Lib.hid hx
  have HY := Lib.hid hy
  have HE := Lib.hid he
  clear hx hy he
  have hkk : (!(k == k)) = false := by simp
  have hss : (!(s == s)) = false := by simp
  have hb2 := below2 w (.cells #[.int .i64 k, .slice A n c, .int .i64 s] 69) (.cells #[.int .i64 k, .slice B m d, .int .i64 s] 69)
  have h0 := (Whole.fresh w 69 #[.int .i64 k, .slice A n c, .int .i64 s]).alloc (.cells #[.int .i64 k, .slice B m d, .int .i64 s] 69)
  have h1 := Whole.fresh (w.alloc (.cells #[.int .i64 k, .slice A n c, .int .i64 s] 69)) 69 #[.int .i64 k, .slice B m d, .int .i64 s]
  rw [World.size_alloc] at h1
  go_enter Try.func58, Try.ntmps58
  go_wp2_with fail
  refine (eqIntSS_yes A B n m c d rs ss _ (by exact hA.below hb2) (by exact hB.below hb2) HE.out HX.out HY.out hn).mono ?_
  rintro e w1 ⟨rfl, hb⟩
  have ht := below_then hb2 hb (by simp; omega)
  obtain ⟨a0, a1, a2⟩ := (h0.below hb).cells3
  obtain ⟨b0, b1, b2⟩ := (h1.below hb).cells3
  go_wp2
  go_ret
  exact ⟨rfl, ht⟩

set_option maxHeartbeats 800000 in
theorem markKeep_any (k s : Int) (A : Option Addr) (n c lo hi : Nat) (rs : List RowV) (q : Int) (w : World) (hf : FreeGrid w lo hi A rs) (hx : rs.length = n) (h0 : 0 ≤ q) (h1 : q ≤ 2305843009213693952) (hn : n ≤ 1048576) (hp : part rs rs.length ≤ 1048576) :
    Calls Try.prog 59 #[.agg #[.int .i64 k, .slice A n c, .int .i64 s], .int .i64 q] w fun e w' => e = .returned (.int .i64 (q + (part rs rs.length : Nat))) ∧ Span lo hi w w' ∧ FreeGrid w' lo hi A (markTo q rs rs.length) := by
  have HX := Lib.hid hx
  clear hx
  go_enter Try.func59, Try.ntmps59
  go_wp2_with fail
  refine (markIntSS_any A n c lo hi rs q _ (hf.alloc _) HX.out h0 h1 hn hp).mono ?_
  rintro e w1 ⟨rfl, hs, hf1⟩
  go_wp2
  go_ret
  exact ⟨rfl, (Span.of_below (below1 w _) lo hi).trans hs, hf1⟩

end Go.Proofs.Ytcikimjpjebflaa

namespace Go.Proofs.Ytcikimjpjebflaa
open Go.RowKit

set_option maxHeartbeats 800000 in
set_option linter.unusedVariables false in
theorem lawLeastWatched_big0 (k0 : Int) (A0 : Option Addr) (n0 c0 : Nat) (x0 : List RowV) (k1 : Int) (w : World) (h0 : Grid w A0 x0) (hx0 : x0.length = n0) (hn0 : n0 ≤ 9223372036854775807)  (hbig : 1048576 - (total x0 : Int) < 0) :
    Calls Try.prog 13 #[.agg #[.int .i64 k0, .slice A0 n0 c0, .int .i64 k1]] w fun e w' => e = .returned (.bool true) ∧ Below w.heap.size w w' := by
  have hb0 := (Whole.fresh w 66 #[.int .i64 k0, .slice A0 n0 c0, .int .i64 k1])
  have ht := below1 w (.cells #[.int .i64 k0, .slice A0 n0 c0, .int .i64 k1] 66)
  have HX0 := Lib.hid hx0
  clear hx0
  obtain ⟨hb0_0, hb0_1, hb0_2⟩ := hb0.cells3
  have hb0_l := hb0.lt
  go_enter Try.func13, Try.ntmps13
  go_wp2_with fail
  refine (szKeep_any k0 A0 n0 c0 x0 k1 (1048576) _ (by exact h0.below ht) HX0.out (by omega) (by omega) (by omega)).mono ?_
  rintro e v1 ⟨rfl, hb⟩
  rw [if_pos (by omega)]
  have hz1 : w.heap.size + 1 ≤ v1.heap.size := by have := hb.size; simpa using this
  replace ht := below_then ht hb ht.size
  replace hb0 := hb0.below hb
  clear hb
  clear hb0_0 hb0_1 hb0_2 hb0_l
  go_wp2
  go_ret
  exact ⟨rfl, ht⟩

set_option maxHeartbeats 12800000 in
set_option maxRecDepth 100000 in
set_option linter.unusedSimpArgs false in
set_option linter.unusedVariables false in
theorem lawLeastWatched_small (k0 : Int) (A0 : Option Addr) (n0 c0 : Nat) (x0 : List RowV) (k1 : Int) (w : World) (h0 : Grid w A0 x0) (hx0 : x0.length = n0) (hn0 : n0 ≤ 9223372036854775807) (g0 : 0 ≤ 1048576 - (total x0 : Int)) :
    Calls Try.prog 13 #[.agg #[.int .i64 k0, .slice A0 n0 c0, .int .i64 k1]] w fun e w' => e = .returned (.bool true) ∧ Below w.heap.size w w' := by
  have hb0 := (Whole.fresh w 66 #[.int .i64 k0, .slice A0 n0 c0, .int .i64 k1])
  have ht := below1 w (.cells #[.int .i64 k0, .slice A0 n0 c0, .int .i64 k1] 66)
  have HX0 := Lib.hid hx0
  clear hx0
  have hlen : (watchedK k0 k1 (rowNums x0)).length ≤ 1048576 := watchedK_le _ _ _
  obtain ⟨hb0_0, hb0_1, hb0_2⟩ := hb0.cells3
  have hb0_l := hb0.lt
  go_enter Try.func13, Try.ntmps13
  -- region 2
  go_wp2_with fail
  refine (szKeep_any k0 A0 n0 c0 x0 k1 (1048576) _ (by exact h0.below ht) HX0.out (by omega) (by omega) (by omega)).mono ?_
  rintro e v1 ⟨rfl, hb⟩
  rw [if_neg (by omega)]
  have hz1 : w.heap.size + 1 ≤ v1.heap.size := by have := hb.size; simpa using this
  replace ht := below_then ht hb ht.size
  replace hb0 := hb0.below hb
  clear hb
  clear hb0_0 hb0_1 hb0_2 hb0_l
  obtain ⟨hb0_0, hb0_1, hb0_2⟩ := hb0.cells3
  have hb0_l := hb0.lt
  -- region 5
  go_wp2_with fail
  refine (toKeep_own k0 A0 n0 c0 x0 k1 _ (by exact h0.below ht) HX0.out (by omega)).mono ?_
  rintro e v2 ⟨gp0, wsp0, rfl, hgp0, hwp0, hep0, hlp0, hb⟩
  have hz2 : v1.heap.size ≤ v2.heap.size := by have := hb.size; simpa using this
  replace ht := below_then ht hb ht.size
  replace hb0 := hb0.below hb
  have HEp0 := Lib.hid hep0
  have HLp0 := Lib.hid hlp0
  clear hep0 hlp0
  have hp0 := hwp0.free.more (lo' := v1.heap.size) (hi' := v2.heap.size) (by simpa using hgp0) (Nat.le_refl _)
  have hcapp0 : n0 ≤ 1048576 := by have := total_len x0; have := HX0.out; omega
  clear hgp0 hwp0
  clear hb
  clear hb0_0 hb0_1 hb0_2 hb0_l
  obtain ⟨hb0_0, hb0_1, hb0_2⟩ := hb0.cells3
  have hb0_l := hb0.lt
  go_wp2_with fail
  refine (specLeastWatched_on k0 k1 _ n0 _ wsp0 (rowNums x0) _ (by exact hp0.grid) HEp0.out HLp0.out (by omega)).mono ?_
  rintro e v3 ⟨B0, q0, rfl, hF0, hb⟩
  have hz3 : v2.heap.size ≤ v3.heap.size := by have := hb.size; simpa using this
  replace ht := below_then ht hb ht.size
  replace hb0 := hb0.below hb
  replace hp0 := hp0.below hb
  replace hF0 := hF0.more (lo' := v2.heap.size) (hi' := v3.heap.size) (by simp) (Nat.le_refl _)
  clear hb
  clear hp0
  clear hb0_0 hb0_1 hb0_2 hb0_l
  obtain ⟨hb0_0, hb0_1, hb0_2⟩ := hb0.cells3
  have hb0_l := hb0.lt
  -- region 6
  go_wp2_with fail
  refine (toKeep_own k0 A0 n0 c0 x0 k1 _ (by exact h0.below ht) HX0.out (by omega)).mono ?_
  rintro e v4 ⟨gx0, wsx0, rfl, hgx0, hwx0, hex0, hlx0, hb⟩
  have hz4 : v3.heap.size ≤ v4.heap.size := by have := hb.size; simpa using this
  replace ht := below_then ht hb ht.size
  replace hb0 := hb0.below hb
  replace hF0 := hF0.below hb
  have HEx0 := Lib.hid hex0
  have HLx0 := Lib.hid hlx0
  clear hex0 hlx0
  have hx0 := hwx0.free.more (lo' := v3.heap.size) (hi' := v4.heap.size) (by simpa using hgx0) (Nat.le_refl _)
  have hcapx0 : n0 ≤ 1048576 := by have := total_len x0; have := HX0.out; omega
  clear hgx0 hwx0
  clear hb
  have hx90 := Whole.fresh v4 69 #[.int .i64 k0, .slice (some ⟨gx0, 0, none⟩) n0 n0, .int .i64 k1]
  replace ht := ht.alloc ht.size (.cells #[.int .i64 k0, .slice (some ⟨gx0, 0, none⟩) n0 n0, .int .i64 k1] 69)
  replace hb0 := hb0.alloc (.cells #[.int .i64 k0, .slice (some ⟨gx0, 0, none⟩) n0 n0, .int .i64 k1] 69)
  replace hF0 := hF0.alloc (.cells #[.int .i64 k0, .slice (some ⟨gx0, 0, none⟩) n0 n0, .int .i64 k1] 69)
  replace hx0 := hx0.alloc (.cells #[.int .i64 k0, .slice (some ⟨gx0, 0, none⟩) n0 n0, .int .i64 k1] 69)
  clear hb0_0 hb0_1 hb0_2 hb0_l
  obtain ⟨hb0_0, hb0_1, hb0_2⟩ := hb0.cells3
  have hb0_l := hb0.lt
  obtain ⟨hx90_0, hx90_1, hx90_2⟩ := hx90.cells3
  have hx90_l := hx90.lt
  -- region 7
  go_wp2_with fail
  refine (implLeastWatched_on k0 k1 _ n0 _ wsx0 (rowNums x0) _ (by exact hx0.grid) HEx0.out HLx0.out (by omega)).mono ?_
  rintro e v5 ⟨B1, q1, rfl, hF1, hb⟩
  have hz5 : v4.heap.size + 1 ≤ v5.heap.size := by have := hb.size; simpa using this
  replace ht := below_then ht hb ht.size
  replace hb0 := hb0.below hb
  replace hF0 := hF0.below hb
  replace hx0 := hx0.below hb
  replace hx90 := hx90.below hb
  replace hF1 := hF1.more (lo' := v4.heap.size + 1) (hi' := v5.heap.size) (by simp) (Nat.le_refl _)
  clear hb
  clear hb0_0 hb0_1 hb0_2 hb0_l hx90_0 hx90_1 hx90_2 hx90_l
  obtain ⟨hb0_0, hb0_1, hb0_2⟩ := hb0.cells3
  have hb0_l := hb0.lt
  obtain ⟨hx90_0, hx90_1, hx90_2⟩ := hx90.cells3
  have hx90_l := hx90.lt
  -- region 8
  go_wp2_with fail
  refine (eqIntS_yes B1 B0 (watchedK k0 k1 (rowNums x0)).length q1 q0 (watchedK k0 k1 (rowNums x0)) _ (by exact hF1.holds) (by exact hF0.holds) rfl (by omega)).mono ?_
  rintro e v6 ⟨rfl, hb⟩
  have hz6 : v5.heap.size ≤ v6.heap.size := by have := hb.size; simpa using this
  replace ht := below_then ht hb ht.size
  replace hb0 := hb0.below hb
  replace hF0 := hF0.below hb
  replace hx0 := hx0.below hb
  replace hx90 := hx90.below hb
  replace hF1 := hF1.below hb
  clear hb
  clear hb0_0 hb0_1 hb0_2 hb0_l hx90_0 hx90_1 hx90_2 hx90_l
  obtain ⟨hb0_0, hb0_1, hb0_2⟩ := hb0.cells3
  have hb0_l := hb0.lt
  obtain ⟨hx90_0, hx90_1, hx90_2⟩ := hx90.cells3
  have hx90_l := hx90.lt
  -- region 10
  clear hb0_0 hb0_1 hb0_2 hb0_l hx90_0 hx90_1 hx90_2 hx90_l
  go_wp2_with fail
  refine wp_region_held_drew (S := (fun w' => w'.cell? ⟨w.heap.size, 0, none⟩ = some (.int .i64 k0) ∧ w'.cell? ⟨w.heap.size, 1, none⟩ = some (.slice A0 n0 c0) ∧ w'.cell? ⟨w.heap.size, 2, none⟩ = some (.int .i64 k1) ∧ w'.cell? ⟨v4.heap.size, 0, none⟩ = some (.int .i64 k0) ∧ w'.cell? ⟨v4.heap.size, 1, none⟩ = some (.slice (some ⟨gx0, 0, none⟩) n0 n0) ∧ w'.cell? ⟨v4.heap.size, 2, none⟩ = some (.int .i64 k1))) (by kernel_rfl) ⟨hb0.drew.cell 0, hb0.drew.cell 1, hb0.drew.cell 2, hx90.drew.cell 0, hx90.drew.cell 1, hx90.drew.cell 2⟩ (fun hHeld => ?_)
  replace ht := ht.drew
  replace hb0 := hb0.drew
  replace hF0 := hF0.drew
  replace hx0 := hx0.drew
  replace hx90 := hx90.drew
  replace hF1 := hF1.drew
  refine wpAnyH_take (i := 0) (v := ?_) rfl (by kernel_rfl) (by kernel_rfl) (by kernel_rfl) (fun _ _ _ h => h) (Or.inl ⟨rfl, ?_⟩) hHeld ?_
  rotate_left
  · intro w' hS; obtain ⟨s0, s1, s2, s3, s4, s5⟩ := hS; go_simp <;> with_reducible rfl
  simp only [Act.put, List.getElem_toArray, List.getElem_cons_succ, List.getElem_cons_zero, List.setIfInBounds_toArray, List.set_cons_succ, List.set_cons_zero]
  refine wpAnyH_take (i := 1) (v := ?_) rfl (by kernel_rfl) (by kernel_rfl) (by kernel_rfl) (fun _ _ _ h => h) (Or.inl ⟨rfl, ?_⟩) hHeld ?_
  rotate_left
  · intro w' hS; obtain ⟨s0, s1, s2, s3, s4, s5⟩ := hS; go_simp <;> with_reducible rfl
  simp only [Act.put, List.getElem_toArray, List.getElem_cons_succ, List.getElem_cons_zero, List.setIfInBounds_toArray, List.set_cons_succ, List.set_cons_zero]
  refine wpAnyH_ready (rs := [2]) (by kernel_rfl) (by simp) (AllReadyH.cons rfl (fun K hK => ?_) AllReadyH.nil)
  go_simp
  refine (toKeep_own k0 A0 n0 c0 x0 k1 _ (by exact h0.below ht) HX0.out (by omega)).mono ?_
  rintro e v7 ⟨gy0, wsy0, rfl, hgy0, hwy0, hey0, hly0, hb⟩
  have hz7 : v6.heap.size ≤ v7.heap.size := by have := hb.size; simpa using this
  replace ht := below_then ht hb ht.size
  replace hb0 := hb0.below hb
  replace hF0 := hF0.below hb
  replace hx0 := hx0.below hb
  replace hx90 := hx90.below hb
  replace hF1 := hF1.below hb
  have HEy0 := Lib.hid hey0
  have HLy0 := Lib.hid hly0
  clear hey0 hly0
  have hy0 := hwy0.free.more (lo' := v6.heap.size) (hi' := v7.heap.size) (by simpa using hgy0) (Nat.le_refl _)
  have hcapy0 : n0 ≤ 1048576 := by have := total_len x0; have := HX0.out; omega
  clear hgy0 hwy0
  clear hb
  refine hK.out _ _ ⟨hb0.cell 0, hb0.cell 1, hb0.cell 2, hx90.cell 0, hx90.cell 1, hx90.cell 2⟩ (fun hHeld => ?_)
  clear hK K
  try simp only [Act.put, List.getElem_toArray, List.getElem_cons_succ, List.getElem_cons_zero, List.setIfInBounds_toArray, List.set_cons_succ, List.set_cons_zero]
  refine wpAnyH_ready (rs := [3]) (by kernel_rfl) (by simp) (AllReadyH.cons rfl (fun K hK => ?_) AllReadyH.nil)
  go_simp
  refine (eqKeep_yes k0 _ _ n0 n0 _ _ k1 wsx0 wsy0 _ (by exact hx0.grid) (by exact hy0.grid) (by rw [HEx0.out, HEy0.out]) HLx0.out HLy0.out (by omega)).mono ?_
  rintro e v8 ⟨rfl, hb⟩
  have hz8 : v7.heap.size ≤ v8.heap.size := by have := hb.size; simpa using this
  replace ht := below_then ht hb ht.size
  replace hb0 := hb0.below hb
  replace hF0 := hF0.below hb
  replace hx0 := hx0.below hb
  replace hx90 := hx90.below hb
  replace hF1 := hF1.below hb
  replace hy0 := hy0.below hb
  clear hb
  clear hy0
  refine hK.out _ _ ⟨hb0.cell 0, hb0.cell 1, hb0.cell 2, hx90.cell 0, hx90.cell 1, hx90.cell 2⟩ (fun hHeld => ?_)
  clear hK K
  try simp only [Act.put, List.getElem_toArray, List.getElem_cons_succ, List.getElem_cons_zero, List.setIfInBounds_toArray, List.set_cons_succ, List.set_cons_zero]
  refine wpAnyH_take (i := 4) (v := ?_) rfl (by kernel_rfl) (by kernel_rfl) (by kernel_rfl) (fun _ _ _ h => h) (Or.inl ⟨rfl, ?_⟩) hHeld ?_
  rotate_left
  · intro w' hS; obtain ⟨s0, s1, s2, s3, s4, s5⟩ := hS; go_simp <;> with_reducible rfl
  simp only [Act.put, List.getElem_toArray, List.getElem_cons_succ, List.getElem_cons_zero, List.setIfInBounds_toArray, List.set_cons_succ, List.set_cons_zero]
  refine wpAnyH_done (by kernel_rfl) ?_ _
  clear hHeld
  obtain ⟨hb0_0, hb0_1, hb0_2⟩ := hb0.cells3
  have hb0_l := hb0.lt
  obtain ⟨hx90_0, hx90_1, hx90_2⟩ := hx90.cells3
  have hx90_l := hx90.lt
  -- region 13
  go_wp2_with fail
  have hsum0 : part wsx0 wsx0.length ≤ 1048576 := by rw [part_nums hx0.grid h0 HEx0.out]; have := part_total x0; omega
  refine (markKeep_any k0 k1 (some ⟨gx0, 0, none⟩) n0 n0 _ _ wsx0 (1) _ hx0 HLx0.out (by omega) (by omega) (by omega) hsum0).mono ?_
  rintro e v9 ⟨rfl, hs, -⟩
  have hsz := ht.size
  replace ht := hs.below ht (by omega) hsz
  replace hb0 := hs.whole hb0 (by omega)
  replace hF0 := hs.fresh hF0 (by omega)
  replace hF1 := hs.fresh hF1 (by omega)
  clear hs hsz hx0 hx90
  have hk_1 : (0 : Int) ≤ 1 + ((part wsx0 wsx0.length : Nat) : Int) := by omega
  clear hb0_0 hb0_1 hb0_2 hb0_l hx90_0 hx90_1 hx90_2 hx90_l
  obtain ⟨hb0_0, hb0_1, hb0_2⟩ := hb0.cells3
  have hb0_l := hb0.lt
  -- region 14
  go_wp2_with fail
  refine (eqIntS_yes B1 B0 (watchedK k0 k1 (rowNums x0)).length q1 q0 (watchedK k0 k1 (rowNums x0)) _ (by exact hF1.holds) (by exact hF0.holds) rfl (by omega)).mono ?_
  rintro e v10 ⟨rfl, hb⟩
  have hz10 : v9.heap.size ≤ v10.heap.size := by have := hb.size; simpa using this
  replace ht := below_then ht hb ht.size
  replace hb0 := hb0.below hb
  replace hF0 := hF0.below hb
  replace hF1 := hF1.below hb
  clear hb
  clear hb0_0 hb0_1 hb0_2 hb0_l
  obtain ⟨hb0_0, hb0_1, hb0_2⟩ := hb0.cells3
  have hb0_l := hb0.lt
  -- region 17
  go_wp2_with fail
  refine (markIntS_any B1 (watchedK k0 k1 (rowNums x0)).length q1 _ _ _ 1 _ hF1 (by rw [nums_len]) (by omega) (by omega) hlen).mono ?_
  rintro e v11 ⟨rfl, hs, hM⟩
  have hsz := ht.size
  replace ht := hs.below ht (by omega) hsz
  replace hb0 := hs.whole hb0 (by omega)
  replace hF0 := hs.fresh hF0 (by omega)
  clear hs hF1 hsz
  clear hb0_0 hb0_1 hb0_2 hb0_l
  obtain ⟨hb0_0, hb0_1, hb0_2⟩ := hb0.cells3
  have hb0_l := hb0.lt
  -- region 19
  go_wp2_with fail
  refine (heldIntS_any B1 (watchedK k0 k1 (rowNums x0)).length q1 1 _ (by exact hM.holds) (by omega) (by omega) hlen).mono ?_
  rintro e v12 ⟨rfl, rfl⟩
  have hm0 : (0 : Int) ≤ 1 + ((watchedK k0 k1 (rowNums x0)).length : Int) := by omega
  clear hb0_0 hb0_1 hb0_2 hb0_l
  obtain ⟨hb0_0, hb0_1, hb0_2⟩ := hb0.cells3
  have hb0_l := hb0.lt
  -- region 24
  go_wp2_with fail
  refine (toKeep_own k0 A0 n0 c0 x0 k1 _ (by exact h0.below ht) HX0.out (by omega)).mono ?_
  rintro e v12 ⟨gr0, wsr0, rfl, hgr0, hwr0, her0, hlr0, hb⟩
  have hz12 : v11.heap.size ≤ v12.heap.size := by have := hb.size; simpa using this
  replace ht := below_then ht hb ht.size
  replace hb0 := hb0.below hb
  replace hF0 := hF0.below hb
  replace hM := hM.below hb
  have HEr0 := Lib.hid her0
  have HLr0 := Lib.hid hlr0
  clear her0 hlr0
  have hr0 := hwr0.free.more (lo' := v11.heap.size) (hi' := v12.heap.size) (by simpa using hgr0) (Nat.le_refl _)
  have hcapr0 : n0 ≤ 1048576 := by have := total_len x0; have := HX0.out; omega
  clear hgr0 hwr0
  clear hb
  clear hb0_0 hb0_1 hb0_2 hb0_l
  obtain ⟨hb0_0, hb0_1, hb0_2⟩ := hb0.cells3
  have hb0_l := hb0.lt
  go_wp2_with fail
  refine (implLeastWatched_on k0 k1 _ n0 _ wsr0 (rowNums x0) _ (by exact hr0.grid) HEr0.out HLr0.out (by omega)).mono ?_
  rintro e v13 ⟨B2, q2, rfl, hF2, hb⟩
  have hz13 : v12.heap.size ≤ v13.heap.size := by have := hb.size; simpa using this
  replace ht := below_then ht hb ht.size
  replace hb0 := hb0.below hb
  replace hF0 := hF0.below hb
  replace hM := hM.below hb
  replace hr0 := hr0.below hb
  replace hF2 := hF2.more (lo' := v12.heap.size) (hi' := v13.heap.size) (by simp) (Nat.le_refl _)
  clear hb
  clear hr0
  clear hb0_0 hb0_1 hb0_2 hb0_l
  obtain ⟨hb0_0, hb0_1, hb0_2⟩ := hb0.cells3
  have hb0_l := hb0.lt
  -- region 25
  go_wp2_with fail
  refine (eqIntS_yes B2 B0 (watchedK k0 k1 (rowNums x0)).length q2 q0 (watchedK k0 k1 (rowNums x0)) _ (by exact hF2.holds) (by exact hF0.holds) rfl (by omega)).mono ?_
  rintro e v14 ⟨rfl, hb⟩
  have hz14 : v13.heap.size ≤ v14.heap.size := by have := hb.size; simpa using this
  replace ht := below_then ht hb ht.size
  replace hb0 := hb0.below hb
  replace hF0 := hF0.below hb
  replace hM := hM.below hb
  replace hF2 := hF2.below hb
  clear hb
  clear hb0_0 hb0_1 hb0_2 hb0_l
  obtain ⟨hb0_0, hb0_1, hb0_2⟩ := hb0.cells3
  have hb0_l := hb0.lt
  -- region 28
  go_wp2_with fail
  refine (heldIntS_any B1 (watchedK k0 k1 (rowNums x0)).length q1 1 _ (by exact hM.holds) (by omega) (by omega) hlen).mono ?_
  rintro e v15 ⟨rfl, rfl⟩
  clear hb0_0 hb0_1 hb0_2 hb0_l
  obtain ⟨hb0_0, hb0_1, hb0_2⟩ := hb0.cells3
  have hb0_l := hb0.lt
  go_wp2
  go_ret
  exact ⟨rfl, ht⟩

theorem lawLeastWatched_all (k0 : Int) (A0 : Option Addr) (n0 c0 : Nat) (x0 : List RowV) (k1 : Int) (w : World) (h0 : Grid w A0 x0) (hx0 : x0.length = n0) (hn0 : n0 ≤ 9223372036854775807) :
    Calls Try.prog 13 #[.agg #[.int .i64 k0, .slice A0 n0 c0, .int .i64 k1]] w fun e w' => e = .returned (.bool true) ∧ Below w.heap.size w w' := by
  rcases (inferInstance : Decidable (0 ≤ 1048576 - (total x0 : Int))) with g0 | g0
  · exact lawLeastWatched_big0 k0 A0 n0 c0 x0 k1 w h0 hx0 hn0  (by omega)
  exact lawLeastWatched_small k0 A0 n0 c0 x0 k1 w h0 hx0 hn0 g0
end Go.Proofs.Ytcikimjpjebflaa
