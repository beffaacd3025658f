/-
  What is proved: the contract of the model's BackPlan. Conditions: the arguments are read as they lie.
-/
import Derived.Test.YtionmcgaicijkaaHeads
import Derived.Test.YtionmcgaicijkaaSum
namespace Go.Proofs.Ytionmcgaicijkaa
open Go.RowKit

theorem made_all {n : Nat} {s : Int} : ∀ {ls : List (List Int)} {bs : List Bool} {t : Bool}, made n s bs t ls = ls.length → ∀ l ∈ ls, isTrip n s l = true
  | [], _, _, _ => fun l h => by simp at h
  | l :: ls, bs, t, h => by
    rw [made] at h
    by_cases hc : canGo n s bs t l = true
    · rw [if_pos hc] at h
      have ih := made_all (ls := ls) (by simpa using h)
      intro x hx
      rcases List.mem_cons.1 hx with rfl | hx
      · simp only [canGo, Bool.and_eq_true] at hc
        exact hc.1
      · exact ih x hx
    · rw [if_neg hc] at h
      simp at h
/-- The trips of a plan: somebody crosses, and no more than there are seats. -/
theorem plan_sizes {n : Nat} {s : Int} {ls : List (List Int)} (h : isPlan n s ls = true) : ls.length ≤ 40 ∧ ∀ l ∈ ls, 1 ≤ l.length ∧ (l.length : Int) ≤ s := by
  simp only [isPlan, Bool.and_eq_true, decide_eq_true_eq] at h
  refine ⟨h.1, fun l hl => ?_⟩
  have ht := made_all h.2.1 l hl
  simp only [isTrip, Bool.and_eq_true] at ht
  have := within_iff.1 ht.1
  omega
theorem seats_le {xs : List Int} {s : Int} (h : isParty xs s = true) : s ≤ 8 := by
  simp only [isParty, Bool.and_eq_true] at h
  have := within_iff.1 h.2.2
  have := within_iff.1 h.1
  omega

/-- What a call hands back that makes a list of lists and tells whether it did. -/
def BackPost (ls : List (List Int)) (ok : Bool) (w : World) (e : Ending) (w' : World) : Prop :=
  ∃ (A : Option Addr) (n c : Nat) (rs : List RowV), e = .returned (.tuple #[.slice A n c, .bool ok]) ∧ rowNums rs = ls ∧ rs.length = n ∧ FreeGrid w' w.heap.size w'.heap.size A rs ∧ Below w.heap.size w w'
theorem BackPost.no {w w' : World} (h : Below w.heap.size w w') : BackPost [] false w (.returned (.tuple #[.slice none 0 0, .bool false])) w' :=
  ⟨none, 0, 0, [], rfl, rfl, rfl, (Heads.nil w' w.heap.size).free, h⟩
noncomputable def backed (xs : List Int) (n : Nat) (s : Int) (ls : List (List Int)) : List (List Int) := if planOk xs n s ls then ls.reverse else []
theorem back_next {ls : List (List Int)} {k : Nat} (h : k < ls.length) : (ls.drop k).reverse = (ls.drop (k + 1)).reverse ++ [ls[k]] := by
  rw [List.drop_eq_getElem_cons h, List.reverse_cons]

set_option maxHeartbeats 3200000 in
set_option maxRecDepth 100000 in
theorem specBack_any (A D : Option Addr) (n c q z : Nat) (xs : List Int) (rs : List RowV) (s : Int) (w : World) (hA : Holds w A (nums xs)) (hD : Grid w D rs) (hx : xs.length = n) (hz : rs.length = q) (hn : n ≤ 9223372036854775807) (hq : q ≤ 9223372036854775807) :
    Calls Try.prog 41 #[.agg #[.slice A n c, .int .i64 s], .slice D q z] w (BackPost (backed xs n s (rowNums rs)) (planOk xs n s (rowNums rs)) w) := by
  have HX := Lib.hid hx
  have HZ := Lib.hid hz
  have HLS := Lib.hid (rowNums_len rs)
  have hA2 := hA.alloc (.cells #[.slice A n c, .int .i64 s] 33)
  have hD2 := hD.alloc (.cells #[.slice A n c, .int .i64 s] 33)
  have h0 := Whole.fresh w 33 #[.slice A n c, .int .i64 s]
  have hbw := below1 w (.cells #[.slice A n c, .int .i64 s] 33)
  cases hp : isParty xs s
  · have HP := Lib.hid hp
    have hf : planOk xs n s (rowNums rs) = false := by simp [planOk, hp]
    rw [show backed xs n s (rowNums rs) = [] by simp [backed, hf], hf]
    clear hp hx hz hf
    go_enter Try.func41, Try.ntmps41
    go_wp2_with fail
    refine (paGood_any A n c xs s _ hA2 HX.out hn).mono ?_
    rintro e w1 ⟨rfl, hb⟩
    rw [HP.out]
    have ht := below_then hbw hb (by simp)
    clear hb
    go_wp2
    go_ret2
    exact BackPost.no ht
  · have HP := Lib.hid hp
    have h8 := isParty_le hp
    have hpos := isParty_pos hp
    have hs8 := seats_le hp
    rw [hx] at h8 hpos
    clear hp hx hz
    cases hpl : isPlan n s (rowNums rs)
    · have HL := Lib.hid hpl
      have hf : planOk xs n s (rowNums rs) = false := by simp [planOk, hpl]
      rw [show backed xs n s (rowNums rs) = [] by simp [backed, hf], hf]
      clear hpl hf
      go_enter Try.func41, Try.ntmps41
      go_wp2_with fail
      refine (paGood_any A n c xs s _ hA2 HX.out hn).mono ?_
      rintro e w1 ⟨rfl, hb⟩
      rw [HP.out]
      have ht := below_then hbw hb (by simp)
      have hD3 := hD2.below hb
      obtain ⟨c0, c1, -, -⟩ := (h0.below hb).two
      clear hb h0
      go_wp2_with fail
      refine (paPlan_any A D n c q z rs s _ hD3 HZ.out hpos h8 hq).mono ?_
      rintro e w2 ⟨rfl, hb⟩
      rw [HL.out]
      replace ht := below_then ht hb ht.size
      clear hb c0 c1 hD3
      go_wp2
      go_ret2
      exact BackPost.no ht
    · obtain ⟨i0, hi, hz0, hz1, hz2⟩ := info_parts info_row
      have HI := Lib.hid hi
      have HZ0 := Lib.hid hz0
      have HZ1 := Lib.hid hz1
      have HZ2 := Lib.hid hz2
      have HL := Lib.hid hpl
      have hf : planOk xs n s (rowNums rs) = true := by simp [planOk, hpl, HP.out]
      rw [show backed xs n s (rowNums rs) = (rowNums rs).reverse by simp [backed, hf], hf]
      have hpt := plan_sizes hpl
      have HPT := Lib.hid hpt.2
      have hq40 : q ≤ 40 := by have := hpt.1; have := HLS.out; have := HZ.out; omega
      have hwq : IntKind.i64.wrap ((q : Int) - 1) = (q : Int) - 1 := IntWalk.i64_in _ (by omega)
      clear hpl hf hpt hi hz0 hz1 hz2
      go_enter Try.func41, Try.ntmps41
      go_wp2_with fail
      refine (paGood_any A n c xs s _ hA2 HX.out hn).mono ?_
      rintro e w1 ⟨rfl, hb⟩
      rw [HP.out]
      have ht := below_then hbw hb (by simp)
      have hD3 := hD2.below hb
      have h1 := h0.below hb
      obtain ⟨c0, c1, -, -⟩ := h1.two
      clear hb h0
      go_wp2_with fail
      refine (paPlan_any A D n c q z rs s _ hD3 HZ.out hpos h8 hq).mono ?_
      rintro e w2 ⟨rfl, hb⟩
      rw [HL.out]
      replace ht := below_then ht hb ht.size
      clear hb c0 c1 hD3 h1
      go_wp2
      have HT := Lib.hid ht
      clear ht
      go_loopw [6, 7] (fun v i wr => ∃ (y : Int) (E : Option Addr) (d : Nat) (acc : List RowV), -1 ≤ y ∧ y < q ∧ i = .int .i64 y ∧ v = .slice E acc.length d ∧ (acc.length : Int) = q - 1 - y ∧ rowNums acc = ((rowNums rs).drop (y + 1).toNat).reverse ∧ Heads wr w.heap.size E d acc ∧ Below w.heap.size w wr) (fun _ i _ => (intOf i + 1).toNat)
      case atStart => exact ⟨(q : Int) - 1, none, 0, [], by omega, by omega, rfl, rfl, by simp, by rw [List.drop_eq_nil_of_le (by have := HLS.out; have := HZ.out; omega)]; rfl, Heads.nil _ _, HT.out⟩
      case round =>
        obtain ⟨y, E, d, acc, hy0, hyq, rfl, rfl, hla, hra, hh, hb⟩ := hrel
        by_cases hy : 0 ≤ y
        · obtain ⟨k, rfl⟩ := Int.eq_ofNat_of_zero_le hy
          have hkr : k < rs.length := by have := HZ.out; omega
          obtain ⟨b1, o1, rfl, hbl1, hc, hok⟩ := (hD.below hb).look hkr
          obtain ⟨ok1, ok2, ok3⟩ := hok
          have hmem : rs[k].xs ∈ rowNums rs := List.mem_map_of_mem (List.getElem_mem hkr)
          obtain ⟨hl1, hl2⟩ := HPT.out _ hmem
          have hget := rowNums_get hkr
          have hlk : k < (rowNums rs).length := by have := HLS.out; omega
          have hnx := back_next hlk
          rw [hget] at hnx
          generalize rs[k] = r at hc ok1 ok2 ok3 hl1 hl2 hnx hmem hget
          obtain ⟨B1, n1, d1, x1⟩ := r
          dsimp only at hc ok1 ok2 ok3 hl1 hl2 hnx
          subst ok2
          have hBs : B1 = none → d1 = 0 := by
            intro e
            subst e
            rcases ok1 with h | ⟨b, o, h, -⟩
            · have : x1 = [] := by simpa [nums] using h
              subst this
              simp at hl1
            · cases h
          have hwk : IntKind.i64.wrap ((k : Int) - 1) = (k : Int) - 1 := IntWalk.i64_in _ (by omega)
          have hn1 : x1.length ≤ 8 := by omega
          have HRA := Lib.hid hra
          have HNX := Lib.hid hnx
          have HH := Lib.hid hh
          have HB := Lib.hid hb
          have HO1 := Lib.hid ok1
          have hbs : w.heap.size ≤ wr.heap.size := hb.size
          clear hra hnx hh hb ok1 hmem hget
          go_wp2_with fail
          refine (l1Own_any B1 x1.length d1 x1 _ HO1.out rfl (by omega) hBs).mono ?_
          rintro e w3 ⟨A2, q2, rfl, hown2, hb2⟩
          have hbs2 : wr.heap.size ≤ w3.heap.size := hb2.size
          have HOWN := Lib.hid ((HH.out.below hb2).alloc (.cells #[.slice A2 x1.length q2] 22)).1
          have HF := Lib.hid (Fresh.of_own hown2 (Nat.le_refl _))
          have HB2 := Lib.hid hb2
          have HMAX := Lib.hid (show acc.length + 1 ≤ maxLen by unfold maxLen; omega)
          have HBYT := Lib.hid (show (acc.length + 1) * 24 ≤ 140737488355328 by omega)
          have HBASE := Lib.hid (show w.heap.size ≤ (w3.alloc (.cells #[.slice A2 x1.length q2] 22)).heap.size by simp; omega)
          clear hown2 hb2
          go_wp2_with (at_builtin; refine wpList_append_lies _ rfl (.tmp 24) (.tmp 30) 44 rfl w.heap.size 22 i0 (.slice none 0 0) 1 24 Try.underlying44 HI.out HZ0.out HZ1.out HZ2.out rfl (by decide) (.slice E acc.length d) acc.length (rowVals acc) rfl HOWN.out ⟨w3.heap.size, 0, none⟩ 1 1 [.slice A2 x1.length q2] rfl rfl (cell_one_new _ _ _) (by simp [Value.oneCell']) (by decide) HMAX.out HBYT.out HBASE.out (w3.heap.size + 1) (by simp) ?_; intro g cap w4 hown4 hg4 hat hlt)
          obtain ⟨A3, q3, hv3, hf3⟩ := HF.out
          simp only [Value.slice.injEq, true_and] at hv3
          obtain ⟨rfl, rfl⟩ := hv3
          have HP2 := Lib.hid (Heads.push (r := ⟨A2, x1.length, q2, x1⟩) HH.out hbs HB2.out hf3 rfl (by show x1.length ≤ _; omega) hown4 hg4 hat)
          have HBN := Lib.hid (((below_then HB.out HB2.out hbs).alloc (by omega) (.cells #[.slice A2 x1.length q2] 22)).grown hg4 HBASE.out (fun kk hkk => (HOWN.out.lt kk hkk).1))
          clear hown4 hg4 hat hlt hf3
          go_roundw
          case rel => exact ⟨(k : Int) - 1, some ⟨g, 0, none⟩, cap, acc ++ [⟨A2, x1.length, q2, x1⟩], by omega, by omega, by go_num, by simp, by simp; omega, by rw [show ((k : Int) - 1 + 1).toNat = k by omega, HNX.out, show rowNums (acc ++ [⟨A2, x1.length, q2, x1⟩]) = rowNums acc ++ [x1] by simp [rowNums], HRA.out]; rfl, HP2.out, HBN.out⟩
          case measure => simp [intOf]
        · obtain rfl : y = -1 := by omega
          have HH := Lib.hid hh
          have HRA := Lib.hid hra
          clear hh hra
          go_wp2
          go_ret2
          exact ⟨E, acc.length, d, acc, rfl, by rw [HRA.out]; rfl, rfl, HH.out.free, hb⟩
end Go.Proofs.Ytionmcgaicijkaa
