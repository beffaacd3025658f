/-
  What is proved: a contract of the model's camp behind a round. Conditions: the list is a round there; the arguments are read as they lie.
  What is proved: plain facts on lists of lists of lists of numbers in memory, and on rounds made one after the other. Conditions: none.
  What is proved: contracts of the program's groups carried over (carry, addAll over sites, from). Conditions: the groups' people are some of the night's.
  What is proved: contracts of the program's groups carried over, one after the other (addAll over sites), and of the camp behind an outing (from). Conditions: the groups' people are some of the night's; no two groups have anybody in common, and each is on one side.
  What is proved: a contract of the program's camp behind rounds (follow). Conditions: the night is one, the camp one of it; the lists are read as they lie.
  What is proved: plain facts on a struct of the call's own that is handed back by a call in a statement whose order is open. Conditions: none.
  What is proved: contracts of RoundAfter, of the model and of the program, and of the program's RoundsAfter. Conditions: the arguments are read as they lie.
-/
import Derived.Deep.DeepCutAuto
import Derived.Test.YtifaadjbkbdbnaaJ4CanRound
set_option linter.unusedSimpArgs false
set_option linter.unusedVariables false
namespace Go.Proofs.Ytifaadjbkbdbnaa
open Go.RowKit

theorem flipped_snoc (bs : List Bool) (l : List Int) {x : Int} (h0 : 0 ≤ x) : (flipped bs l).set x.toNat (!(bs.getD x.toNat false)) = flipped bs (l ++ [x]) := by
  have h := flipped_next bs (l := l ++ [x]) (j := l.length) (by simp) (by simpa using h0)
  rw [show (l ++ [x]).take (l.length + 1) = l ++ [x] from List.take_of_length_le (by simp)] at h
  simpa using h

/-- What stands behind the model's copy of the state. -/
def AfterMid (m : Nat) (bs : List Bool) (u : Int) (b o d : Nat) (w : World) (v : Value) (wx : World) : Prop :=
  ∃ (g c lo hi : Nat) (A : Option Addr), v = .pointer (some ⟨g, 0, none⟩) ∧ w.heap.size + 1 + 1 ≤ g ∧ w.heap.size + 1 + 1 ≤ lo ∧ (g < lo ∨ hi ≤ g) ∧ hi ≤ wx.heap.size ∧ Whole wx g 56 #[.slice A m c, .int .i64 u] ∧ Fresh wx lo hi 4 A (bits bs) ∧ Whole wx w.heap.size 56 #[.slice (some ⟨b, o, none⟩) m d, .int .i64 u] ∧ Whole wx (w.heap.size + 1) 56 #[.slice none 0 0, .int .i64 0] ∧ Below w.heap.size w wx

set_option maxHeartbeats 6400000 in
set_option maxRecDepth 100000 in
set_option linter.unusedVariables false in
theorem toAfter_any (b o m d : Nat) (D : Option Addr) (q z n : Nat) (bs : List Bool) (rs : List RowV) (u : Int) (w : World) (hB : ∀ j x, (bits bs)[j]? = some x → w.cell? ⟨b, o + j, none⟩ = some x) (hy : bs.length = m) (hm0 : 0 < m) (hm : m ≤ 8) (hmn : m = n)
    (hD : Grid w D rs) (hz : rs.length = q) (hq : q ≤ 8) (hl : ∀ k (hk : k < (rowNums rs).length), StepsTo (rowNums rs)[k] ((n : Int) - 1) (rowNums rs)[k].length ∧ 0 < (rowNums rs)[k].length) (hsd : ∀ k (hk : k < (rowNums rs).length), sided bs (rowNums rs)[k] = true) (hu : -1048576 ≤ u ∧ u ≤ 1048576) :
    Calls Try.prog 92 #[.agg #[.slice (some ⟨b, o, none⟩) m d, .int .i64 u], .slice D q z] w (CampRes (flipped bs (flat (rowNums rs))) (u + nearN bs (rowNums rs) - farN bs (rowNums rs)) w) := by
  have HMN := Lib.hid hmn
  have HSD := Lib.hid hsd
  clear hmn hsd
  obtain ⟨i0, hi, hz0, hz1, hz2⟩ := info_parts info_bool
  have HI := Lib.hid hi
  have HZ0 := Lib.hid hz0
  have HZ1 := Lib.hid hz1
  have HZ2 := Lib.hid hz2
  have HB := Lib.hid hB
  have HY := Lib.hid hy
  have HL := Lib.hid hl
  have HZ := Lib.hid hz
  have hp := (Whole.fresh w 56 #[.slice (some ⟨b, o, none⟩) m d, .int .i64 u]).alloc (.cells #[.slice none 0 0, .int .i64 0] 56)
  obtain ⟨c0, c1, -, -⟩ := hp.two
  clear hi hz0 hz1 hz2 hB hy hl hz
  have hB1 : ∀ j x, (bits bs)[j]? = some x → World.cell? (World.drew (((w.alloc (.cells #[.slice (some ⟨b, o, none⟩) m d, .int .i64 u] 56)).alloc (.cells #[.slice none 0 0, .int .i64 0] 56)).alloc (.cells #[] 4))) ((⟨b, o, none⟩ : Addr).add j) = some x := fun j x hu => by
    rw [show (⟨b, o, none⟩ : Addr).add j = ⟨b, o + j, none⟩ from by unfold Addr.add; split <;> simp_all]
    have h := HB.out j x hu
    rw [← h]
    exact (below3 w _ _ _).cell (p := ⟨b, o + j, none⟩) (block_lt_of_cell h)
  have hB2 : ∀ j x, (bits bs)[j]? = some x → World.cell? (World.drew ((((w.alloc (.cells #[.slice (some ⟨b, o, none⟩) m d, .int .i64 u] 56)).alloc (.cells #[.slice none 0 0, .int .i64 0] 56)).alloc (.cells #[] 4)).alloc (.cells #[.slice none 0 0, .int .i64 0] 56))) ((⟨b, o, none⟩ : Addr).add j) = some x := fun j x hu => by
    rw [show (⟨b, o, none⟩ : Addr).add j = ⟨b, o + j, none⟩ from by unfold Addr.add; split <;> simp_all]
    have h := HB.out j x hu
    rw [← h]
    exact (below4 w _ _ _ _).cell (p := ⟨b, o + j, none⟩) (block_lt_of_cell h)
  have hB3 : ∀ j x, (bits bs)[j]? = some x → World.cell? (World.drew ((((w.alloc (.cells #[.slice (some ⟨b, o, none⟩) m d, .int .i64 u] 56)).alloc (.cells #[.slice none 0 0, .int .i64 0] 56)).alloc (.cells #[.slice none 0 0, .int .i64 0] 56)).alloc (.cells #[] 4))) ((⟨b, o, none⟩ : Addr).add j) = some x := fun j x hu => by
    rw [show (⟨b, o, none⟩ : Addr).add j = ⟨b, o + j, none⟩ from by unfold Addr.add; split <;> simp_all]
    have h := HB.out j x hu
    rw [← h]
    exact (below4 w _ _ _ _).cell (p := ⟨b, o + j, none⟩) (block_lt_of_cell h)
  have HN3 := Lib.hid hB3
  have HN1 := Lib.hid hB1
  have HN2 := Lib.hid hB2
  have HLEN := Lib.hid (show (bits bs).length = m * 1 by rw [bits_len, HY.out, Nat.mul_one])
  have HONE := Lib.hid (bits_one bs)
  have HP1 := Lib.hid (hp.alloc (.cells #[] 4)).drew
  have HP2 := Lib.hid ((hp.alloc (.cells #[] 4)).alloc (.cells #[.slice none 0 0, .int .i64 0] 56)).drew
  have HP3 := Lib.hid ((hp.alloc (.cells #[.slice none 0 0, .int .i64 0] 56)).alloc (.cells #[] 4)).drew
  have hr := Whole.fresh (w.alloc (.cells #[.slice (some ⟨b, o, none⟩) m d, .int .i64 u] 56)) 56 #[.slice none 0 0, .int .i64 0]
  rw [World.size_alloc] at hr
  have HR1 := Lib.hid (hr.alloc (.cells #[] 4)).drew
  have HR2 := Lib.hid ((hr.alloc (.cells #[] 4)).alloc (.cells #[.slice none 0 0, .int .i64 0] 56)).drew
  have HR3 := Lib.hid ((hr.alloc (.cells #[.slice none 0 0, .int .i64 0] 56)).alloc (.cells #[] 4)).drew
  have hq3 := (Whole.fresh ((w.alloc (.cells #[.slice (some ⟨b, o, none⟩) m d, .int .i64 u] 56)).alloc (.cells #[.slice none 0 0, .int .i64 0] 56)) 56 #[.slice none 0 0, .int .i64 0]).alloc (.cells #[] 4)
  simp only [World.size_alloc] at hq3
  have HQ3 := Lib.hid hq3.drew
  have HB3 := Lib.hid ((below4 w (.cells #[.slice (some ⟨b, o, none⟩) m d, .int .i64 u] 56) (.cells #[.slice none 0 0, .int .i64 0] 56) (.cells #[.slice none 0 0, .int .i64 0] 56) (.cells #[] 4)).drew)
  have hq2 := Whole.fresh (((w.alloc (.cells #[.slice (some ⟨b, o, none⟩) m d, .int .i64 u] 56)).alloc (.cells #[.slice none 0 0, .int .i64 0] 56)).alloc (.cells #[] 4)) 56 #[.slice none 0 0, .int .i64 0]
  simp only [World.size_alloc] at hq2
  have HQ2 := Lib.hid hq2.drew
  have HB1 := Lib.hid ((below3 w (.cells #[.slice (some ⟨b, o, none⟩) m d, .int .i64 u] 56) (.cells #[.slice none 0 0, .int .i64 0] 56) (.cells #[] 4)).drew)
  have HB2 := Lib.hid ((below4 w (.cells #[.slice (some ⟨b, o, none⟩) m d, .int .i64 u] 56) (.cells #[.slice none 0 0, .int .i64 0] 56) (.cells #[] 4) (.cells #[.slice none 0 0, .int .i64 0] 56)).drew)
  clear hB1 hB2 hB3 hp hr hq2 hq3
  go_enter Try.func92, Try.ntmps92
  go_upto_region 1 with fail
  go_cut [5] (fun s5 wx => AfterMid m bs u b o d w s5 wx)
  case first =>
    go_region_law (first | (refine step_append_grows rfl (.tmp 10) (.tmp 12) 25 rfl 4 i0 (.bool false) 1 1 Try.underlying25 HI.out HZ0.out HZ1.out HZ2.out rfl (by decide) (some ⟨w.heap.size + 1 + 1, 0, none⟩) 0 0 [] rfl (by intro h; cases h) rfl (by intro x hx j u hu; simp at hu) ⟨b, o, none⟩ m d (bits bs) rfl HLEN.out HN1.out HONE.out (by omega) (by unfold maxLen; omega) (by omega) ?_; intro v' w1 hown1 hg1; simp only [Nat.zero_add, List.nil_append] at hown1; obtain ⟨A, c, hv', hf⟩ := Fresh.of_own hown1 (Nat.le_refl _); subst hv'; have hp1 : Whole w1 w.heap.size 56 #[.slice (some ⟨b, o, none⟩) m d, .int .i64 u] := (hg1.block _ HP1.out.lt (fun e => by cases e)).trans HP1.out; have hr1 : Whole w1 (w.heap.size + 1) 56 #[.slice none 0 0, .int .i64 0] := (hg1.block _ HR1.out.lt (fun e => by cases e)).trans HR1.out; obtain ⟨k0, k1, -, -⟩ := hp1.two; have hbl := HB1.out.grown hg1 (by simp; omega) (fun k e => by cases e); obtain ⟨k2, k3, -, -⟩ := (hp1.alloc (.cells #[.slice none 0 0, .int .i64 0] 56)).two; have tok1 : True := trivial; clear hown1) | (refine step_append_grows rfl (.tmp 10) (.tmp 12) 25 rfl 4 i0 (.bool false) 1 1 Try.underlying25 HI.out HZ0.out HZ1.out HZ2.out rfl (by decide) (some ⟨w.heap.size + 1 + 1, 0, none⟩) 0 0 [] rfl (by intro h; cases h) rfl (by intro x hx j u hu; simp at hu) ⟨b, o, none⟩ m d (bits bs) rfl HLEN.out HN2.out HONE.out (by omega) (by unfold maxLen; omega) (by omega) ?_; intro v' w1 hown1 hg1; simp only [Nat.zero_add, List.nil_append] at hown1; obtain ⟨A, c, hv', hf⟩ := Fresh.of_own hown1 (Nat.le_refl _); subst hv'; have hp1 : Whole w1 w.heap.size 56 #[.slice (some ⟨b, o, none⟩) m d, .int .i64 u] := (hg1.block _ HP2.out.lt (fun e => by cases e)).trans HP2.out; have hr1 : Whole w1 (w.heap.size + 1) 56 #[.slice none 0 0, .int .i64 0] := (hg1.block _ HR2.out.lt (fun e => by cases e)).trans HR2.out; obtain ⟨k0, k1, -, -⟩ := hp1.two; have hbl := HB2.out.grown hg1 (by simp; omega) (fun k e => by cases e); have hq1 : Whole w1 (w.heap.size + 1 + 1 + 1) 56 #[.slice none 0 0, .int .i64 0] := (hg1.block _ HQ2.out.lt (fun e => by cases e)).trans HQ2.out; obtain ⟨k4, k5, k6, k7⟩ := hq1.two; have tok2 : True := trivial; clear hown1) | (refine step_append_grows rfl (.tmp 10) (.tmp 12) 25 rfl 4 i0 (.bool false) 1 1 Try.underlying25 HI.out HZ0.out HZ1.out HZ2.out rfl (by decide) (some ⟨w.heap.size + 1 + 1 + 1, 0, none⟩) 0 0 [] rfl (by intro h; cases h) rfl (by intro x hx j u hu; simp at hu) ⟨b, o, none⟩ m d (bits bs) rfl HLEN.out HN1.out HONE.out (by omega) (by unfold maxLen; omega) (by omega) ?_; intro v' w1 hown1 hg1; simp only [Nat.zero_add, List.nil_append] at hown1; obtain ⟨A, c, hv', hf⟩ := Fresh.of_own hown1 (Nat.le_refl _); subst hv'; have hp1 : Whole w1 w.heap.size 56 #[.slice (some ⟨b, o, none⟩) m d, .int .i64 u] := (hg1.block _ HP1.out.lt (fun e => by cases e)).trans HP1.out; have hr1 : Whole w1 (w.heap.size + 1) 56 #[.slice none 0 0, .int .i64 0] := (hg1.block _ HR1.out.lt (fun e => by cases e)).trans HR1.out; obtain ⟨k0, k1, -, -⟩ := hp1.two; have hbl := HB1.out.grown hg1 (by simp; omega) (fun k e => by cases e); obtain ⟨k2, k3, -, -⟩ := (hp1.alloc (.cells #[.slice none 0 0, .int .i64 0] 56)).two; have tok1 : True := trivial; clear hown1) | (refine step_append_grows rfl (.tmp 10) (.tmp 12) 25 rfl 4 i0 (.bool false) 1 1 Try.underlying25 HI.out HZ0.out HZ1.out HZ2.out rfl (by decide) (some ⟨w.heap.size + 1 + 1 + 1, 0, none⟩) 0 0 [] rfl (by intro h; cases h) rfl (by intro x hx j u hu; simp at hu) ⟨b, o, none⟩ m d (bits bs) rfl HLEN.out HN3.out HONE.out (by omega) (by unfold maxLen; omega) (by omega) ?_; intro v' w1 hown1 hg1; simp only [Nat.zero_add, List.nil_append] at hown1; obtain ⟨A, c, hv', hf⟩ := Fresh.of_own hown1 (Nat.le_refl _); subst hv'; have hp1 : Whole w1 w.heap.size 56 #[.slice (some ⟨b, o, none⟩) m d, .int .i64 u] := (hg1.block _ HP3.out.lt (fun e => by cases e)).trans HP3.out; have hr1 : Whole w1 (w.heap.size + 1) 56 #[.slice none 0 0, .int .i64 0] := (hg1.block _ HR3.out.lt (fun e => by cases e)).trans HR3.out; obtain ⟨k0, k1, -, -⟩ := hp1.two; have hbl := HB3.out.grown hg1 (by simp; omega) (fun k e => by cases e); have hq1 : Whole w1 (w.heap.size + 1 + 1) 56 #[.slice none 0 0, .int .i64 0] := (hg1.block _ HQ3.out.lt (fun e => by cases e)).trans HQ3.out; obtain ⟨k4, k5, k6, k7⟩ := hq1.two; have tok3 : True := trivial; clear hown1))
    all_goals (clear HN1 HN2 HN3 HP1 HP2 HP3 HR1 HR2 HR3 HQ2 HQ3 HB1 HB2 HB3 HLEN HONE HI HZ0 HZ1 HZ2 HB)
    all_goals (go_wp2_with fail; go_meet)
    all_goals (have hr1l := hr1.lt)
    all_goals (first | (have _t := tok1; exact ⟨w1.heap.size, c, _, w1.heap.size, A, rfl, by omega, by simp, .inr (Nat.le_refl _), by simp, Whole.fresh _ _ _, hf.alloc _, hp1.alloc _, hr1.alloc _, hbl.alloc hbl.size _⟩) | (have _t := tok2; exact ⟨w.heap.size + 1 + 1 + 1, c, _, w1.heap.size, A, rfl, by omega, by simp, .inl (by simp), by simp [World.setCell], (hq1.set_ 0 _).set_ 1 _, (hf.set_out (.inl (by simp))).set_out (.inl (by simp)), (hp1.off (by omega)).off (by omega), (hr1.off (by omega)).off (by omega), below_set (below_set hbl (by omega)) (by omega)⟩) | (have _t := tok3; exact ⟨w.heap.size + 1 + 1, c, _, w1.heap.size, A, rfl, by omega, by simp, .inl (by simp), by simp [World.setCell], (hq1.set_ 0 _).set_ 1 _, (hf.set_out (.inl (by simp))).set_out (.inl (by simp)), (hp1.off (by omega)).off (by omega), (hr1.off (by omega)).off (by omega), below_set (below_set hbl (by omega)) (by omega)⟩))
  case rest =>
    clear HN1 HN2 HN3 HP1 HP2 HP3 HR1 HR2 HR3 HQ2 HQ3 HB1 HB2 HB3 HLEN HONE HI HZ0 HZ1 HZ2 c0 c1
    obtain ⟨g, c, lo, hi, A, rfl, hg, hlo, hd, hhi, gw, hf, gp, gr, hb⟩ := hcut
    go_wp2
    have hF0 : Fresh wc lo hi 4 A (bits (flipped bs (flat ((rowNums rs).take 0)))) := by rw [List.take_zero]; show Fresh _ _ _ _ _ (bits (flipped bs [])); rw [flipped_nil]; exact hf
    have HRL := Lib.hid (rowNums_len rs)
    go_loopw [19] (fun i wr => ∃ k : Nat, k ≤ q ∧ i = .int .i64 k ∧ Whole wr g 56 #[.slice A m c, .int .i64 (u + nearN bs ((rowNums rs).take k) - farN bs ((rowNums rs).take k))] ∧ Fresh wr lo hi 4 A (bits (flipped bs (flat ((rowNums rs).take k)))) ∧ Whole wr w.heap.size 56 #[.slice (some ⟨b, o, none⟩) m d, .int .i64 u] ∧ Whole wr (w.heap.size + 1) 56 #[.slice none 0 0, .int .i64 0] ∧ Below w.heap.size w wr ∧ hi ≤ wr.heap.size) (fun i _ => q - (intOf i).toNat)
    case atStart => exact ⟨0, Nat.zero_le _, rfl, by simpa [nearN, farN] using gw, hF0, gp, gr, hb, hhi⟩
    case round =>
      clear gw hf gp gr hb hF0 hhi
      obtain ⟨k, hk, rfl, gw, hf, gp, gr, hb, hhi⟩ := hrel
      by_cases hlt : k < q
      · have hkr : k < rs.length := by have := HZ.out; omega
        have hkl : k < (rowNums rs).length := by have := HRL.out; omega
        obtain ⟨b1, o1, hDe, hbl1, hc, hrow⟩ := hD.look hkr
        replace hc := (hb.cell (p := ⟨b1, o1 + k, none⟩) hbl1).trans hc
        subst hDe
        have HGT := Lib.hid (rowNums_get hkr)
        have hll := HL.out k hkl
        have HST : Hid (StepsTo rs[k].xs ((n : Int) - 1) rs[k].xs.length) := by have := hll.1; rw [HGT.out] at this; exact this
        have hln : 0 < rs[k].xs.length := by have := hll.2; rw [HGT.out] at this; exact this
        have HRN : Hid (rs[k].xs.length = rs[k].n) := hrow.2.1
        have hrn9 : rs[k].n ≤ 9223372036854775807 := hrow.2.2
        have hrn0 : 0 < rs[k].n := by have := HRN.out; omega
        obtain ⟨br, or, hre, hbr, hcrs⟩ := nums_spot hrow.1 hln
        have HCR := Lib.hid hcrs
        rw [hre] at hc
        have hnl : nearN bs ((rowNums rs).take k) ≤ k := Nat.le_trans (near_le _ _) (by simp; omega)
        have hfl : farN bs ((rowNums rs).take k) ≤ k := Nat.le_trans (far_le _ _) (by simp; omega)
        obtain ⟨N1, hN1⟩ : ∃ N1, N1 = nearN bs ((rowNums rs).take k) := ⟨_, rfl⟩
        obtain ⟨N2, hN2⟩ : ∃ N2, N2 = farN bs ((rowNums rs).take k) := ⟨_, rfl⟩
        rw [← hN1, ← hN2] at gw
        rw [← hN1] at hnl
        rw [← hN2] at hfl
        have HN1 := Lib.hid hN1.symm
        have HN2 := Lib.hid hN2.symm
        clear hN1 hN2 hre hcrs hll hrow
        have hcr0 := (hb.cell (p := ⟨br, or + 0, none⟩) hbr).trans (HCR.out 0 hln)
        rw [Nat.add_zero] at hcr0
        have hm0' := mem_steps HST.out (List.getElem_mem hln)
        have hx0 : (rs[k].xs[0]).toNat < bs.length := by have := HY.out; have := HMN.out; omega
        have hz0 : rs[k].xs[0] < (m : Int) := by have := HY.out; have := HMN.out; omega
        have hz00 := hm0'.1
        have hblk := block_lt_of_cell (HB.out (rs[k].xs[0]).toNat _ (List.getElem?_eq_getElem (by rw [bits_len]; exact hx0)))
        have hcq : ∀ i, i < bs.length → wr.cell? ⟨b, o + i, none⟩ = some (.bool (bs.getD i false)) := fun i hi => by
          rw [hb.cell (p := ⟨b, o + i, none⟩) hblk]
          refine HB.out i _ ?_
          simp [bits, hi]
        have hv0 := hcq _ hx0
        obtain ⟨b0, hb0⟩ : ∃ b0, b0 = bs.getD (rs[k].xs[0]).toNat false := ⟨_, rfl⟩
        rw [← hb0] at hv0
        have hsa := sided_at hln b0 hb0
        have hsk := HSD.out k hkl
        rw [HGT.out, ← hsa] at hsk
        have hna := near_at hln b0 hb0 hsk
        have HCN : Hid ((b0 = false → nearN bs ((rowNums rs).take (k + 1)) = N1 + 1 ∧ farN bs ((rowNums rs).take (k + 1)) = N2) ∧ (b0 = true → nearN bs ((rowNums rs).take (k + 1)) = N1 ∧ farN bs ((rowNums rs).take (k + 1)) = N2 + 1)) := by
          constructor
          · rintro rfl
            have h := near_yes hkl (show allAt bs false (rowNums rs)[k] = true by rw [HGT.out]; exact hna)
            rw [HN1.out, HN2.out] at h
            exact h
          · rintro rfl
            have h := far_yes hkl (show allAt bs false (rowNums rs)[k] = false by rw [HGT.out]; exact hna) (show allAt bs true (rowNums rs)[k] = true by rw [HGT.out]; exact hsk)
            rw [HN1.out, HN2.out] at h
            exact h
        have HFN : Hid (flat ((rowNums rs).take (k + 1)) = flat ((rowNums rs).take k) ++ rs[k].xs) := by show _ = _; rw [flat_next hkl, HGT.out]
        obtain ⟨p0, p1, -, -⟩ := gp.two
        obtain ⟨a0, a1, x0, x1⟩ := gw.two
        have hglt := gw.lt
        have HHI := Lib.hid hhi
        have HF := Lib.hid hf
        have GW := Lib.hid gw
        have GP := Lib.hid gp
        have GR := Lib.hid gr
        clear hsa hsk hna hb0 hm0' hf hhi gw gp gr hcq
        cases b0
        · have HC2 := Lib.hid (HCN.out.1 rfl)
          go_wp2
          go_quiet (fail)
          go_wp2
          go_loopw [40] (fun i wi => ∃ j : Nat, j ≤ rs[k].n ∧ i = .int .i64 j ∧ Whole wi g 56 #[.slice A m c, .int .i64 (u + (N1 : Int) - (N2 : Int) + 1)] ∧ Fresh wi lo hi 4 A (bits (flipped bs (flat ((rowNums rs).take k) ++ rs[k].xs.take j))) ∧ Whole wi w.heap.size 56 #[.slice (some ⟨b, o, none⟩) m d, .int .i64 u] ∧ Whole wi (w.heap.size + 1) 56 #[.slice none 0 0, .int .i64 0] ∧ Below w.heap.size w wi ∧ hi ≤ wi.heap.size) (fun i _ => rs[k].n - (intOf i).toNat)
          case atStart => exact ⟨0, Nat.zero_le _, rfl, by simpa using (GW.out.below (below_draws (Below.refl _ _) _)).set_ 1 (.int .i64 (u + (N1 : Int) - (N2 : Int) + 1)), by simpa using (HF.out.below (below_draws (Below.refl _ _) _)).set_out (b := g) (o := 1) (u := .int .i64 (u + (N1 : Int) - (N2 : Int) + 1)) (by omega), (GP.out.below (below_draws (Below.refl _ _) _)).off (by omega), (GR.out.below (below_draws (Below.refl _ _) _)).off (by omega), below_set (below_draws hb _) (by omega), by simpa [World.setCell] using HHI.out⟩
          case round =>
            clear a0 a1 x0 x1 p0 p1 hc hcr0 hv0 HF GW GP GR HHI hb hglt
            obtain ⟨j, hj, rfl, gw, hf, gp, gr, hb, hhi⟩ := hrel
            by_cases hjt : j < rs[k].n
            · have hjl : j < rs[k].xs.length := by have := HRN.out; omega
              have hcrj := (hb.cell (p := ⟨br, or + j, none⟩) hbr).trans (HCR.out j hjl)
              have hmj := mem_steps HST.out (List.getElem_mem hjl)
              have hlow := hmj.1
              have hix : (rs[k].xs[j]).toNat < bs.length := by have := HY.out; have := HMN.out; omega
              have hup : rs[k].xs[j] < (m : Int) := by have := HY.out; have := HMN.out; omega
              obtain ⟨g1, u1, rfl, hg1, hg1', hg1l, hcell, hfr, hturn⟩ := hf.turn (k := (rs[k].xs[j]).toNat) (by rw [bits_len, flipped_len]; exact hix)
              have hsrc : wr.cell? ⟨b, o + (rs[k].xs[j]).toNat, none⟩ = some (.bool (bs.getD (rs[k].xs[j]).toNat false)) := by
                rw [hb.cell (p := ⟨b, o + (rs[k].xs[j]).toNat, none⟩) hblk]
                refine (HB.out (rs[k].xs[j]).toNat _ ?_)
                simp [bits, hix]
              have hnx : (flipped bs (flat ((rowNums rs).take k) ++ rs[k].xs.take j)).set (rs[k].xs[j]).toNat (!(bs.getD (rs[k].xs[j]).toNat false)) = flipped bs (flat ((rowNums rs).take k) ++ rs[k].xs.take (j + 1)) := by
                rw [flipped_snoc bs _ hlow, List.append_assoc, List.take_succ_eq_append_getElem hjl]
              obtain ⟨vj, hvj⟩ : ∃ vj, vj = bs.getD (rs[k].xs[j]).toNat false := ⟨_, rfl⟩
              rw [← hvj] at hsrc hnx
              have HT := Lib.hid (hturn (.bool (!vj)))
              have HNX := Lib.hid hnx
              obtain ⟨a0, a1, -, -⟩ := gw.two
              obtain ⟨p0, p1, -, -⟩ := gp.two
              have GW := Lib.hid gw
              have GP := Lib.hid gp
              have GR := Lib.hid gr
              clear hmj hf hturn gw gp gr hvj hnx
              go_wp2
              go_region
              all_goals
                go_wp2
                go_roundw
                case rel => exact ⟨j + 1, by omega, by go_num, (GW.out.off (by omega)).drew, by rw [← HNX.out]; have h := HT.out.drew; simpa [bits, List.map_set] using h, (GP.out.off (by omega)).drew, (GR.out.off (by omega)).drew, (below_set hb (by omega)).drew, by simpa [World.setCell] using hhi⟩
                case measure => simp [intOf]; omega
            · obtain rfl : j = rs[k].n := by omega
              have HE : Hid (flat ((rowNums rs).take k) ++ rs[k].xs.take rs[k].n = flat ((rowNums rs).take (k + 1))) := by
                show _ = _
                rw [HFN.out, List.take_of_length_le (l := rs[k].xs) (by have := HRN.out; omega)]
              have HUU : Hid (u + (N1 : Int) - (N2 : Int) + 1 = u + (nearN bs ((rowNums rs).take (k + 1)) : Int) - (farN bs ((rowNums rs).take (k + 1)) : Int)) := by show _ = _; rw [HC2.out.1, HC2.out.2]; omega
              rw [HE.out] at hf
              rw [HUU.out] at gw
              have GW := Lib.hid gw
              have HF := Lib.hid hf
              clear gw hf
              go_wp2
              go_roundw
              case rel => exact ⟨k + 1, by omega, by go_num, GW.out, HF.out, gp, gr, hb, hhi⟩
              case measure => simp [intOf]; omega
        · have HC2 := Lib.hid (HCN.out.2 rfl)
          go_wp2
          go_quiet (fail)
          go_wp2
          go_loopw [40] (fun i wi => ∃ j : Nat, j ≤ rs[k].n ∧ i = .int .i64 j ∧ Whole wi g 56 #[.slice A m c, .int .i64 (u + (N1 : Int) - (N2 : Int) - 1)] ∧ Fresh wi lo hi 4 A (bits (flipped bs (flat ((rowNums rs).take k) ++ rs[k].xs.take j))) ∧ Whole wi w.heap.size 56 #[.slice (some ⟨b, o, none⟩) m d, .int .i64 u] ∧ Whole wi (w.heap.size + 1) 56 #[.slice none 0 0, .int .i64 0] ∧ Below w.heap.size w wi ∧ hi ≤ wi.heap.size) (fun i _ => rs[k].n - (intOf i).toNat)
          case atStart => exact ⟨0, Nat.zero_le _, rfl, by simpa using (GW.out.below (below_draws (Below.refl _ _) _)).set_ 1 (.int .i64 (u + (N1 : Int) - (N2 : Int) - 1)), by simpa using (HF.out.below (below_draws (Below.refl _ _) _)).set_out (b := g) (o := 1) (u := .int .i64 (u + (N1 : Int) - (N2 : Int) - 1)) (by omega), (GP.out.below (below_draws (Below.refl _ _) _)).off (by omega), (GR.out.below (below_draws (Below.refl _ _) _)).off (by omega), below_set (below_draws hb _) (by omega), by simpa [World.setCell] using HHI.out⟩
          case round =>
            clear a0 a1 x0 x1 p0 p1 hc hcr0 hv0 HF GW GP GR HHI hb hglt
            obtain ⟨j, hj, rfl, gw, hf, gp, gr, hb, hhi⟩ := hrel
            by_cases hjt : j < rs[k].n
            · have hjl : j < rs[k].xs.length := by have := HRN.out; omega
              have hcrj := (hb.cell (p := ⟨br, or + j, none⟩) hbr).trans (HCR.out j hjl)
              have hmj := mem_steps HST.out (List.getElem_mem hjl)
              have hlow := hmj.1
              have hix : (rs[k].xs[j]).toNat < bs.length := by have := HY.out; have := HMN.out; omega
              have hup : rs[k].xs[j] < (m : Int) := by have := HY.out; have := HMN.out; omega
              obtain ⟨g1, u1, rfl, hg1, hg1', hg1l, hcell, hfr, hturn⟩ := hf.turn (k := (rs[k].xs[j]).toNat) (by rw [bits_len, flipped_len]; exact hix)
              have hsrc : wr.cell? ⟨b, o + (rs[k].xs[j]).toNat, none⟩ = some (.bool (bs.getD (rs[k].xs[j]).toNat false)) := by
                rw [hb.cell (p := ⟨b, o + (rs[k].xs[j]).toNat, none⟩) hblk]
                refine (HB.out (rs[k].xs[j]).toNat _ ?_)
                simp [bits, hix]
              have hnx : (flipped bs (flat ((rowNums rs).take k) ++ rs[k].xs.take j)).set (rs[k].xs[j]).toNat (!(bs.getD (rs[k].xs[j]).toNat false)) = flipped bs (flat ((rowNums rs).take k) ++ rs[k].xs.take (j + 1)) := by
                rw [flipped_snoc bs _ hlow, List.append_assoc, List.take_succ_eq_append_getElem hjl]
              obtain ⟨vj, hvj⟩ : ∃ vj, vj = bs.getD (rs[k].xs[j]).toNat false := ⟨_, rfl⟩
              rw [← hvj] at hsrc hnx
              have HT := Lib.hid (hturn (.bool (!vj)))
              have HNX := Lib.hid hnx
              obtain ⟨a0, a1, -, -⟩ := gw.two
              obtain ⟨p0, p1, -, -⟩ := gp.two
              have GW := Lib.hid gw
              have GP := Lib.hid gp
              have GR := Lib.hid gr
              clear hmj hf hturn gw gp gr hvj hnx
              go_wp2
              go_region
              all_goals
                go_wp2
                go_roundw
                case rel => exact ⟨j + 1, by omega, by go_num, (GW.out.off (by omega)).drew, by rw [← HNX.out]; have h := HT.out.drew; simpa [bits, List.map_set] using h, (GP.out.off (by omega)).drew, (GR.out.off (by omega)).drew, (below_set hb (by omega)).drew, by simpa [World.setCell] using hhi⟩
                case measure => simp [intOf]; omega
            · obtain rfl : j = rs[k].n := by omega
              have HE : Hid (flat ((rowNums rs).take k) ++ rs[k].xs.take rs[k].n = flat ((rowNums rs).take (k + 1))) := by
                show _ = _
                rw [HFN.out, List.take_of_length_le (l := rs[k].xs) (by have := HRN.out; omega)]
              have HUU : Hid (u + (N1 : Int) - (N2 : Int) - 1 = u + (nearN bs ((rowNums rs).take (k + 1)) : Int) - (farN bs ((rowNums rs).take (k + 1)) : Int)) := by show _ = _; rw [HC2.out.1, HC2.out.2]; omega
              rw [HE.out] at hf
              rw [HUU.out] at gw
              have GW := Lib.hid gw
              have HF := Lib.hid hf
              clear gw hf
              go_wp2
              go_roundw
              case rel => exact ⟨k + 1, by omega, by go_num, GW.out, HF.out, gp, gr, hb, hhi⟩
              case measure => simp [intOf]; omega
      · have hkq : (rowNums rs).take k = rowNums rs := List.take_of_length_le (by have := HZ.out; have := HRL.out; omega)
        rw [hkq] at hf gw
        have HF := Lib.hid ((hf.set_out (b := w.heap.size + 1) (o := 0) (u := .slice A m c) (.inl (by omega))).set_out (b := w.heap.size + 1) (o := 1) (u := .int .i64 (u + nearN bs (rowNums rs) - farN bs (rowNums rs))) (.inl (by omega)))
        have HS := Lib.hid (below_set (o := 1) (u := .int .i64 (u + nearN bs (rowNums rs) - farN bs (rowNums rs))) (below_set (o := 0) (u := .slice A m c) hb (show w.heap.size ≤ w.heap.size + 1 by omega)) (show w.heap.size ≤ w.heap.size + 1 by omega))
        obtain ⟨a0, a1, -, -⟩ := gw.two
        obtain ⟨r0, r1, f0, f1⟩ := gr.two
        have hrl := gr.lt
        clear hkq hf
        go_wp2
        refine bodyPost_ret (v := .agg #[.slice A m c, .int .i64 (u + nearN bs (rowNums rs) - farN bs (rowNums rs))]) (by simp [results, Try.results92, go_sem, r0, r1]) rfl ⟨A, c, by rw [flipped_len, HY.out], ?_, HS.out⟩
        exact HF.out.more (by omega) (by simpa [World.setCell] using hhi)
end Go.Proofs.Ytifaadjbkbdbnaa

namespace Go.Proofs.Ytifaadjbkbdbnaa
open Go.RowKit

/-- One list of lists among others. -/
structure GridV where
  A : Option Addr
  n : Nat
  c : Nat
  rs : List RowV
def GridV.val (g : GridV) : Value := .slice g.A g.n g.c
def gridVals (gs : List GridV) : List Value := gs.map GridV.val
def cubeNums (gs : List GridV) : List (List (List Int)) := gs.map fun g => rowNums g.rs
theorem gridVals_len (gs : List GridV) : (gridVals gs).length = gs.length := by simp [gridVals]
theorem cubeNums_len (gs : List GridV) : (cubeNums gs).length = gs.length := by simp [cubeNums]
def GridOk (w : World) (g : GridV) : Prop := Grid w g.A g.rs ∧ g.rs.length = g.n ∧ g.n ≤ 9223372036854775807
def Cube (w : World) (A : Option Addr) (gs : List GridV) : Prop := Holds w A (gridVals gs) ∧ ∀ g ∈ gs, GridOk w g
theorem GridOk.below {w w' : World} {g : GridV} (h : GridOk w g) (hb : Below w.heap.size w w') : GridOk w' g := ⟨h.1.below hb, h.2⟩
theorem Cube.below {w w' : World} {A : Option Addr} {gs : List GridV} (h : Cube w A gs) (hb : Below w.heap.size w w') : Cube w' A gs := ⟨h.1.below hb, fun g hg => (h.2 g hg).below hb⟩
theorem Cube.look {w : World} {A : Option Addr} {gs : List GridV} (h : Cube w A gs) {k : Nat} (hk : k < gs.length) :
    ∃ b o, A = some ⟨b, o, none⟩ ∧ b < w.heap.size ∧ w.cell? ⟨b, o + k, none⟩ = some (.slice gs[k].A gs[k].n gs[k].c) ∧ GridOk w gs[k] := by
  obtain ⟨b, o, hA, hb, hc⟩ := h.1.look (k := k) (by rw [gridVals_len]; exact hk)
  refine ⟨b, o, hA, hb, ?_, h.2 _ (List.getElem_mem hk)⟩
  rw [hc]
  simp [gridVals, GridV.val]
theorem cubeNums_get {gs : List GridV} {k : Nat} (hk : k < gs.length) : (cubeNums gs)[k]'(by rw [cubeNums_len]; exact hk) = rowNums gs[k].rs := by simp [cubeNums]

/-- Who is over and how many torches are, behind a round, and behind several. -/
def afterR (p : List Bool × Int) (G : List (List Int)) : List Bool × Int := (flipped p.1 (flat G), p.2 + nearN p.1 G - farN p.1 G)
def afterAll (p : List Bool × Int) (Gs : List (List (List Int))) : List Bool × Int := Gs.foldl afterR p
theorem afterAll_next {p : List Bool × Int} {Gs : List (List (List Int))} {k : Nat} (hk : k < Gs.length) : afterAll p (Gs.take (k + 1)) = afterR (afterAll p (Gs.take k)) Gs[k] := by
  rw [List.take_succ_eq_append_getElem hk, afterAll, List.foldl_append]; rfl
theorem afterAll_len (p : List Bool × Int) : ∀ Gs : List (List (List Int)), (afterAll p Gs).1.length = p.1.length := by
  intro Gs
  induction Gs generalizing p with
  | nil => rfl
  | cons G Gs ih => rw [afterAll, List.foldl_cons]; exact (ih (afterR p G)).trans (flipped_len _ _)
/-- Is the list number k a round where it comes? -/
noncomputable def playAt (n : Nat) (s t : Int) (p : List Bool × Int) (Gs : List (List (List Int))) (k : Nat) : Bool := canG n s t (afterAll p (Gs.take k)).1 (afterAll p (Gs.take k)).2 (Gs.getD k [])
noncomputable def playOk (n : Nat) (s t : Int) (p : List Bool × Int) (Gs : List (List (List Int))) : Bool := (List.range Gs.length).all (playAt n s t p Gs)
theorem playOk_no {n : Nat} {s t : Int} {p : List Bool × Int} {Gs : List (List (List Int))} {k : Nat} (hk : k < Gs.length) (h : playAt n s t p Gs k = false) : playOk n s t p Gs = false := by
  cases he : playOk n s t p Gs
  · rfl
  · rw [playOk, List.all_eq_true] at he
    rw [he k (List.mem_range.2 hk)] at h; cases h
theorem playOk_yes {n : Nat} {s t : Int} {p : List Bool × Int} {Gs : List (List (List Int))} (h : ∀ k, k < Gs.length → playAt n s t p Gs k = true) : playOk n s t p Gs = true := by
  rw [playOk, List.all_eq_true]; exact fun k hk => h k (List.mem_range.1 hk)
theorem playAt_get {n : Nat} {s t : Int} {p : List Bool × Int} {Gs : List (List (List Int))} {k : Nat} (hk : k < Gs.length) : playAt n s t p Gs k = canG n s t (afterAll p (Gs.take k)).1 (afterAll p (Gs.take k)).2 Gs[k] := by
  simp [playAt, hk]
theorem torch_in {n : Nat} {s t : Int} {bs : List Bool} {u : Int} {G : List (List Int)} (h : canG n s t bs u G = true) (hu : 0 ≤ u ∧ u ≤ t) : 0 ≤ u + nearN bs G - farN bs G ∧ u + nearN bs G - farN bs G ≤ t := by
  rw [canG, Bool.and_eq_true, Bool.and_eq_true, letsG, Bool.and_eq_true, Bool.and_eq_true, decide_eq_true_eq, decide_eq_true_eq] at h
  have := h.2.2.2
  omega
theorem torches_in {n : Nat} {s t : Int} {p : List Bool × Int} {Gs : List (List (List Int))} (hp : 0 ≤ p.2 ∧ p.2 ≤ t) : ∀ k, k ≤ Gs.length → (∀ j, j < k → playAt n s t p Gs j = true) → 0 ≤ (afterAll p (Gs.take k)).2 ∧ (afterAll p (Gs.take k)).2 ≤ t
  | 0, _, _ => by simpa [afterAll] using hp
  | k + 1, hk, h => by
    have ih := torches_in hp k (by omega) (fun j hj => h j (by omega))
    have hc := h k (by omega)
    rw [playAt_get (by omega)] at hc
    rw [afterAll_next (by omega)]
    exact torch_in hc ih
/-- The times of rounds together. -/
def timeAll (xs : List Int) (Gs : List (List (List Int))) : Int := (Gs.map fun G => slowOf xs (flat G)).sum
theorem timeAll_next {xs : List Int} {Gs : List (List (List Int))} {k : Nat} (hk : k < Gs.length) : timeAll xs (Gs.take (k + 1)) = timeAll xs (Gs.take k) + slowOf xs (flat Gs[k]) := by
  rw [timeAll, timeAll, List.take_succ_eq_append_getElem hk, List.map_append, List.sum_append]
  simp
theorem slowG_bd {xs : List Int} (h : ∀ y ∈ xs, 1 ≤ y ∧ y ≤ 1000) (l : List Int) : 0 ≤ slowOf xs l ∧ slowOf xs l ≤ 1000 := by
  have h0 := (slowOf_le xs l (slowOf xs l)).1 (Int.le_refl _)
  refine ⟨h0.1, (slowOf_le xs l 1000).2 ⟨by omega, fun x _ => ?_⟩⟩
  by_cases hx : x.toNat < xs.length
  · have := h _ (List.getElem_mem hx)
    simp [hx]; omega
  · simp [hx]
theorem timeAll_bd {xs : List Int} (h : ∀ y ∈ xs, 1 ≤ y ∧ y ≤ 1000) : ∀ Gs : List (List (List Int)), 0 ≤ timeAll xs Gs ∧ timeAll xs Gs ≤ 1000 * Gs.length := by
  intro Gs
  induction Gs with
  | nil => simp [timeAll]
  | cons G Gs ih =>
    have := slowG_bd h (flat G)
    simp only [timeAll, List.map_cons, List.sum_cons, List.length_cons] at ih ⊢
    omega
end Go.Proofs.Ytifaadjbkbdbnaa

namespace Go.Proofs.Ytifaadjbkbdbnaa
open Go.RowKit

theorem siteZ {w : World} {g : Nat} {ty : TypeId} {cs : Array Value} (h : Whole w g ty cs) :
    w.frozen? ⟨g, 0, none⟩ = false ∧ w.frozen? ⟨g, 1, none⟩ = false ∧ w.frozen? ⟨g, 2, none⟩ = false ∧ w.frozen? ⟨g, 3, none⟩ = false ∧ w.frozen? ⟨g, 4, none⟩ = false ∧ w.frozen? ⟨g, 5, none⟩ = false ∧ w.frozen? ⟨g, 6, none⟩ = false ∧ w.frozen? ⟨g, 7, none⟩ = false ∧ w.frozen? ⟨g, 8, none⟩ = false :=
  ⟨h.open_ 0, h.open_ 1, h.open_ 2, h.open_ 3, h.open_ 4, h.open_ 5, h.open_ 6, h.open_ 7, h.open_ 8⟩
theorem cross9_any (bs : List Bool) (f : Nat → Bool) (hf : f = (fun i => bs.getD i false)) (f2 : Nat → Bool) (l : List Int) (hf2 : f2 = (fun i => (flipped bs l).getD i false)) (t : Bool) (w : World) (h : ∀ i, bs.length ≤ i → has l i = false) :
    Calls Try.prog 146 #[.agg (pl9 f t), .agg (cells8 (has l))] w fun e w' => e = .returned (.agg (pl9 f2 (!t))) ∧ Below w.heap.size w w' := by
  subst hf hf2
  exact cross_any bs l t w h
/-- A crowd stored into a site. -/
def put8 (w : World) (g : Nat) (f : Nat → Bool) : World := (((((((w.setCell ⟨g, 0, none⟩ (.bool (f 0))).setCell ⟨g, 1, none⟩ (.bool (f 1))).setCell ⟨g, 2, none⟩ (.bool (f 2))).setCell ⟨g, 3, none⟩ (.bool (f 3))).setCell ⟨g, 4, none⟩ (.bool (f 4))).setCell ⟨g, 5, none⟩ (.bool (f 5))).setCell ⟨g, 6, none⟩ (.bool (f 6))).setCell ⟨g, 7, none⟩ (.bool (f 7))
theorem put8_site {w : World} {g : Nat} {ty : TypeId} {f : Nat → Bool} {v : Int} (f2 : Nat → Bool) (h : Whole w g ty #[.bool (f 0), .bool (f 1), .bool (f 2), .bool (f 3), .bool (f 4), .bool (f 5), .bool (f 6), .bool (f 7), .int .i64 v]) : Whole (put8 w g f2) g ty (si9 f2 v) := by
  have h9 := (((((((h.set_ 0 (.bool (f2 0))).set_ 1 (.bool (f2 1))).set_ 2 (.bool (f2 2))).set_ 3 (.bool (f2 3))).set_ 4 (.bool (f2 4))).set_ 5 (.bool (f2 5))).set_ 6 (.bool (f2 6))).set_ 7 (.bool (f2 7))
  simpa [si9, put8] using h9
theorem put8_off {w : World} {g k : Nat} {ty : TypeId} {cs : Array Value} (f2 : Nat → Bool) (h : Whole w k ty cs) (hk : k ≠ g) : Whole (put8 w g f2) k ty cs :=
  (((((((h.off hk).off hk).off hk).off hk).off hk).off hk).off hk).off hk
theorem put8_below {a w : World} {g : Nat} (f2 : Nat → Bool) (h : Below g a w) : Below g a (put8 w g f2) :=
  below_set (below_set (below_set (below_set (below_set (below_set (below_set (below_set h (Nat.le_refl _)) (Nat.le_refl _)) (Nat.le_refl _)) (Nat.le_refl _)) (Nat.le_refl _)) (Nat.le_refl _)) (Nat.le_refl _)) (Nat.le_refl _)
/-- How many torches are over behind a group. -/
def torchAfter (bs : List Bool) (u : Int) (l : List Int) : Int := if allAt bs true l then u - 1 else u + 1

set_option maxHeartbeats 12800000 in
set_option maxRecDepth 100000 in
set_option linter.unusedVariables false in
theorem carry9_any (n : Nat) (bs : List Bool) (f : Nat → Bool) (hf : f = (fun i => bs.getD i false)) (l : List Int) (f2 : Nat → Bool) (hf2 : f2 = (fun i => (flipped bs l).getD i false)) (u : Int) (w : World) (hn : n ≤ 8) (hbn : bs.length = n) (hst : StepsTo l ((n : Int) - 1) l.length) (hu : -1048576 ≤ u ∧ u ≤ 1048576) :
    Calls Try.prog 141 #[.agg (si9 f u), .agg (cells8 (has l))] w fun e w' => e = .returned (.agg (si9 f2 (torchAfter bs u l))) ∧ Below w.heap.size w w' := by
  have HF := Lib.hid hf
  have HF2 := Lib.hid hf2
  have HST := Lib.hid hst
  have HOUT : Hid (∀ i, bs.length ≤ i → has l i = false) := fun i hi => has_out hst (by omega)
  have hC := ((Whole.fresh w 103 (si9 f u)).alloc (.cells (cells8 (has l)) 92)).alloc (.cells (si9 (fun _ => false) 0) 103)
  have hx := (Whole.fresh (w.alloc (.cells (si9 f u) 103)) 92 (cells8 (has l))).alloc (.cells (si9 (fun _ => false) 0) 103)
  have hR := Whole.fresh ((w.alloc (.cells (si9 f u) 103)).alloc (.cells (cells8 (has l)) 92)) 103 (si9 (fun _ => false) 0)
  simp only [World.size_alloc] at hx hR
  have ht := below3 w (.cells (si9 f u) 103) (.cells (cells8 (has l)) 92) (.cells (si9 (fun _ => false) 0) 103)
  clear hf hf2 hst hbn
  unfold si9 cells8 at hC hx hR ht
  have e0 : si9 f u = #[.bool (f 0), .bool (f 1), .bool (f 2), .bool (f 3), .bool (f 4), .bool (f 5), .bool (f 6), .bool (f 7), .int .i64 u] := rfl
  have e1 : cells8 (has l) = #[.bool (has l 0), .bool (has l 1), .bool (has l 2), .bool (has l 3), .bool (has l 4), .bool (has l 5), .bool (has l 6), .bool (has l 7)] := rfl
  rw [e0, e1]
  clear e0 e1
  cases ha : allAt bs true l
  all_goals
    have HA := Lib.hid ha
    first
    | (have HTA : Hid (torchAfter bs u l = u + 1) := by show _ = _; rw [torchAfter, ha]; rfl)
    | (have HTA : Hid (torchAfter bs u l = u - 1) := by show _ = _; rw [torchAfter, ha]; rfl)
    clear ha
    rw [HTA.out]
  · go_enter Try.func141, Try.ntmps141
    go_wp2_with fail
    refine wp_region_held_drew (S := (fun w' => RowG (w.heap.size + 1) (has l) w' ∧ SiteS w.heap.size f u w')) (by kernel_rfl) ⟨rowG hx.drew, siteS hC.drew⟩ (fun hHeld => ?_)
    replace hC := hC.drew
    replace hx := hx.drew
    replace hR := hR.drew
    replace ht := ht.drew
    generalize hwd : World.drew _ = wd at hC hx hR ht hHeld ⊢
    clear hwd
    refine wpAnyH_take (i := 0) (v := ?_) rfl (by kernel_rfl) (by kernel_rfl) (by kernel_rfl) (fun _ _ _ h => h) (Or.inl ⟨rfl, ?_⟩) hHeld ?_
    rotate_left
    · intro w' hS; obtain ⟨⟨s0, s1, s2, s3, s4, s5, s6, s7⟩, ⟨q0, q1, q2, q3, q4, q5, q6, q7, q8⟩⟩ := hS; go_simp <;> with_reducible rfl
    simp only [Act.put, List.getElem_toArray, List.getElem_cons_succ, List.getElem_cons_zero, List.setIfInBounds_toArray, List.set_cons_succ, List.set_cons_zero]
    refine wpAnyH_take (i := 2) (v := ?_) rfl (by kernel_rfl) (by kernel_rfl) (by kernel_rfl) (fun _ _ _ h => h) (Or.inl ⟨rfl, ?_⟩) hHeld ?_
    rotate_left
    · intro w' hS; obtain ⟨⟨s0, s1, s2, s3, s4, s5, s6, s7⟩, ⟨q0, q1, q2, q3, q4, q5, q6, q7, q8⟩⟩ := hS; go_simp <;> with_reducible rfl
    simp only [Act.put, List.getElem_toArray, List.getElem_cons_succ, List.getElem_cons_zero, List.setIfInBounds_toArray, List.set_cons_succ, List.set_cons_zero]
    refine wpAnyH_ready (rs := [1]) (by kernel_rfl) (by simp) (AllReadyH.cons rfl (fun K hK => ?_) AllReadyH.nil)
    go_simp
    have hsd := side9_any f u true wd
    unfold si9 pl9 at hsd
    refine hsd.mono ?_
    clear hsd
    rintro e w5 ⟨rfl, hbb⟩
    replace hC := hC.below hbb
    replace hx := hx.below hbb
    replace hR := hR.below hbb
    replace ht := below_then ht hbb ht.size
    clear hbb
    refine hK.out _ _ ⟨rowG hx, siteS hC⟩ (fun hHeld => ?_)
    clear hK K
    try simp only [Act.put, List.getElem_toArray, List.getElem_cons_succ, List.getElem_cons_zero, List.setIfInBounds_toArray, List.set_cons_succ, List.set_cons_zero]
    refine wpAnyH_ready (rs := [3]) (by kernel_rfl) (by simp) (AllReadyH.cons rfl (fun K hK => ?_) AllReadyH.nil)
    go_simp
    have hhd := holds9_any n bs f HF.out l true w5 HST.out hn
    unfold pl9 cells8 at hhd
    refine hhd.mono ?_
    clear hhd
    rintro e w6 ⟨rfl, hbb⟩
    replace hC := hC.below hbb
    replace hx := hx.below hbb
    replace hR := hR.below hbb
    replace ht := below_then ht hbb ht.size
    clear hbb
    refine hK.out _ _ ⟨rowG hx, siteS hC⟩ (fun hHeld => ?_)
    clear hK K
    try simp only [Act.put, List.getElem_toArray, List.getElem_cons_succ, List.getElem_cons_zero, List.setIfInBounds_toArray, List.set_cons_succ, List.set_cons_zero]
    refine wpAnyH_done (by kernel_rfl) ?_ _
    clear hHeld
    rw [HA.out]
    have hCc := hC
    obtain ⟨z0, z1, z2, z3, z4, z5, z6, z7, z8⟩ := siteZ hC
    obtain ⟨y0, y1, y2, y3, y4, y5, y6, y7, y8⟩ := siteS hC
    have hlr := hR.lt
    replace hC := hC.set_ 8 (.int .i64 (u + 1))
    replace hx := hx.off (b := w.heap.size) (o := 8) (u := .int .i64 (u + 1)) (by omega)
    replace hR := hR.off (b := w.heap.size) (o := 8) (u := .int .i64 (u + 1)) (by omega)
    replace ht := below_set ht (b := w.heap.size) (o := 8) (u := .int .i64 (u + 1)) (Nat.le_refl _)
    go_wp2_with fail
    clear z0 z1 z2 z3 z4 z5 z6 z7 z8 y0 y1 y2 y3 y4 y5 y6 y7 y8 hCc
    generalize World.setCell _ _ _ = wm at hC hx hR ht ⊢
    replace hC : Whole wm w.heap.size 103 (si9 f (u + 1)) := by simpa [si9] using hC
    unfold si9 at hC
    have hfd : ∀ W, (Instr.field 94 (.agg #[.bool (f2 0), .bool (f2 1), .bool (f2 2), .bool (f2 3), .bool (f2 4), .bool (f2 5), .bool (f2 6), .bool (f2 7), .bool true]) 0).run Try.prog W = .ok (.agg #[.bool (f2 0), .bool (f2 1), .bool (f2 2), .bool (f2 3), .bool (f2 4), .bool (f2 5), .bool (f2 6), .bool (f2 7)]) W := fun _ => by kernel_rfl
    obtain ⟨y0, y1, y2, y3, y4, y5, y6, y7, y8⟩ := siteS hC
    obtain ⟨x0, x1, x2, x3, x4, x5, x6, x7⟩ := rowG hx
    have hzm := ht.size
    go_region_law (first | (go_simp; go_at_call 132; (have hsd := side9_any f (u + 1) false wm.drew); unfold si9 pl9 at hsd; refine hsd.mono ?_; rintro e w7 ⟨rfl, hb7⟩; have hC7 := hC.drew.below hb7; have hx7 := hx.drew.below hb7; have hR7 := hR.drew.below hb7; have ht7 := below_then ht.drew hb7 ht.size; obtain ⟨a0, a1, a2, a3, a4, a5, a6, a7⟩ := rowG hx7; clear hsd) | (go_simp; go_at_call 146; (have hcr := cross9_any bs f HF.out f2 l HF2.out false w7 HOUT.out); unfold pl9 cells8 at hcr; refine hcr.mono ?_; rintro e w8 ⟨rfl, hb8⟩; have hC8 := hC7.below hb8; have hR8 := hR7.below hb8; have ht8 := below_then ht7 hb8 ht7.size; obtain ⟨z0, z1, z2, z3, z4, z5, z6, z7, z8⟩ := siteZ hC8; obtain ⟨b0, b1, b2, b3, b4, b5, b6, b7, b8⟩ := siteS hC8; clear hcr))
    all_goals
      have hC9 := put8_site f2 hC8
      have hR9 := put8_off (g := w.heap.size) f2 hR8 (by omega)
      have ht9 := put8_below f2 ht8
      unfold put8 at hC9 hR9 ht9
      clear z0 z1 z2 z3 z4 z5 z6 z7 z8 b0 b1 b2 b3 b4 b5 b6 b7 b8 a0 a1 a2 a3 a4 a5 a6 a7 y0 y1 y2 y3 y4 y5 y6 y7 y8 x0 x1 x2 x3 x4 x5 x6 x7 hC8 hC7 hC hx hx7 hR hR7 hR8 hfd
      generalize World.setCell _ ⟨w.heap.size, 7, none⟩ (.bool (f2 7)) = w9 at hC9 hR9 ht9 ⊢
      go_wp2_with (first | (refine wpList_load_row rfl 103 (.tmp 2) rfl w.heap.size rfl 103 (si9 f2 (u + 1)) (0, 0) _ hC9 Try.underlying103 rfl size_site ?_) | (refine wpList_store_whole rfl 103 (.tmp 4) (.tmp 23) rfl (w.heap.size + 1 + 1) (si9 f2 (u + 1)) rfl rfl 103 _ hR9 size_site rfl (si9_one _ _) ?_; intro w9 hw9 ho9))
      have hb9 := ho9.below ht9 (by omega)
      obtain ⟨r0, r1, r2, r3, r4, r5, r6, r7, r8⟩ := siteS hw9
      refine bodyPost_ret (v := .agg (si9 f2 (u + 1))) (by simp [results, Try.results141, go_sem, r0, r1, r2, r3, r4, r5, r6, r7, r8, si9]) rfl ⟨rfl, hb9⟩


  · go_enter Try.func141, Try.ntmps141
    go_wp2_with fail
    refine wp_region_held_drew (S := (fun w' => RowG (w.heap.size + 1) (has l) w' ∧ SiteS w.heap.size f u w')) (by kernel_rfl) ⟨rowG hx.drew, siteS hC.drew⟩ (fun hHeld => ?_)
    replace hC := hC.drew
    replace hx := hx.drew
    replace hR := hR.drew
    replace ht := ht.drew
    generalize hwd : World.drew _ = wd at hC hx hR ht hHeld ⊢
    clear hwd
    refine wpAnyH_take (i := 0) (v := ?_) rfl (by kernel_rfl) (by kernel_rfl) (by kernel_rfl) (fun _ _ _ h => h) (Or.inl ⟨rfl, ?_⟩) hHeld ?_
    rotate_left
    · intro w' hS; obtain ⟨⟨s0, s1, s2, s3, s4, s5, s6, s7⟩, ⟨q0, q1, q2, q3, q4, q5, q6, q7, q8⟩⟩ := hS; go_simp <;> with_reducible rfl
    simp only [Act.put, List.getElem_toArray, List.getElem_cons_succ, List.getElem_cons_zero, List.setIfInBounds_toArray, List.set_cons_succ, List.set_cons_zero]
    refine wpAnyH_take (i := 2) (v := ?_) rfl (by kernel_rfl) (by kernel_rfl) (by kernel_rfl) (fun _ _ _ h => h) (Or.inl ⟨rfl, ?_⟩) hHeld ?_
    rotate_left
    · intro w' hS; obtain ⟨⟨s0, s1, s2, s3, s4, s5, s6, s7⟩, ⟨q0, q1, q2, q3, q4, q5, q6, q7, q8⟩⟩ := hS; go_simp <;> with_reducible rfl
    simp only [Act.put, List.getElem_toArray, List.getElem_cons_succ, List.getElem_cons_zero, List.setIfInBounds_toArray, List.set_cons_succ, List.set_cons_zero]
    refine wpAnyH_ready (rs := [1]) (by kernel_rfl) (by simp) (AllReadyH.cons rfl (fun K hK => ?_) AllReadyH.nil)
    go_simp
    have hsd := side9_any f u true wd
    unfold si9 pl9 at hsd
    refine hsd.mono ?_
    clear hsd
    rintro e w5 ⟨rfl, hbb⟩
    replace hC := hC.below hbb
    replace hx := hx.below hbb
    replace hR := hR.below hbb
    replace ht := below_then ht hbb ht.size
    clear hbb
    refine hK.out _ _ ⟨rowG hx, siteS hC⟩ (fun hHeld => ?_)
    clear hK K
    try simp only [Act.put, List.getElem_toArray, List.getElem_cons_succ, List.getElem_cons_zero, List.setIfInBounds_toArray, List.set_cons_succ, List.set_cons_zero]
    refine wpAnyH_ready (rs := [3]) (by kernel_rfl) (by simp) (AllReadyH.cons rfl (fun K hK => ?_) AllReadyH.nil)
    go_simp
    have hhd := holds9_any n bs f HF.out l true w5 HST.out hn
    unfold pl9 cells8 at hhd
    refine hhd.mono ?_
    clear hhd
    rintro e w6 ⟨rfl, hbb⟩
    replace hC := hC.below hbb
    replace hx := hx.below hbb
    replace hR := hR.below hbb
    replace ht := below_then ht hbb ht.size
    clear hbb
    refine hK.out _ _ ⟨rowG hx, siteS hC⟩ (fun hHeld => ?_)
    clear hK K
    try simp only [Act.put, List.getElem_toArray, List.getElem_cons_succ, List.getElem_cons_zero, List.setIfInBounds_toArray, List.set_cons_succ, List.set_cons_zero]
    refine wpAnyH_done (by kernel_rfl) ?_ _
    clear hHeld
    rw [HA.out]
    have hCc := hC
    obtain ⟨z0, z1, z2, z3, z4, z5, z6, z7, z8⟩ := siteZ hC
    obtain ⟨y0, y1, y2, y3, y4, y5, y6, y7, y8⟩ := siteS hC
    have hlr := hR.lt
    replace hC := hC.set_ 8 (.int .i64 (u - 1))
    replace hx := hx.off (b := w.heap.size) (o := 8) (u := .int .i64 (u - 1)) (by omega)
    replace hR := hR.off (b := w.heap.size) (o := 8) (u := .int .i64 (u - 1)) (by omega)
    replace ht := below_set ht (b := w.heap.size) (o := 8) (u := .int .i64 (u - 1)) (Nat.le_refl _)
    go_wp2_with fail
    clear z0 z1 z2 z3 z4 z5 z6 z7 z8 y0 y1 y2 y3 y4 y5 y6 y7 y8 hCc
    generalize World.setCell _ _ _ = wm at hC hx hR ht ⊢
    replace hC : Whole wm w.heap.size 103 (si9 f (u - 1)) := by simpa [si9] using hC
    unfold si9 at hC
    have hfd : ∀ W, (Instr.field 94 (.agg #[.bool (f2 0), .bool (f2 1), .bool (f2 2), .bool (f2 3), .bool (f2 4), .bool (f2 5), .bool (f2 6), .bool (f2 7), .bool true]) 0).run Try.prog W = .ok (.agg #[.bool (f2 0), .bool (f2 1), .bool (f2 2), .bool (f2 3), .bool (f2 4), .bool (f2 5), .bool (f2 6), .bool (f2 7)]) W := fun _ => by kernel_rfl
    obtain ⟨y0, y1, y2, y3, y4, y5, y6, y7, y8⟩ := siteS hC
    obtain ⟨x0, x1, x2, x3, x4, x5, x6, x7⟩ := rowG hx
    have hzm := ht.size
    go_region_law (first | (go_simp; go_at_call 132; (have hsd := side9_any f (u - 1) false wm.drew); unfold si9 pl9 at hsd; refine hsd.mono ?_; rintro e w7 ⟨rfl, hb7⟩; have hC7 := hC.drew.below hb7; have hx7 := hx.drew.below hb7; have hR7 := hR.drew.below hb7; have ht7 := below_then ht.drew hb7 ht.size; obtain ⟨a0, a1, a2, a3, a4, a5, a6, a7⟩ := rowG hx7; clear hsd) | (go_simp; go_at_call 146; (have hcr := cross9_any bs f HF.out f2 l HF2.out false w7 HOUT.out); unfold pl9 cells8 at hcr; refine hcr.mono ?_; rintro e w8 ⟨rfl, hb8⟩; have hC8 := hC7.below hb8; have hR8 := hR7.below hb8; have ht8 := below_then ht7 hb8 ht7.size; obtain ⟨z0, z1, z2, z3, z4, z5, z6, z7, z8⟩ := siteZ hC8; obtain ⟨b0, b1, b2, b3, b4, b5, b6, b7, b8⟩ := siteS hC8; clear hcr))
    all_goals
      have hC9 := put8_site f2 hC8
      have hR9 := put8_off (g := w.heap.size) f2 hR8 (by omega)
      have ht9 := put8_below f2 ht8
      unfold put8 at hC9 hR9 ht9
      clear z0 z1 z2 z3 z4 z5 z6 z7 z8 b0 b1 b2 b3 b4 b5 b6 b7 b8 a0 a1 a2 a3 a4 a5 a6 a7 y0 y1 y2 y3 y4 y5 y6 y7 y8 x0 x1 x2 x3 x4 x5 x6 x7 hC8 hC7 hC hx hx7 hR hR7 hR8 hfd
      generalize World.setCell _ ⟨w.heap.size, 7, none⟩ (.bool (f2 7)) = w9 at hC9 hR9 ht9 ⊢
      go_wp2_with (first | (refine wpList_load_row rfl 103 (.tmp 2) rfl w.heap.size rfl 103 (si9 f2 (u - 1)) (0, 0) _ hC9 Try.underlying103 rfl size_site ?_) | (refine wpList_store_whole rfl 103 (.tmp 4) (.tmp 23) rfl (w.heap.size + 1 + 1) (si9 f2 (u - 1)) rfl rfl 103 _ hR9 size_site rfl (si9_one _ _) ?_; intro w9 hw9 ho9))
      have hb9 := ho9.below ht9 (by omega)
      obtain ⟨r0, r1, r2, r3, r4, r5, r6, r7, r8⟩ := siteS hw9
      refine bodyPost_ret (v := .agg (si9 f2 (u - 1))) (by simp [results, Try.results141, go_sem, r0, r1, r2, r3, r4, r5, r6, r7, r8, si9]) rfl ⟨rfl, hb9⟩


end Go.Proofs.Ytifaadjbkbdbnaa

namespace Go.Proofs.Ytifaadjbkbdbnaa
open Go.RowKit

theorem flipped_two (bs : List Bool) {a b : List Int} (h : ∀ i, has a i = true → has b i = false) : flipped (flipped bs a) b = flipped bs (a ++ b) := by
  have hl : (flipped bs a).length = bs.length := flipped_len bs a
  apply List.ext_getElem
  · rw [flipped_len, flipped_len, flipped_len]
  · intro i h1 h2
    have hi : i < bs.length := by rw [flipped_len, flipped_len] at h1; exact h1
    have e1 := flipped_at (flipped bs a) b (i := i) (by rw [hl]; exact hi)
    have e2 := flipped_at bs (a ++ b) hi
    rw [flipped_get bs a hi] at e1
    rw [has_append] at e2
    rw [List.getElem?_eq_getElem h1] at e1
    rw [List.getElem?_eq_getElem h2] at e2
    rw [Option.some.inj e1, Option.some.inj e2]
    cases ha : has a i
    · simp
    · rw [h i ha]; cases bs.getD i false <;> rfl
theorem allAt_flipped (bs : List Bool) (t : Bool) {a l : List Int} {hi : Int} (hs : StepsTo l hi l.length) (h8 : hi ≤ 7) (hb : hi < bs.length) (h : meets a l = false) : allAt (flipped bs a) t l = allAt bs t l := by
  unfold allAt
  rw [Bool.eq_iff_iff, List.all_eq_true, List.all_eq_true]
  have key : ∀ x ∈ l, (flipped bs a).getD x.toNat false = bs.getD x.toNat false := fun x hx => by
    have hm := mem_steps hs hx
    have hxl : has l x.toNat = true := has_iff.2 (by rw [Int.toNat_of_nonneg hm.1]; exact hx)
    have hxa : has a x.toNat = false := by
      cases ha : has a x.toNat
      · rfl
      · have := meets_no.1 h x.toNat (by omega) ha
        rw [hxl] at this; cases this
    rw [flipped_get bs a (by omega), hxa]; simp
  exact ⟨fun h1 x hx => by have := h1 x hx; rwa [key x hx] at this, fun h1 x hx => by have := h1 x hx; rwa [key x hx]⟩
/-- Groups that have nobody in common, each on one side, and whose people are some of the night's. -/
structure GroupsOk (n : Nat) (bs : List Bool) (G : List (List Int)) : Prop where
  steps : ∀ k (hk : k < G.length), StepsTo G[k] ((n : Int) - 1) G[k].length
  apart : ∀ k (hk : k < G.length), meets (flat (G.take k)) G[k] = false
  sides : ∀ k (hk : k < G.length), sided bs G[k] = true
theorem groups_okG {n : Nat} {s t : Int} {bs : List Bool} {u : Int} {G : List (List Int)} (h : canG n s t bs u G = true) : GroupsOk n bs G := by
  rw [canG, Bool.and_eq_true, Bool.and_eq_true] at h
  obtain ⟨h1, -, h3⟩ := h
  have h2 := (groups_ok h1).2
  refine ⟨fun k hk => (trip_parts (ok_trip hk (h2 k hk))).2, fun k hk => ok_apart hk (h2 k hk), fun k hk => ?_⟩
  rw [letsG, Bool.and_eq_true, List.all_eq_true] at h3
  have := h3.1 k (List.mem_range.2 hk)
  rwa [getG hk] at this
theorem torch_next {n : Nat} {bs : List Bool} {G : List (List Int)} {k : Nat} (u : Int) (h : GroupsOk n bs G) (hn : n ≤ 8) (hbn : bs.length = n) (hk : k < G.length) (hl : 0 < G[k].length) :
    torchAfter (flipped bs (flat (G.take k))) (u + nearN bs (G.take k) - farN bs (G.take k)) G[k] = u + nearN bs (G.take (k + 1)) - farN bs (G.take (k + 1)) := by
  have hst := h.steps k hk
  have hap := h.apart k hk
  have hm := mem_steps hst (List.getElem_mem hl)
  rw [torchAfter, allAt_flipped bs true hst (by omega) (by omega) hap]
  have hsd := h.sides k hk
  rw [sided, Bool.or_eq_true] at hsd
  cases hf : allAt bs false G[k]
  · rw [hf] at hsd
    have ht : allAt bs true G[k] = true := by rcases hsd with h | h; cases h; exact h
    rw [ht, if_pos rfl, (far_yes hk hf ht).1, (far_yes hk hf ht).2]; omega
  · have ht : allAt bs true G[k] = false := by
      cases ht : allAt bs true G[k]
      · rfl
      · rw [allAt, List.all_eq_true] at hf ht
        have e1 := hf _ (List.getElem_mem hl)
        have e2 := ht _ (List.getElem_mem hl)
        rw [beq_iff_eq] at e1 e2
        rw [e1] at e2; cases e2
    rw [ht, if_neg (by simp), (near_yes hk hf).1, (near_yes hk hf).2]; omega
theorem flip_next {n : Nat} {bs : List Bool} {G : List (List Int)} {k : Nat} (h : GroupsOk n bs G) (hn : n ≤ 8) (hk : k < G.length) : flipped (flipped bs (flat (G.take k))) G[k] = flipped bs (flat (G.take (k + 1))) := by
  rw [flat_next hk]
  refine flipped_two bs fun i hi => ?_
  by_cases h8 : i < 8
  · exact meets_no.1 (h.apart k hk) i h8 hi
  · exact has_out (h.steps k hk) (by omega)

set_option maxHeartbeats 6400000 in
set_option maxRecDepth 100000 in
set_option linter.unusedVariables false in
theorem addAllCarry_any (T : Option Addr) (q c n : Nat) (bs : List Bool) (u : Int) (G : List (List Int)) (f : Nat → Bool) (hf : f = (fun i => bs.getD i false)) (f2 : Nat → Bool) (hf2 : f2 = (fun i => (flipped bs (flat G)).getD i false)) (w : World) (hT : Holds w T (crowdsOf G)) (hq : G.length = q) (hq8 : q ≤ 8) (hn : n ≤ 8) (hbn : bs.length = n) (hG : GroupsOk n bs G) (hln : ∀ k (hk : k < G.length), 0 < G[k].length) (hu : -1000 ≤ u ∧ u ≤ 1000) :
    Calls Try.prog 140 #[.agg (si9 f u), .func (.func 141) #[] #[], .slice T q c] w fun e w' => e = .returned (.agg (si9 f2 (u + nearN bs G - farN bs G))) ∧ Below w.heap.size w w' := by
  subst hq
  obtain ⟨V, hV⟩ : ∃ V, V = u + (nearN bs G : Int) - (farN bs G : Int) := ⟨_, rfl⟩
  rw [← hV]
  have HVV := Lib.hid hV
  clear hV
  have HG := Lib.hid hG
  have HLN := Lib.hid hln
  have HBN := Lib.hid hbn
  have HF2 := Lib.hid hf2
  have h0 := (Whole.fresh w 103 (si9 f u)).alloc (.cells (si9 (fun _ => false) 0) 103)
  have h1 := Whole.fresh (w.alloc (.cells (si9 f u) 103)) 103 (si9 (fun _ => false) 0)
  rw [World.size_alloc] at h1
  have hb0 := below2 w (.cells (si9 f u) 103) (.cells (si9 (fun _ => false) 0) 103)
  have H0 := Lib.hid h0
  have H1 := Lib.hid h1
  have HB0 := Lib.hid hb0
  have HFF := Lib.hid hf
  clear h0 h1 hb0 hG hln hbn hf2 hf
  have e0 : si9 f u = #[.bool (f 0), .bool (f 1), .bool (f 2), .bool (f 3), .bool (f 4), .bool (f 5), .bool (f 6), .bool (f 7), .int .i64 u] := rfl
  rw [e0]
  clear e0
  go_enter Try.func140, Try.ntmps140
  go_wp2
  go_loopw [11] (fun i wr => ∃ (k : Nat) (fk : Nat → Bool), k ≤ G.length ∧ i = .int .i64 k ∧ fk = (fun i => (flipped bs (flat (G.take k))).getD i false) ∧ Whole wr w.heap.size 103 (si9 fk (u + nearN bs (G.take k) - farN bs (G.take k))) ∧ Whole wr (w.heap.size + 1) 103 (si9 (fun _ => false) 0) ∧ Below w.heap.size w wr) (fun i _ => G.length - (intOf i).toNat)
  case atStart => exact ⟨0, f, Nat.zero_le _, rfl, by rw [HFF.out]; simp [flat, flipped_nil], by rw [show u + (nearN bs (G.take 0) : Int) - (farN bs (G.take 0) : Int) = u by simp [nearN, farN]]; exact H0.out, H1.out, HB0.out⟩
  case round =>
    obtain ⟨k, fk, hk, rfl, hfk, hB, hR, ht⟩ := hrel
    clear H0 H1 HB0
    have HFK := Lib.hid hfk
    clear hfk
    have hlb := hB.lt
    have hlr := hR.lt
    by_cases hlt : k < G.length
    · obtain ⟨b1, o1, rfl, hbl1, hcells⟩ := (hT.below ht).spot (by rw [crowdsOf_len]; omega)
      obtain ⟨e0, e1, e2, e3, e4, e5, e6, e7⟩ := crowdG_row hcells hlt
      have HST := Lib.hid (HG.out.steps k hlt)
      have HTN := Lib.hid (torch_next u HG.out hn HBN.out hlt (HLN.out k hlt))
      have HFL := Lib.hid (flip_next HG.out hn hlt)
      have hnl : nearN bs (G.take k) ≤ k := Nat.le_trans (near_le _ _) (by simp; omega)
      have hfl : farN bs (G.take k) ≤ k := Nat.le_trans (far_le _ _) (by simp; omega)
      obtain ⟨v, hv⟩ : ∃ v, v = u + (nearN bs (G.take k) : Int) - (farN bs (G.take k) : Int) := ⟨_, rfl⟩
      have hv1 : -1048576 ≤ v ∧ v ≤ 1048576 := by omega
      obtain ⟨v2, hv2⟩ : ∃ v2, v2 = u + (nearN bs (G.take (k + 1)) : Int) - (farN bs (G.take (k + 1)) : Int) := ⟨_, rfl⟩
      obtain ⟨f3, hf3⟩ : ∃ f3 : Nat → Bool, f3 = (fun i => (flipped (flipped bs (flat (G.take k))) G[k]).getD i false) := ⟨_, rfl⟩
      rw [← hv] at hB HTN
      rw [← hv2] at HTN
      obtain ⟨l, hl⟩ : ∃ l, l = G[k] := ⟨_, rfl⟩
      rw [← hl] at e0 e1 e2 e3 e4 e5 e6 e7 HST HTN HFL hf3
      have hca := carry9_any n (flipped bs (flat (G.take k))) fk HFK.out l f3 hf3 v (wr.alloc (.cells (cells8 (has l)) 92)) hn (by rw [flipped_len]; exact HBN.out) HST.out hv1
      rw [HTN.out] at hca
      have HF3 : Hid (f3 = (fun i => (flipped bs (flat (G.take (k + 1)))).getD i false)) := by show _ = _; rw [hf3, HFL.out]
      have HV2 := Lib.hid hv2
      clear hl hcells hf3 hv hv2 hnl hfl
      obtain ⟨y0, y1, y2, y3, y4, y5, y6, y7, y8⟩ := siteS hB
      replace hB := hB.alloc (.cells (cells8 (has l)) 92)
      replace hR := hR.alloc (.cells (cells8 (has l)) 92)
      replace ht := ht.alloc ht.size (.cells (cells8 (has l)) 92)
      unfold cells8 si9 at hca
      go_wp2_with fail
      refine hca.mono ?_
      clear hca y0 y1 y2 y3 y4 y5 y6 y7 y8 e0 e1 e2 e3 e4 e5 e6 e7
      rintro e w6 ⟨rfl, hb6⟩
      replace hB := hB.below hb6
      replace hR := hR.below hb6
      replace ht := below_then ht hb6 ht.size
      go_wp2_with (refine wpList_store_whole rfl 103 (.tmp 3) (.tmp 18) rfl w.heap.size (si9 f3 v2) rfl rfl 103 _ hB size_site rfl (si9_one _ _) ?_; intro w7 hw7 ho7)
      have hbb := ho7.below ht (Nat.le_refl _)
      have hr7 := ho7.whole hR (by omega)
      rw [HV2.out] at hw7
      have HW8 := Lib.hid hw7
      have HR7 := Lib.hid hr7
      have HBB := Lib.hid hbb
      clear hw7 hbb ho7 hb6 hB hR ht hr7
      go_wp2
      go_roundw
      case rel => exact ⟨k + 1, f3, by omega, by go_num, HF3.out, HW8.out, HR7.out, HBB.out⟩
      case measure => simp [intOf]; omega
    · obtain rfl : k = G.length := by omega
      have HE : Hid (fk = f2) := by show _ = _; rw [HFK.out, HF2.out, List.take_length]
      rw [List.take_length, HE.out] at hB
      rw [← HVV.out] at hB
      go_wp2_with (first | (refine wpList_load_row rfl 103 (.tmp 3) rfl w.heap.size rfl 103 (si9 f2 V) (0, 0) _ hB Try.underlying103 rfl size_site ?_) | (refine wpList_store_whole rfl 103 (.tmp 6) (.tmp 20) rfl (w.heap.size + 1) (si9 f2 V) rfl rfl 103 (si9 (fun _ => false) 0) hR size_site rfl (si9_one _ _) ?_; intro w2 hw2 ho2))
      have hb2 := ho2.below ht (by omega)
      obtain ⟨r0, r1, r2, r3, r4, r5, r6, r7, r8⟩ := siteS hw2
      refine bodyPost_ret (v := .agg (si9 f2 V)) (by simp [results, Try.results140, go_sem, r0, r1, r2, r3, r4, r5, r6, r7, r8, si9]) rfl ⟨rfl, hb2⟩

set_option maxHeartbeats 3200000 in
set_option maxRecDepth 100000 in
set_option linter.unusedVariables false in
theorem from9_any (T : Option Addr) (q c n : Nat) (x : Int) (bs : List Bool) (u : Int) (G : List (List Int)) (f : Nat → Bool) (hf : f = (fun i => bs.getD i false)) (f2 : Nat → Bool) (hf2 : f2 = (fun i => (flipped bs (flat G)).getD i false)) (w : World) (hT : Holds w T (crowdsOf G)) (hq : G.length = q) (hq8 : q ≤ 8) (hn : n ≤ 8) (hbn : bs.length = n) (hG : GroupsOk n bs G) (hln : ∀ k (hk : k < G.length), 0 < G[k].length) (hu : -1000 ≤ u ∧ u ≤ 1000) :
    Calls Try.prog 122 #[.agg #[.slice T q c, .int .i64 x], .agg (si9 f u)] w fun e w' => e = .returned (.agg (si9 f2 (u + nearN bs G - farN bs G))) ∧ Below w.heap.size w w' := by
  have h0 := ((Whole.fresh w 115 #[.slice T q c, .int .i64 x]).alloc (.cells (si9 f u) 103)).alloc (.cells (si9 (fun _ => false) 0) 103)
  have h1 := (Whole.fresh (w.alloc (.cells #[.slice T q c, .int .i64 x] 115)) 103 (si9 f u)).alloc (.cells (si9 (fun _ => false) 0) 103)
  have hR := Whole.fresh ((w.alloc (.cells #[.slice T q c, .int .i64 x] 115)).alloc (.cells (si9 f u) 103)) 103 (si9 (fun _ => false) 0)
  simp only [World.size_alloc] at h1 hR
  have ht := below3 w (.cells #[.slice T q c, .int .i64 x] 115) (.cells (si9 f u) 103) (.cells (si9 (fun _ => false) 0) 103)
  have had := addAllCarry_any T q c n bs u G f hf f2 hf2 _ (hT.below ht) hq hq8 hn hbn hG hln hu
  obtain ⟨v, hv⟩ : ∃ v, v = u + (nearN bs G : Int) - (farN bs G : Int) := ⟨_, rfl⟩
  rw [← hv] at had ⊢
  clear hv hf hf2 hG hln hbn hq
  obtain ⟨c0, c1, -, -⟩ := h0.two
  obtain ⟨y0, y1, y2, y3, y4, y5, y6, y7, y8⟩ := siteS h1
  clear h0 h1
  have e0 : si9 f u = #[.bool (f 0), .bool (f 1), .bool (f 2), .bool (f 3), .bool (f 4), .bool (f 5), .bool (f 6), .bool (f 7), .int .i64 u] := rfl
  rw [e0] at had hR ht ⊢
  clear e0
  unfold si9 at c0 c1 y0 y1 y2 y3 y4 y5 y6 y7 y8
  have HR := Lib.hid hR
  have HT := Lib.hid ht
  have HAD := Lib.hid had
  clear hR ht had
  go_enter Try.func122, Try.ntmps122
  go_wp2_with fail
  refine HAD.out.mono ?_
  clear HAD c0 c1 y0 y1 y2 y3 y4 y5 y6 y7 y8
  rintro e w6 ⟨rfl, hb6⟩
  have hR := HR.out.below hb6
  have ht := below_then HT.out hb6 HT.out.size
  go_wp2_with (refine wpList_store_whole rfl 103 (.tmp 4) (.tmp 8) rfl (w.heap.size + 1 + 1) (si9 f2 v) rfl rfl 103 _ hR size_site rfl (si9_one _ _) ?_; intro w7 hw7 ho7)
  have hb2 := ho7.below ht (by omega)
  obtain ⟨r0, r1, r2, r3, r4, r5, r6, r7, r8⟩ := siteS hw7
  refine bodyPost_ret (v := .agg (si9 f2 v)) (by simp [results, Try.results122, go_sem, r0, r1, r2, r3, r4, r5, r6, r7, r8, si9]) rfl ⟨rfl, hb2⟩
end Go.Proofs.Ytifaadjbkbdbnaa

namespace Go.Proofs.Ytifaadjbkbdbnaa
open Go.RowKit

noncomputable def followOk (n : Nat) (s t : Int) (p : List Bool × Int) (Gs : List (List (List Int))) : Bool := decide (Gs.length ≤ 30) && playOk n s t p Gs
/-- What follow hands back. -/
def FollowPost (n : Nat) (s t : Int) (xs : List Int) (p : List Bool × Int) (Gs : List (List (List Int))) (w : World) (e : Ending) (w' : World) : Prop :=
  ((followOk n s t p Gs = true ∧ e = .returned (.tuple #[.agg (siteCells (afterAll p Gs).1 (afterAll p Gs).2), .int .i64 (timeAll xs Gs), .bool true])) ∨
    (followOk n s t p Gs = false ∧ e = .returned (.tuple #[.agg (siteCells [] 0), .int .i64 0, .bool false]))) ∧ Below w.heap.size w w'

set_option maxHeartbeats 12800000 in
set_option maxRecDepth 100000 in
set_option linter.unusedVariables false in
theorem follow9_any (A : Option Addr) (n c : Nat) (xs : List Int) (s t : Int) (bs : List Bool) (f : Nat → Bool) (hf : f = (fun i => bs.getD i false)) (u : Int) (D : Option Addr) (q z : Nat) (gs : List GridV) (w : World) (hA : Holds w A (nums xs)) (hx : xs.length = n) (hn : n ≤ 8) (hbn : bs.length = n) (ht8 : t ≤ 8) (hu : 0 ≤ u ∧ u ≤ t) (hxs : ∀ y ∈ xs, 1 ≤ y ∧ y ≤ 1000) (hD : Cube w D gs) (hz : gs.length = q) (hq : q ≤ 9223372036854775807) :
    Calls Try.prog 94 #[.agg #[.slice A n c, .int .i64 s, .int .i64 t], .agg (si9 f u), .slice D q z] w (FollowPost n s t xs (bs, u) (cubeNums gs) w) := by
  subst hz
  have HX := Lib.hid hx
  have HF := Lib.hid hf
  have HBN := Lib.hid hbn
  have HXS := Lib.hid hxs
  have HCL := Lib.hid (cubeNums_len gs)
  have h0 := ((Whole.fresh w 48 #[.slice A n c, .int .i64 s, .int .i64 t]).alloc (.cells (si9 f u) 103)).alloc (.cells (si9 (fun _ => false) 0) 103)
  have h1 := (Whole.fresh (w.alloc (.cells #[.slice A n c, .int .i64 s, .int .i64 t] 48)) 103 (si9 f u)).alloc (.cells (si9 (fun _ => false) 0) 103)
  have hr := Whole.fresh ((w.alloc (.cells #[.slice A n c, .int .i64 s, .int .i64 t] 48)).alloc (.cells (si9 f u) 103)) 103 (si9 (fun _ => false) 0)
  simp only [World.size_alloc] at h1 hr
  have ht := below3 w (.cells #[.slice A n c, .int .i64 s, .int .i64 t] 48) (.cells (si9 f u) 103) (.cells (si9 (fun _ => false) 0) 103)
  clear hx hf hbn hxs
  have e0 : si9 f u = #[.bool (f 0), .bool (f 1), .bool (f 2), .bool (f 3), .bool (f 4), .bool (f 5), .bool (f 6), .bool (f 7), .int .i64 u] := rfl
  by_cases hl : 30 < gs.length
  · have HP : Hid (followOk n s t (bs, u) (cubeNums gs) = false) := by show _ = _; rw [followOk, HCL.out]; simp; omega
    have HR := Lib.hid hr
    have HT := Lib.hid ht
    rw [e0]
    clear e0 h0 h1 hr ht
    go_enter Try.func94, Try.ntmps94
    go_wp2_with (refine wpList_store_whole rfl 103 (.tmp 6) (.tmp 17) rfl (w.heap.size + 1 + 1) (si9 (fun _ => false) 0) rfl rfl 103 _ HR.out size_site rfl (si9_one _ _) ?_; intro w2 hw2 ho2)
    obtain ⟨r0, r1, r2, r3, r4, r5, r6, r7, r8⟩ := siteS hw2
    refine bodyPost_ret (v := .tuple #[.agg (si9 (fun _ => false) 0), .int .i64 0, .bool false]) (by simp [results, Try.results94, go_sem, r0, r1, r2, r3, r4, r5, r6, r7, r8, si9]) rfl ⟨.inr ⟨HP.out, rfl⟩, ho2.below HT.out (by omega)⟩
  have hg30 : gs.length ≤ 30 := by omega
  have H0 := Lib.hid h0
  have H1 := Lib.hid h1
  have HR := Lib.hid hr
  have HT := Lib.hid ht
  rw [e0]
  clear e0 h0 h1 hr ht
  go_enter Try.func94, Try.ntmps94
  go_wp2
  go_loopw [9, 20] (fun v i wr => ∃ (k : Nat) (fk : Nat → Bool), k ≤ gs.length ∧ i = .int .i64 k ∧ v = .int .i64 (timeAll xs ((cubeNums gs).take k)) ∧ fk = (fun i => (afterAll (bs, u) ((cubeNums gs).take k)).1.getD i false) ∧ Whole wr w.heap.size 48 #[.slice A n c, .int .i64 s, .int .i64 t] ∧ Whole wr (w.heap.size + 1) 103 (si9 fk (afterAll (bs, u) ((cubeNums gs).take k)).2) ∧ Whole wr (w.heap.size + 1 + 1) 103 (si9 (fun _ => false) 0) ∧ Below w.heap.size w wr ∧ ∀ j, j < k → playAt n s t (bs, u) (cubeNums gs) j = true) (fun _ i _ => gs.length - (intOf i).toNat)
  case atStart => exact ⟨0, f, Nat.zero_le _, rfl, rfl, HF.out, H0.out, H1.out, HR.out, HT.out, fun j hj => absurd hj (by omega)⟩
  case round =>
    obtain ⟨k, fk, hk, rfl, rfl, hfk, h0, h1, hr, ht, hall⟩ := hrel
    clear H0 H1 HR HT
    have HFK := Lib.hid hfk
    have HALL := Lib.hid hall
    clear hfk hall
    have hti := torches_in (n := n) (s := s) (p := (bs, u)) (Gs := cubeNums gs) hu k (by have := HCL.out; omega) HALL.out
    have hbd := timeAll_bd HXS.out ((cubeNums gs).take k)
    have hsum0 := hbd.1
    have hsum1 : timeAll xs ((cubeNums gs).take k) ≤ 30000 := by have := hbd.2; rw [List.length_take] at this; omega
    have hlk := afterAll_len (bs, u) ((cubeNums gs).take k)
    obtain ⟨bk, hbk⟩ : ∃ bk, bk = (afterAll (bs, u) ((cubeNums gs).take k)).1 := ⟨_, rfl⟩
    obtain ⟨uk, huk⟩ : ∃ uk, uk = (afterAll (bs, u) ((cubeNums gs).take k)).2 := ⟨_, rfl⟩
    obtain ⟨sk, hsk⟩ : ∃ sk, sk = timeAll xs ((cubeNums gs).take k) := ⟨_, rfl⟩
    rw [← huk] at h1 hti
    rw [← hbk] at HFK hlk
    rw [← hsk] at hsum0 hsum1 ⊢
    have HLK : Hid (bk.length = n) := hlk.trans HBN.out
    have HBK := Lib.hid hbk
    have HUK := Lib.hid huk
    have HSK := Lib.hid hsk
    have hlb := h1.lt
    clear hbd hlk hbk huk hsk
    by_cases hlt : k < gs.length
    · have hkl : k < (cubeNums gs).length := by have := HCL.out; omega
      obtain ⟨b1, o1, rfl, hbl1, hc, hgr⟩ := (hD.below ht).look hlt
      have HGT := Lib.hid (cubeNums_get hlt)
      have HPA := Lib.hid (playAt_get (n := n) (s := s) (t := t) (p := (bs, u)) hkl)
      rw [← HBK.out, ← HUK.out, HGT.out] at HPA
      have HAN := Lib.hid (afterAll_next (p := (bs, u)) hkl)
      have HTN := Lib.hid (timeAll_next (xs := xs) hkl)
      rw [HGT.out] at HAN HTN
      rw [← HSK.out] at HTN
      have hsl := slowG_bd HXS.out (flat (rowNums gs[k].rs))
      obtain ⟨tm, htm⟩ : ∃ tm, tm = slowOf xs (flat (rowNums gs[k].rs)) := ⟨_, rfl⟩
      rw [← htm] at hsl HTN
      have htm0 := hsl.1
      have htm1 := hsl.2
      have HTM := Lib.hid htm
      clear hsl htm
      obtain ⟨c0, c1, c2⟩ := h0.cells3
      obtain ⟨y0, y1, y2, y3, y4, y5, y6, y7, y8⟩ := siteS h1
      have hri := roundIn9_any A n c xs s t bk fk HFK.out uk gs[k].A gs[k].n gs[k].c gs[k].rs wr (hA.below ht) HX.out hn ht8 (by omega) hgr.1 hgr.2.1 hgr.2.2
      have HRI := Lib.hid hri
      clear hri hgr
      go_wp2_with fail
      refine HRI.out.mono ?_
      clear HRI
      rintro e w3 ⟨hcase, hb3⟩
      replace h0 := h0.below hb3
      replace h1 := h1.below hb3
      replace hr := hr.below hb3
      replace ht := below_then ht hb3 ht.size
      have hwr3 := hb3.size
      clear hb3 c0 c1 c2 y0 y1 y2 y3 y4 y5 y6 y7 y8 hc
      rcases hcase with ⟨hg, T, r, rfl, hown⟩ | ⟨hg, rfl⟩
      rotate_left
      · have HP : Hid (followOk n s t (bs, u) (cubeNums gs) = false) := by show _ = _; rw [followOk, playOk_no hkl (HPA.out.trans hg), Bool.and_false]
        replace hr := hr.alloc (.cells #[.slice none 0 0, .int .i64 0] 115)
        replace ht := ht.alloc ht.size (.cells #[.slice none 0 0, .int .i64 0] 115)
        have HR := Lib.hid hr
        have HT := Lib.hid ht
        clear hg h0 h1 hr ht
        go_wp2_with (refine wpList_store_whole rfl 103 (.tmp 6) (.tmp 33) rfl (w.heap.size + 1 + 1) (si9 (fun _ => false) 0) rfl rfl 103 _ HR.out size_site rfl (si9_one _ _) ?_; intro w4 hw4 ho4)
        obtain ⟨r0, r1, r2, r3, r4, r5, r6, r7, r8⟩ := siteS hw4
        refine bodyPost_ret (v := .tuple #[.agg (si9 (fun _ => false) 0), .int .i64 0, .bool false]) (by simp [results, Try.results94, go_sem, r0, r1, r2, r3, r4, r5, r6, r7, r8, si9]) rfl ⟨.inr ⟨HP.out, rfl⟩, ho4.below HT.out (by omega)⟩
      rw [← HTM.out]
      have HPK := Lib.hid (HPA.out.trans hg)
      have hgo := groups_okG hg
      have hg2 : areGroups n s t (rowNums gs[k].rs) = true := by rw [canG, Bool.and_eq_true] at hg; exact hg.1
      have hgk := groups_ok hg2
      have hr8 : (rowNums gs[k].rs).length ≤ 8 := by have := hgk.1.2; omega
      have HLN : Hid (∀ j (hj : j < (rowNums gs[k].rs).length), 0 < (rowNums gs[k].rs)[j].length) := fun j hj => by have := (trip_parts (ok_trip hj (hgk.2 j hj))).1.1; omega
      have HGO := Lib.hid hgo
      obtain ⟨f3, hf3⟩ : ∃ f3 : Nat → Bool, f3 = (fun i => (flipped bk (flat (rowNums gs[k].rs))).getD i false) := ⟨_, rfl⟩
      obtain ⟨v3, hv3⟩ : ∃ v3, v3 = uk + (nearN bk (rowNums gs[k].rs) : Int) - (farN bk (rowNums gs[k].rs) : Int) := ⟨_, rfl⟩
      have hfr := from9_any T _ r n tm bk uk (rowNums gs[k].rs) fk HFK.out f3 hf3 (w3.alloc (.cells #[.slice T (rowNums gs[k].rs).length r, .int .i64 tm] 115)) (own_holdsG (hown.alloc (.cells #[.slice T (rowNums gs[k].rs).length r, .int .i64 tm] 115))) rfl hr8 hn HLK.out HGO.out HLN.out (by omega)
      rw [← hv3] at hfr
      have HF3 : Hid (f3 = (fun i => (afterAll (bs, u) ((cubeNums gs).take (k + 1))).1.getD i false)) := by show _ = _; rw [hf3, HAN.out, afterR, HBK.out]
      have HV3 : Hid (v3 = (afterAll (bs, u) ((cubeNums gs).take (k + 1))).2) := by show _ = _; rw [hv3, HAN.out, afterR, HBK.out, HUK.out]
      clear hg hg2 hgk hgo hf3 hv3 hown
      obtain ⟨y0, y1, y2, y3, y4, y5, y6, y7, y8⟩ := siteS h1
      have hl1 := h1.lt
      have ho := Whole.fresh w3 115 #[.slice T (rowNums gs[k].rs).length r, .int .i64 tm]
      replace h0 := h0.alloc (.cells #[.slice T (rowNums gs[k].rs).length r, .int .i64 tm] 115)
      replace h1 := h1.alloc (.cells #[.slice T (rowNums gs[k].rs).length r, .int .i64 tm] 115)
      replace hr := hr.alloc (.cells #[.slice T (rowNums gs[k].rs).length r, .int .i64 tm] 115)
      replace ht := ht.alloc ht.size (.cells #[.slice T (rowNums gs[k].rs).length r, .int .i64 tm] 115)
      unfold si9 at hfr
      have HFR := Lib.hid hfr
      clear hfr
      go_wp2_with fail
      refine HFR.out.mono ?_
      clear HFR y0 y1 y2 y3 y4 y5 y6 y7 y8
      rintro e w5 ⟨rfl, hb5⟩
      replace h0 := h0.below hb5
      replace h1 := h1.below hb5
      replace hr := hr.below hb5
      replace ho := ho.below hb5
      replace ht := below_then ht hb5 ht.size
      have hl5 := hb5.size
      rw [World.size_alloc] at hl5
      clear hb5
      go_wp2_with (refine wpList_store_whole rfl 103 (.tmp 4) (.tmp 36) rfl (w.heap.size + 1) (si9 f3 v3) rfl rfl 103 _ h1 size_site rfl (si9_one _ _) ?_; intro w6 hw6 ho6; obtain ⟨o0, o1, -, -⟩ := (ho6.whole ho (by omega)).two)
      have h06 := ho6.whole h0 (by omega)
      have hr6 := ho6.whole hr (by omega)
      have ht6 := ho6.below ht (by omega)
      rw [HV3.out] at hw6
      have HW6 := Lib.hid hw6
      have H06 := Lib.hid h06
      have HR6 := Lib.hid hr6
      have HT6 := Lib.hid ht6
      clear hw6 h06 hr6 ht6 ho6 h0 h1 hr ho ht
      go_wp2
      go_roundw
      case rel => exact ⟨k + 1, f3, by omega, by go_num, by rw [HTN.out], HF3.out, H06.out, HW6.out, HR6.out, HT6.out, fun j hj => by
        rcases Nat.lt_or_ge j k with h1 | h1
        · exact HALL.out j h1
        · obtain rfl : j = k := by omega
          exact HPK.out⟩
      case measure => simp [intOf]; omega
    · obtain rfl : k = gs.length := by omega
      have HTK : Hid ((cubeNums gs).take gs.length = cubeNums gs) := List.take_of_length_le (by have := HCL.out; omega)
      have HP : Hid (followOk n s t (bs, u) (cubeNums gs) = true) := by
        show _ = _
        rw [followOk, playOk_yes (fun j hj => HALL.out j (by have := HCL.out; omega)), Bool.and_true, HCL.out]
        simpa using hg30
      rw [HTK.out] at HBK HUK HSK
      have HEND : Hid (si9 fk uk = siteCells (afterAll (bs, u) (cubeNums gs)).1 (afterAll (bs, u) (cubeNums gs)).2) := by show _ = _; rw [si9_of, HFK.out, HBK.out, HUK.out]
      have HR := Lib.hid hr
      have HT := Lib.hid ht
      clear hr ht h0
      go_wp2_with (first | (refine wpList_load_row rfl 103 (.tmp 4) rfl (w.heap.size + 1) rfl 103 (si9 fk uk) (0, 0) _ h1 Try.underlying103 rfl size_site ?_) | (refine wpList_store_whole rfl 103 (.tmp 6) (.tmp 42) rfl (w.heap.size + 1 + 1) (si9 fk uk) rfl rfl 103 _ HR.out size_site rfl (si9_one _ _) ?_; intro w4 hw4 ho4))
      obtain ⟨r0, r1, r2, r3, r4, r5, r6, r7, r8⟩ := siteS hw4
      refine bodyPost_ret (v := .tuple #[.agg (si9 fk uk), .int .i64 sk, .bool true]) (by simp [results, Try.results94, go_sem, r0, r1, r2, r3, r4, r5, r6, r7, r8, si9]) rfl ⟨.inl ⟨HP.out, by rw [HEND.out, ← HSK.out]⟩, ho4.below HT.out (by omega)⟩
end Go.Proofs.Ytifaadjbkbdbnaa

namespace Go.Proofs.Ytifaadjbkbdbnaa
open Go.RowKit

/-- Behind such a statement: the struct lies in block g, its list in blocks from lo on and before hi. -/
def ResMid (ty ety : TypeId) (mk : Option Addr → Nat → Array Value) (xs : List Value) (ok : Bool) (W : World) (v u : Value) (wx : World) : Prop :=
  ∃ (g : Nat) (A : Option Addr) (q lo hi : Nat), v = .pointer (some ⟨g, 0, none⟩) ∧ u = .bool ok ∧ W.heap.size ≤ g ∧ g < wx.heap.size ∧ W.heap.size ≤ lo ∧ (g < lo ∨ hi ≤ g) ∧ hi ≤ wx.heap.size ∧ Whole wx g ty (mk A q) ∧ Fresh wx lo hi ety A xs ∧ Below W.heap.size W wx
theorem ResMid.last {ty ety : TypeId} {mk : Option Addr → Nat → Array Value} {xs : List Value} {ok : Bool} {W w : World} {A : Option Addr} {q lo : Nat} (hc : Below W.heap.size W w) (hl : W.heap.size ≤ lo) (hF : Fresh w lo w.heap.size ety A xs) :
    ResMid ty ety mk xs ok W (.pointer (some ⟨w.heap.size, 0, none⟩)) (.bool ok) (w.alloc (.cells (mk A q) ty)) :=
  ⟨_, A, q, lo, w.heap.size, rfl, rfl, hc.size, by simp, hl, .inr (Nat.le_refl _), by simp, Whole.fresh _ _ _, hF.alloc _, hc.alloc hc.size _⟩
theorem ResMid.first {ty ety : TypeId} {mk : Option Addr → Nat → Array Value} {xs : List Value} {ok : Bool} {W w : World} {A : Option Addr} {q lo g : Nat} {a b c d : Value} (hc : Below W.heap.size W w) (hl : W.heap.size ≤ lo) (hF : Fresh w lo w.heap.size ety A xs) (hg : W.heap.size ≤ g) (hgl : g < lo) (hw : Whole w g ty #[a, b]) (hm : mk A q = #[c, d]) :
    ResMid ty ety mk xs ok W (.pointer (some ⟨g, 0, none⟩)) (.bool ok) ((w.setCell ⟨g, 0, none⟩ c).setCell ⟨g, 1, none⟩ d) := by
  have h := hw.lt
  refine ⟨g, A, q, lo, w.heap.size, rfl, rfl, hg, by simpa [World.setCell] using h, hl, .inl hgl, by simp [World.setCell], ?_, (hF.set_out (.inl hgl)).set_out (.inl hgl), below_set (below_set hc hg) hg⟩
  rw [hm]
  exact (hw.set_ 0 c).set_ 1 d
end Go.Proofs.Ytifaadjbkbdbnaa

namespace Go.Proofs.Ytifaadjbkbdbnaa
open Go.RowKit

/-- Rounds one after the other, from what should be a camp. -/
noncomputable def rsOk (xs : List Int) (s t : Int) (bs : List Bool) (u : Int) (Gs : List (List (List Int))) : Bool := isCamp xs s t bs.length u && followOk xs.length s t (bs, u) Gs
noncomputable def rsBits (xs : List Int) (s t : Int) (bs : List Bool) (u : Int) (Gs : List (List (List Int))) : List Bool := if rsOk xs s t bs u Gs then (afterAll (bs, u) Gs).1 else []
noncomputable def rsTorch (xs : List Int) (s t : Int) (bs : List Bool) (u : Int) (Gs : List (List (List Int))) : Int := if rsOk xs s t bs u Gs then (afterAll (bs, u) Gs).2 else 0
section
variable {xs : List Int} {s t : Int} {bs : List Bool} {u : Int} {Gs : List (List (List Int))}
theorem rsBits_no (h : rsOk xs s t bs u Gs = false) : rsBits xs s t bs u Gs = [] := by rw [rsBits, h]; rfl
theorem rsTorch_no (h : rsOk xs s t bs u Gs = false) : rsTorch xs s t bs u Gs = 0 := by rw [rsTorch, h]; rfl
theorem rsBits_yes (h : rsOk xs s t bs u Gs = true) : rsBits xs s t bs u Gs = (afterAll (bs, u) Gs).1 := by rw [rsBits, h]; rfl
theorem rsTorch_yes (h : rsOk xs s t bs u Gs = true) : rsTorch xs s t bs u Gs = (afterAll (bs, u) Gs).2 := by rw [rsTorch, h]; rfl
theorem rsBits_le : (rsBits xs s t bs u Gs).length ≤ bs.length := by
  cases h : rsOk xs s t bs u Gs
  · rw [rsBits_no h]; simp
  · rw [rsBits_yes h, afterAll_len]; exact Nat.le_refl _
theorem rsOk_one {G : List (List Int)} : rsOk xs s t bs u [G] = canRnd xs s t bs u G := by
  have : followOk xs.length s t (bs, u) [G] = canG xs.length s t bs u G := by
    simp [followOk, playOk, playAt, afterAll]
  rw [rsOk, canRnd, this]
end

set_option maxHeartbeats 3200000 in
set_option maxRecDepth 100000 in
set_option linter.unusedVariables false in
theorem specRoundAfter_any (A : Option Addr) (n c : Nat) (xs : List Int) (s t : Int) (B : Option Addr) (m d : Nat) (bs : List Bool) (u : Int) (D : Option Addr) (q z : Nat) (rs : List RowV) (w : World) (hA : Holds w A (nums xs)) (hx : xs.length = n) (hn : n ≤ 9223372036854775807) (hB : Holds w B (bits bs)) (hy : bs.length = m) (hm : m ≤ 9223372036854775807) (hD : Grid w D rs) (hz : rs.length = q) (hq : q ≤ 1048576) :
    Calls Try.prog 52 #[.agg #[.slice A n c, .int .i64 s, .int .i64 t], .agg #[.slice B m d, .int .i64 u], .slice D q z] w (CampPost (rsBits xs s t bs u [rowNums rs]) (rsTorch xs s t bs u [rowNums rs]) (rsOk xs s t bs u [rowNums rs]) w) := by
  subst hy
  have HX := Lib.hid hx
  have h0 := ((Whole.fresh w 48 #[.slice A n c, .int .i64 s, .int .i64 t]).alloc (.cells #[.slice B bs.length d, .int .i64 u] 56)).alloc (.cells #[.slice none 0 0, .int .i64 0] 56)
  have h1 := (Whole.fresh (w.alloc (.cells #[.slice A n c, .int .i64 s, .int .i64 t] 48)) 56 #[.slice B bs.length d, .int .i64 u]).alloc (.cells #[.slice none 0 0, .int .i64 0] 56)
  have hr := Whole.fresh ((w.alloc (.cells #[.slice A n c, .int .i64 s, .int .i64 t] 48)).alloc (.cells #[.slice B bs.length d, .int .i64 u] 56)) 56 #[.slice none 0 0, .int .i64 0]
  simp only [World.size_alloc] at h1 hr
  have ht := below3 w (.cells #[.slice A n c, .int .i64 s, .int .i64 t] 48) (.cells #[.slice B bs.length d, .int .i64 u] 56) (.cells #[.slice none 0 0, .int .i64 0] 56)
  have HOK := Lib.hid (rsOk_one (xs := xs) (s := s) (t := t) (bs := bs) (u := u) (G := rowNums rs))
  obtain ⟨c0, c1, c2⟩ := h0.cells3
  obtain ⟨d0, d1, -, -⟩ := h1.two
  cases hc : isCamp xs s t bs.length u
  · have HC := Lib.hid hc
    have HO : Hid (rsOk xs s t bs u [rowNums rs] = false) := by show _ = _; rw [rsOk, hc, Bool.false_and]
    clear hc hx
    go_enter Try.func52, Try.ntmps52
    go_wp2_with fail
    refine (toCamp_any8 A n c xs s t B _ d u _ (by exact hA.below ht) HX.out hn).mono ?_
    rintro e w1 ⟨rfl, hb⟩
    rw [HC.out]
    replace ht := below_then ht hb ht.size
    replace hr := hr.below hb
    clear hb c0 c1 c2 d0 d1 h0 h1
    obtain ⟨r0, r1, f0, f1⟩ := hr.two
    have hlr := hr.lt
    go_wp2
    refine bodyPost_ret (v := .tuple #[.agg #[.slice none 0 0, .int .i64 0], .bool false]) (by simp [results, Try.results52, go_sem, r0, r1]) rfl ⟨none, 0, by rw [HO.out, rsBits_no HO.out, rsTorch_no HO.out]; rfl, .inl (by rw [rsBits_no HO.out]; rfl), below_set (below_set ht (by omega)) (by omega)⟩
  have HC := Lib.hid hc
  have hp := camp_parts hc
  have hok := hp.1
  have hn6 := hok.six
  have hn1 := hok.one
  have htt := hok.torches
  have hss := hok.seats
  have hmm : bs.length = n := by have := hp.2.1; omega
  have huu := hp.2.2
  have HM := Lib.hid hmm
  have HR : Hid (rsOk xs s t bs u [rowNums rs] = canG n s t bs u (rowNums rs)) := by show _ = _; rw [HOK.out, canRnd, hc, Bool.true_and, hx]
  rw [hx] at hn6 hn1
  clear hc hx hp hok hmm
  cases hg : canG n s t bs u (rowNums rs)
  all_goals
    have HG := Lib.hid hg
    have HO := Lib.hid (HR.out.trans hg)
    go_enter Try.func52, Try.ntmps52
    go_wp2_with fail
    refine (toCamp_any8 A n c xs s t B _ d u _ (by exact hA.below ht) HX.out hn).mono ?_
    rintro e w1 ⟨rfl, hb⟩
    rw [HC.out]
    replace ht := below_then ht hb ht.size
    replace h0 := h0.below hb
    replace h1 := h1.below hb
    replace hr := hr.below hb
    clear hb c0 c1 c2 d0 d1
    obtain ⟨c0, c1, c2⟩ := h0.cells3
    obtain ⟨d0, d1, -, -⟩ := h1.two
    go_wp2_with fail
    refine (toCan_any A n c xs s t B _ d bs u D q z rs _ (by omega) hn1 (by omega) (by exact hB.below ht) rfl HM.out (by omega) (by exact hD.below ht) hz hq (by omega)).mono ?_
    rintro e w2 ⟨rfl, hb⟩
    rw [HG.out]
    replace ht := below_then ht hb ht.size
    replace h0 := h0.below hb
    replace h1 := h1.below hb
    replace hr := hr.below hb
    clear hb c0 c1 c2 d0 d1
  · clear h0 h1 hg
    obtain ⟨r0, r1, f0, f1⟩ := hr.two
    have hlr := hr.lt
    go_wp2
    refine bodyPost_ret (v := .tuple #[.agg #[.slice none 0 0, .int .i64 0], .bool false]) (by simp [results, Try.results52, go_sem, r0, r1]) rfl ⟨none, 0, by rw [HO.out, rsBits_no HO.out, rsTorch_no HO.out]; rfl, .inl (by rw [rsBits_no HO.out]; rfl), below_set (below_set ht (by omega)) (by omega)⟩
  · have hgo := groups_okG hg
    have hgk := groups_ok (show areGroups n s t (rowNums rs) = true by rw [canG, Bool.and_eq_true] at hg; exact hg.1)
    have hq8 : q ≤ 8 := by have := hgk.1.2; rw [rowNums_len] at this; omega
    obtain ⟨b, o, hBe, hbl, -⟩ := bits_spot hB (by have := HM.out; omega)
    obtain ⟨b', o', hBe', hbl', hcb⟩ := hB.spot (by rw [bits_len]; have := HM.out; omega)
    obtain ⟨rfl, rfl⟩ : b = b' ∧ o = o' := by
      rw [hBe] at hBe'
      simp only [Option.some.injEq, Addr.mk.injEq] at hBe'
      exact ⟨hBe'.1, hBe'.2.1⟩
    subst hBe
    have haf := toAfter_any b o bs.length d D q z n bs rs u w2 (fun j x hj => (ht.cell (p := ⟨b, o + j, none⟩) hbl).trans (hcb j x hj)) rfl (by have := HM.out; omega) (by have := HM.out; omega) HM.out (hD.below ht) hz hq8 (fun k hk => ⟨hgo.steps k hk, by have := (trip_parts (ok_trip hk (hgk.2 k hk))).1.1; omega⟩) hgo.sides (by omega)
    have HAF := Lib.hid haf
    have HBI : Hid (rsBits xs s t bs u [rowNums rs] = flipped bs (flat (rowNums rs))) := rsBits_yes HO.out
    have HTO : Hid (rsTorch xs s t bs u [rowNums rs] = u + nearN bs (rowNums rs) - farN bs (rowNums rs)) := rsTorch_yes HO.out
    obtain ⟨d0, d1, -, -⟩ := h1.two
    clear hg hgo hgk haf hcb hBe'
    go_wp2_with fail
    refine HAF.out.mono ?_
    clear HAF d0 d1
    rintro e w3 ⟨A3, q3, rfl, hF, hb⟩
    have hsz := ht.size
    have hlr0 := hr.lt
    replace ht := below_then ht hb ht.size
    replace hr := hr.below hb
    obtain ⟨r0, r1, f0, f1⟩ := hr.two
    have HFF := Lib.hid (((hF.set_out (b := w.heap.size + 1 + 1) (o := 0) (u := .slice A3 (flipped bs (flat (rowNums rs))).length q3) (.inl (by omega))).set_out (b := w.heap.size + 1 + 1) (o := 1) (u := .int .i64 (u + nearN bs (rowNums rs) - farN bs (rowNums rs))) (.inl (by omega))).more (lo' := w.heap.size) (hi' := w3.heap.size) (by omega) (Nat.le_refl _))
    clear hb hF h0 h1
    go_wp2
    refine bodyPost_ret (v := .tuple #[.agg #[.slice A3 (flipped bs (flat (rowNums rs))).length q3, .int .i64 (u + nearN bs (rowNums rs) - farN bs (rowNums rs))], .bool true]) (by simp [results, Try.results52, go_sem, r0, r1]) rfl ⟨A3, q3, by rw [HO.out, HBI.out, HTO.out], ?_, below_set (below_set ht (by omega)) (by omega)⟩
    rw [HBI.out]
    simpa [World.setCell] using HFF.out

set_option maxHeartbeats 6400000 in
set_option maxRecDepth 100000 in
set_option linter.unusedVariables false in
theorem implRoundsAfter_any (A : Option Addr) (n c : Nat) (xs : List Int) (s t : Int) (B : Option Addr) (m d : Nat) (bs : List Bool) (u : Int) (D : Option Addr) (q z : Nat) (gs : List GridV) (w : World) (hA : Holds w A (nums xs)) (hx : xs.length = n) (hn : n ≤ 9223372036854775807) (hB : Holds w B (bits bs)) (hy : bs.length = m) (hm : m ≤ 9223372036854775807) (hD : Cube w D gs) (hz : gs.length = q) (hq : q ≤ 9223372036854775807) :
    Calls Try.prog 57 #[.agg #[.slice A n c, .int .i64 s, .int .i64 t], .agg #[.slice B m d, .int .i64 u], .slice D q z] w (CampPost (rsBits xs s t bs u (cubeNums gs)) (rsTorch xs s t bs u (cubeNums gs)) (rsOk xs s t bs u (cubeNums gs)) w) := by
  subst hy
  have HX := Lib.hid hx
  have h0 := ((Whole.fresh w 48 #[.slice A n c, .int .i64 s, .int .i64 t]).alloc (.cells #[.slice B bs.length d, .int .i64 u] 56)).alloc (.cells #[.slice none 0 0, .int .i64 0] 56)
  have h1 := (Whole.fresh (w.alloc (.cells #[.slice A n c, .int .i64 s, .int .i64 t] 48)) 56 #[.slice B bs.length d, .int .i64 u]).alloc (.cells #[.slice none 0 0, .int .i64 0] 56)
  have hr := Whole.fresh ((w.alloc (.cells #[.slice A n c, .int .i64 s, .int .i64 t] 48)).alloc (.cells #[.slice B bs.length d, .int .i64 u] 56)) 56 #[.slice none 0 0, .int .i64 0]
  simp only [World.size_alloc] at h1 hr
  have ht := below3 w (.cells #[.slice A n c, .int .i64 s, .int .i64 t] 48) (.cells #[.slice B bs.length d, .int .i64 u] 56) (.cells #[.slice none 0 0, .int .i64 0] 56)
  obtain ⟨c0, c1, c2⟩ := h0.cells3
  obtain ⟨d0, d1, -, -⟩ := h1.two
  clear hx
  go_enter Try.func57, Try.ntmps57
  go_wp2_with fail
  refine (siteOf_any A n c xs s t B _ d bs u _ (by exact hA.below ht) HX.out hn (by exact hB.below ht) rfl hm).mono ?_
  rintro e w1 ⟨⟨hc, rfl⟩ | ⟨hc, rfl⟩, hb⟩
  rotate_left
  · have HO : Hid (rsOk xs s t bs u (cubeNums gs) = false) := by show _ = _; rw [rsOk, hc, Bool.false_and]
    replace ht := below_then ht hb ht.size
    replace hr := hr.below hb
    have hlr0 := hr.lt
    clear hc hb c0 c1 c2 d0 d1 h0 h1
    have hb2 := below_set (below_set ht (b := w.heap.size + 1 + 1) (o := 0) (u := .slice none 0 0) (by omega)) (b := w.heap.size + 1 + 1) (o := 1) (u := .int .i64 0) (by omega)
    have hb3 := hb2.alloc hb2.size (.cells (siteCells [] 0) 103)
    have hr3 := ((hr.set_ 0 (.slice none 0 0)).set_ 1 (.int .i64 0)).alloc (.cells (siteCells [] 0) 103)
    unfold siteCells at hb3 hr3
    unfold siteCells
    obtain ⟨r0, r1, f0, f1⟩ := hr.two
    have HR3 := Lib.hid hr3
    have HB3 := Lib.hid hb3
    clear hr hr3 hb2 hb3
    go_wp2
    obtain ⟨q0, q1, -, -⟩ := (show Whole _ (w.heap.size + 1 + 1) 56 #[.slice none 0 0, .int .i64 0] by simpa using HR3.out).two
    refine bodyPost_ret (v := .tuple #[.agg #[.slice none 0 0, .int .i64 0], .bool false]) (by simp [results, Try.results57, go_sem, q0, q1]) rfl ⟨none, 0, by rw [HO.out, rsBits_no HO.out, rsTorch_no HO.out]; rfl, .inl (by rw [rsBits_no HO.out]; rfl), by simpa using HB3.out⟩
  have HC := Lib.hid hc
  have hp := camp_parts hc
  have hok := hp.1
  have hxl := HX.out
  have hn6 := hok.six
  have htt := hok.torches
  have huu := hp.2.2
  have HTI : Hid (∀ y ∈ xs, 1 ≤ y ∧ y ≤ 1000) := hok.times
  have HM : Hid (bs.length = n) := by have := hp.2.1; show _ = _; omega
  have HR : Hid (rsOk xs s t bs u (cubeNums gs) = followOk n s t (bs, u) (cubeNums gs)) := by show _ = _; rw [rsOk, hc, Bool.true_and, hxl]
  rw [hxl] at hn6
  obtain ⟨f, hf⟩ : ∃ f : Nat → Bool, f = fun i => bs.getD i false := ⟨_, rfl⟩
  have HSF : Hid (siteCells bs u = si9 f u) := by show _ = _; rw [si9_of, hf]
  rw [HSF.out]
  replace ht := below_then ht hb ht.size
  replace h0 := h0.below hb
  replace hr := hr.below hb
  clear hc hp hok hxl hb c0 c1 c2 d0 d1 h1
  obtain ⟨c0, c1, c2⟩ := h0.cells3
  have hl0 := h0.lt
  have hlr0 := hr.lt
  have hs := Whole.fresh w1 103 (si9 f u)
  obtain ⟨s0, s1, s2, s3, s4, s5, s6, s7, s8⟩ := siteS hs
  have ht2 := ht.alloc ht.size (.cells (si9 f u) 103)
  replace h0 := h0.alloc (.cells (si9 f u) 103)
  replace hr := hr.alloc (.cells (si9 f u) 103)
  have hfo := follow9_any A n c xs s t bs f hf u D q z gs (w1.alloc (.cells (si9 f u) 103)) (hA.below ht2) HX.out (by omega) HM.out (by omega) (by omega) HTI.out (hD.below ht2) hz hq
  clear hs hf
  unfold si9 at s0 s1 s2 s3 s4 s5 s6 s7 s8 ht2 hfo h0 hr
  unfold si9
  have HFO := Lib.hid hfo
  clear hfo
  go_wp2_with fail
  refine HFO.out.mono ?_
  clear HFO
  rintro e w2 ⟨⟨hg, rfl⟩ | ⟨hg, rfl⟩, hb⟩
  rotate_left
  · have HO := Lib.hid (HR.out.trans hg)
    have hsz := ht2.size
    replace ht2 := below_then ht2 hb ht2.size
    replace hr := hr.below hb
    have hlr1 := hr.lt
    clear hg hb c0 c1 c2 s0 s1 s2 s3 s4 s5 s6 s7 s8 h0
    have hb2 := below_set (below_set ht2 (b := w.heap.size + 1 + 1) (o := 0) (u := .slice none 0 0) (by omega)) (b := w.heap.size + 1 + 1) (o := 1) (u := .int .i64 0) (by omega)
    have hb3 := hb2.alloc hb2.size (.cells (siteCells [] 0) 103)
    have hr3 := ((hr.set_ 0 (.slice none 0 0)).set_ 1 (.int .i64 0)).alloc (.cells (siteCells [] 0) 103)
    unfold siteCells at hb3 hr3
    unfold siteCells
    obtain ⟨r0, r1, f0, f1⟩ := hr.two
    have HR3 := Lib.hid hr3
    have HB3 := Lib.hid hb3
    clear hr hr3 hb2 hb3
    go_wp2
    obtain ⟨q0, q1, -, -⟩ := (show Whole _ (w.heap.size + 1 + 1) 56 #[.slice none 0 0, .int .i64 0] by simpa using HR3.out).two
    refine bodyPost_ret (v := .tuple #[.agg #[.slice none 0 0, .int .i64 0], .bool false]) (by simp [results, Try.results57, go_sem, q0, q1]) rfl ⟨none, 0, by rw [HO.out, rsBits_no HO.out, rsTorch_no HO.out]; rfl, .inl (by rw [rsBits_no HO.out]; rfl), by simpa using HB3.out⟩
  have HO := Lib.hid (HR.out.trans hg)
  have HBI : Hid (rsBits xs s t bs u (cubeNums gs) = (afterAll (bs, u) (cubeNums gs)).1) := rsBits_yes HO.out
  have HTO : Hid (rsTorch xs s t bs u (cubeNums gs) = (afterAll (bs, u) (cubeNums gs)).2) := rsTorch_yes HO.out
  have hel : (afterAll (bs, u) (cubeNums gs)).1.length = n := (afterAll_len _ _).trans HM.out
  obtain ⟨be, hbe⟩ : ∃ be, be = (afterAll (bs, u) (cubeNums gs)).1 := ⟨_, rfl⟩
  obtain ⟨ue, hue⟩ : ∃ ue, ue = (afterAll (bs, u) (cubeNums gs)).2 := ⟨_, rfl⟩
  rw [← hbe] at HBI hel ⊢
  rw [← hue] at HTO ⊢
  obtain ⟨fe, hfe⟩ : ∃ fe : Nat → Bool, fe = fun i => be.getD i false := ⟨_, rfl⟩
  have HEL := Lib.hid hel
  have HSE : Hid (siteCells be ue = si9 fe ue) := by show _ = _; rw [si9_of, hfe]
  have hsc := siteCamp_any be ue n
  rw [HSE.out] at hsc ⊢
  have hsz := ht2.size
  replace ht2 := below_then ht2 hb ht2.size
  replace hr := hr.below hb
  replace h0 := h0.below hb
  have hl1 := h0.lt
  have hr1l := hr.lt
  clear hg hb c0 c1 c2 s0 s1 s2 s3 s4 s5 s6 s7 s8 hbe hue hfe hel
  obtain ⟨c0, c1, c2⟩ := h0.cells3
  have hs := Whole.fresh w2 103 (si9 fe ue)
  obtain ⟨s0, s1, s2, s3, s4, s5, s6, s7, s8⟩ := siteS hs
  replace ht2 := ht2.alloc ht2.size (.cells (si9 fe ue) 103)
  replace hr := hr.alloc (.cells (si9 fe ue) 103)
  have hca := hsc (w2.alloc (.cells (si9 fe ue) 103)) HEL.out (by omega)
  clear hs hsc h0
  unfold si9 at s0 s1 s2 s3 s4 s5 s6 s7 s8 ht2 hca hr
  unfold si9
  have HCA := Lib.hid hca
  clear hca
  go_wp2_with fail
  refine HCA.out.mono ?_
  clear HCA c0 c1 c2 s0 s1 s2 s3 s4 s5 s6 s7 s8
  rintro e w3 ⟨A3, q3, rfl, hF, hb⟩
  have hsz2 := ht2.size
  have hlr2 := hr.lt
  replace ht2 := below_then ht2 hb ht2.size
  replace hr := hr.below hb
  obtain ⟨r0, r1, f0, f1⟩ := hr.two
  have HFF := Lib.hid (((hF.set_out (b := w.heap.size + 1 + 1) (o := 0) (u := .slice A3 be.length q3) (.inl (by omega))).set_out (b := w.heap.size + 1 + 1) (o := 1) (u := .int .i64 ue) (.inl (by omega))).more (lo' := w.heap.size) (hi' := w3.heap.size) (by omega) (Nat.le_refl _))
  clear hb hF
  go_wp2
  refine bodyPost_ret (v := .tuple #[.agg #[.slice A3 be.length q3, .int .i64 ue], .bool true]) (by simp [results, Try.results57, go_sem, r0, r1]) rfl ⟨A3, q3, by rw [HO.out, HBI.out, HTO.out], ?_, below_set (below_set ht2 (by omega)) (by omega)⟩
  rw [HBI.out]
  simpa [World.setCell] using HFF.out

set_option maxHeartbeats 3200000 in
set_option maxRecDepth 100000 in
set_option linter.unusedVariables false in
theorem implRoundAfter_any (A : Option Addr) (n c : Nat) (xs : List Int) (s t : Int) (B : Option Addr) (m d : Nat) (bs : List Bool) (u : Int) (D : Option Addr) (q z : Nat) (rs : List RowV) (w : World) (hA : Holds w A (nums xs)) (hx : xs.length = n) (hn : n ≤ 9223372036854775807) (hB : Holds w B (bits bs)) (hy : bs.length = m) (hm : m ≤ 9223372036854775807) (hD : Grid w D rs) (hz : rs.length = q) (hq : q ≤ 9223372036854775807) :
    Calls Try.prog 53 #[.agg #[.slice A n c, .int .i64 s, .int .i64 t], .agg #[.slice B m d, .int .i64 u], .slice D q z] w (CampPost (rsBits xs s t bs u [rowNums rs]) (rsTorch xs s t bs u [rowNums rs]) (rsOk xs s t bs u [rowNums rs]) w) := by
  subst hy
  have HX := Lib.hid hx
  have h0 := ((Whole.fresh w 48 #[.slice A n c, .int .i64 s, .int .i64 t]).alloc (.cells #[.slice B bs.length d, .int .i64 u] 56)).alloc (.cells #[.slice none 0 0, .int .i64 0] 56)
  have h1 := (Whole.fresh (w.alloc (.cells #[.slice A n c, .int .i64 s, .int .i64 t] 48)) 56 #[.slice B bs.length d, .int .i64 u]).alloc (.cells #[.slice none 0 0, .int .i64 0] 56)
  have hr := Whole.fresh ((w.alloc (.cells #[.slice A n c, .int .i64 s, .int .i64 t] 48)).alloc (.cells #[.slice B bs.length d, .int .i64 u] 56)) 56 #[.slice none 0 0, .int .i64 0]
  simp only [World.size_alloc] at h1 hr
  have ht := below3 w (.cells #[.slice A n c, .int .i64 s, .int .i64 t] 48) (.cells #[.slice B bs.length d, .int .i64 u] 56) (.cells #[.slice none 0 0, .int .i64 0] 56)
  have hk := (Whole.fresh (((w.alloc (.cells #[.slice A n c, .int .i64 s, .int .i64 t] 48)).alloc (.cells #[.slice B bs.length d, .int .i64 u] 56)).alloc (.cells #[.slice none 0 0, .int .i64 0] 56)) 30 #[.slice D q z])
  replace h0 := h0.alloc (.cells #[.slice D q z] 30)
  replace h1 := h1.alloc (.cells #[.slice D q z] 30)
  replace hr := hr.alloc (.cells #[.slice D q z] 30)
  replace ht := ht.alloc ht.size (.cells #[.slice D q z] 30)
  simp only [World.size_alloc] at hk
  obtain ⟨c0, c1, c2⟩ := h0.cells3
  obtain ⟨d0, d1, -, -⟩ := h1.two
  have hcu : Cube (((((w.alloc (.cells #[.slice A n c, .int .i64 s, .int .i64 t] 48)).alloc (.cells #[.slice B bs.length d, .int .i64 u] 56)).alloc (.cells #[.slice none 0 0, .int .i64 0] 56)).alloc (.cells #[.slice D q z] 30))) (some ⟨w.heap.size + 1 + 1 + 1, 0, none⟩) [⟨D, q, z, rs⟩] :=
    ⟨.inr ⟨_, 0, rfl, hk.lt, fun j x hj => by
      have h1 := hk.cell (0 + j)
      rw [h1]
      simpa [gridVals, GridV.val] using hj⟩, fun g hg => by
      obtain rfl : g = ⟨D, q, z, rs⟩ := by simpa using hg
      exact ⟨hD.below ht, hz, hq⟩⟩
  have hra := implRoundsAfter_any A n c xs s t B _ d bs u (some ⟨w.heap.size + 1 + 1 + 1, 0, none⟩) 1 1 [⟨D, q, z, rs⟩] _ (hA.below ht) HX.out hn (hB.below ht) rfl hm hcu rfl (by omega)
  have hcn : cubeNums [⟨D, q, z, rs⟩] = [rowNums rs] := rfl
  rw [hcn] at hra
  have HRA := Lib.hid hra
  obtain ⟨bx, hbx⟩ : ∃ bx, bx = rsBits xs s t bs u [rowNums rs] := ⟨_, rfl⟩
  obtain ⟨ux, hux⟩ : ∃ ux, ux = rsTorch xs s t bs u [rowNums rs] := ⟨_, rfl⟩
  obtain ⟨ox, hox⟩ : ∃ ox, ox = rsOk xs s t bs u [rowNums rs] := ⟨_, rfl⟩
  rw [← hbx, ← hux, ← hox] at HRA ⊢
  clear hcu hra hcn hx hbx hux hox
  go_enter Try.func53, Try.ntmps53
  go_wp2_with fail
  refine HRA.out.mono ?_
  clear HRA c0 c1 c2 d0 d1 h0 h1 hk
  rintro e w3 ⟨A3, q3, rfl, hF, hb⟩
  have hsz2 := ht.size
  have hlr2 := hr.lt
  replace ht := below_then ht hb ht.size
  replace hr := hr.below hb
  obtain ⟨r0, r1, f0, f1⟩ := hr.two
  have HFF := Lib.hid (((hF.set_out (b := w.heap.size + 1 + 1) (o := 0) (u := .slice A3 bx.length q3) (.inl (by omega))).set_out (b := w.heap.size + 1 + 1) (o := 1) (u := .int .i64 ux) (.inl (by omega))).more (lo' := w.heap.size) (hi' := w3.heap.size) (by omega) (Nat.le_refl _))
  clear hb hF hr
  go_wp2
  refine bodyPost_ret (v := .tuple #[.agg #[.slice A3 bx.length q3, .int .i64 ux], .bool ox]) (by simp [results, Try.results53, go_sem, r0, r1]) rfl ⟨A3, q3, rfl, ?_, below_set (below_set ht (by omega)) (by omega)⟩
  simpa [World.setCell] using HFF.out

theorem specRoundAfter_on (A : Option Addr) (n c : Nat) (xs : List Int) (s t : Int) (B : Option Addr) (m d : Nat) (bs : List Bool) (u : Int) (D : Option Addr) (q z : Nat) (rs : List RowV) (w : World) (hA : Holds w A (nums xs)) (hx : xs.length = n) (hn : n ≤ 9223372036854775807) (hB : Holds w B (bits bs)) (hy : bs.length = m) (hm : m ≤ 9223372036854775807) (hD : Grid w D rs) (hz : rs.length = q) (hq : q ≤ 1048576) (ls : List (List Int)) (he : rowNums rs = ls) :
    Calls Try.prog 52 #[.agg #[.slice A n c, .int .i64 s, .int .i64 t], .agg #[.slice B m d, .int .i64 u], .slice D q z] w (CampPost (rsBits xs s t bs u [ls]) (rsTorch xs s t bs u [ls]) (rsOk xs s t bs u [ls]) w) := by
  subst he
  exact specRoundAfter_any A n c xs s t B m d bs u D q z rs w hA hx hn hB hy hm hD hz hq
theorem implRoundAfter_on (A : Option Addr) (n c : Nat) (xs : List Int) (s t : Int) (B : Option Addr) (m d : Nat) (bs : List Bool) (u : Int) (D : Option Addr) (q z : Nat) (rs : List RowV) (w : World) (hA : Holds w A (nums xs)) (hx : xs.length = n) (hn : n ≤ 9223372036854775807) (hB : Holds w B (bits bs)) (hy : bs.length = m) (hm : m ≤ 9223372036854775807) (hD : Grid w D rs) (hz : rs.length = q) (hq : q ≤ 1048576) (ls : List (List Int)) (he : rowNums rs = ls) :
    Calls Try.prog 53 #[.agg #[.slice A n c, .int .i64 s, .int .i64 t], .agg #[.slice B m d, .int .i64 u], .slice D q z] w (CampPost (rsBits xs s t bs u [ls]) (rsTorch xs s t bs u [ls]) (rsOk xs s t bs u [ls]) w) := by
  subst he
  exact implRoundAfter_any A n c xs s t B m d bs u D q z rs w hA hx hn hB hy hm hD hz (by omega)
end Go.Proofs.Ytifaadjbkbdbnaa
