/-
  What is proved: the contract of a trip made by the model. Conditions: the trip is one.
-/
import Derived.Test.YtionmcgaicijkaaCross
import Derived.Deep.DeepCutAuto
namespace Go.Proofs.Ytionmcgaicijkaa
open Go.RowKit

theorem Fresh.turn {w : World} {lo hi k : Nat} {ty : TypeId} {A : Option Addr} {xs : List Value} (hf : Fresh w lo hi ty A xs) (hk : k < xs.length) :
    ∃ g u, A = some ⟨g, 0, none⟩ ∧ lo ≤ g ∧ g < hi ∧ g < w.heap.size ∧ w.cell? ⟨g, k, none⟩ = some u ∧ w.frozen? ⟨g, k, none⟩ = false ∧ ∀ v, Fresh (w.setCell ⟨g, k, none⟩ v) lo hi ty A (xs.set k v) := by
  rcases hf with rfl | ⟨g, cs, hA, h1, h2, hw, h3, h4⟩
  · simp at hk
  · refine ⟨g, cs[k]'(by omega), hA, h1, h2, hw.lt, (hw.cell k).trans (by simp), hw.open_ k, fun v => .inr ⟨g, _, hA, h1, h2, hw.set_ k v, by simpa using h3, ?_⟩⟩
    rw [List.length_set, Array.toList_setIfInBounds, ← h4, List.take_set, List.length_take]
    congr 2
    simp only [Array.length_toList]
    omega

/-- What stands behind the model's copy of the state. -/
def CrossMid (m : Nat) (bs : List Bool) (t : Bool) (b o d : Nat) (w : World) (v : Value) (wx : World) : Prop :=
  ∃ (g c lo hi : Nat) (A : Option Addr), v = .pointer (some ⟨g, 0, none⟩) ∧ w.heap.size + 1 + 1 ≤ g ∧ w.heap.size + 1 + 1 ≤ lo ∧ (g < lo ∨ hi ≤ g) ∧ hi ≤ wx.heap.size ∧ Whole wx g 30 #[.slice A m c, .bool (!t)] ∧ Fresh wx lo hi 4 A (bits bs) ∧ Whole wx w.heap.size 30 #[.slice (some ⟨b, o, none⟩) m d, .bool t] ∧ Whole wx (w.heap.size + 1) 30 #[.slice none 0 0, .bool false] ∧ Below w.heap.size w wx

set_option maxHeartbeats 3200000 in
theorem paCross_any (b o m d : Nat) (D : Option Addr) (q z : Nat) (bs : List Bool) (l : List Int) (t : Bool) (w : World) (hB : ∀ j u, (bits bs)[j]? = some u → w.cell? ⟨b, o + j, none⟩ = some u) (hy : bs.length = m) (hm0 : 0 < m) (hm : m ≤ 1048576)
    (hD : Holds w D (nums l)) (hz : l.length = q) (hq : q ≤ 9223372036854775807) (hl : StepsTo l (m - 1) l.length) :
    Calls Try.prog 62 #[.agg #[.slice (some ⟨b, o, none⟩) m d, .bool t], .slice D q z] w (StateRes (flipped bs l) (!t) w) := by
  obtain ⟨i0, hi, hz0, hz1, hz2⟩ := info_parts info_bool
  have HI := Lib.hid hi
  have HZ0 := Lib.hid hz0
  have HZ1 := Lib.hid hz1
  have HZ2 := Lib.hid hz2
  have HB := Lib.hid hB
  have HY := Lib.hid hy
  have HL := Lib.hid hl
  have HZ := Lib.hid hz
  have hp := (Whole.fresh w 30 #[.slice (some ⟨b, o, none⟩) m d, .bool t]).alloc (.cells #[.slice none 0 0, .bool false] 30)
  obtain ⟨c0, c1, -, -⟩ := hp.two
  clear hi hz0 hz1 hz2 hB hy hl hz
  have hB1 : ∀ j u, (bits bs)[j]? = some u → World.cell? (World.drew (((w.alloc (.cells #[.slice (some ⟨b, o, none⟩) m d, .bool t] 30)).alloc (.cells #[.slice none 0 0, .bool false] 30)).alloc (.cells #[] 4))) ((⟨b, o, none⟩ : Addr).add j) = some u := fun j u hu => by
    rw [show (⟨b, o, none⟩ : Addr).add j = ⟨b, o + j, none⟩ from by unfold Addr.add; split <;> simp_all]
    have h := HB.out j u hu
    rw [← h]
    exact (below3 w _ _ _).cell (p := ⟨b, o + j, none⟩) (block_lt_of_cell h)
  have hB2 : ∀ j u, (bits bs)[j]? = some u → World.cell? (World.drew ((((w.alloc (.cells #[.slice (some ⟨b, o, none⟩) m d, .bool t] 30)).alloc (.cells #[.slice none 0 0, .bool false] 30)).alloc (.cells #[] 4)).alloc (.cells #[.slice none 0 0, .bool false] 30))) ((⟨b, o, none⟩ : Addr).add j) = some u := fun j u hu => by
    rw [show (⟨b, o, none⟩ : Addr).add j = ⟨b, o + j, none⟩ from by unfold Addr.add; split <;> simp_all]
    have h := HB.out j u hu
    rw [← h]
    exact (below4 w _ _ _ _).cell (p := ⟨b, o + j, none⟩) (block_lt_of_cell h)
  have hB3 : ∀ j u, (bits bs)[j]? = some u → World.cell? (World.drew ((((w.alloc (.cells #[.slice (some ⟨b, o, none⟩) m d, .bool t] 30)).alloc (.cells #[.slice none 0 0, .bool false] 30)).alloc (.cells #[.slice none 0 0, .bool false] 30)).alloc (.cells #[] 4))) ((⟨b, o, none⟩ : Addr).add j) = some u := fun j u hu => by
    rw [show (⟨b, o, none⟩ : Addr).add j = ⟨b, o + j, none⟩ from by unfold Addr.add; split <;> simp_all]
    have h := HB.out j u hu
    rw [← h]
    exact (below4 w _ _ _ _).cell (p := ⟨b, o + j, none⟩) (block_lt_of_cell h)
  have HN3 := Lib.hid hB3
  have HN1 := Lib.hid hB1
  have HN2 := Lib.hid hB2
  have HLEN := Lib.hid (show (bits bs).length = m * 1 by rw [bits_len, HY.out, Nat.mul_one])
  have HONE := Lib.hid (bits_one bs)
  have HP1 := Lib.hid (hp.alloc (.cells #[] 4)).drew
  have HP2 := Lib.hid ((hp.alloc (.cells #[] 4)).alloc (.cells #[.slice none 0 0, .bool false] 30)).drew
  have HP3 := Lib.hid ((hp.alloc (.cells #[.slice none 0 0, .bool false] 30)).alloc (.cells #[] 4)).drew
  have hr := Whole.fresh (w.alloc (.cells #[.slice (some ⟨b, o, none⟩) m d, .bool t] 30)) 30 #[.slice none 0 0, .bool false]
  rw [World.size_alloc] at hr
  have HR1 := Lib.hid (hr.alloc (.cells #[] 4)).drew
  have HR2 := Lib.hid ((hr.alloc (.cells #[] 4)).alloc (.cells #[.slice none 0 0, .bool false] 30)).drew
  have HR3 := Lib.hid ((hr.alloc (.cells #[.slice none 0 0, .bool false] 30)).alloc (.cells #[] 4)).drew
  have hq3 := (Whole.fresh ((w.alloc (.cells #[.slice (some ⟨b, o, none⟩) m d, .bool t] 30)).alloc (.cells #[.slice none 0 0, .bool false] 30)) 30 #[.slice none 0 0, .bool false]).alloc (.cells #[] 4)
  simp only [World.size_alloc] at hq3
  have HQ3 := Lib.hid hq3.drew
  have HB3 := Lib.hid ((below4 w (.cells #[.slice (some ⟨b, o, none⟩) m d, .bool t] 30) (.cells #[.slice none 0 0, .bool false] 30) (.cells #[.slice none 0 0, .bool false] 30) (.cells #[] 4)).drew)
  have hq2 := Whole.fresh (((w.alloc (.cells #[.slice (some ⟨b, o, none⟩) m d, .bool t] 30)).alloc (.cells #[.slice none 0 0, .bool false] 30)).alloc (.cells #[] 4)) 30 #[.slice none 0 0, .bool false]
  simp only [World.size_alloc] at hq2
  have HQ2 := Lib.hid hq2.drew
  have HB1 := Lib.hid ((below3 w (.cells #[.slice (some ⟨b, o, none⟩) m d, .bool t] 30) (.cells #[.slice none 0 0, .bool false] 30) (.cells #[] 4)).drew)
  have HB2 := Lib.hid ((below4 w (.cells #[.slice (some ⟨b, o, none⟩) m d, .bool t] 30) (.cells #[.slice none 0 0, .bool false] 30) (.cells #[] 4) (.cells #[.slice none 0 0, .bool false] 30)).drew)
  clear hB1 hB2 hB3 hp hr hq2 hq3
  go_enter Try.func62, Try.ntmps62
  go_upto_region 1 with fail
  go_cut [5] (fun s5 wx => CrossMid m bs t b o d w s5 wx)
  case first =>
    go_region_law (first | (refine step_append_grows rfl (.tmp 8) (.tmp 10) 25 rfl 4 i0 (.bool false) 1 1 Try.underlying25 HI.out HZ0.out HZ1.out HZ2.out rfl (by decide) (some ⟨w.heap.size + 1 + 1, 0, none⟩) 0 0 [] rfl (by intro h; cases h) rfl (by intro x hx j u hu; simp at hu) ⟨b, o, none⟩ m d (bits bs) rfl HLEN.out HN1.out HONE.out (by omega) (by unfold maxLen; omega) (by omega) ?_; intro v' w1 hown1 hg1; simp only [Nat.zero_add, List.nil_append] at hown1; obtain ⟨A, c, hv', hf⟩ := Fresh.of_own hown1 (Nat.le_refl _); subst hv'; have hp1 : Whole w1 w.heap.size 30 #[.slice (some ⟨b, o, none⟩) m d, .bool t] := (hg1.block _ HP1.out.lt (fun e => by cases e)).trans HP1.out; have hr1 : Whole w1 (w.heap.size + 1) 30 #[.slice none 0 0, .bool false] := (hg1.block _ HR1.out.lt (fun e => by cases e)).trans HR1.out; obtain ⟨k0, k1, -, -⟩ := hp1.two; have hbl := HB1.out.grown hg1 (by simp; omega) (fun k e => by cases e); obtain ⟨k2, k3, -, -⟩ := (hp1.alloc (.cells #[.slice none 0 0, .bool false] 30)).two; have tok1 : True := trivial; clear hown1) | (refine step_append_grows rfl (.tmp 8) (.tmp 10) 25 rfl 4 i0 (.bool false) 1 1 Try.underlying25 HI.out HZ0.out HZ1.out HZ2.out rfl (by decide) (some ⟨w.heap.size + 1 + 1, 0, none⟩) 0 0 [] rfl (by intro h; cases h) rfl (by intro x hx j u hu; simp at hu) ⟨b, o, none⟩ m d (bits bs) rfl HLEN.out HN2.out HONE.out (by omega) (by unfold maxLen; omega) (by omega) ?_; intro v' w1 hown1 hg1; simp only [Nat.zero_add, List.nil_append] at hown1; obtain ⟨A, c, hv', hf⟩ := Fresh.of_own hown1 (Nat.le_refl _); subst hv'; have hp1 : Whole w1 w.heap.size 30 #[.slice (some ⟨b, o, none⟩) m d, .bool t] := (hg1.block _ HP2.out.lt (fun e => by cases e)).trans HP2.out; have hr1 : Whole w1 (w.heap.size + 1) 30 #[.slice none 0 0, .bool false] := (hg1.block _ HR2.out.lt (fun e => by cases e)).trans HR2.out; obtain ⟨k0, k1, -, -⟩ := hp1.two; have hbl := HB2.out.grown hg1 (by simp; omega) (fun k e => by cases e); have hq1 : Whole w1 (w.heap.size + 1 + 1 + 1) 30 #[.slice none 0 0, .bool false] := (hg1.block _ HQ2.out.lt (fun e => by cases e)).trans HQ2.out; obtain ⟨k4, k5, k6, k7⟩ := hq1.two; have tok2 : True := trivial; clear hown1) | (refine step_append_grows rfl (.tmp 8) (.tmp 10) 25 rfl 4 i0 (.bool false) 1 1 Try.underlying25 HI.out HZ0.out HZ1.out HZ2.out rfl (by decide) (some ⟨w.heap.size + 1 + 1 + 1, 0, none⟩) 0 0 [] rfl (by intro h; cases h) rfl (by intro x hx j u hu; simp at hu) ⟨b, o, none⟩ m d (bits bs) rfl HLEN.out HN1.out HONE.out (by omega) (by unfold maxLen; omega) (by omega) ?_; intro v' w1 hown1 hg1; simp only [Nat.zero_add, List.nil_append] at hown1; obtain ⟨A, c, hv', hf⟩ := Fresh.of_own hown1 (Nat.le_refl _); subst hv'; have hp1 : Whole w1 w.heap.size 30 #[.slice (some ⟨b, o, none⟩) m d, .bool t] := (hg1.block _ HP1.out.lt (fun e => by cases e)).trans HP1.out; have hr1 : Whole w1 (w.heap.size + 1) 30 #[.slice none 0 0, .bool false] := (hg1.block _ HR1.out.lt (fun e => by cases e)).trans HR1.out; obtain ⟨k0, k1, -, -⟩ := hp1.two; have hbl := HB1.out.grown hg1 (by simp; omega) (fun k e => by cases e); obtain ⟨k2, k3, -, -⟩ := (hp1.alloc (.cells #[.slice none 0 0, .bool false] 30)).two; have tok1 : True := trivial; clear hown1) | (refine step_append_grows rfl (.tmp 8) (.tmp 10) 25 rfl 4 i0 (.bool false) 1 1 Try.underlying25 HI.out HZ0.out HZ1.out HZ2.out rfl (by decide) (some ⟨w.heap.size + 1 + 1 + 1, 0, none⟩) 0 0 [] rfl (by intro h; cases h) rfl (by intro x hx j u hu; simp at hu) ⟨b, o, none⟩ m d (bits bs) rfl HLEN.out HN3.out HONE.out (by omega) (by unfold maxLen; omega) (by omega) ?_; intro v' w1 hown1 hg1; simp only [Nat.zero_add, List.nil_append] at hown1; obtain ⟨A, c, hv', hf⟩ := Fresh.of_own hown1 (Nat.le_refl _); subst hv'; have hp1 : Whole w1 w.heap.size 30 #[.slice (some ⟨b, o, none⟩) m d, .bool t] := (hg1.block _ HP3.out.lt (fun e => by cases e)).trans HP3.out; have hr1 : Whole w1 (w.heap.size + 1) 30 #[.slice none 0 0, .bool false] := (hg1.block _ HR3.out.lt (fun e => by cases e)).trans HR3.out; obtain ⟨k0, k1, -, -⟩ := hp1.two; have hbl := HB3.out.grown hg1 (by simp; omega) (fun k e => by cases e); have hq1 : Whole w1 (w.heap.size + 1 + 1) 30 #[.slice none 0 0, .bool false] := (hg1.block _ HQ3.out.lt (fun e => by cases e)).trans HQ3.out; obtain ⟨k4, k5, k6, k7⟩ := hq1.two; have tok3 : True := trivial; clear hown1))
    all_goals (clear HN1 HN2 HN3 HP1 HP2 HP3 HR1 HR2 HR3 HQ2 HQ3 HB1 HB2 HB3 HLEN HONE HI HZ0 HZ1 HZ2 HB)
    all_goals (go_wp2_with fail; go_meet)
    all_goals (have hr1l := hr1.lt)
    all_goals (first | (have _t := tok1; exact ⟨w1.heap.size, c, _, w1.heap.size, A, rfl, by omega, by simp, .inr (Nat.le_refl _), by simp, Whole.fresh _ _ _, hf.alloc _, hp1.alloc _, hr1.alloc _, hbl.alloc hbl.size _⟩) | (have _t := tok2; exact ⟨w.heap.size + 1 + 1 + 1, c, _, w1.heap.size, A, rfl, by omega, by simp, .inl (by simp), by simp [World.setCell], (hq1.set_ 0 _).set_ 1 _, (hf.set_out (.inl (by simp))).set_out (.inl (by simp)), (hp1.off (by omega)).off (by omega), (hr1.off (by omega)).off (by omega), below_set (below_set hbl (by omega)) (by omega)⟩) | (have _t := tok3; exact ⟨w.heap.size + 1 + 1, c, _, w1.heap.size, A, rfl, by omega, by simp, .inl (by simp), by simp [World.setCell], (hq1.set_ 0 _).set_ 1 _, (hf.set_out (.inl (by simp))).set_out (.inl (by simp)), (hp1.off (by omega)).off (by omega), (hr1.off (by omega)).off (by omega), below_set (below_set hbl (by omega)) (by omega)⟩))
  case rest =>
    clear HN1 HN2 HN3 HP1 HP2 HP3 HR1 HR2 HR3 HQ2 HQ3 HB1 HB2 HB3 HLEN HONE HI HZ0 HZ1 HZ2 c0 c1
    obtain ⟨g, c, lo, hi, A, rfl, hg, hlo, hd, hhi, gw, hf, gp, gr, hb⟩ := hcut
    go_wp2
    have hF0 : Fresh wc lo hi 4 A (bits (flipped bs (l.take 0))) := by rw [List.take_zero, flipped_nil]; exact hf
    go_loopw [18] (fun i wr => ∃ k : Nat, k ≤ q ∧ i = .int .i64 k ∧ Whole wr g 30 #[.slice A m c, .bool (!t)] ∧ Fresh wr lo hi 4 A (bits (flipped bs (l.take k))) ∧ Whole wr w.heap.size 30 #[.slice (some ⟨b, o, none⟩) m d, .bool t] ∧ Whole wr (w.heap.size + 1) 30 #[.slice none 0 0, .bool false] ∧ Below w.heap.size w wr ∧ hi ≤ wr.heap.size) (fun i _ => q - (intOf i).toNat)
    case atStart => exact ⟨0, Nat.zero_le _, rfl, gw, hF0, gp, gr, hb, hhi⟩
    case round =>
      clear gw hf gp gr hb hF0 hhi
      obtain ⟨k, hk, rfl, gw, hf, gp, gr, hb, hhi⟩ := hrel
      by_cases hlt : k < q
      · have hkl : k < l.length := by have := HZ.out; omega
        obtain ⟨b1, o1, rfl, hbl, hc⟩ := (hD.below hb).look (k := k) (by simpa [nums] using hkl)
        simp only [nums, List.getElem_map] at hc
        have hst := HL.out k hkl
        have hlow := hst.1
        have hhigh := hst.2.1
        rw [getD_at l hkl] at hlow hhigh
        have hix : (l[k]).toNat < bs.length := by have := HY.out; omega
        have hup : l[k] < m := by have := HY.out; omega
        obtain ⟨g1, u1, rfl, hg1, hg1', hg1l, hcell, hfr, hturn⟩ := hf.turn (k := (l[k]).toNat) (by rw [bits_len, flipped_len]; exact hix)
        have hblk := block_lt_of_cell (HB.out (l[k]).toNat _ (List.getElem?_eq_getElem (by rw [bits_len]; exact hix)))
        have hsrc : wr.cell? ⟨b, o + (l[k]).toNat, none⟩ = some (.bool (bs.getD (l[k]).toNat false)) := by
          rw [hb.cell (p := ⟨b, o + (l[k]).toNat, none⟩) hblk]
          refine (HB.out (l[k]).toNat _ ?_)
          simp [bits, hix]
        have hgd : bs.getD (l[k]).toNat false = bs[(l[k]).toNat] := by simp [hix]
        have hnx := flipped_next bs hkl hlow
        rw [hgd] at hsrc hnx
        have HT := Lib.hid (hturn (.bool (!(bs[(l[k]).toNat]))))
        have HNX := Lib.hid hnx
        obtain ⟨a0, a1, -, -⟩ := gw.two
        obtain ⟨p0, p1, -, -⟩ := gp.two
        have GW := Lib.hid gw
        have GP := Lib.hid gp
        have GR := Lib.hid gr
        clear hst hhigh hf hturn gw gp gr hgd hnx
        go_wp2
        go_region
        all_goals
          go_wp2
          go_roundw
          case rel => exact ⟨k + 1, by omega, by go_num, (GW.out.off (by omega)).drew, by rw [← HNX.out]; have h := HT.out.drew; simpa [bits, List.map_set] using h, (GP.out.off (by omega)).drew, (GR.out.off (by omega)).drew, (below_set hb (by omega)).drew, by simpa [World.setCell] using hhi⟩
          case measure => simp [intOf]; omega
      · have hkq : l.take k = l := List.take_of_length_le (by have := HZ.out; omega)
        rw [hkq] at hf
        have HF := Lib.hid ((hf.set_out (b := w.heap.size + 1) (o := 0) (u := .slice A m c) (.inl (by omega))).set_out (b := w.heap.size + 1) (o := 1) (u := .bool (!t)) (.inl (by omega)))
        have HS := Lib.hid (below_set (o := 1) (u := .bool (!t)) (below_set (o := 0) (u := .slice A m c) hb (show w.heap.size ≤ w.heap.size + 1 by omega)) (show w.heap.size ≤ w.heap.size + 1 by omega))
        obtain ⟨a0, a1, -, -⟩ := gw.two
        obtain ⟨r0, r1, f0, f1⟩ := gr.two
        have hrl := gr.lt
        clear hkq hf
        go_wp2
        refine bodyPost_ret (v := .agg #[.slice A m c, .bool (!t)]) (by simp [results, Try.results62, go_sem, r0, r1]) rfl ⟨A, c, by rw [flipped_len, HY.out], ?_, HS.out⟩
        exact HF.out.more (by omega) (by simpa [World.setCell] using hhi)
end Go.Proofs.Ytionmcgaicijkaa
