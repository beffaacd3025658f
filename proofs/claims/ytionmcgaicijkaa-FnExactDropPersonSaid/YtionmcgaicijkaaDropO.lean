/-
  What is proved: the contract of the model's DropPerson. Conditions: the party's times are read as they lie.
-/
import Derived.Test.YtionmcgaicijkaaDrop
import Derived.Test.YtionmcgaicijkaaPaPlay
namespace Go.Proofs.Ytionmcgaicijkaa
open Go.RowKit

set_option maxHeartbeats 3200000 in
set_option maxRecDepth 100000 in
theorem specDrop_on (b0 o0 n c k : Nat) (xs : List Int) (s : Int) (w : World) (hb0 : b0 < w.heap.size) (hA : ∀ j u, (nums xs)[j]? = some u → w.cell? ⟨b0, o0 + j, none⟩ = some u) (hx : xs.length = n) (hn : n ≤ 1048576) (hc : n ≤ c) (hp : isParty xs s = true) (hk : k < n) (h2 : 2 ≤ n) :
    Calls Try.prog 50 #[.agg #[.slice (some ⟨b0, o0, none⟩) n c, .int .i64 s], .int .i64 k] w (PartyPost (lessOne xs k) s true w) := by
  obtain ⟨i0, hi, hz0, hz1, hz2⟩ := info_parts info_int
  have HI := Lib.hid hi
  have HZ0 := Lib.hid hz0
  have HZ1 := Lib.hid hz1
  have HZ2 := Lib.hid hz2
  have HX := Lib.hid hx
  have HP := Lib.hid hp
  have hA0 : Holds w (some ⟨b0, o0, none⟩) (nums xs) := .inr ⟨b0, o0, rfl, hb0, hA⟩
  have hA2 := (hA0.alloc (.cells #[.slice (some ⟨b0, o0, none⟩) n c, .int .i64 s] 33)).alloc (.cells #[.slice none 0 0, .int .i64 0] 33)
  have h0 := (Whole.fresh w 33 #[.slice (some ⟨b0, o0, none⟩) n c, .int .i64 s]).alloc (.cells #[.slice none 0 0, .int .i64 0] 33)
  have h1 := Whole.fresh (w.alloc (.cells #[.slice (some ⟨b0, o0, none⟩) n c, .int .i64 s] 33)) 33 #[.slice none 0 0, .int .i64 0]
  rw [World.size_alloc] at h1
  have hwr : IntKind.i64.wrap ((n : Int) - 1) = (n : Int) - 1 := IntWalk.i64_in _ (by omega)
  have hwk : IntKind.i64.wrap ((k : Int) + 1) = (k : Int) + 1 := IntWalk.i64_in _ (by omega)
  have hp0 : (0 : Int) ≤ (k : Int) + 1 := by omega
  have hp1 : (k : Int) + 1 ≤ (n : Int) := by omega
  have hp2 : ((k : Int) + 1).toNat = k + 1 := by omega
  have hkc : (k : Int) ≤ (c : Int) := by omega
  have hkn : k ≤ c := by omega
  have hne : ¬ (n : Int) = 1 := by omega
  have HW : Hid (within k 0 (n - 1) = true) := within_yes (by omega) (by omega)
  have HTL : Hid ((xs.take k).length = k) := by show _ = _; rw [List.length_take]; omega
  have HDL : Hid ((nums (xs.drop (k + 1))).length = (n - (k + 1)) * 1) := by show _ = _; rw [nums_len, List.length_drop, hx, Nat.mul_one]
  obtain ⟨d, hd, -⟩ := tail_at (w := w) (k := k) hA hx hc
  have HB0 := Lib.hid hb0
  have HCE := Lib.hid hA
  have HONE := Lib.hid (ints_one (xs.drop (k + 1)))
  clear hi hz0 hz1 hz2 hx hp hA0 hA hb0
  go_enter Try.func50, Try.ntmps50
  go_wp2_with fail
  refine (paGood_any _ n c xs s _ hA2 HX.out (by omega)).mono ?_
  rintro e w1 ⟨rfl, hb⟩
  rw [HP.out]
  have ht := below_then (below2 w _ _) hb (by simp; omega)
  have hq := h0.below hb
  obtain ⟨k0, k1, -, -⟩ := hq.two
  have hr := h1.below hb
  have hlr := hr.lt
  have hlq := hq.lt
  clear h0 h1 hb hA2
  have HCW : Hid (∀ j u, (nums xs)[j]? = some u → w1.cell? ⟨b0, o0 + j, none⟩ = some u) := fun j u hu => (ht.cell (p := ⟨b0, o0 + j, none⟩) HB0.out).trans (HCE.out j u hu)
  have HHD := Lib.hid (head_at (w := w1) (o := o0) (k := k) (by have := HB0.out; have := ht.size; omega) HCW.out)
  obtain ⟨d', hd', HTA⟩ := tail_at (w := w1) (k := k) HCW.out HX.out hc
  obtain rfl : d = d' := by rw [hd] at hd'; simpa using hd'
  clear hd'
  go_wp2_with fail
  refine (l1In_any _ _ _ _).mono ?_
  rintro e w' ⟨rfl, rfl⟩
  rw [HW.out]
  go_wp2_with fail
  have HHQ := Lib.hid hq
  have HHR := Lib.hid hr
  have HT := Lib.hid ht
  have HMAX := Lib.hid (show k + (n - (k + 1)) ≤ maxLen by unfold maxLen; omega)
  have HBYT := Lib.hid (show (k + (n - (k + 1))) * 8 ≤ 140737488355328 by omega)
  have HLT1 := Lib.hid (show b0 < w1.heap.size by have := HB0.out; have := ht.size; omega)
  clear hq hr ht
  go_region_held3 (fun w' => w'.cell? ⟨w.heap.size, 0, none⟩ = some (.slice (some ⟨b0, o0, none⟩) n c) ∧ w'.cell? ⟨w.heap.size, 1, none⟩ = some (.int .i64 s)) (go_keep)
    (first | (go_at_call 78; refine (l1Own_any _ k c (xs.take k) _ (by exact HHD.out.drew) HTL.out (by omega) (by intro h; cases h)).mono ?_; rintro e w2 ⟨A2, q2, rfl, hown2, hb2⟩; rw [HTL.out] at hown2 ⊢; have hq2 := HHQ.out.drew.below hb2; have hr2 := HHR.out.drew.below hb2; obtain ⟨k2, k3, -, -⟩ := hq2.two; have hc2 : Below w1.heap.size w1 w2 := below_then (Below.refl w1.heap.size w1).drew hb2 (Nat.le_refl _); have hsz2 : w1.heap.size ≤ w2.heap.size := hb2.size; have hl2 : ∀ kk, Value.ownBlock (.slice A2 k q2) = some kk → w1.heap.size ≤ kk := fun kk hkk => (hown2.lt kk hkk).1; have HNW : Hid (∀ j u, (nums (xs.drop (k + 1)))[j]? = some u → w2.cell? ((⟨b0, d, none⟩ : Addr).add j) = some u) := fun j u hu => by (rw [Addr.add_lit]; exact (hc2.cell (p := ⟨b0, d + j, none⟩) HLT1.out).trans (HTA.out j u hu))) | (refine step_append_mine rfl (.tmp 29) (.tmp 34) 22 rfl w1.heap.size 3 i0 (.int .i64 0) 1 8 Try.underlying22 HI.out HZ0.out HZ1.out HZ2.out rfl (by decide) (.slice A2 k q2) k (nums (xs.take k)) (by simp [Act.eval]) hown2 ⟨b0, d, none⟩ (n - (k + 1)) (c - (k + 1)) (nums (xs.drop (k + 1))) (by simp [Act.eval]) HDL.out HNW.out HONE.out HMAX.out HBYT.out hsz2 ?_; intro v' w3 hown3 hg3; obtain ⟨A3, q3, rfl⟩ := own_shape hown3; have hq3 : Whole w3 w.heap.size 33 #[.slice (some ⟨b0, o0, none⟩) n c, .int .i64 s] := (hg3.block _ hq2.lt (fun e => by have := hl2 _ e.symm; omega)).trans hq2; have hr3 : Whole w3 (w.heap.size + 1) 33 #[.slice none 0 0, .int .i64 0] := (hg3.block _ hr2.lt (fun e => by have := hl2 _ e.symm; omega)).trans hr2; obtain ⟨k4, k5, -, -⟩ := hq3.two; obtain ⟨r0, r1, f0, f1⟩ := hr3.two; have hc3 := hc2.grown hg3 hsz2 hl2; clear hq2 hr2))
  have hbw : Below w.heap.size w w3 := below_then HT.out hc3 HT.out.size
  have hsz3 : w2.heap.size ≤ w3.heap.size := hg3.size
  have hl : (lessOne xs k).length = k + (n - (k + 1)) := by
    have := HX.out
    simp only [lessOne, List.length_append, List.length_take, List.length_drop]
    omega
  have hxs : nums (xs.take k) ++ nums (xs.drop (k + 1)) = nums (lessOne xs k) := by simp [nums, lessOne]
  rw [hxs] at hown3
  obtain ⟨A4, q4, hv, hf⟩ := Fresh.of_own hown3 (Nat.le_refl _)
  simp only [Value.slice.injEq, true_and] at hv
  obtain ⟨rfl, rfl⟩ := hv
  have HF := Lib.hid (((hf.set_out (b := w.heap.size + 1) (o := 0) (u := .slice A3 (k + (n - (k + 1))) q3) (.inl (by omega))).set_out (b := w.heap.size + 1) (o := 1) (u := .int .i64 s) (.inl (by omega))).more (lo' := w.heap.size) (hi' := w3.heap.size) (by omega) (by omega))
  clear hf hown3 hxs
  go_wp2
  refine bodyPost_ret (v := .tuple #[.agg #[.slice A3 (k + (n - (k + 1))) q3, .int .i64 s], .bool true]) (by simp [results, Try.results50, go_sem, r0, r1]) rfl ⟨A3, q3, by rw [hl], ?_, ?_⟩
  · have h := HF.out
    simpa [World.setCell] using h
  · exact below_set (below_set hbw (by omega)) (by omega)

theorem specDrop_any (A : Option Addr) (n c : Nat) (xs : List Int) (s k : Int) (w : World) (hA : Holds w A (nums xs)) (hx : xs.length = n) (hn : n ≤ 1048576) (hc : n ≤ c) :
    Calls Try.prog 50 #[.agg #[.slice A n c, .int .i64 s], .int .i64 k] w (PartyPost (dropXs xs s k) (dropSeats xs s k) (dropOk xs s k) w) := by
  cases hok : dropOk xs s k
  · rw [← hok]
    exact specDrop_no A n c xs s k w hA hx hn hok
  · obtain ⟨hp, h0, h1, h2⟩ := dropOk_iff.1 hok
    obtain ⟨e1, e2⟩ := drop_yes hok
    obtain ⟨j, rfl⟩ := Int.eq_ofNat_of_zero_le h0
    obtain ⟨b0, o0, rfl, hbl, hcells⟩ := hA.spot (by rw [nums_len]; omega)
    rw [e1, e2]
    exact specDrop_on b0 o0 n c j xs s w hbl hcells hx hn hc hp (by omega) (by omega)
end Go.Proofs.Ytionmcgaicijkaa
