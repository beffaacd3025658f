/-
  What is proved: contracts of slices.Grow at the nil list and of slices.Concat at lists of numbers. Conditions: at least one number, at most 1,048,576; the lists are read as they lie.
  What is proved: the contract of the model's DropPerson. Conditions: the party's times are read as they lie.
  What is proved: the contract of the program's DropPerson. Conditions: the party's times are read as they lie.
-/
import Derived.Lib.AppendZeros
import Derived.Test.YtcikimjpjebflaaJ8LeastTime
set_option linter.unusedSimpArgs false
set_option linter.unusedVariables false
namespace Go.Proofs.Ytcikimjpjebflaa
open Go.RowKit

set_option maxHeartbeats 1600000 in
set_option maxRecDepth 100000 in
theorem growNil_any (n : Nat) (w : World) (h0 : 0 < n) (hn : n ≤ 1048576) :
    Calls Try.prog 153 #[.slice none 0 0, .int .i64 n] w (OwnPost [] w) := by
  obtain ⟨i0, hi, hz0, hz1, hz2⟩ := info_parts info_int
  have hrun := fun W : World => Lib.run_append_nil_zeros (P := Try.prog) W 22 3 22 3 i0 (.int .i64 0) .i64 .i64 Try.underlying22 Try.underlying3 hi hz0 n h0 (by omega) (by omega) (by rw [hz2]; omega)
  have HR := Lib.hid hrun
  have hg0 : n ≤ grownCap w n 0 3 := grownCap_ge w n 0 _
  have hg1 : grownCap w n 0 3 ≤ maxLen := grownCap_le_maxLen w n 0 _ (by unfold maxLen; omega)
  have hg2 : (grownCap w n 0 3 : Int) ≤ 9223372036854775807 := by unfold maxLen at hg1; omega
  have hn0 : (0 : Int) < n := by omega
  have hn1 : ¬ (n : Int) < 0 := by omega
  have HG := Lib.hid hg1
  clear hi hz0 hz1 hz2 hrun hg1
  go_enter Try.func153, Try.ntmps153
  go_wp2_with (at_builtin; refine Lib.wpList_append_run _ rfl (.tmp 20) (.tmp 21) 22 3 rfl (.slice none 0 0) (.int .i64 n) rfl rfl _ _ (HR.out _) ?_)
  go_ret
  have hsz : (Builtin.zeroCells #[Value.int .i64 0] n ++ Builtin.zeroCells #[Value.int .i64 0] (grownCap w n 0 3 - n)).size = grownCap w n 0 3 * 1 := by
    rw [Array.size_append, size_zeroCells, size_zeroCells]
    simp
    omega
  exact ⟨_, _, rfl, (World.ownsRow_made (base := w.heap.size) (e := 3) (size := 1) w _ _ (Nat.le_refl _) HG.out hsz).drew, (below1 w _).drew⟩

/-- The first k lists one behind the other. -/
def joined (rs : List RowV) (k : Nat) : List Int := (rs.take k).flatMap RowV.xs
theorem joined_next {rs : List RowV} {k : Nat} (hk : k < rs.length) : joined rs (k + 1) = joined rs k ++ rs[k].xs := by
  rw [joined, joined, List.take_succ_eq_append_getElem hk, List.flatMap_append]
  simp
theorem joined_len {w : World} {A : Option Addr} {rs : List RowV} (h : Grid w A rs) : ∀ {k : Nat}, k ≤ rs.length → (joined rs k).length = part rs k
  | 0, _ => by simp [joined, part]
  | k + 1, hk => by
    have hkr : k < rs.length := by omega
    rw [joined_next hkr, List.length_append, joined_len h (by omega), part_next hkr, (h.2 _ (List.getElem_mem hkr)).2.1]

set_option maxHeartbeats 3200000 in
set_option maxRecDepth 100000 in
theorem concat_any (A : Option Addr) (n c : Nat) (rs : List RowV) (w : World) (hA : Grid w A rs) (hx : rs.length = n) (hn : n ≤ 1048576) (hp : 0 < part rs n) (hp2 : part rs n ≤ 1048576) (hnil : ∀ r ∈ rs, r.A = none → r.c = 0) :
    Calls Try.prog 125 #[.slice A n c] w (OwnPost (joined rs n) w) := by
  have HX := Lib.hid hx
  have HN := Lib.hid hnil
  have HP := Lib.hid (fun k (hk : k ≤ n) => part_le (rs := rs) (k := n) (by omega) hk)
  obtain ⟨i0, hi, hz0, hz1, hz2⟩ := info_parts info_int
  have HI := Lib.hid hi
  have HZ0 := Lib.hid hz0
  have HZ1 := Lib.hid hz1
  have HZ2 := Lib.hid hz2
  clear hx hnil hi hz0 hz1 hz2
  go_enter Try.func125, Try.ntmps125
  go_wp2
  go_loop [3, 11] (fun v i => ∃ k : Nat, k ≤ n ∧ i = .int .i64 k ∧ v = .int .i64 (part rs k)) (fun _ i => n - (intOf i).toNat)
  case atStart => exact ⟨0, Nat.zero_le _, rfl, by simp [part_zero]⟩
  case round =>
    obtain ⟨k, hk, rfl, rfl⟩ := hrel
    by_cases hlt : k < n
    · have hkr : k < rs.length := by have := HX.out; omega
      obtain ⟨b, o, rfl, hb, hc, hok⟩ := hA.look hkr
      have hpn := part_next hkr
      have hpl := HP.out (k + 1) (by omega)
      have hs0 : (0 : Int) ≤ (part rs k : Int) + rs[k].n := by omega
      have hs1 : (part rs k : Int) + rs[k].n ≤ 1048576 := by omega
      have hs2 : ¬ (part rs k : Int) + rs[k].n < 0 := by omega
      have HPN := Lib.hid hpn
      clear hok hpn
      go_wp2
      go_round
      case rel => exact ⟨k + 1, by omega, by go_num, by rw [HPN.out]; first | exact congrArg _ (by omega) | (simp; omega)⟩
      case measure => simp [intOf]; omega
    · obtain rfl : k = n := by omega
      go_wp2_with fail
      refine (growNil_any (part rs k) _ hp hp2).mono ?_
      rintro e w1 ⟨A1, c1, rfl, hown1, hb1⟩
      have HO1 := Lib.hid hown1
      have HB1 := Lib.hid hb1
      have hwz := hb1.size
      clear hown1 hb1
      go_wp2
      go_loopw [6, 27] (fun v i wr => ∃ (j : Nat) (E : Option Addr) (d : Nat), j ≤ k ∧ i = .int .i64 j ∧ v = .slice E (part rs j) d ∧ wr.ownsRow w.heap.size 3 1 (.slice E (part rs j) d) (part rs j) (nums (joined rs j)) ∧ Below w.heap.size w wr) (fun _ i _ => k - (intOf i).toNat)
      case atStart => exact ⟨0, A1, c1, Nat.zero_le _, rfl, rfl, HO1.out, HB1.out⟩
      case round =>
        obtain ⟨j, E, d, hj, rfl, rfl, hown, hb⟩ := hrel
        clear HO1 HB1
        by_cases hjk : j < k
        · have hjr : j < rs.length := by have := HX.out; omega
          obtain ⟨b, o, rfl, hbl, hc, hok⟩ := (hA.below hb).look hjr
          have hmem := List.getElem_mem hjr
          have hpn := part_next hjr
          have hjn := joined_next hjr
          have hpl := HP.out (j + 1) (by omega)
          have hnl := HN.out _ hmem
          generalize rs[j] = r at hc hok hpn hjn hnl
          obtain ⟨B1, n1, d1, x1⟩ := r
          obtain ⟨ok1, ok2, ok3⟩ := hok
          dsimp only at hc hpn hjn hnl ok1 ok2 ok3
          have HPN := Lib.hid hpn
          have HJN := Lib.hid hjn
          have HOWN := Lib.hid hown
          have HB := Lib.hid hb
          have hbs := hb.size
          have hn1 : part rs j + n1 ≤ 1048576 := by omega
          cases B1 with
          | none =>
            have h0 : x1 = [] := by
              rcases ok1 with h | ⟨b, o, h, -⟩
              · simpa [nums] using h
              · cases h
            obtain rfl : n1 = 0 := by rw [← ok2, h0]; rfl
            obtain rfl := hnl rfl
            subst h0
            clear ok1 ok2 hpn hjn hown hb
            go_wp2_with (at_builtin; refine wpList_append_own_none rfl (.tmp 31) (.tmp 32) 22 rfl w.heap.size 3 i0 1 Try.underlying22 HI.out _ (part rs j) _ rfl HOWN.out rfl ?_)
            go_roundw
            case rel => exact ⟨j + 1, E, d, by omega, by go_num, by rw [HPN.out]; rfl, by rw [HPN.out, HJN.out, List.append_nil]; exact HOWN.out, HB.out⟩
            case measure => simp [intOf]; omega
          | some ad =>
            have hnews : ∀ j u, (nums x1)[j]? = some u → wr.cell? (ad.add j) = some u := fun j u hu => by
              rcases ok1 with h | ⟨b, o, h, hb, hcell⟩
              · rw [h] at hu; simp at hu
              · obtain rfl : ad = ⟨b, o, none⟩ := by simpa using h
                rw [show (⟨b, o, none⟩ : Addr).add j = ⟨b, o + j, none⟩ from by unfold Addr.add; split <;> simp_all]
                exact hcell j u hu
            have HNEWS := Lib.hid hnews
            have HLEN : Hid ((nums x1).length = n1 * 1) := by show _ = _; rw [nums_len, ok2, Nat.mul_one]
            have HONE := Lib.hid (ints_one x1)
            clear ok1 ok2 hpn hjn hown hb hnews hnl
            go_wp2_with (at_builtin; refine wpList_append_own _ rfl (.tmp 31) (.tmp 32) 22 rfl w.heap.size 3 i0 (.int .i64 0) 1 8 Try.underlying22 HI.out HZ0.out HZ1.out HZ2.out rfl (by decide) (.slice E (part rs j) d) (part rs j) _ rfl HOWN.out ad n1 d1 (nums x1) rfl HLEN.out HNEWS.out HONE.out (by unfold maxLen; omega) (by omega) hbs ?_; intro v' w2 hown2 hg2 _)
            obtain ⟨E2, d2, rfl⟩ := own_shape hown2
            have HO2 := Lib.hid hown2
            have HE := Lib.hid (HB.out.grown hg2 hbs (fun kk hkk => (HOWN.out.lt kk hkk).1))
            clear hown2 hg2
            go_roundw
            case rel => exact ⟨j + 1, E2, d2, by omega, by go_num, by rw [HPN.out], by rw [HPN.out, HJN.out, show nums (joined rs j ++ x1) = nums (joined rs j) ++ nums x1 by simp [nums]]; exact HO2.out, HE.out⟩
            case measure => simp [intOf]; omega
        · obtain rfl : j = k := by omega
          go_wp2
          go_ret
          have hl := joined_len hA (k := j) (by have := HX.out; omega)
          exact ⟨E, d, by rw [hl]; rfl, by rw [hl]; exact hown, hb⟩
end Go.Proofs.Ytcikimjpjebflaa

namespace Go.Proofs.Ytcikimjpjebflaa
open Go.RowKit

set_option maxHeartbeats 3200000 in
set_option maxRecDepth 100000 in
theorem specDrop_on (b0 o0 n c k : Nat) (xs : List Int) (s : Int) (w : World) (hb0 : b0 < w.heap.size) (hA : ∀ j u, (nums xs)[j]? = some u → w.cell? ⟨b0, o0 + j, none⟩ = some u) (hx : xs.length = n) (hn : n ≤ 1048576) (hc : n ≤ c) (hp : isParty xs s = true) (hk : k < n) (h2 : 2 ≤ n) :
    Calls Try.prog 84 #[.agg #[.slice (some ⟨b0, o0, none⟩) n c, .int .i64 s], .int .i64 k] w (PartyPost (lessOne xs k) s true w) := by
  obtain ⟨i0, hi, hz0, hz1, hz2⟩ := info_parts info_int
  have HI := Lib.hid hi
  have HZ0 := Lib.hid hz0
  have HZ1 := Lib.hid hz1
  have HZ2 := Lib.hid hz2
  have HX := Lib.hid hx
  have HP := Lib.hid hp
  have hA0 : Holds w (some ⟨b0, o0, none⟩) (nums xs) := .inr ⟨b0, o0, rfl, hb0, hA⟩
  have hA2 := (hA0.alloc (.cells #[.slice (some ⟨b0, o0, none⟩) n c, .int .i64 s] 28)).alloc (.cells #[.slice none 0 0, .int .i64 0] 28)
  have h0 := (Whole.fresh w 28 #[.slice (some ⟨b0, o0, none⟩) n c, .int .i64 s]).alloc (.cells #[.slice none 0 0, .int .i64 0] 28)
  have h1 := Whole.fresh (w.alloc (.cells #[.slice (some ⟨b0, o0, none⟩) n c, .int .i64 s] 28)) 28 #[.slice none 0 0, .int .i64 0]
  rw [World.size_alloc] at h1
  have hwr : IntKind.i64.wrap ((n : Int) - 1) = (n : Int) - 1 := IntWalk.i64_in _ (by omega)
  have hwk : IntKind.i64.wrap ((k : Int) + 1) = (k : Int) + 1 := IntWalk.i64_in _ (by omega)
  have hp0 : (0 : Int) ≤ (k : Int) + 1 := by omega
  have hp1 : (k : Int) + 1 ≤ (n : Int) := by omega
  have hp2 : ((k : Int) + 1).toNat = k + 1 := by omega
  have hkc : (k : Int) ≤ (c : Int) := by omega
  have hkn : k ≤ c := by omega
  have hne : ¬ (n : Int) = 1 := by omega
  have HW : Hid (within k 0 (n - 1) = true) := within_yes (by omega) (by omega)
  have HTL : Hid ((xs.take k).length = k) := by show _ = _; rw [List.length_take]; omega
  have HDL : Hid ((nums (xs.drop (k + 1))).length = (n - (k + 1)) * 1) := by show _ = _; rw [nums_len, List.length_drop, hx, Nat.mul_one]
  obtain ⟨d, hd, -⟩ := tail_at (w := w) (k := k) hA hx hc
  have HB0 := Lib.hid hb0
  have HCE := Lib.hid hA
  have HONE := Lib.hid (ints_one (xs.drop (k + 1)))
  clear hi hz0 hz1 hz2 hx hp hA0 hA hb0
  go_enter Try.func84, Try.ntmps84
  go_wp2_with fail
  refine (paGood_any _ n c xs s _ hA2 HX.out (by omega)).mono ?_
  rintro e w1 ⟨rfl, hb⟩
  rw [HP.out]
  have ht := below_then (below2 w _ _) hb (by simp; omega)
  have hq := h0.below hb
  obtain ⟨k0, k1, -, -⟩ := hq.two
  have hr := h1.below hb
  have hlr := hr.lt
  have hlq := hq.lt
  clear h0 h1 hb hA2
  have HCW : Hid (∀ j u, (nums xs)[j]? = some u → w1.cell? ⟨b0, o0 + j, none⟩ = some u) := fun j u hu => (ht.cell (p := ⟨b0, o0 + j, none⟩) HB0.out).trans (HCE.out j u hu)
  have HHD := Lib.hid (head_at (w := w1) (o := o0) (k := k) (by have := HB0.out; have := ht.size; omega) HCW.out)
  obtain ⟨d', hd', HTA⟩ := tail_at (w := w1) (k := k) HCW.out HX.out hc
  obtain rfl : d = d' := by rw [hd] at hd'; simpa using hd'
  clear hd'
  go_wp2_with fail
  refine (l1In_any _ _ _ _).mono ?_
  rintro e w' ⟨rfl, rfl⟩
  rw [HW.out]
  go_wp2_with fail
  have HHQ := Lib.hid hq
  have HHR := Lib.hid hr
  have HT := Lib.hid ht
  have HMAX := Lib.hid (show k + (n - (k + 1)) ≤ maxLen by unfold maxLen; omega)
  have HBYT := Lib.hid (show (k + (n - (k + 1))) * 8 ≤ 140737488355328 by omega)
  have HLT1 := Lib.hid (show b0 < w1.heap.size by have := HB0.out; have := ht.size; omega)
  clear hq hr ht
  go_region_held3 (fun w' => w'.cell? ⟨w.heap.size, 0, none⟩ = some (.slice (some ⟨b0, o0, none⟩) n c) ∧ w'.cell? ⟨w.heap.size, 1, none⟩ = some (.int .i64 s)) (go_keep)
    (first | (go_at_call 124; refine (l1Own_any _ k c (xs.take k) _ (by exact HHD.out.drew) HTL.out (by omega) (by intro h; cases h)).mono ?_; rintro e w2 ⟨A2, q2, rfl, hown2, hb2⟩; rw [HTL.out] at hown2 ⊢; have hq2 := HHQ.out.drew.below hb2; have hr2 := HHR.out.drew.below hb2; obtain ⟨k2, k3, -, -⟩ := hq2.two; have hc2 : Below w1.heap.size w1 w2 := below_then (Below.refl w1.heap.size w1).drew hb2 (Nat.le_refl _); have hsz2 : w1.heap.size ≤ w2.heap.size := hb2.size; have hl2 : ∀ kk, Value.ownBlock (.slice A2 k q2) = some kk → w1.heap.size ≤ kk := fun kk hkk => (hown2.lt kk hkk).1; have HNW : Hid (∀ j u, (nums (xs.drop (k + 1)))[j]? = some u → w2.cell? ((⟨b0, d, none⟩ : Addr).add j) = some u) := fun j u hu => by (rw [Addr.add_lit]; exact (hc2.cell (p := ⟨b0, d + j, none⟩) HLT1.out).trans (HTA.out j u hu))) | (refine step_append_mine rfl (.tmp 29) (.tmp 34) 22 rfl w1.heap.size 3 i0 (.int .i64 0) 1 8 Try.underlying22 HI.out HZ0.out HZ1.out HZ2.out rfl (by decide) (.slice A2 k q2) k (nums (xs.take k)) (by simp [Act.eval]) hown2 ⟨b0, d, none⟩ (n - (k + 1)) (c - (k + 1)) (nums (xs.drop (k + 1))) (by simp [Act.eval]) HDL.out HNW.out HONE.out HMAX.out HBYT.out hsz2 ?_; intro v' w3 hown3 hg3; obtain ⟨A3, q3, rfl⟩ := own_shape hown3; have hq3 : Whole w3 w.heap.size 28 #[.slice (some ⟨b0, o0, none⟩) n c, .int .i64 s] := (hg3.block _ hq2.lt (fun e => by have := hl2 _ e.symm; omega)).trans hq2; have hr3 : Whole w3 (w.heap.size + 1) 28 #[.slice none 0 0, .int .i64 0] := (hg3.block _ hr2.lt (fun e => by have := hl2 _ e.symm; omega)).trans hr2; obtain ⟨k4, k5, -, -⟩ := hq3.two; obtain ⟨r0, r1, f0, f1⟩ := hr3.two; have hc3 := hc2.grown hg3 hsz2 hl2; clear hq2 hr2))
  have hbw : Below w.heap.size w w3 := below_then HT.out hc3 HT.out.size
  have hsz3 : w2.heap.size ≤ w3.heap.size := hg3.size
  have hl : (lessOne xs k).length = k + (n - (k + 1)) := by
    have := HX.out
    simp only [lessOne, List.length_append, List.length_take, List.length_drop]
    omega
  have hxs : nums (xs.take k) ++ nums (xs.drop (k + 1)) = nums (lessOne xs k) := by simp [nums, lessOne]
  rw [hxs] at hown3
  obtain ⟨A4, q4, hv, hf⟩ := Fresh.of_own hown3 (Nat.le_refl _)
  simp only [Value.slice.injEq, true_and] at hv
  obtain ⟨rfl, rfl⟩ := hv
  have HF := Lib.hid (((hf.set_out (b := w.heap.size + 1) (o := 0) (u := .slice A3 (k + (n - (k + 1))) q3) (.inl (by omega))).set_out (b := w.heap.size + 1) (o := 1) (u := .int .i64 s) (.inl (by omega))).more (lo' := w.heap.size) (hi' := w3.heap.size) (by omega) (by omega))
  clear hf hown3 hxs
  go_wp2
  refine bodyPost_ret (v := .tuple #[.agg #[.slice A3 (k + (n - (k + 1))) q3, .int .i64 s], .bool true]) (by simp [results, Try.results84, go_sem, r0, r1]) rfl ⟨A3, q3, by rw [hl], ?_, ?_⟩
  · have h := HF.out
    simpa [World.setCell] using h
  · exact below_set (below_set hbw (by omega)) (by omega)

theorem specDrop_any (A : Option Addr) (n c : Nat) (xs : List Int) (s k : Int) (w : World) (hA : Holds w A (nums xs)) (hx : xs.length = n) (hn : n ≤ 1048576) (hc : n ≤ c) :
    Calls Try.prog 84 #[.agg #[.slice A n c, .int .i64 s], .int .i64 k] w (PartyPost (dropXs xs s k) (dropSeats xs s k) (dropOk xs s k) w) := by
  cases hok : dropOk xs s k
  · rw [← hok]
    exact specDrop_no A n c xs s k w hA hx hn hok
  · obtain ⟨hp, h0, h1, h2⟩ := dropOk_iff.1 hok
    obtain ⟨e1, e2⟩ := drop_yes hok
    obtain ⟨j, rfl⟩ := Int.eq_ofNat_of_zero_le h0
    obtain ⟨b0, o0, rfl, hbl, hcells⟩ := hA.spot (by rw [nums_len]; omega)
    rw [e1, e2]
    exact specDrop_on b0 o0 n c j xs s w hbl hcells hx hn hc hp (by omega) (by omega)
end Go.Proofs.Ytcikimjpjebflaa

namespace Go.Proofs.Ytcikimjpjebflaa
open Go.RowKit

set_option maxHeartbeats 1600000 in
set_option maxRecDepth 100000 in
theorem implDrop_no (A : Option Addr) (n c : Nat) (xs : List Int) (s k : Int) (w : World) (hA : Holds w A (nums xs)) (hx : xs.length = n) (hn : n ≤ 1048576) (hno : dropOk xs s k = false) :
    Calls Try.prog 85 #[.agg #[.slice A n c, .int .i64 s], .int .i64 k] w (PartyPost (dropXs xs s k) (dropSeats xs s k) (dropOk xs s k) w) := by
  have HX := Lib.hid hx
  have HS := Lib.hid hno
  have hA2 := (hA.alloc (.cells #[.slice A n c, .int .i64 s] 28)).alloc (.cells #[.slice none 0 0, .int .i64 0] 28)
  have h0 := (Whole.fresh w 28 #[.slice A n c, .int .i64 s]).alloc (.cells #[.slice none 0 0, .int .i64 0] 28)
  have h1 := Whole.fresh (w.alloc (.cells #[.slice A n c, .int .i64 s] 28)) 28 #[.slice none 0 0, .int .i64 0]
  rw [World.size_alloc] at h1
  have HNO : Hid (isParty xs s = true → k < 0 ∨ (n : Int) ≤ k ∨ n ≤ 1) := by
    intro ha
    have h : ¬ (isParty xs s = true ∧ 0 ≤ k ∧ k < xs.length ∧ 2 ≤ xs.length) := fun h => by rw [dropOk_iff.2 h] at hno; cases hno
    simp only [ha, true_and, hx] at h
    omega
  have HN1 : Hid (isParty xs s = true → 1 ≤ n) := by
    intro ha
    simp only [isParty, Bool.and_eq_true] at ha
    have := (within_iff.1 ha.1).1
    omega
  clear hx hno
  cases hp : isParty xs s
  · have HP := Lib.hid hp
    clear hp
    go_enter Try.func85, Try.ntmps85
    go_wp2_with fail
    refine (isParty_any A n c xs s _ hA2 HX.out (by omega)).mono ?_
    rintro e w1 ⟨rfl, hb⟩
    rw [HP.out]
    have ht := below_then (below2 w _ _) hb (by simp; omega)
    have hr := h1.below hb
    have hlr := hr.lt
    obtain ⟨r0, r1, f0, f1⟩ := hr.two
    clear h0 h1 hb hA2
    go_wp2
    refine bodyPost_ret (v := .tuple #[.agg #[.slice none 0 0, .int .i64 0], .bool false]) (by simp [results, Try.results85, go_sem, r0, r1]) rfl ⟨none, 0, by rw [(drop_no HS.out).1, (drop_no HS.out).2, HS.out]; rfl, by rw [(drop_no HS.out).1]; exact .inl rfl, ?_⟩
    exact below_set (below_set ht (by omega)) (by omega)
  have hno := HNO.out hp
  have hn1 := HN1.out hp
  rcases (show k < 0 ∨ (¬ k < 0 ∧ (n : Int) ≤ k) ∨ (¬ k < 0 ∧ ¬ (n : Int) ≤ k ∧ n = 1) by omega) with hk | ⟨hk, hkn⟩ | ⟨hk, hkn, rfl⟩
  all_goals
    have HP := Lib.hid hp
    clear hp HNO HN1 hno hn1
    go_enter Try.func85, Try.ntmps85
    go_wp2_with fail
    refine (isParty_any A _ c xs s _ hA2 HX.out (by omega)).mono ?_
    rintro e w1 ⟨rfl, hb⟩
    rw [HP.out]
    have ht := below_then (below2 w _ _) hb (by simp; omega)
    have hp1 := h0.below hb
    obtain ⟨k0, k1, -, -⟩ := hp1.two
    have hr := h1.below hb
    have hlr := hr.lt
    obtain ⟨r0, r1, f0, f1⟩ := hr.two
    clear h0 h1 hb hA2
    go_wp2
    refine bodyPost_ret (v := .tuple #[.agg #[.slice none 0 0, .int .i64 0], .bool false]) (by simp [results, Try.results85, go_sem, r0, r1]) rfl ⟨none, 0, by rw [(drop_no HS.out).1, (drop_no HS.out).2, HS.out]; rfl, by rw [(drop_no HS.out).1]; exact .inl rfl, ?_⟩
    exact below_set (below_set ht (by omega)) (by omega)

set_option maxHeartbeats 3200000 in
set_option maxRecDepth 100000 in
theorem implDrop_on (b0 o0 n c k : Nat) (xs : List Int) (s : Int) (w : World) (hb0 : b0 < w.heap.size) (hA : ∀ j u, (nums xs)[j]? = some u → w.cell? ⟨b0, o0 + j, none⟩ = some u) (hx : xs.length = n) (hn : n ≤ 1048576) (hc : n ≤ c) (hp : isParty xs s = true) (hk : k < n) (h2 : 2 ≤ n) :
    Calls Try.prog 85 #[.agg #[.slice (some ⟨b0, o0, none⟩) n c, .int .i64 s], .int .i64 k] w (PartyPost (lessOne xs k) s true w) := by
  have HX := Lib.hid hx
  have HP := Lib.hid hp
  have hA0 : Holds w (some ⟨b0, o0, none⟩) (nums xs) := .inr ⟨b0, o0, rfl, hb0, hA⟩
  have hA2 := (hA0.alloc (.cells #[.slice (some ⟨b0, o0, none⟩) n c, .int .i64 s] 28)).alloc (.cells #[.slice none 0 0, .int .i64 0] 28)
  have h0 := (Whole.fresh w 28 #[.slice (some ⟨b0, o0, none⟩) n c, .int .i64 s]).alloc (.cells #[.slice none 0 0, .int .i64 0] 28)
  have h1 := Whole.fresh (w.alloc (.cells #[.slice (some ⟨b0, o0, none⟩) n c, .int .i64 s] 28)) 28 #[.slice none 0 0, .int .i64 0]
  rw [World.size_alloc] at h1
  have hwk : IntKind.i64.wrap ((k : Int) + 1) = (k : Int) + 1 := IntWalk.i64_in _ (by omega)
  have hp0 : (0 : Int) ≤ (k : Int) + 1 := by omega
  have hp1 : (k : Int) + 1 ≤ (n : Int) := by omega
  have hp2 : ((k : Int) + 1).toNat = k + 1 := by omega
  have hkc : (k : Int) ≤ (c : Int) := by omega
  have hkn : k ≤ c := by omega
  have hne : ¬ (n : Int) = 1 := by omega
  have hk0 : decide ((k : Int) < 0) = false := by simp
  have hkk : decide (n ≤ k) = false := by simp; omega
  have hne2 : ((n : Int) == 1) = false := by simp; omega
  have HTL : Hid ((xs.take k).length = k) := by show _ = _; rw [List.length_take]; omega
  have HDL : Hid ((xs.drop (k + 1)).length = n - (k + 1)) := by show _ = _; rw [List.length_drop, hx]
  obtain ⟨d, hd, -⟩ := tail_at (w := w) (k := k) hA hx hc
  have HB0 := Lib.hid hb0
  have HCE := Lib.hid hA
  clear hx hp hA0 hA hb0
  go_enter Try.func85, Try.ntmps85
  go_wp2_with fail
  refine (isParty_any _ n c xs s _ hA2 HX.out (by omega)).mono ?_
  rintro e w1 ⟨rfl, hb⟩
  rw [HP.out]
  have ht := below_then (below2 w _ _) hb (by simp; omega)
  have hq := h0.below hb
  obtain ⟨k0, k1, -, -⟩ := hq.two
  have hr := h1.below hb
  have hlr := hr.lt
  have hlq := hq.lt
  clear h0 h1 hb hA2
  have HCW : Hid (∀ j u, (nums xs)[j]? = some u → w1.cell? ⟨b0, o0 + j, none⟩ = some u) := fun j u hu => (ht.cell (p := ⟨b0, o0 + j, none⟩) HB0.out).trans (HCE.out j u hu)
  have hbl1 : b0 < w1.heap.size := by have := HB0.out; have := ht.size; omega
  have HHD := Lib.hid (head_at (w := w1) (o := o0) (k := k) hbl1 HCW.out)
  obtain ⟨d', hd', HTA⟩ := tail_at (w := w1) (k := k) HCW.out HX.out hc
  obtain rfl : d = d' := by rw [hd] at hd'; simpa using hd'
  clear hd'
  have HG : Hid (Grid (w1.drew.alloc (.cells #[.slice (some ⟨b0, o0, none⟩) k c, .slice (some ⟨b0, d, none⟩) (n - (k + 1)) (c - (k + 1))] 22)) (some ⟨w1.heap.size, 0, none⟩) [⟨some ⟨b0, o0, none⟩, k, c, xs.take k⟩, ⟨some ⟨b0, d, none⟩, n - (k + 1), c - (k + 1), xs.drop (k + 1)⟩]) := by
    refine ⟨(Whole.fresh w1.drew 22 #[.slice (some ⟨b0, o0, none⟩) k c, .slice (some ⟨b0, d, none⟩) (n - (k + 1)) (c - (k + 1))]).holds, fun r hr => ?_⟩
    simp only [List.mem_cons, List.not_mem_nil, or_false] at hr
    rcases hr with rfl | rfl
    · exact ⟨HHD.out.drew.alloc _, HTL.out, by show k ≤ _; omega⟩
    · exact ⟨Holds.alloc (w := w1.drew) (.inr ⟨b0, d, rfl, hbl1, HTA.out⟩) _, HDL.out, by show n - (k + 1) ≤ _; omega⟩
  have HPT : Hid (part [⟨some ⟨b0, o0, none⟩, k, c, xs.take k⟩, ⟨some ⟨b0, d, none⟩, n - (k + 1), c - (k + 1), xs.drop (k + 1)⟩] 2 = k + (n - (k + 1))) := by show _ = _; simp [part]
  have HNIL : Hid (∀ r ∈ ([⟨some ⟨b0, o0, none⟩, k, c, xs.take k⟩, ⟨some ⟨b0, d, none⟩, n - (k + 1), c - (k + 1), xs.drop (k + 1)⟩] : List RowV), r.A = none → r.c = 0) := by
    intro r hr h
    simp only [List.mem_cons, List.not_mem_nil, or_false] at hr
    rcases hr with rfl | rfl <;> cases h
  have HJ : Hid (joined [⟨some ⟨b0, o0, none⟩, k, c, xs.take k⟩, ⟨some ⟨b0, d, none⟩, n - (k + 1), c - (k + 1), xs.drop (k + 1)⟩] 2 = lessOne xs k) := by show _ = _; simp [joined, lessOne]
  go_wp2_with fail
  have HHQ := Lib.hid hq
  have HHR := Lib.hid hr
  have HT := Lib.hid ht
  have hy1 : w.heap.size < w1.heap.size := hlq
  have hn1 : ¬ w1.heap.size = w.heap.size := by omega
  have hv1 : ¬ w.heap.size = w1.heap.size := by omega
  clear hq hr ht
  go_region_held3 (fun w' => w'.cell? ⟨w.heap.size, 0, none⟩ = some (.slice (some ⟨b0, o0, none⟩) n c) ∧ w'.cell? ⟨w.heap.size, 1, none⟩ = some (.int .i64 s)) (go_keep)
    (first | (go_at_call 125; refine (concat_any _ 2 2 _ _ (by exact HG.out) rfl (by omega) (by rw [HPT.out]; omega) (by rw [HPT.out]; omega) HNIL.out).mono ?_; rw [HJ.out]; rintro e w2 ⟨A2, q2, rfl, hown2, hb2⟩; have hc2 : Below w1.heap.size w1 w2 := below_then (by exact ((Below.refl w1.heap.size w1).alloc (Nat.le_refl _) (.cells #[.slice (some ⟨b0, o0, none⟩) k c, .slice (some ⟨b0, d, none⟩) (n - (k + 1)) (c - (k + 1))] 22)).drew) hb2 (by simp); have hq2 := HHQ.out.below hc2; have hr2 := HHR.out.below hc2; obtain ⟨k2, k3, -, -⟩ := hq2.two; obtain ⟨r0, r1, f0, f1⟩ := hr2.two))
  have hbw : Below w.heap.size w w2 := below_then HT.out hc2 HT.out.size
  obtain ⟨A4, q4, hv, hf⟩ := Fresh.of_own hown2 (Nat.le_refl _)
  simp only [Value.slice.injEq, true_and] at hv
  obtain ⟨rfl, rfl⟩ := hv
  have hsz2 : (w1.drew.alloc (.cells #[.slice (some ⟨b0, o0, none⟩) k c, .slice (some ⟨b0, d, none⟩) (n - (k + 1)) (c - (k + 1))] 22)).heap.size = w1.heap.size + 1 := by simp
  have hsz3 : w1.heap.size ≤ w2.heap.size := hc2.size
  have HF := Lib.hid (((hf.set_out (b := w.heap.size + 1) (o := 0) (u := .slice A2 (lessOne xs k).length q2) (.inl (by first | omega | (simp; omega)))).set_out (b := w.heap.size + 1) (o := 1) (u := .int .i64 s) (.inl (by first | omega | (simp; omega)))).more (lo' := w.heap.size) (hi' := w2.heap.size) (by first | omega | (simp; omega)) (Nat.le_refl _))
  clear hf hown2
  go_wp2
  refine bodyPost_ret (v := .tuple #[.agg #[.slice A2 (lessOne xs k).length q2, .int .i64 s], .bool true]) (by simp [results, Try.results85, go_sem, r0, r1]) rfl ⟨A2, q2, rfl, ?_, ?_⟩
  · have h := HF.out
    simpa [World.setCell] using h
  · exact below_set (below_set hbw (by omega)) (by omega)

theorem implDrop_any (A : Option Addr) (n c : Nat) (xs : List Int) (s k : Int) (w : World) (hA : Holds w A (nums xs)) (hx : xs.length = n) (hn : n ≤ 1048576) (hc : n ≤ c) :
    Calls Try.prog 85 #[.agg #[.slice A n c, .int .i64 s], .int .i64 k] w (PartyPost (dropXs xs s k) (dropSeats xs s k) (dropOk xs s k) w) := by
  cases hok : dropOk xs s k
  · rw [← hok]
    exact implDrop_no A n c xs s k w hA hx hn hok
  · obtain ⟨hp, h0, h1, h2⟩ := dropOk_iff.1 hok
    obtain ⟨e1, e2⟩ := drop_yes hok
    obtain ⟨j, rfl⟩ := Int.eq_ofNat_of_zero_le h0
    obtain ⟨b0, o0, rfl, hbl, hcells⟩ := hA.spot (by rw [nums_len]; omega)
    rw [e1, e2]
    exact implDrop_on b0 o0 n c j xs s w hbl hcells hx hn hc hp (by omega) (by omega)
end Go.Proofs.Ytcikimjpjebflaa
