/-
  What is proved: the contract of the program's DropPerson. Conditions: the party's times are read as they lie.
-/
import Derived.Test.YtionmcgaicijkaaDropO
import Derived.Test.YtionmcgaicijkaaConcat
namespace Go.Proofs.Ytionmcgaicijkaa
open Go.RowKit

set_option maxHeartbeats 1600000 in
set_option maxRecDepth 100000 in
theorem implDrop_no (A : Option Addr) (n c : Nat) (xs : List Int) (s k : Int) (w : World) (hA : Holds w A (nums xs)) (hx : xs.length = n) (hn : n ≤ 1048576) (hno : dropOk xs s k = false) :
    Calls Try.prog 51 #[.agg #[.slice A n c, .int .i64 s], .int .i64 k] w (PartyPost (dropXs xs s k) (dropSeats xs s k) (dropOk xs s k) w) := by
  have HX := Lib.hid hx
  have HS := Lib.hid hno
  have hA2 := (hA.alloc (.cells #[.slice A n c, .int .i64 s] 33)).alloc (.cells #[.slice none 0 0, .int .i64 0] 33)
  have h0 := (Whole.fresh w 33 #[.slice A n c, .int .i64 s]).alloc (.cells #[.slice none 0 0, .int .i64 0] 33)
  have h1 := Whole.fresh (w.alloc (.cells #[.slice A n c, .int .i64 s] 33)) 33 #[.slice none 0 0, .int .i64 0]
  rw [World.size_alloc] at h1
  have HNO : Hid (isParty xs s = true → k < 0 ∨ (n : Int) ≤ k ∨ n ≤ 1) := by
    intro ha
    have h : ¬ (isParty xs s = true ∧ 0 ≤ k ∧ k < xs.length ∧ 2 ≤ xs.length) := fun h => by rw [dropOk_iff.2 h] at hno; cases hno
    simp only [ha, true_and, hx] at h
    omega
  have HN1 : Hid (isParty xs s = true → 1 ≤ n) := by
    intro ha
    simp only [isParty, Bool.and_eq_true] at ha
    have := (within_iff.1 ha.1).1
    omega
  clear hx hno
  cases hp : isParty xs s
  · have HP := Lib.hid hp
    clear hp
    go_enter Try.func51, Try.ntmps51
    go_wp2_with fail
    refine (isParty_any A n c xs s _ hA2 HX.out (by omega)).mono ?_
    rintro e w1 ⟨rfl, hb⟩
    rw [HP.out]
    have ht := below_then (below2 w _ _) hb (by simp; omega)
    have hr := h1.below hb
    have hlr := hr.lt
    obtain ⟨r0, r1, f0, f1⟩ := hr.two
    clear h0 h1 hb hA2
    go_wp2
    refine bodyPost_ret (v := .tuple #[.agg #[.slice none 0 0, .int .i64 0], .bool false]) (by simp [results, Try.results51, go_sem, r0, r1]) rfl ⟨none, 0, by rw [(drop_no HS.out).1, (drop_no HS.out).2, HS.out]; rfl, by rw [(drop_no HS.out).1]; exact .inl rfl, ?_⟩
    exact below_set (below_set ht (by omega)) (by omega)
  have hno := HNO.out hp
  have hn1 := HN1.out hp
  rcases (show k < 0 ∨ (¬ k < 0 ∧ (n : Int) ≤ k) ∨ (¬ k < 0 ∧ ¬ (n : Int) ≤ k ∧ n = 1) by omega) with hk | ⟨hk, hkn⟩ | ⟨hk, hkn, rfl⟩
  all_goals
    have HP := Lib.hid hp
    clear hp HNO HN1 hno hn1
    go_enter Try.func51, Try.ntmps51
    go_wp2_with fail
    refine (isParty_any A _ c xs s _ hA2 HX.out (by omega)).mono ?_
    rintro e w1 ⟨rfl, hb⟩
    rw [HP.out]
    have ht := below_then (below2 w _ _) hb (by simp; omega)
    have hp1 := h0.below hb
    obtain ⟨k0, k1, -, -⟩ := hp1.two
    have hr := h1.below hb
    have hlr := hr.lt
    obtain ⟨r0, r1, f0, f1⟩ := hr.two
    clear h0 h1 hb hA2
    go_wp2
    refine bodyPost_ret (v := .tuple #[.agg #[.slice none 0 0, .int .i64 0], .bool false]) (by simp [results, Try.results51, go_sem, r0, r1]) rfl ⟨none, 0, by rw [(drop_no HS.out).1, (drop_no HS.out).2, HS.out]; rfl, by rw [(drop_no HS.out).1]; exact .inl rfl, ?_⟩
    exact below_set (below_set ht (by omega)) (by omega)

set_option maxHeartbeats 3200000 in
set_option maxRecDepth 100000 in
theorem implDrop_on (b0 o0 n c k : Nat) (xs : List Int) (s : Int) (w : World) (hb0 : b0 < w.heap.size) (hA : ∀ j u, (nums xs)[j]? = some u → w.cell? ⟨b0, o0 + j, none⟩ = some u) (hx : xs.length = n) (hn : n ≤ 1048576) (hc : n ≤ c) (hp : isParty xs s = true) (hk : k < n) (h2 : 2 ≤ n) :
    Calls Try.prog 51 #[.agg #[.slice (some ⟨b0, o0, none⟩) n c, .int .i64 s], .int .i64 k] w (PartyPost (lessOne xs k) s true w) := by
  have HX := Lib.hid hx
  have HP := Lib.hid hp
  have hA0 : Holds w (some ⟨b0, o0, none⟩) (nums xs) := .inr ⟨b0, o0, rfl, hb0, hA⟩
  have hA2 := (hA0.alloc (.cells #[.slice (some ⟨b0, o0, none⟩) n c, .int .i64 s] 33)).alloc (.cells #[.slice none 0 0, .int .i64 0] 33)
  have h0 := (Whole.fresh w 33 #[.slice (some ⟨b0, o0, none⟩) n c, .int .i64 s]).alloc (.cells #[.slice none 0 0, .int .i64 0] 33)
  have h1 := Whole.fresh (w.alloc (.cells #[.slice (some ⟨b0, o0, none⟩) n c, .int .i64 s] 33)) 33 #[.slice none 0 0, .int .i64 0]
  rw [World.size_alloc] at h1
  have hwk : IntKind.i64.wrap ((k : Int) + 1) = (k : Int) + 1 := IntWalk.i64_in _ (by omega)
  have hp0 : (0 : Int) ≤ (k : Int) + 1 := by omega
  have hp1 : (k : Int) + 1 ≤ (n : Int) := by omega
  have hp2 : ((k : Int) + 1).toNat = k + 1 := by omega
  have hkc : (k : Int) ≤ (c : Int) := by omega
  have hkn : k ≤ c := by omega
  have hne : ¬ (n : Int) = 1 := by omega
  have hk0 : decide ((k : Int) < 0) = false := by simp
  have hkk : decide (n ≤ k) = false := by simp; omega
  have hne2 : ((n : Int) == 1) = false := by simp; omega
  have HTL : Hid ((xs.take k).length = k) := by show _ = _; rw [List.length_take]; omega
  have HDL : Hid ((xs.drop (k + 1)).length = n - (k + 1)) := by show _ = _; rw [List.length_drop, hx]
  obtain ⟨d, hd, -⟩ := tail_at (w := w) (k := k) hA hx hc
  have HB0 := Lib.hid hb0
  have HCE := Lib.hid hA
  clear hx hp hA0 hA hb0
  go_enter Try.func51, Try.ntmps51
  go_wp2_with fail
  refine (isParty_any _ n c xs s _ hA2 HX.out (by omega)).mono ?_
  rintro e w1 ⟨rfl, hb⟩
  rw [HP.out]
  have ht := below_then (below2 w _ _) hb (by simp; omega)
  have hq := h0.below hb
  obtain ⟨k0, k1, -, -⟩ := hq.two
  have hr := h1.below hb
  have hlr := hr.lt
  have hlq := hq.lt
  clear h0 h1 hb hA2
  have HCW : Hid (∀ j u, (nums xs)[j]? = some u → w1.cell? ⟨b0, o0 + j, none⟩ = some u) := fun j u hu => (ht.cell (p := ⟨b0, o0 + j, none⟩) HB0.out).trans (HCE.out j u hu)
  have hbl1 : b0 < w1.heap.size := by have := HB0.out; have := ht.size; omega
  have HHD := Lib.hid (head_at (w := w1) (o := o0) (k := k) hbl1 HCW.out)
  obtain ⟨d', hd', HTA⟩ := tail_at (w := w1) (k := k) HCW.out HX.out hc
  obtain rfl : d = d' := by rw [hd] at hd'; simpa using hd'
  clear hd'
  have HG : Hid (Grid (w1.drew.alloc (.cells #[.slice (some ⟨b0, o0, none⟩) k c, .slice (some ⟨b0, d, none⟩) (n - (k + 1)) (c - (k + 1))] 22)) (some ⟨w1.heap.size, 0, none⟩) [⟨some ⟨b0, o0, none⟩, k, c, xs.take k⟩, ⟨some ⟨b0, d, none⟩, n - (k + 1), c - (k + 1), xs.drop (k + 1)⟩]) := by
    refine ⟨(Whole.fresh w1.drew 22 #[.slice (some ⟨b0, o0, none⟩) k c, .slice (some ⟨b0, d, none⟩) (n - (k + 1)) (c - (k + 1))]).holds, fun r hr => ?_⟩
    simp only [List.mem_cons, List.not_mem_nil, or_false] at hr
    rcases hr with rfl | rfl
    · exact ⟨HHD.out.drew.alloc _, HTL.out, by show k ≤ _; omega⟩
    · exact ⟨Holds.alloc (w := w1.drew) (.inr ⟨b0, d, rfl, hbl1, HTA.out⟩) _, HDL.out, by show n - (k + 1) ≤ _; omega⟩
  have HPT : Hid (part [⟨some ⟨b0, o0, none⟩, k, c, xs.take k⟩, ⟨some ⟨b0, d, none⟩, n - (k + 1), c - (k + 1), xs.drop (k + 1)⟩] 2 = k + (n - (k + 1))) := by show _ = _; simp [part]
  have HNIL : Hid (∀ r ∈ ([⟨some ⟨b0, o0, none⟩, k, c, xs.take k⟩, ⟨some ⟨b0, d, none⟩, n - (k + 1), c - (k + 1), xs.drop (k + 1)⟩] : List RowV), r.A = none → r.c = 0) := by
    intro r hr h
    simp only [List.mem_cons, List.not_mem_nil, or_false] at hr
    rcases hr with rfl | rfl <;> cases h
  have HJ : Hid (joined [⟨some ⟨b0, o0, none⟩, k, c, xs.take k⟩, ⟨some ⟨b0, d, none⟩, n - (k + 1), c - (k + 1), xs.drop (k + 1)⟩] 2 = lessOne xs k) := by show _ = _; simp [joined, lessOne]
  go_wp2_with fail
  have HHQ := Lib.hid hq
  have HHR := Lib.hid hr
  have HT := Lib.hid ht
  have hy1 : w.heap.size < w1.heap.size := hlq
  have hn1 : ¬ w1.heap.size = w.heap.size := by omega
  have hv1 : ¬ w.heap.size = w1.heap.size := by omega
  clear hq hr ht
  go_region_held3 (fun w' => w'.cell? ⟨w.heap.size, 0, none⟩ = some (.slice (some ⟨b0, o0, none⟩) n c) ∧ w'.cell? ⟨w.heap.size, 1, none⟩ = some (.int .i64 s)) (go_keep)
    (first | (go_at_call 87; refine (concat_any _ 2 2 _ _ (by exact HG.out) rfl (by omega) (by rw [HPT.out]; omega) (by rw [HPT.out]; omega) HNIL.out).mono ?_; rw [HJ.out]; rintro e w2 ⟨A2, q2, rfl, hown2, hb2⟩; have hc2 : Below w1.heap.size w1 w2 := below_then (by exact ((Below.refl w1.heap.size w1).alloc (Nat.le_refl _) (.cells #[.slice (some ⟨b0, o0, none⟩) k c, .slice (some ⟨b0, d, none⟩) (n - (k + 1)) (c - (k + 1))] 22)).drew) hb2 (by simp); have hq2 := HHQ.out.below hc2; have hr2 := HHR.out.below hc2; obtain ⟨k2, k3, -, -⟩ := hq2.two; obtain ⟨r0, r1, f0, f1⟩ := hr2.two))
  have hbw : Below w.heap.size w w2 := below_then HT.out hc2 HT.out.size
  obtain ⟨A4, q4, hv, hf⟩ := Fresh.of_own hown2 (Nat.le_refl _)
  simp only [Value.slice.injEq, true_and] at hv
  obtain ⟨rfl, rfl⟩ := hv
  have hsz2 : (w1.drew.alloc (.cells #[.slice (some ⟨b0, o0, none⟩) k c, .slice (some ⟨b0, d, none⟩) (n - (k + 1)) (c - (k + 1))] 22)).heap.size = w1.heap.size + 1 := by simp
  have hsz3 : w1.heap.size ≤ w2.heap.size := hc2.size
  have HF := Lib.hid (((hf.set_out (b := w.heap.size + 1) (o := 0) (u := .slice A2 (lessOne xs k).length q2) (.inl (by first | omega | (simp; omega)))).set_out (b := w.heap.size + 1) (o := 1) (u := .int .i64 s) (.inl (by first | omega | (simp; omega)))).more (lo' := w.heap.size) (hi' := w2.heap.size) (by first | omega | (simp; omega)) (Nat.le_refl _))
  clear hf hown2
  go_wp2
  refine bodyPost_ret (v := .tuple #[.agg #[.slice A2 (lessOne xs k).length q2, .int .i64 s], .bool true]) (by simp [results, Try.results51, go_sem, r0, r1]) rfl ⟨A2, q2, rfl, ?_, ?_⟩
  · have h := HF.out
    simpa [World.setCell] using h
  · exact below_set (below_set hbw (by omega)) (by omega)

theorem implDrop_any (A : Option Addr) (n c : Nat) (xs : List Int) (s k : Int) (w : World) (hA : Holds w A (nums xs)) (hx : xs.length = n) (hn : n ≤ 1048576) (hc : n ≤ c) :
    Calls Try.prog 51 #[.agg #[.slice A n c, .int .i64 s], .int .i64 k] w (PartyPost (dropXs xs s k) (dropSeats xs s k) (dropOk xs s k) w) := by
  cases hok : dropOk xs s k
  · rw [← hok]
    exact implDrop_no A n c xs s k w hA hx hn hok
  · obtain ⟨hp, h0, h1, h2⟩ := dropOk_iff.1 hok
    obtain ⟨e1, e2⟩ := drop_yes hok
    obtain ⟨j, rfl⟩ := Int.eq_ofNat_of_zero_le h0
    obtain ⟨b0, o0, rfl, hbl, hcells⟩ := hA.spot (by rw [nums_len]; omega)
    rw [e1, e2]
    exact implDrop_on b0 o0 n c j xs s w hbl hcells hx hn hc hp (by omega) (by omega)
end Go.Proofs.Ytionmcgaicijkaa
