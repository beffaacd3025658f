/-
  What is proved: contracts of SortParty, of the model and of the program. Conditions: the party's times are read as they lie.
-/
import Derived.Test.YtionmcgaicijkaaSortP
namespace Go.Proofs.Ytionmcgaicijkaa
open Go.RowKit

theorem own_fresh {w : World} {lo hi n c : Nat} {ty : TypeId} {A : Option Addr} {xs : List Value} (h : w.ownsRow lo ty 1 (.slice A n c) n xs) (hs : w.heap.size ≤ hi) : Fresh w lo hi ty A xs := by
  obtain ⟨B, d, hv, hf⟩ := Fresh.of_own h hs
  obtain ⟨rfl, -, -⟩ : A = B ∧ n = n ∧ c = d := by simpa using hv
  exact hf
def sortXs (xs : List Int) (n : Nat) (s : Int) : List Int := if isParty xs s then insTo xs n else []
def sortSeats (xs : List Int) (s : Int) : Int := if isParty xs s then s else 0
theorem sortXs_le {xs : List Int} {n : Nat} {s : Int} (hx : xs.length = n) (hn : n ≤ 1048576) : (sortXs xs n s).length ≤ 1048576 := by
  unfold sortXs
  split
  · rw [insTo_len xs (by omega)]; exact hn
  · simp

set_option maxHeartbeats 1600000 in
set_option maxRecDepth 100000 in
theorem specSortParty_any (A : Option Addr) (n c : Nat) (xs : List Int) (s : Int) (w : World) (hA : Holds w A (nums xs)) (hx : xs.length = n) (hn : n ≤ 1048576) :
    Calls Try.prog 47 #[.agg #[.slice A n c, .int .i64 s]] w (PartyPost (sortXs xs n s) (sortSeats xs s) (isParty xs s) w) := by
  have HX := Lib.hid hx
  have hA2 := (hA.alloc (.cells #[.slice A n c, .int .i64 s] 33)).alloc (.cells #[.slice none 0 0, .int .i64 0] 33)
  have h0 := (Whole.fresh w 33 #[.slice A n c, .int .i64 s]).alloc (.cells #[.slice none 0 0, .int .i64 0] 33)
  have h1 := Whole.fresh (w.alloc (.cells #[.slice A n c, .int .i64 s] 33)) 33 #[.slice none 0 0, .int .i64 0]
  rw [World.size_alloc] at h1
  cases hp : isParty xs s
  · have HP := Lib.hid hp
    rw [show sortXs xs n s = [] by simp [sortXs, hp], show sortSeats xs s = 0 by simp [sortSeats, hp]]
    clear hp hx
    go_enter Try.func47, Try.ntmps47
    go_wp2_with fail
    refine (paGood_any A n c xs s _ hA2 HX.out (by omega)).mono ?_
    rintro e w1 ⟨rfl, hb⟩
    rw [HP.out]
    have ht := below_then (below2 w _ _) hb (by simp; omega)
    have hr := h1.below hb
    have hlr := hr.lt
    obtain ⟨r0, r1, f0, f1⟩ := hr.two
    clear h0 h1 hb hA2 hr
    go_wp2
    refine bodyPost_ret (v := .tuple #[.agg #[.slice none 0 0, .int .i64 0], .bool false]) (by simp [results, Try.results47, go_sem, r0, r1]) rfl ⟨none, 0, rfl, .inl rfl, below_set (below_set ht (by omega)) (by omega)⟩
  · have HP := Lib.hid hp
    have h8 : n ≤ 8 := by have := isParty_le hp; omega
    rw [show sortXs xs n s = insTo xs n by simp [sortXs, hp], show sortSeats xs s = s by simp [sortSeats, hp]]
    clear hp hx
    go_enter Try.func47, Try.ntmps47
    go_wp2_with fail
    refine (paGood_any A n c xs s _ hA2 HX.out (by omega)).mono ?_
    rintro e w1 ⟨rfl, hb⟩
    rw [HP.out]
    have ht := below_then (below2 w _ _) hb (by simp; omega)
    have h0' := h0.below hb
    have hr := h1.below hb
    have hA3 := hA2.below hb
    have hlo : w.heap.size + 1 < w1.heap.size := hr.lt
    obtain ⟨c0, c1, -, -⟩ := h0'.two
    clear h0 h1 hb hA2
    go_wp2_with fail
    go_region_held3 (fun w' => w'.cell? ⟨w.heap.size, 0, none⟩ = some (.slice A n c) ∧ w'.cell? ⟨w.heap.size, 1, none⟩ = some (.int .i64 s)) (go_keep)
      (first | (go_at_call 83; refine (paSorted_any A n c xs _ (by exact hA3.drew) HX.out (by omega)).mono ?_; rintro e w2 ⟨A2, q2, rfl, hown, hb2⟩; obtain ⟨k0, k1, -, -⟩ := (h0'.drew.below hb2).two; obtain ⟨r0, r1, f0, f1⟩ := (hr.drew.below hb2).two; have hn1 : ¬ w.heap.size + 1 = w.heap.size := (by omega); have hn2 : ¬ w.heap.size = w.heap.size + 1 := (by omega)))
    have ht2 := below_then ht.drew hb2 ht.size
    have hsz : w1.heap.size ≤ w2.heap.size := hb2.size
    have hf := own_fresh (hi := w2.heap.size) hown (Nat.le_refl _)
    have hl : w1.drew.heap.size = w1.heap.size := rfl
    rw [hl] at hf
    have HF := Lib.hid (((hf.set_out (b := w.heap.size + 1) (o := 0) (u := .slice A2 (insTo xs n).length q2) (.inl (by omega))).set_out (b := w.heap.size + 1) (o := 1) (u := .int .i64 s) (.inl (by omega))).more (lo' := w.heap.size) (hi' := w2.heap.size) (by omega) (Nat.le_refl _))
    have hl2 : w.heap.size + 1 < w2.heap.size := by omega
    clear hb2 hf hown hl h0' hr hA3
    go_wp2
    refine bodyPost_ret (v := .tuple #[.agg #[.slice A2 (insTo xs n).length q2, .int .i64 s], .bool true]) (by simp [results, Try.results47, go_sem, r0, r1]) rfl ⟨A2, q2, rfl, ?_, below_set (below_set ht2 (by omega)) (by omega)⟩
    have h := HF.out
    simpa [World.setCell] using h

set_option maxHeartbeats 3200000 in
set_option maxRecDepth 100000 in
theorem implSortParty_any (A : Option Addr) (n c : Nat) (xs : List Int) (s : Int) (w : World) (hA : Holds w A (nums xs)) (hx : xs.length = n) (hn : n ≤ 1048576) :
    Calls Try.prog 48 #[.agg #[.slice A n c, .int .i64 s]] w (PartyPost (sortXs xs n s) (sortSeats xs s) (isParty xs s) w) := by
  have HX := Lib.hid hx
  cases hp : isParty xs s
  · have HP := Lib.hid hp
    have hA2 := (hA.alloc (.cells #[.slice A n c, .int .i64 s] 33)).alloc (.cells #[.slice none 0 0, .int .i64 0] 33)
    have h1 := Whole.fresh (w.alloc (.cells #[.slice A n c, .int .i64 s] 33)) 33 #[.slice none 0 0, .int .i64 0]
    rw [World.size_alloc] at h1
    rw [show sortXs xs n s = [] by simp [sortXs, hp], show sortSeats xs s = 0 by simp [sortSeats, hp]]
    clear hp hx
    go_enter Try.func48, Try.ntmps48
    go_wp2_with fail
    refine (isParty_any A n c xs s _ hA2 HX.out (by omega)).mono ?_
    rintro e w1 ⟨rfl, hb⟩
    rw [HP.out]
    have ht := below_then (below2 w _ _) hb (by simp; omega)
    have hr := h1.below hb
    have hlr := hr.lt
    obtain ⟨r0, r1, f0, f1⟩ := hr.two
    clear h1 hb hA2 hr
    go_wp2
    refine bodyPost_ret (v := .tuple #[.agg #[.slice none 0 0, .int .i64 0], .bool false]) (by simp [results, Try.results48, go_sem, r0, r1]) rfl ⟨none, 0, rfl, .inl rfl, below_set (below_set ht (by omega)) (by omega)⟩
  · have HP := Lib.hid hp
    have h8 : n ≤ 8 := by have := isParty_le hp; omega
    have hpos : 0 < xs.length := by
      simp only [isParty, Bool.and_eq_true] at hp
      have := (within_iff.1 hp.1).1
      omega
    rw [show sortXs xs n s = insTo xs n by simp [sortXs, hp], show sortSeats xs s = s by simp [sortSeats, hp]]
    obtain ⟨b0, o0, rfl, hbl, hcells⟩ := hA.spot (by rw [nums_len]; exact hpos)
    have HCE := Lib.hid hcells
    have hA2 := (hA.alloc (.cells #[.slice (some ⟨b0, o0, none⟩) n c, .int .i64 s] 33)).alloc (.cells #[.slice none 0 0, .int .i64 0] 33)
    have h0 := (Whole.fresh w 33 #[.slice (some ⟨b0, o0, none⟩) n c, .int .i64 s]).alloc (.cells #[.slice none 0 0, .int .i64 0] 33)
    have h1 := Whole.fresh (w.alloc (.cells #[.slice (some ⟨b0, o0, none⟩) n c, .int .i64 s] 33)) 33 #[.slice none 0 0, .int .i64 0]
    rw [World.size_alloc] at h1
    rw [hx] at hpos
    clear hp hx hcells
    go_enter Try.func48, Try.ntmps48
    go_wp2_with fail
    refine (isParty_any _ n c xs s _ hA2 HX.out (by omega)).mono ?_
    rintro e w1 ⟨rfl, hb⟩
    rw [HP.out]
    have ht := below_then (below2 w _ _) hb (by simp; omega)
    have hp1 := h0.below hb
    have hr := h1.below hb
    have hpl := hp1.lt
    have hlo : w.heap.size + 1 < w1.heap.size := hr.lt
    obtain ⟨c0, c1, -, -⟩ := hp1.two
    clear h0 h1 hb hA2
    go_upto_region 3 with fail
    go_cut [4] (fun s6 wx => ResMid 33 3 (fun A q => #[.slice A n q, .int .i64 s]) (nums xs) true w1 s6 (.bool true) wx)
    case first =>
      go_region_held3 (fun w' => w'.cell? ⟨w.heap.size, 0, none⟩ = some (.slice (some ⟨b0, o0, none⟩) n c) ∧ w'.cell? ⟨w.heap.size, 1, none⟩ = some (.int .i64 s)) (go_keep)
        (first | (go_at_call 84; refine (cloneI_any b0 o0 n c xs _ (by first | (exact fun j u hu => (ht.drew.cell (p := ⟨b0, o0 + j, none⟩) hbl).trans (HCE.out j u hu)) | (exact fun j u hu => ((ht.alloc ht.size (.cells #[.slice none 0 0, .int .i64 0] 33)).drew.cell (p := ⟨b0, o0 + j, none⟩) hbl).trans (HCE.out j u hu))) HX.out hn).mono ?_; rintro e w2 ⟨A2, q2, rfl, hF, hb2⟩; rw [HX.out]; (first | (have hc2 : Below w1.heap.size w1 w2 := below_then (Below.refl w1.heap.size w1).drew hb2 (Nat.le_refl _)) | (have hc2 : Below w1.heap.size w1 w2 := below_then ((Below.refl w1.heap.size w1).alloc (Nat.le_refl _) (.cells #[.slice none 0 0, .int .i64 0] 33)).drew hb2 (by simp); have hbox := (Whole.fresh w1 33 #[.slice none 0 0, .int .i64 0]).drew.below hb2; have hy1 : w.heap.size < w1.heap.size := hpl; have hn1 : ¬ w1.heap.size = w.heap.size := (by omega); have hv1 : ¬ w.heap.size = w1.heap.size := (by omega); obtain ⟨x0, x1, x2, x3⟩ := hbox.two)); obtain ⟨k2, k3, -, -⟩ := (hp1.below hc2).two))
      all_goals (go_wp2_with fail; go_meet)
      all_goals first | exact ResMid.first hc2 (by first | exact Nat.le_refl _ | (simp; done)) hF (Nat.le_refl _) (by first | (simp; done) | omega) hbox rfl | exact ResMid.last hc2 (Nat.le_refl _) hF
    obtain ⟨g, A2, q2, lo, hi, rfl, -, hg1, hg2, hl1, hd1, hh1, hw1, hF, hb⟩ := hcut
    have hwg : Whole wc g 33 #[.slice A2 n q2, .int .i64 s] := hw1
    replace ht := below_then ht hb ht.size
    have hr2 := hr.below hb
    clear hb hw1 c0 c1 hp1 hr
    obtain ⟨d0, d1, -, -⟩ := hwg.two
    go_wp2_with fail
    refine (sliceSort_any A2 n q2 lo hi xs _ hF HX.out hpos hn).mono ?_
    rintro e w3 ⟨rfl, hs, hF3⟩
    have hsz := ht.size
    have hwg3 := hs.whole hwg (by omega)
    have hr3 := hs.whole hr2 (by omega)
    have ht3 := hs.below ht (by omega) hsz
    have hh3 : hi ≤ w3.heap.size := Nat.le_trans hh1 hs.size
    have HF := Lib.hid (((hF3.set_out (b := w.heap.size + 1) (o := 0) (u := .slice A2 n q2) (.inl (by omega))).set_out (b := w.heap.size + 1) (o := 1) (u := .int .i64 s) (.inl (by omega))).more (lo' := w.heap.size) (hi' := w3.heap.size) (by omega) hh3)
    obtain ⟨e0, e1, -, -⟩ := hwg3.two
    obtain ⟨r0, r1, f0, f1⟩ := hr3.two
    have hl2 := hr3.lt
    clear hwg hr2 hs hF hF3 d0 d1 hwg3 hr3 ht
    go_wp2
    refine bodyPost_ret (v := .tuple #[.agg #[.slice A2 n q2, .int .i64 s], .bool true]) (by simp [results, Try.results48, go_sem, r0, r1]) rfl ⟨A2, q2, by rw [insTo_len xs (by have := HX.out; omega)], ?_, below_set (below_set ht3 (by omega)) (by omega)⟩
    have h := HF.out
    simpa [World.setCell] using h
end Go.Proofs.Ytionmcgaicijkaa
