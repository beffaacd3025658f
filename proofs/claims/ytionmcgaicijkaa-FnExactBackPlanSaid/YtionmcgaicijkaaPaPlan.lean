/-
  What is proved: contracts of the model's test of a plan. Conditions: the lists are read as they lie; one to eight people.
-/
import Derived.Test.YtionmcgaicijkaaFails
import Derived.Test.YtionmcgaicijkaaPaPlay2
import Derived.Deep.QuietTactic
import Derived.BigQuiet
import Derived.Deep.DeepCutAuto
import Derived.Deep.RegionHeld3
namespace Go.Proofs.Ytionmcgaicijkaa
open Go.RowKit

set_option maxHeartbeats 800000 in
theorem paSame_any (A B : Option Addr) (m c d : Nat) (bs cs : List Bool) (t u : Bool) (w : World) (hA : Holds w A (bits bs)) (hB : Holds w B (bits cs)) (hx : bs.length = m) (hy : cs.length = m) (hm : m ≤ 9223372036854775807) :
    Calls Try.prog 102 #[.agg #[.slice A m c, .bool t], .agg #[.slice B m d, .bool u]] w fun e w' => e = .returned (.bool (sameBits bs cs && (t == u))) ∧ Below w.heap.size w w' := by
  subst hx
  have hA2 := (hA.alloc (.cells #[.slice A bs.length c, .bool t] 30)).alloc (.cells #[.slice B bs.length d, .bool u] 30)
  have hB2 := (hB.alloc (.cells #[.slice A bs.length c, .bool t] 30)).alloc (.cells #[.slice B bs.length d, .bool u] 30)
  have HB := Lib.hid (below2 w (.cells #[.slice A bs.length c, .bool t] 30) (.cells #[.slice B bs.length d, .bool u] 30))
  have HY := Lib.hid hy
  clear hy
  go_enter Try.func102, Try.ntmps102
  go_wp2
  go_loop [10] (fun i => ∃ k : Nat, k ≤ bs.length ∧ i = .int .i64 k ∧ bs.take k = cs.take k) (fun i => bs.length - (intOf i).toNat)
  case atStart => exact ⟨0, Nat.zero_le _, rfl, rfl⟩
  case round =>
    obtain ⟨k, hk, rfl, ht⟩ := hrel
    have HT := Lib.hid ht
    clear ht
    by_cases hlt : k < bs.length
    · have hlt' : k < cs.length := by have := HY.out; omega
      obtain ⟨b, o, rfl, hb, hc⟩ := hA2.look (k := k) (by simpa [bits] using hlt)
      obtain ⟨b', o', rfl, hb', hc'⟩ := hB2.look (k := k) (by simpa [bits] using hlt')
      simp only [bits, List.getElem_map] at hc hc'
      by_cases he : bs[k] = cs[k]
      · have hne : (!(bs[k] == cs[k])) = false := by simp [he]
        have HE := Lib.hid he
        clear he
        go_wp2
        go_round
        case rel => exact ⟨k + 1, by omega, by go_num, take_nextB hlt hlt' HT.out HE.out⟩
        case measure => simp [intOf]; omega
      · have hne : (!(bs[k] == cs[k])) = true := by simp [he]
        have HN := Lib.hid (sameBits_no (fun h : bs = cs => he (by subst h; rfl)))
        clear he
        go_wp2
        go_ret
        exact ⟨by rw [HN.out]; rfl, HB.out⟩
    · have h1 := HT.out
      rw [List.take_of_length_le (by omega), List.take_of_length_le (by have := HY.out; omega)] at h1
      have HN := Lib.hid (sameBits_yes h1)
      clear h1
      go_wp2
      go_ret
      exact ⟨by rw [HN.out]; rfl, HB.out⟩

/-- Do the trips bring everybody and the torch over? -/
noncomputable def allOver (n : Nat) (s : Int) (ls : List (List Int)) : Bool := sameBits (ended n s (falses n) false ls).1 (trues n) && (ended n s (falses n) false ls).2
noncomputable def isPlan (n : Nat) (s : Int) (ls : List (List Int)) : Bool := decide (ls.length ≤ 40) && (decide (made n s (falses n) false ls = ls.length) && allOver n s ls)

theorem Whole.spots {w : World} {g : Nat} {t : TypeId} {xs : List Value} (h : Whole w g t xs.toArray) : ∀ j u, xs[j]? = some u → w.cell? ⟨g, 0 + j, none⟩ = some u := fun j u hu => by
  rw [Nat.zero_add, h.cell j]
  simpa using hu
/-- Behind the trips: the state lies in block g. -/
def EndMid (n : Nat) (s : Int) (ls : List (List Int)) (W : World) (v u : Value) (wx : World) : Prop :=
  ∃ (g : Nat) (A : Option Addr) (q : Nat), v = .pointer (some ⟨g, 0, none⟩) ∧ u = .int .i64 (made n s (falses n) false ls) ∧ Whole wx g 30 #[.slice A n q, .bool (ended n s (falses n) false ls).2] ∧ Holds wx A (bits (ended n s (falses n) false ls).1) ∧ Below W.heap.size W wx
theorem EndMid.last {n : Nat} {s : Int} {ls : List (List Int)} {W w : World} {A : Option Addr} {q : Nat} (hc : Below W.heap.size W w) (hA : Holds w A (bits (ended n s (falses n) false ls).1)) :
    EndMid n s ls W (.pointer (some ⟨w.heap.size, 0, none⟩)) (.int .i64 (made n s (falses n) false ls)) (w.alloc (.cells #[.slice A n q, .bool (ended n s (falses n) false ls).2] 30)) :=
  ⟨_, A, q, rfl, rfl, Whole.fresh _ _ _, hA.alloc _, hc.alloc hc.size _⟩
theorem EndMid.first {n : Nat} {s : Int} {ls : List (List Int)} {W w : World} {A : Option Addr} {q g b0 B : Nat} {a b : Value} (hc : Below W.heap.size W w) (hA : OldOrNew B b0 w A (bits (ended n s (falses n) false ls).1)) (hg : g < B) (hg0 : g ≠ b0) (hgW : W.heap.size ≤ g) (hw : Whole w g 30 #[a, b]) :
    EndMid n s ls W (.pointer (some ⟨g, 0, none⟩)) (.int .i64 (made n s (falses n) false ls)) ((w.setCell ⟨g, 0, none⟩ (.slice A n q)).setCell ⟨g, 1, none⟩ (.bool (ended n s (falses n) false ls).2)) :=
  ⟨g, A, q, rfl, rfl, (hw.set_ 0 _).set_ 1 _, ((hA.set hg hg0 _).set hg hg0 _).holds, below_set (below_set hc hgW) hgW⟩

set_option maxHeartbeats 3200000 in
set_option maxRecDepth 100000 in
theorem paPlan_any (A D : Option Addr) (n c q z : Nat) (rs : List RowV) (s : Int) (w : World) (hD : Grid w D rs) (hz : rs.length = q) (hn0 : 0 < n) (hn : n ≤ 8) (hq : q ≤ 9223372036854775807) :
    Calls Try.prog 72 #[.agg #[.slice A n c, .int .i64 s], .slice D q z] w fun e w' => e = .returned (.bool (isPlan n s (rowNums rs))) ∧ Below w.heap.size w w' := by
  have hp := Whole.fresh w 33 #[.slice A n c, .int .i64 s]
  obtain ⟨c0, c1, -, -⟩ := hp.two
  have hD2 := hD.alloc (.cells #[.slice A n c, .int .i64 s] 33)
  have HZ := Lib.hid hz
  have HLS := Lib.hid (rowNums_len rs)
  have HFL := Lib.hid (falses_len n)
  clear hz
  by_cases h40 : 40 < q
  · have HP : Hid (isPlan n s (rowNums rs) = false) := by
      show _ = _
      have := HLS.out
      have := HZ.out
      simp [isPlan]
      omega
    go_enter Try.func72, Try.ntmps72
    go_wp2
    go_ret
    exact ⟨ret_of (by rw [HP.out]; rfl), below1 w _⟩
  have hpl := hp.lt
  obtain ⟨W, hW⟩ : ∃ W : World, W = w.alloc (.cells #[.slice A n c, .int .i64 s] 33) := ⟨_, rfl⟩
  have hbW : Below w.heap.size w W := by rw [hW]; exact below1 w _
  have HBW := Lib.hid hbW
  go_enter Try.func72, Try.ntmps72
  go_upto_region 3 with fail
  rw [← hW] at hp hpl c0 c1 hD2 ⊢
  clear hW hbW
  go_cut [5, 6] (fun s5 s6 wx => EndMid n s (rowNums rs) W s5 s6 wx)
  case first =>
    go_region_held3 (fun w' => w'.cell? ⟨w.heap.size, 0, none⟩ = some (.slice A n c) ∧ w'.cell? ⟨w.heap.size, 1, none⟩ = some (.int .i64 s)) (go_keep)
      (first | (go_at_call 101; refine (paFirst_any A n c s _ (by omega)).mono ?_; rintro e w1 ⟨rfl, hw1, hb1⟩; (first | (have hc1 : Below W.heap.size W w1 := below_then (Below.refl W.heap.size W).drew hb1 (Nat.le_refl _); have hw1l : W.heap.size + 1 + 1 < w1.heap.size := hw1.lt) | (have hc1 : Below W.heap.size W w1 := below_then ((Below.refl W.heap.size W).alloc (Nat.le_refl _) (.cells #[.slice none 0 0, .bool false] 30)).drew hb1 (by simp); rw [show (World.drew (W.alloc (.cells #[.slice none 0 0, .bool false] 30))).heap.size = W.heap.size + 1 from World.size_alloc _ _] at hw1; have hbox := (Whole.fresh W 30 #[.slice none 0 0, .bool false]).drew.below hb1; have hy1 : w.heap.size < W.heap.size := hpl; have hn1 : ¬ W.heap.size = w.heap.size := (by omega); have hv1 : ¬ w.heap.size = W.heap.size := (by omega); obtain ⟨x0, x1, x2, x3⟩ := hbox.two)); obtain ⟨k0, k1, -, -⟩ := (hp.below hc1).two) | (go_at_call 67; refine (paPlay_at A D _ 0 n c n n q z (falses n) rs s false _ (by first | exact hw1.lt | exact (hw1.alloc _).lt) (by first | exact hw1.spots | exact (hw1.alloc _).spots) (by first | exact hD2.below hc1 | exact (hD2.below hc1).alloc _) HFL.out HZ.out rfl hn0 (by omega) hq).mono ?_; rintro e w2 ⟨A2, c2, rfl, hO, hb2⟩; (try (have hbxl := hbox.lt)); (first | (have hc2 := below_then hc1 hb2 hc1.size; (try (replace hbox := hbox.below hb2; clear x0 x1 x2 x3; obtain ⟨x0, x1, x2, x3⟩ := hbox.two))) | (have hc2 := below_then (hc1.alloc hc1.size (.cells #[.slice none 0 0, .bool false] 30)) hb2 (Nat.le_trans hc1.size (by simp)); have hbox := (Whole.fresh w1 30 #[.slice none 0 0, .bool false]).below hb2; have hy1 : w.heap.size < w1.heap.size := (by have := hc1.size; omega); have hn1 : ¬ w1.heap.size = w.heap.size := (by omega); have hv1 : ¬ w.heap.size = w1.heap.size := (by omega); obtain ⟨x0, x1, x2, x3⟩ := hbox.two)); obtain ⟨l0, l1, -, -⟩ := (hp.below hc2).two))
    all_goals (go_wp2_with fail; go_meet)
    all_goals (have hsz1 := hc1.size)
    all_goals first | exact EndMid.first hc2 hO (by first | omega | (simp; done) | (simp; omega)) (by first | omega | (simp; omega)) (by first | omega | (simp; omega)) hbox | exact EndMid.last hc2 hO.holds
  obtain ⟨g, A2, q2, rfl, rfl, hw, hA2, hb⟩ := hcut
  have ht := below_then HBW.out hb HBW.out.size
  replace hp := hp.below hb
  have HEL := Lib.hid ((ended_len n s (falses n) false (rowNums rs)).trans (falses_len n))
  clear c0 c1 hb hD2 hpl HBW
  obtain ⟨c0, c1, -, -⟩ := hp.two
  obtain ⟨d0, d1, -, -⟩ := hw.two
  by_cases hmd : made n s (falses n) false (rowNums rs) = q
  · have hmi : ((made n s (falses n) false (rowNums rs) : Int) == (q : Int)) = true := by simp [hmd]
    have HMD := Lib.hid hmd
    clear hmd
    go_wp2_with fail
    go_region_held3 (fun w' => (w'.cell? ⟨w.heap.size, 0, none⟩ = some (.slice A n c) ∧ w'.cell? ⟨w.heap.size, 1, none⟩ = some (.int .i64 s)) ∧ (w'.cell? ⟨g, 0, none⟩ = some (.slice A2 n q2) ∧ w'.cell? ⟨g, 1, none⟩ = some (.bool (ended n s (falses n) false (rowNums rs)).2))) (go_keep)
      (first | (go_at_call 103; refine (paLast_any A n c s _ (by omega)).mono ?_; rintro e w3 ⟨A3, q3, rfl, hf3, hb3⟩; rw [trues_len]; obtain ⟨k0, k1, -, -⟩ := (hp.drew.below hb3).two; obtain ⟨k2, k3, -, -⟩ := (hw.drew.below hb3).two) | (go_at_call 102; refine (paSame_any A2 A3 n q2 q3 _ (trues n) _ true _ (hA2.drew.below hb3) hf3.holds HEL.out (trues_len n) (by omega)).mono ?_; rintro e w4 ⟨rfl, hb4⟩; obtain ⟨l0, l1, -, -⟩ := ((hp.drew.below hb3).below hb4).two; obtain ⟨l2, l3, -, -⟩ := ((hw.drew.below hb3).below hb4).two))
    have ht2 := below_then (below_then ht.drew hb3 ht.size) hb4 (Nat.le_trans ht.size hb3.size)
    have HP : Hid (isPlan n s (rowNums rs) = allOver n s (rowNums rs)) := by
      show _ = _
      have h1 := HLS.out
      have h2 := HZ.out
      have h3 := HMD.out
      simp [isPlan, h1, h2, h3]
      omega
    clear hb3 hb4
    go_wp2
    go_ret
    exact ⟨ret_of (by rw [HP.out, allOver]; rfl), ht2⟩
  · have hmi : ((made n s (falses n) false (rowNums rs) : Int) == (q : Int)) = false := by simp; omega
    have HP : Hid (isPlan n s (rowNums rs) = false) := by
      show _ = _
      have h1 := HLS.out
      have h2 := HZ.out
      simp [isPlan, h1, h2, hmd]
    clear hmd
    go_wp2_with fail
    go_quiet (fail)
    go_wp2
    go_ret
    exact ⟨ret_of (by rw [HP.out]; rfl), below_draws ht _⟩
end Go.Proofs.Ytionmcgaicijkaa
