/-
  What is proved: the contract of the model's DropPerson. Conditions: the party's times are read as they lie.
  What is proved: contracts of LeftByClues, of the model and of the program, and of a part of a puzzle. Conditions: the clues are read as they lie.
  What is proved: contracts of the laws' own marks of clues and puzzles. Conditions: what is marked is a row of the call's own; counts are small.
  What is proved: the law FnExactLeftByClues returns true at every argument, and leaves all that was there as it was. Conditions: the arguments are read as they lie.
-/
import Derived.Deep.RegionHeld3
import Derived.Test.YtcoagbcleccmmaaJ1CountSolutions
set_option linter.unusedSimpArgs false
set_option linter.unusedVariables false
namespace Go.Proofs.Ytcoagbcleccmmaa
open Go.RowKit

end Go.Proofs.Ytcoagbcleccmmaa

namespace Go.Proofs.Ytcoagbcleccmmaa
open Go.RowKit

/-- How many hidden times match the first clues, for the first numbers of clues. -/
def leftI (p : Int) (cs : List Cl) (k : Nat) : List Int := (List.range k).map fun j => ((solI p (cs.take j)).length : Int)
theorem leftI_len (p : Int) (cs : List Cl) (k : Nat) : (leftI p cs k).length = k := by simp [leftI]
theorem leftI_next (p : Int) (cs : List Cl) (k : Nat) : leftI p cs (k + 1) = leftI p cs k ++ [((solI p (cs.take k)).length : Int)] := by
  simp [leftI, List.range_succ]
def leftByI (p : Int) (cs : List Cl) : List Int := if pzOk p cs then leftI p cs (cs.length + 1) else []
theorem leftByI_no {p : Int} {cs : List Cl} (h : pzOk p cs = false) : leftByI p cs = [] := if_neg (by simp [h])
theorem leftByI_yes {p : Int} {cs : List Cl} (h : pzOk p cs = true) : leftByI p cs = leftI p cs (cs.length + 1) := if_pos h
theorem leftByI_le (p : Int) (cs : List Cl) : (leftByI p cs).length ≤ 1048576 := by
  cases h : pzOk p cs
  · rw [leftByI_no h]; simp
  · rw [leftByI_yes h, leftI_len]
    have := (pzOk_parts h).2.2.1
    omega
theorem all_take {p : Int} {cs : List Cl} (h : cs.all (clOk p) = true) (k : Nat) : (cs.take k).all (clOk p) = true :=
  List.all_eq_true.2 fun x hx => List.all_eq_true.1 h x (List.mem_of_mem_take hx)
theorem pzOk_of {p : Int} {cs : List Cl} (h1 : 1 ≤ p) (h4 : p ≤ 4) (h6 : cs.length ≤ 6) (h : cs.all (clOk p) = true) : pzOk p cs = true := by
  simp only [pzOk, Bool.and_eq_true, within_iff, decide_eq_true_eq]
  exact ⟨⟨h1, h4⟩, h6, h⟩
theorem pzOk_take {p : Int} {cs : List Cl} (h : pzOk p cs = true) (k : Nat) : pzOk p (cs.take k) = true := by
  obtain ⟨h1, h4, h6, ha⟩ := pzOk_parts h
  exact pzOk_of h1 h4 (by simp; omega) (all_take ha k)
/-- The first clues lie where the clues lie. -/
theorem cls_take {w : World} {b o k : Nat} {cs : List Cl} (h : Holds w (some ⟨b, o, none⟩) (clsC cs)) : Holds w (some ⟨b, o, none⟩) (clsC (cs.take k)) := by
  rcases h with h | ⟨b', o', hA, hb, hc⟩
  · left
    have h0 : cs = [] := by
      have := clsC_len cs
      rw [h] at this
      simp at this
      exact List.eq_nil_of_length_eq_zero (by omega)
    simp [h0, clsC]
  · cases hA
    refine .inr ⟨b, o, rfl, hb, fun j u hu => hc j u ?_⟩
    have hs : clsC cs = clsC (cs.take k) ++ clsC (cs.drop k) := by rw [← clsC_app, List.take_append_drop]
    rw [hs, List.getElem?_append_left]
    · exact hu
    · exact (List.getElem?_eq_some_iff.1 hu).1

theorem numsB_snoc (l : List Int) (x : Int) : nums (l ++ [x]) = nums l ++ [.int .i64 x] := by simp [nums]
theorem own_freshB {w : World} {lo n c : Nat} {ty : TypeId} {A : Option Addr} {xs : List Value} (h : w.ownsRow lo ty 1 (.slice A n c) n xs) : Fresh w lo w.heap.size ty A xs := by
  obtain ⟨A', c', hv, hf⟩ := Fresh.of_own h (Nat.le_refl _)
  cases hv
  exact hf
/-- A list of numbers of the call's own. -/
def IntsPost (l : List Int) (ok : Bool) (w : World) (e : Ending) (w' : World) : Prop :=
  ∃ (B : Option Addr) (q : Nat), e = .returned (.tuple #[.slice B l.length q, .bool ok]) ∧ Fresh w' w.heap.size w'.heap.size 3 B (nums l) ∧ Below w.heap.size w w'

set_option maxHeartbeats 1600000 in
set_option maxRecDepth 100000 in
theorem specLeftByClues_any (p : Int) (b o n c : Nat) (cs : List Cl) (w : World) (hA : Holds w (some ⟨b, o, none⟩) (clsC cs)) (hx : cs.length = n) (hn : n ≤ 1048576) (hc : n ≤ c) :
    Calls Try.prog 50 #[.agg #[.int .i64 p, .slice (some ⟨b, o, none⟩) n c]] w (IntsPost (leftByI p cs) (pzOk p cs) w) := by
  obtain ⟨i0, hi, hz0, hz1, hz2⟩ := info_parts info_int
  have HI := Lib.hid hi
  have HZ0 := Lib.hid hz0
  have HZ1 := Lib.hid hz1
  have HZ2 := Lib.hid hz2
  have hbl := below1 w (.cells #[.int .i64 p, .slice (some ⟨b, o, none⟩) n c] 35)
  have hw0 := Whole.fresh w 35 #[.int .i64 p, .slice (some ⟨b, o, none⟩) n c]
  have HBL := Lib.hid hbl
  have HA := Lib.hid (hA.below hbl)
  have H0 := Lib.hid hw0
  have HX := Lib.hid hx
  clear hi hz0 hz1 hz2
  cases hok : pzOk p cs
  · have HOK := Lib.hid hok
    have HS := Lib.hid (leftByI_no hok)
    clear hbl hA hx hok hw0
    go_enter Try.func50, Try.ntmps50
    go_wp2_with fail
    refine (pzGood_any p _ n c cs _ HA.out HX.out (by omega)).mono ?_
    rintro e w2 ⟨rfl, hb⟩
    rw [HOK.out]
    have HF := Lib.hid (below_then HBL.out hb HBL.out.size)
    clear hb
    go_wp2
    go_ret2
    exact ⟨none, 0, by rw [HS.out]; rfl, by rw [HS.out]; exact .inl rfl, HF.out⟩
  · have HOK := Lib.hid hok
    have HS := Lib.hid (leftByI_yes hok)
    obtain ⟨hp1, hp4, hl6, hall⟩ := pzOk_parts hok
    have HALL := Lib.hid hall
    clear hbl hA hx hok hw0 hall
    go_enter Try.func50, Try.ntmps50
    go_wp2_with fail
    refine (pzGood_any p _ n c cs _ HA.out HX.out (by omega)).mono ?_
    rintro e w2 ⟨rfl, hb⟩
    rw [HOK.out]
    have HF := Lib.hid (below_then HBL.out hb HBL.out.size)
    have HA2 := Lib.hid (HA.out.below hb)
    have h2 := H0.out.below hb
    have HQ2 := Lib.hid h2
    have hls := HBL.out.size
    have hls2 : w.heap.size + 1 ≤ w2.heap.size := by have := hb.size; simp at this; omega
    have hn6 : n ≤ 6 := by have := HX.out; omega
    clear hb h2 hls
    go_wp2
    go_loopw [4, 5] (fun v i wr => ∃ (k : Nat) (D : Option Addr) (d : Nat), k ≤ n + 1 ∧ i = .int .i64 k ∧ v = .slice D k d ∧ wr.ownsRow w2.heap.size 3 1 (.slice D k d) k (nums (leftI p cs k)) ∧ Below w2.heap.size w2 wr) (fun _ i _ => n + 1 - (intOf i).toNat)
    case atStart => exact ⟨0, none, 0, Nat.zero_le _, rfl, rfl, World.ownsRow_nil _ _ _ _, Below.refl _ _⟩
    case round =>
      obtain ⟨k, D, d, hk, rfl, rfl, hown, hb⟩ := hrel
      have HOWN := Lib.hid hown
      have HB := Lib.hid hb
      have hq := HQ2.out.below hb
      obtain ⟨c0, c1⟩ := hq.cells2
      have hlt0 := hq.lt
      have hzr : w2.heap.size ≤ wr.heap.size := hb.size
      clear hown hq hb
      by_cases hlt : k ≤ n
      · have hkI : (k : Int) ≤ n := by omega
        have hkc : (k : Int) ≤ c := by omega
        have hkc2 : k ≤ c := by omega
        have hk0 : (0 : Int) ≤ k := by omega
        have HTK : Hid ((cs.take k).length = k) := by show _ = _; rw [List.length_take]; have := HX.out; omega
        have HPA := Lib.hid (pzAll_any p (some ⟨b, o, none⟩) k c (cs.take k) wr (cls_take (HA2.out.below HB.out)) HTK.out (by omega) (all_take HALL.out k) hp1 hp4)
        have HLE := Lib.hid (solI_len (cs.take k) hp1 hp4)
        have HNX := Lib.hid (leftI_next p cs k)
        have HQR := Lib.hid (HQ2.out.below HB.out)
        have HTA := Lib.hid (cls_take (k := k) (HA2.out.below HB.out))
        have HALK := Lib.hid (all_take HALL.out k)
        have HMAX := Lib.hid (show k + 1 ≤ maxLen by unfold maxLen; omega)
        have HBYT := Lib.hid (show (k + 1) * 8 ≤ 140737488355328 by omega)
        go_wp2_with fail
        go_region_held3 (fun w' => w'.cell? ⟨w.heap.size, 0, none⟩ = some (.int .i64 p) ∧ w'.cell? ⟨w.heap.size, 1, none⟩ = some (.slice (some ⟨b, o, none⟩) n c)) (go_keep)
          (first | (go_at_call 62; refine (pzAll_any p (some ⟨b, o, none⟩) k c (cs.take k) _ (by exact HTA.out.drew) HTK.out (by omega) HALK.out hp1 hp4).mono ?_; rintro e w3 ⟨A3, c3, rs, rfl, hr, hh, hb3⟩; have HRL := Lib.hid (heads_len hh hr); have hrl : rs.length ≤ 1296 := (by rw [heads_len hh hr]; exact HLE.out); have hq3 := HQR.out.drew.below hb3; obtain ⟨k2, k3⟩ := hq3.cells2; have HQ3 := Lib.hid (hq3.alloc (.cells #[.int .i64 (rs.length : Int)] 3)); have hbd : Below wr.heap.size wr w3 := below_then (Below.refl wr.heap.size wr).drew hb3 (Nat.le_refl _); have HBD := Lib.hid hbd; have hsz3 : wr.heap.size ≤ w3.heap.size := hbd.size; have HOW := Lib.hid ((own_below HOWN.out hbd).alloc (.cells #[.int .i64 (rs.length : Int)] 3)); have HBASE := Lib.hid (show w2.heap.size ≤ (w3.alloc (.cells #[.int .i64 (rs.length : Int)] 3)).heap.size by rw [World.size_alloc]; omega); clear hr hh hb3 hq3 hbd) | (refine step_append_mine rfl (.tmp 16) (.tmp 25) 39 rfl w2.heap.size 3 i0 (.int .i64 0) 1 8 Try.underlying39 HI.out HZ0.out HZ1.out HZ2.out rfl (by decide) (.slice D k d) k (nums (leftI p cs k)) (by simp [Act.eval]) HOW.out ⟨w3.heap.size, 0, none⟩ 1 1 [.int .i64 (rs.length : Int)] (by simp [Act.eval]) rfl (cell_one_new _ _ _) (by simp [Value.oneCell']) HMAX.out HBYT.out HBASE.out ?_; intro v' w4 hown4 hg4; obtain ⟨D4, d4, rfl⟩ := own_shape hown4; have hq4 : Whole w4 w.heap.size 35 #[.int .i64 p, .slice (some ⟨b, o, none⟩) n c] := (hg4.block _ HQ3.out.lt (fun e => (by have := (HOW.out.lt _ e.symm).1; omega))).trans HQ3.out; obtain ⟨k4, k5⟩ := hq4.cells2))
        have HON := Lib.hid hown4
        have HBN := Lib.hid ((below_then HB.out (HBD.out.alloc hsz3 (.cells #[.int .i64 (rs.length : Int)] 3)) HB.out.size).grown hg4 HBASE.out (fun kk e => (HOW.out.lt _ e).1))
        clear hown4 hg4
        go_wp2
        go_roundw
        case rel => exact ⟨k + 1, D4, d4, by omega, by go_num, rfl, by rw [HNX.out, ← HRL.out, numsB_snoc]; exact HON.out, HBN.out⟩
        case measure => simp [intOf]; omega
      · obtain rfl : k = n + 1 := by omega
        have hkI : ¬ ((n + 1 : Nat) : Int) ≤ n := by omega
        have HFR := Lib.hid (own_freshB HOWN.out)
        have HBB := Lib.hid (below_then HF.out HB.out HF.out.size)
        have HL1 : Hid (leftByI p cs = leftI p cs (n + 1)) := by show _ = _; rw [HS.out, HX.out]
        go_wp2
        go_ret2
        exact ⟨D, d, by rw [HL1.out, leftI_len]; rfl, by rw [HL1.out]; exact HFR.out.more (by omega) (Nat.le_refl _), HBB.out⟩

set_option maxHeartbeats 800000 in
theorem part_first (p : Int) (b o n c k : Nat) (w : World) (hk : k ≤ n) (hc : n ≤ c) (hn : n ≤ 1048576) :
    Calls Try.prog 74 #[.agg #[.int .i64 p, .slice (some ⟨b, o, none⟩) n c], .int .i64 0, .int .i64 k] w fun e w' => e = .returned (.agg #[.int .i64 p, .slice (some ⟨b, o, none⟩) k k]) ∧ Below w.heap.size w w' := by
  have h0 := (Whole.fresh w 35 #[.int .i64 p, .slice (some ⟨b, o, none⟩) n c]).alloc (.cells #[.int .i64 0, .slice none 0 0] 35)
  have h1 := Whole.fresh (w.alloc (.cells #[.int .i64 p, .slice (some ⟨b, o, none⟩) n c] 35)) 35 #[.int .i64 0, .slice none 0 0]
  have HB := Lib.hid (below2 w (.cells #[.int .i64 p, .slice (some ⟨b, o, none⟩) n c] 35) (.cells #[.int .i64 0, .slice none 0 0] 35))
  have hk0 : (0 : Int) ≤ k := by omega
  have hkc : (k : Int) ≤ c := by omega
  have hkc2 : k ≤ c := by omega
  go_enter Try.func74, Try.ntmps74
  go_wp2
  obtain ⟨c0, c1⟩ := h0.cells2
  obtain ⟨r0, r1, f0, f1⟩ := h1.two
  rw [World.size_alloc] at r0 r1 f0 f1
  have hl0 := h0.lt
  have hP := Whole.fresh (w.alloc (.cells #[.int .i64 p, .slice (some ⟨b, o, none⟩) n c] 35)) 35 #[.int .i64 p, .slice (some ⟨b, o, none⟩) k k]
  have HB2 := Lib.hid ((below2 w (.cells #[.int .i64 p, .slice (some ⟨b, o, none⟩) n c] 35) (.cells #[.int .i64 p, .slice (some ⟨b, o, none⟩) k k] 35)).drew)
  rw [World.size_alloc] at hP
  have hP2 := hP.drew
  go_region_held3 (fun w' => w'.cell? ⟨w.heap.size, 0, none⟩ = some (.int .i64 p) ∧ w'.cell? ⟨w.heap.size, 1, none⟩ = some (.slice (some ⟨b, o, none⟩) n c)) (go_keep) (fail)
  obtain ⟨s0, s1, -, -⟩ := hP2.two
  clear h0 h1 c0 c1 r0 r1 f0 f1 hP hP2
  go_wp2
  refine bodyPost_ret (v := .agg #[.int .i64 p, .slice (some ⟨b, o, none⟩) k k]) (by simp [results, Try.results74, go_sem, s0, s1]) rfl ⟨rfl, HB2.out⟩

theorem count_take {p : Int} {cs : List Cl} (h : pzOk p cs = true) (k : Nat) : solsI p (cs.take k) = solI p (cs.take k) := solsI_yes (pzOk_take h k)

set_option maxHeartbeats 1600000 in
set_option maxRecDepth 100000 in
theorem implLeftByClues_any (p : Int) (b o n c : Nat) (cs : List Cl) (w : World) (hA : Holds w (some ⟨b, o, none⟩) (clsC cs)) (hx : cs.length = n) (hn : n ≤ 1048576) (hc : n ≤ c) :
    Calls Try.prog 51 #[.agg #[.int .i64 p, .slice (some ⟨b, o, none⟩) n c]] w (IntsPost (leftByI p cs) (pzOk p cs) w) := by
  obtain ⟨i0, hi, hz0, hz1, hz2⟩ := info_parts info_int
  have HI := Lib.hid hi
  have HZ0 := Lib.hid hz0
  have HZ1 := Lib.hid hz1
  have HZ2 := Lib.hid hz2
  have hbl := below1 w (.cells #[.int .i64 p, .slice (some ⟨b, o, none⟩) n c] 35)
  have hw0 := Whole.fresh w 35 #[.int .i64 p, .slice (some ⟨b, o, none⟩) n c]
  have HBL := Lib.hid hbl
  have HA := Lib.hid (hA.below hbl)
  have H0 := Lib.hid hw0
  have HX := Lib.hid hx
  clear hi hz0 hz1 hz2
  obtain ⟨c0, c1⟩ := hw0.cells2
  have hlt0 := hw0.lt
  cases hok : pzOk p cs
  · have HOK := Lib.hid hok
    have HS := Lib.hid (leftByI_no hok)
    clear hbl hA hx hok hw0
    go_enter Try.func51, Try.ntmps51
    go_wp2_with fail
    refine (isPuzzle_any p _ n c cs _ HA.out HX.out (by omega)).mono ?_
    rintro e w2 ⟨rfl, hb⟩
    rw [HOK.out]
    have HF := Lib.hid (below_then HBL.out hb HBL.out.size)
    clear hb
    go_wp2
    go_ret2
    exact ⟨none, 0, by rw [HS.out]; rfl, by rw [HS.out]; exact .inl rfl, HF.out⟩
  · have HOK := Lib.hid hok
    have HS := Lib.hid (leftByI_yes hok)
    have hn6 : n ≤ 6 := by have := (pzOk_parts hok).2.2.1; omega
    clear hbl hA hx hok hw0
    go_enter Try.func51, Try.ntmps51
    go_wp2_with fail
    refine (isPuzzle_any p _ n c cs _ HA.out HX.out (by omega)).mono ?_
    rintro e w2 ⟨rfl, hb⟩
    rw [HOK.out]
    have HF := Lib.hid (below_then HBL.out hb HBL.out.size)
    have HA2 := Lib.hid (HA.out.below hb)
    have h2 := H0.out.below hb
    have HQ2 := Lib.hid h2
    have hls := HBL.out.size
    have hls2 : w.heap.size + 1 ≤ w2.heap.size := by have := hb.size; simp at this; omega
    clear c0 c1 hlt0
    obtain ⟨c0, c1⟩ := h2.cells2
    have hlt0 := h2.lt
    clear hb h2 hls
    go_wp2
    go_loopw [4, 15] (fun v i wr => ∃ (k : Nat) (D : Option Addr) (d : Nat), k ≤ n + 1 ∧ i = .int .i64 k ∧ v = .slice D k d ∧ wr.ownsRow w2.heap.size 3 1 (.slice D k d) k (nums (leftI p cs k)) ∧ Below w2.heap.size w2 wr) (fun _ i _ => n + 1 - (intOf i).toNat)
    case atStart => exact ⟨0, none, 0, Nat.zero_le _, rfl, rfl, World.ownsRow_nil _ _ _ _, Below.refl _ _⟩
    case round =>
      obtain ⟨k, D, d, hk, rfl, rfl, hown, hb⟩ := hrel
      have HOWN := Lib.hid hown
      have HB := Lib.hid hb
      have hq := HQ2.out.below hb
      clear c0 c1 hlt0
      obtain ⟨c0, c1⟩ := hq.cells2
      have hlt0 := hq.lt
      have hzr : w2.heap.size ≤ wr.heap.size := hb.size
      clear hown hq hb
      by_cases hlt : k ≤ n
      · have hkI : (k : Int) < (n : Int) + 1 := by omega
        have HTK : Hid ((cs.take k).length = k) := by show _ = _; rw [List.length_take]; have := HX.out; omega
        have HLE := Lib.hid (solI_len (cs.take k) (pzOk_parts HOK.out).1 (pzOk_parts HOK.out).2.1)
        have HNX := Lib.hid (leftI_next p cs k)
        have HTA := Lib.hid (cls_take (k := k) (HA2.out.below HB.out))
        have HCT := Lib.hid (count_take HOK.out k)
        have HMAX := Lib.hid (show k + 1 ≤ maxLen by unfold maxLen; omega)
        have HBYT := Lib.hid (show (k + 1) * 8 ≤ 140737488355328 by omega)
        go_wp2_with fail
        refine (part_first p b o n c k wr (by omega) hc hn).mono ?_
        rintro e w3 ⟨rfl, hb3⟩
        have HB3 := Lib.hid hb3
        have hz3 : wr.heap.size ≤ w3.heap.size := hb3.size
        have HTA3 := Lib.hid (HTA.out.below hb3)
        clear hb3
        go_wp2_with fail
        refine (implCountSolutions_any p _ k k (cs.take k) _ HTA3.out HTK.out (by omega)).mono ?_
        rintro e w4 ⟨rfl, hb4⟩
        have hbd := below_then HB3.out hb4 HB3.out.size
        rw [HCT.out]
        have hcle : (solI p (cs.take k)).length ≤ 1296 := HLE.out
        obtain ⟨z, hz⟩ : ∃ z, z = (solI p (cs.take k)).length := ⟨_, rfl⟩
        rw [← hz] at HNX hcle ⊢
        have HBD := Lib.hid hbd
        have hsz4 : wr.heap.size ≤ w4.heap.size := hbd.size
        have HOW := Lib.hid ((own_below HOWN.out hbd).alloc (.cells #[.int .i64 (z : Int)] 3))
        have HBASE := Lib.hid (show w2.heap.size ≤ (w4.alloc (.cells #[.int .i64 (z : Int)] 3)).heap.size by rw [World.size_alloc]; omega)
        clear hb4 hbd hz
        go_wp2_with (at_builtin; refine wpList_append_lies _ rfl (.tmp 25) (.tmp 27) 39 rfl w2.heap.size 3 i0 (.int .i64 0) 1 8 Try.underlying39 HI.out HZ0.out HZ1.out HZ2.out rfl (by decide) (.slice D k d) k (nums (leftI p cs k)) rfl HOW.out ⟨w4.heap.size, 0, none⟩ 1 1 [.int .i64 (z : Int)] rfl rfl (cell_one_new _ _ _) (by simp [Value.oneCell']) (by decide) HMAX.out HBYT.out HBASE.out (w4.heap.size + 1) (by simp) ?_; intro g cap w5 hown5 hg5 hat5 hlt5)
        have HON := Lib.hid hown5
        have HBN := Lib.hid ((below_then HB.out (HBD.out.alloc hsz4 (.cells #[.int .i64 (z : Int)] 3)) HB.out.size).grown hg5 HBASE.out (fun kk e => (HOW.out.lt _ e).1))
        clear hown5 hg5 hat5 hlt5
        go_wp2
        go_roundw
        case rel => exact ⟨k + 1, some ⟨g, 0, none⟩, cap, by omega, by go_num, rfl, by rw [HNX.out, numsB_snoc]; exact HON.out, HBN.out⟩
        case measure => simp [intOf]; omega
      · obtain rfl : k = n + 1 := by omega
        have HFR := Lib.hid (own_freshB HOWN.out)
        have HBB := Lib.hid (below_then HF.out HB.out HF.out.size)
        have HL1 : Hid (leftByI p cs = leftI p cs (n + 1)) := by show _ = _; rw [HS.out, HX.out]
        go_wp2
        go_ret2
        exact ⟨D, d, by rw [HL1.out, leftI_len]; rfl, by rw [HL1.out]; exact HFR.out.more (by omega) (Nat.le_refl _), HBB.out⟩
end Go.Proofs.Ytcoagbcleccmmaa

namespace Go.Proofs.Ytcoagbcleccmmaa
open Go.RowKit

set_option maxHeartbeats 1600000 in
theorem markClueS_any (A : Option Addr) (n c lo hi : Nat) (cs : List Cl) (q : Int) (w : World) (hf : Fresh w lo hi 25 A (clsC cs)) (hx : cs.length = n) (h0 : 0 ≤ q) (h1 : q ≤ 2305843009213693952) (hn : n ≤ 1048576) :
    Calls Try.prog 68 #[.slice A n c, .int .i64 q] w fun e w' => e = .returned (.int .i64 (q + ((n * 3 : Nat) : Int))) ∧ Span lo hi w w' ∧ Fresh w' lo hi 25 A (nums (marksI q (n * 3))) := by
  subst hx
  have hlc := clsC_len cs
  generalize clsC cs = xs at hf hlc
  generalize cs.length = n at *
  rcases hf with rfl | ⟨g, cells, rfl, hlo, hhi, hw, hle, htk⟩
  · have hn0 : n = 0 := by simp at hlc; omega
    subst hn0
    go_enter Try.func68, Try.ntmps68
    go_wp2
    refine wp_loop_rounds 1 ?_
    rw [rounds_succ]
    go_wp2
    go_ret
    exact ⟨ret_of (by simp), Span.refl _ _ _, .inl (by simp [marksI, nums])⟩
  · have HT := Lib.hid htk
    have HLC := Lib.hid hlc
    have hsz : n * 3 ≤ cells.size := by omega
    have HSZ := Lib.hid hsz
    clear htk hlc hle hsz
    have hm0 : Whole w g 25 (marked (fun i : Nat => .int .i64 (q + (i : Int))) cells (0 * 3)) := by rw [Nat.zero_mul, marked_zero]; exact hw
    have hgl := hw.lt
    go_enter Try.func68, Try.ntmps68
    go_wp2
    go_loopw [1, 5] (fun v i wr => ∃ k : Nat, k ≤ n ∧ i = .int .i64 k ∧ v = .int .i64 (q + ((k * 3 : Nat) : Int)) ∧ Whole wr g 25 (marked (fun i : Nat => .int .i64 (q + (i : Int))) cells (k * 3)) ∧ Span lo hi w wr) (fun _ i _ => n - (intOf i).toNat)
    case atStart => exact ⟨0, Nat.zero_le _, rfl, by simp, hm0, Span.refl _ _ _⟩
    case round =>
      obtain ⟨k, hk, rfl, rfl, hm, hs⟩ := hrel
      clear hm0 hw
      by_cases hlt : k < n
      · have hs3 := HSZ.out
        have hks : k * 3 + 2 < cells.size := by omega
        have h00 : (marked (fun i : Nat => .int .i64 (q + (i : Int))) cells (k * 3)).size = cells.size := by simp [marked]; omega
        obtain ⟨u0, hu0⟩ : ∃ u, (marked (fun i : Nat => .int .i64 (q + (i : Int))) cells (k * 3))[k * 3]? = some u := ⟨_, Array.getElem?_eq_getElem (by omega)⟩
        obtain ⟨u1, hu1⟩ : ∃ u, (marked (fun i : Nat => .int .i64 (q + (i : Int))) cells (k * 3))[k * 3 + 1]? = some u := ⟨_, Array.getElem?_eq_getElem (by omega)⟩
        obtain ⟨u2, hu2⟩ : ∃ u, (marked (fun i : Nat => .int .i64 (q + (i : Int))) cells (k * 3))[k * 3 + 2]? = some u := ⟨_, Array.getElem?_eq_getElem (by omega)⟩
        have c0 := (hm.cell (k * 3)).trans hu0
        have c1 := (hm.cell (k * 3 + 1)).trans hu1
        have c2 := (hm.cell (k * 3 + 2)).trans hu2
        have f0 := hm.open_ (k * 3)
        have f1 := hm.open_ (k * 3 + 1)
        have f2 := hm.open_ (k * 3 + 2)
        obtain ⟨z, hz⟩ : ∃ z : Int, z = q + ((k * 3 : Nat) : Int) := ⟨_, rfl⟩
        have hset := ((hm.set_ (k * 3) (.int .i64 (q + ((k * 3 : Nat) : Int)))).set_ (k * 3 + 1) (.int .i64 (q + ((k * 3 + 1 : Nat) : Int)))).set_ (k * 3 + 2) (.int .i64 (q + ((k * 3 + 2 : Nat) : Int)))
        rw [marked_next (fun i : Nat => .int .i64 (q + (i : Int))) cells (k := k * 3) (by omega), marked_next (fun i : Nat => .int .i64 (q + (i : Int))) cells (k := k * 3 + 1) (by omega), marked_next (fun i : Nat => .int .i64 (q + (i : Int))) cells (k := k * 3 + 2) (by omega), show q + ((k * 3 + 1 : Nat) : Int) = z + 1 by omega, show q + ((k * 3 + 2 : Nat) : Int) = z + 1 + 1 by omega, ← hz] at hset
        have HSET := Lib.hid hset
        have HSP := Lib.hid hs
        have hz0 : 0 ≤ z := by omega
        have hz1 : z ≤ 4611686018427387904 := by omega
        have HZ := Lib.hid hz
        rw [← hz]
        have hkl : (k : Int) < n := by omega
        clear hm hs hset hu0 hu1 hu2 h00 hz hs3
        have hw1 : IntKind.i64.wrap (z + 1) = z + 1 := IntWalk.i64_in _ (by omega)
        have hw2 : IntKind.i64.wrap (z + 1 + 1) = z + 1 + 1 := IntWalk.i64_in _ (by omega)
        have hw3 : IntKind.i64.wrap (z + 1 + 1 + 1) = z + 1 + 1 + 1 := IntWalk.i64_in _ (by omega)
        go_wp2
        go_roundw
        case rel => exact ⟨k + 1, by omega, by go_num, congrArg _ (by have := HZ.out; omega), by rw [show (k + 1) * 3 = k * 3 + 2 + 1 by omega]; exact HSET.out, HSP.out.trans ⟨rfl, rfl, rfl, by simp [World.setCell], fun j _ hj => ((Below.heap_setCell _ _ _ _ (by show j ≠ g; omega)).trans (Below.heap_setCell _ _ _ _ (by show j ≠ g; omega))).trans (Below.heap_setCell _ _ _ _ (by show j ≠ g; omega))⟩⟩
        case measure => simp [intOf]; omega
      · have hkn : k = n := by omega
        subst hkn
        go_wp2
        go_ret
        refine ⟨rfl, hs, .inr ⟨g, _, rfl, hlo, hhi, hm, ?_, ?_⟩⟩
        · simp [nums_len, marksI_len, marked]
        · rw [nums_len, marksI_len, marked_take _ _ _]
          simp [nums, marksI]

set_option maxHeartbeats 1600000 in
theorem heldClueS_any (A : Option Addr) (n c : Nat) (q : Int) (w : World) (hA : Holds w A (nums (marksI q (n * 3)))) (h0 : 0 ≤ q) (h1 : q ≤ 2305843009213693952) (hn : n ≤ 1048576) :
    Calls Try.prog 73 #[.slice A n c, .int .i64 q] w fun e w' => e = .returned (.int .i64 (q + ((n * 3 : Nat) : Int))) ∧ w = w' := by
  have hl := marksI_len q (n * 3)
  have HL := Lib.hid hl
  clear hl
  go_enter Try.func73, Try.ntmps73
  go_wp2
  go_loop [1, 5] (fun v i => ∃ k : Nat, k ≤ n ∧ i = .int .i64 k ∧ v = .int .i64 (q + ((k * 3 : Nat) : Int))) (fun _ i => n - (intOf i).toNat)
  case atStart => exact ⟨0, Nat.zero_le _, rfl, by simp⟩
  case round =>
    obtain ⟨k, hk, rfl, rfl⟩ := hrel
    by_cases hlt : k < n
    · obtain ⟨b, o, rfl, hb, hc0⟩ := hA.look (k := k * 3) (by rw [nums_len, HL.out]; omega)
      obtain ⟨b1, o1, hA1, hb1, hc1⟩ := hA.look (k := k * 3 + 1) (by rw [nums_len, HL.out]; omega)
      obtain ⟨b2, o2, hA2, hb2, hc2⟩ := hA.look (k := k * 3 + 2) (by rw [nums_len, HL.out]; omega)
      obtain ⟨rfl, rfl⟩ : b = b1 ∧ o = o1 := by
        simp only [Option.some.injEq, Addr.mk.injEq] at hA1
        exact ⟨hA1.1, hA1.2.1⟩
      obtain ⟨rfl, rfl⟩ : b = b2 ∧ o = o2 := by
        simp only [Option.some.injEq, Addr.mk.injEq] at hA2
        exact ⟨hA2.1, hA2.2.1⟩
      obtain ⟨z, hz⟩ : ∃ z : Int, z = q + ((k * 3 : Nat) : Int) := ⟨_, rfl⟩
      have hv0 : (nums (marksI q (n * 3)))[k * 3]'(by rw [nums_len, HL.out]; omega) = .int .i64 z := by simp [nums, marksI, hz]
      have hv1 : (nums (marksI q (n * 3)))[k * 3 + 1]'(by rw [nums_len, HL.out]; omega) = .int .i64 (z + 1) := by simp [nums, marksI, hz]; omega
      have hv2 : (nums (marksI q (n * 3)))[k * 3 + 2]'(by rw [nums_len, HL.out]; omega) = .int .i64 (z + 1 + 1) := by simp [nums, marksI, hz]; omega
      rw [hv0] at hc0
      rw [hv1] at hc1
      rw [hv2] at hc2
      rw [← Nat.add_assoc] at hc1 hc2
      have hkl : (k : Int) < n := by omega
      have hw1 : IntKind.i64.wrap (z + 1) = z + 1 := IntWalk.i64_in _ (by omega)
      have hw2 : IntKind.i64.wrap (z + 1 + 1) = z + 1 + 1 := IntWalk.i64_in _ (by omega)
      have hw3 : IntKind.i64.wrap (z + 1 + 1 + 1) = z + 1 + 1 + 1 := IntWalk.i64_in _ (by omega)
      have hn0 : (z != z) = false := by simp
      have hn1 : (z + 1 != z + 1) = false := by simp
      have hn2 : (z + 1 + 1 != z + 1 + 1) = false := by simp
      have HZ := Lib.hid hz
      rw [← hz]
      clear hv0 hv1 hv2 hA1 hA2 hb1 hb2 hz
      go_wp2
      go_round
      case rel => exact ⟨k + 1, by omega, by go_num, congrArg _ (by have := HZ.out; omega)⟩
      case measure => simp [intOf]; omega
    · have hkn : k = n := by omega
      subst hkn
      go_wp2
      go_ret
      exact ⟨rfl, rfl⟩

set_option maxHeartbeats 400000 in
theorem markPuzzle_any (s : Int) (A : Option Addr) (n c lo hi : Nat) (cs : List Cl) (q : Int) (w : World) (hf : Fresh w lo hi 25 A (clsC cs)) (hx : cs.length = n) (h0 : 0 ≤ q) (h1 : q ≤ 2305843009213693952) (hn : n ≤ 1048576) :
    Calls Try.prog 34 #[.agg #[.int .i64 s, .slice A n c], .int .i64 q] w fun e w' => e = .returned (.int .i64 (q + ((n * 3 : Nat) : Int))) ∧ Span lo hi w w' ∧ Fresh w' lo hi 25 A (nums (marksI q (n * 3))) := by
  have HX := Lib.hid hx
  clear hx
  go_enter Try.func34, Try.ntmps34
  go_wp2_with fail
  refine (markClueS_any A n c lo hi cs q _ (hf.alloc _) HX.out h0 h1 hn).mono ?_
  rintro e w1 ⟨rfl, hs, hf1⟩
  have HS := Lib.hid hs
  have HF := Lib.hid hf1
  clear hs hf1
  go_wp2
  go_ret
  exact ⟨rfl, (Span.of_below (below1 w _) lo hi).trans HS.out, HF.out⟩

set_option maxHeartbeats 400000 in
theorem heldPuzzle_any (A : Option Addr) (n c : Nat) (s q : Int) (w : World) (hA : Holds w A (nums (marksI q (n * 3)))) (h0 : 0 ≤ q) (h1 : q ≤ 2305843009213693952) (hn : n ≤ 1048576) :
    Calls Try.prog 47 #[.agg #[.int .i64 s, .slice A n c], .int .i64 q] w fun e w' => e = .returned (.int .i64 (q + ((n * 3 : Nat) : Int))) ∧ Below w.heap.size w w' := by
  have hq0 : ¬ (q + ((n * 3 : Nat) : Int) < 0) := by omega
  obtain ⟨z, hz⟩ : ∃ z : Int, z = q + ((n * 3 : Nat) : Int) := ⟨_, rfl⟩
  have H := Lib.hid (heldClueS_any A n c q _ (hA.alloc (.cells #[.int .i64 s, .slice A n c] 35)) h0 h1 hn)
  rw [← hz] at H hq0 ⊢
  clear hA hz
  go_enter Try.func47, Try.ntmps47
  go_wp2_with fail
  refine H.out.mono ?_
  rintro e w1 ⟨rfl, rfl⟩
  go_wp2
  go_ret
  exact ⟨rfl, below1 w _⟩
end Go.Proofs.Ytcoagbcleccmmaa

namespace Go.Proofs.Ytcoagbcleccmmaa
open Go.RowKit

set_option maxHeartbeats 800000 in
set_option linter.unusedVariables false in
theorem lawLeftByClues_big0 (k0 : Int) (A0 : Option Addr) (n0 c0 : Nat) (x0 : List Cl) (w : World) (h0 : Holds w A0 (clsC x0)) (hx0 : x0.length = n0) (hn0 : n0 ≤ 9223372036854775807)  (hbig : 1048576 - (n0 : Int) < 0) :
    Calls Try.prog 14 #[.agg #[.int .i64 k0, .slice A0 n0 c0]] w fun e w' => e = .returned (.bool true) ∧ Below w.heap.size w w' := by
  have hb0 := (Whole.fresh w 30 #[.int .i64 k0, .slice A0 n0 c0])
  have ht := below1 w (.cells #[.int .i64 k0, .slice A0 n0 c0] 30)
  have HX0 := Lib.hid hx0
  clear hx0
  obtain ⟨hb0_0, hb0_1⟩ := hb0.cells2
  have hb0_l := hb0.lt
  go_enter Try.func14, Try.ntmps14
  go_wp2_with fail
  refine (szPuzzle_any k0 A0 n0 c0 (1048576) _ (by omega) (by omega) (by omega)).mono ?_
  rintro e v1 ⟨rfl, hb⟩
  rw [if_pos (by omega)]
  have hz1 : w.heap.size + 1 ≤ v1.heap.size := by have := hb.size; simpa using this
  replace ht := below_then ht hb ht.size
  replace hb0 := hb0.below hb
  clear hb
  clear hb0_0 hb0_1 hb0_l
  go_wp2
  go_ret
  exact ⟨rfl, ht⟩

set_option maxHeartbeats 12800000 in
set_option maxRecDepth 100000 in
set_option linter.unusedSimpArgs false in
set_option linter.unusedVariables false in
theorem lawLeftByClues_small (k0 : Int) (A0 : Option Addr) (n0 c0 : Nat) (x0 : List Cl) (w : World) (h0 : Holds w A0 (clsC x0)) (hx0 : x0.length = n0) (hn0 : n0 ≤ 9223372036854775807) (g0 : 0 ≤ 1048576 - (n0 : Int)) :
    Calls Try.prog 14 #[.agg #[.int .i64 k0, .slice A0 n0 c0]] w fun e w' => e = .returned (.bool true) ∧ Below w.heap.size w w' := by
  have hb0 := (Whole.fresh w 30 #[.int .i64 k0, .slice A0 n0 c0])
  have ht := below1 w (.cells #[.int .i64 k0, .slice A0 n0 c0] 30)
  have HX0 := Lib.hid hx0
  clear hx0
  have hlen : ((leftByI k0 x0)).length ≤ 1048576 := leftByI_le _ _
  obtain ⟨hb0_0, hb0_1⟩ := hb0.cells2
  have hb0_l := hb0.lt
  go_enter Try.func14, Try.ntmps14
  -- region 2
  go_wp2_with fail
  refine (szPuzzle_any k0 A0 n0 c0 (1048576) _ (by omega) (by omega) (by omega)).mono ?_
  rintro e v1 ⟨rfl, hb⟩
  rw [if_neg (by omega)]
  have hz1 : w.heap.size + 1 ≤ v1.heap.size := by have := hb.size; simpa using this
  replace ht := below_then ht hb ht.size
  replace hb0 := hb0.below hb
  clear hb
  clear hb0_0 hb0_1 hb0_l
  obtain ⟨hb0_0, hb0_1⟩ := hb0.cells2
  have hb0_l := hb0.lt
  -- region 5
  go_wp2_with fail
  refine (toPuzzle_own k0 A0 n0 c0 x0 _ (by exact h0.below ht) HX0.out (by omega)).mono ?_
  rintro e v2 ⟨gp0, rfl, hgp0, hwp0, hb⟩
  have hz2 : v1.heap.size ≤ v2.heap.size := by have := hb.size; simpa using this
  replace ht := below_then ht hb ht.size
  replace hb0 := hb0.below hb
  have hp0 := Fresh.of_whole (lo := v1.heap.size) (hi := v2.heap.size) hwp0 (by simpa using hgp0) hwp0.lt
  clear hgp0 hwp0
  clear hb
  clear hb0_0 hb0_1 hb0_l
  obtain ⟨hb0_0, hb0_1⟩ := hb0.cells2
  have hb0_l := hb0.lt
  go_wp2_with fail
  refine (specLeftByClues_any k0 _ _ n0 _ x0 _ (by exact hp0.holds) HX0.out (by omega) (Nat.le_refl _)).mono ?_
  rintro e v3 ⟨B0, q0, rfl, hF0, hb⟩
  have hz3 : v2.heap.size ≤ v3.heap.size := by have := hb.size; simpa using this
  replace ht := below_then ht hb ht.size
  replace hb0 := hb0.below hb
  replace hp0 := hp0.below hb
  replace hF0 := hF0.more (lo' := v2.heap.size) (hi' := v3.heap.size) (by simp) (Nat.le_refl _)
  clear hb
  clear hp0
  clear hb0_0 hb0_1 hb0_l
  obtain ⟨hb0_0, hb0_1⟩ := hb0.cells2
  have hb0_l := hb0.lt
  -- region 6
  go_wp2_with fail
  refine (toPuzzle_own k0 A0 n0 c0 x0 _ (by exact h0.below ht) HX0.out (by omega)).mono ?_
  rintro e v4 ⟨gx0, rfl, hgx0, hwx0, hb⟩
  have hz4 : v3.heap.size ≤ v4.heap.size := by have := hb.size; simpa using this
  replace ht := below_then ht hb ht.size
  replace hb0 := hb0.below hb
  replace hF0 := hF0.below hb
  have hx0 := Fresh.of_whole (lo := v3.heap.size) (hi := v4.heap.size) hwx0 (by simpa using hgx0) hwx0.lt
  clear hgx0 hwx0
  clear hb
  have hx90 := Whole.fresh v4 35 #[.int .i64 k0, .slice (some ⟨gx0, 0, none⟩) n0 n0]
  replace ht := ht.alloc ht.size (.cells #[.int .i64 k0, .slice (some ⟨gx0, 0, none⟩) n0 n0] 35)
  replace hb0 := hb0.alloc (.cells #[.int .i64 k0, .slice (some ⟨gx0, 0, none⟩) n0 n0] 35)
  replace hF0 := hF0.alloc (.cells #[.int .i64 k0, .slice (some ⟨gx0, 0, none⟩) n0 n0] 35)
  replace hx0 := hx0.alloc (.cells #[.int .i64 k0, .slice (some ⟨gx0, 0, none⟩) n0 n0] 35)
  clear hb0_0 hb0_1 hb0_l
  obtain ⟨hb0_0, hb0_1⟩ := hb0.cells2
  have hb0_l := hb0.lt
  obtain ⟨hx90_0, hx90_1⟩ := hx90.cells2
  have hx90_l := hx90.lt
  -- region 7
  go_wp2_with fail
  refine (implLeftByClues_any k0 _ _ n0 _ x0 _ (by exact hx0.holds) HX0.out (by omega) (Nat.le_refl _)).mono ?_
  rintro e v5 ⟨B1, q1, rfl, hF1, hb⟩
  have hz5 : v4.heap.size + 1 ≤ v5.heap.size := by have := hb.size; simpa using this
  replace ht := below_then ht hb ht.size
  replace hb0 := hb0.below hb
  replace hF0 := hF0.below hb
  replace hx0 := hx0.below hb
  replace hx90 := hx90.below hb
  replace hF1 := hF1.more (lo' := v4.heap.size + 1) (hi' := v5.heap.size) (by simp) (Nat.le_refl _)
  clear hb
  clear hb0_0 hb0_1 hb0_l hx90_0 hx90_1 hx90_l
  obtain ⟨hb0_0, hb0_1⟩ := hb0.cells2
  have hb0_l := hb0.lt
  obtain ⟨hx90_0, hx90_1⟩ := hx90.cells2
  have hx90_l := hx90.lt
  -- region 8
  go_wp2_with fail
  refine (eqIntS_yes B1 B0 ((leftByI k0 x0)).length q1 q0 ((leftByI k0 x0)) _ (by exact hF1.holds) (by exact hF0.holds) rfl (by omega)).mono ?_
  rintro e v6 ⟨rfl, hb⟩
  have hz6 : v5.heap.size ≤ v6.heap.size := by have := hb.size; simpa using this
  replace ht := below_then ht hb ht.size
  replace hb0 := hb0.below hb
  replace hF0 := hF0.below hb
  replace hx0 := hx0.below hb
  replace hx90 := hx90.below hb
  replace hF1 := hF1.below hb
  clear hb
  clear hb0_0 hb0_1 hb0_l hx90_0 hx90_1 hx90_l
  obtain ⟨hb0_0, hb0_1⟩ := hb0.cells2
  have hb0_l := hb0.lt
  obtain ⟨hx90_0, hx90_1⟩ := hx90.cells2
  have hx90_l := hx90.lt
  -- region 10
  clear hb0_0 hb0_1 hb0_l hx90_0 hx90_1 hx90_l
  go_wp2_with fail
  refine wp_region_held_drew (S := (fun w' => w'.cell? ⟨w.heap.size, 0, none⟩ = some (.int .i64 k0) ∧ w'.cell? ⟨w.heap.size, 1, none⟩ = some (.slice A0 n0 c0) ∧ w'.cell? ⟨v4.heap.size, 0, none⟩ = some (.int .i64 k0) ∧ w'.cell? ⟨v4.heap.size, 1, none⟩ = some (.slice (some ⟨gx0, 0, none⟩) n0 n0))) (by kernel_rfl) ⟨hb0.drew.cell 0, hb0.drew.cell 1, hx90.drew.cell 0, hx90.drew.cell 1⟩ (fun hHeld => ?_)
  replace ht := ht.drew
  replace hb0 := hb0.drew
  replace hF0 := hF0.drew
  replace hx0 := hx0.drew
  replace hx90 := hx90.drew
  replace hF1 := hF1.drew
  refine wpAnyH_take (i := 0) (v := ?_) rfl (by kernel_rfl) (by kernel_rfl) (by kernel_rfl) (fun _ _ _ h => h) (Or.inl ⟨rfl, ?_⟩) hHeld ?_
  rotate_left
  · intro w' hS; obtain ⟨s0, s1, s2, s3⟩ := hS; go_simp <;> with_reducible rfl
  simp only [Act.put, List.getElem_toArray, List.getElem_cons_succ, List.getElem_cons_zero, List.setIfInBounds_toArray, List.set_cons_succ, List.set_cons_zero]
  refine wpAnyH_take (i := 1) (v := ?_) rfl (by kernel_rfl) (by kernel_rfl) (by kernel_rfl) (fun _ _ _ h => h) (Or.inl ⟨rfl, ?_⟩) hHeld ?_
  rotate_left
  · intro w' hS; obtain ⟨s0, s1, s2, s3⟩ := hS; go_simp <;> with_reducible rfl
  simp only [Act.put, List.getElem_toArray, List.getElem_cons_succ, List.getElem_cons_zero, List.setIfInBounds_toArray, List.set_cons_succ, List.set_cons_zero]
  refine wpAnyH_ready (rs := [2]) (by kernel_rfl) (by simp) (AllReadyH.cons rfl (fun K hK => ?_) AllReadyH.nil)
  go_simp
  refine (toPuzzle_own k0 A0 n0 c0 x0 _ (by exact h0.below ht) HX0.out (by omega)).mono ?_
  rintro e v7 ⟨gy0, rfl, hgy0, hwy0, hb⟩
  have hz7 : v6.heap.size ≤ v7.heap.size := by have := hb.size; simpa using this
  replace ht := below_then ht hb ht.size
  replace hb0 := hb0.below hb
  replace hF0 := hF0.below hb
  replace hx0 := hx0.below hb
  replace hx90 := hx90.below hb
  replace hF1 := hF1.below hb
  have hy0 := Fresh.of_whole (lo := v6.heap.size) (hi := v7.heap.size) hwy0 (by simpa using hgy0) hwy0.lt
  clear hgy0 hwy0
  clear hb
  refine hK.out _ _ ⟨hb0.cell 0, hb0.cell 1, hx90.cell 0, hx90.cell 1⟩ (fun hHeld => ?_)
  clear hK K
  try simp only [Act.put, List.getElem_toArray, List.getElem_cons_succ, List.getElem_cons_zero, List.setIfInBounds_toArray, List.set_cons_succ, List.set_cons_zero]
  refine wpAnyH_ready (rs := [3]) (by kernel_rfl) (by simp) (AllReadyH.cons rfl (fun K hK => ?_) AllReadyH.nil)
  go_simp
  refine (eqPuzzle_yes _ _ n0 _ _ x0 k0 _ (by exact hx0.holds) (by exact hy0.holds) HX0.out (by omega)).mono ?_
  rintro e v8 ⟨rfl, hb⟩
  have hz8 : v7.heap.size ≤ v8.heap.size := by have := hb.size; simpa using this
  replace ht := below_then ht hb ht.size
  replace hb0 := hb0.below hb
  replace hF0 := hF0.below hb
  replace hx0 := hx0.below hb
  replace hx90 := hx90.below hb
  replace hF1 := hF1.below hb
  replace hy0 := hy0.below hb
  clear hb
  clear hy0
  refine hK.out _ _ ⟨hb0.cell 0, hb0.cell 1, hx90.cell 0, hx90.cell 1⟩ (fun hHeld => ?_)
  clear hK K
  try simp only [Act.put, List.getElem_toArray, List.getElem_cons_succ, List.getElem_cons_zero, List.setIfInBounds_toArray, List.set_cons_succ, List.set_cons_zero]
  refine wpAnyH_take (i := 4) (v := ?_) rfl (by kernel_rfl) (by kernel_rfl) (by kernel_rfl) (fun _ _ _ h => h) (Or.inl ⟨rfl, ?_⟩) hHeld ?_
  rotate_left
  · intro w' hS; obtain ⟨s0, s1, s2, s3⟩ := hS; go_simp <;> with_reducible rfl
  simp only [Act.put, List.getElem_toArray, List.getElem_cons_succ, List.getElem_cons_zero, List.setIfInBounds_toArray, List.set_cons_succ, List.set_cons_zero]
  refine wpAnyH_done (by kernel_rfl) ?_ _
  clear hHeld
  obtain ⟨hb0_0, hb0_1⟩ := hb0.cells2
  have hb0_l := hb0.lt
  obtain ⟨hx90_0, hx90_1⟩ := hx90.cells2
  have hx90_l := hx90.lt
  -- region 13
  go_wp2_with fail
  refine (markPuzzle_any k0 (some ⟨gx0, 0, none⟩) n0 n0 _ _ x0 (1) _ hx0 HX0.out (by omega) (by omega) (by omega)).mono ?_
  rintro e v9 ⟨rfl, hs, -⟩
  have hsz := ht.size
  replace ht := hs.below ht (by omega) hsz
  replace hb0 := hs.whole hb0 (by omega)
  replace hF0 := hs.fresh hF0 (by omega)
  replace hF1 := hs.fresh hF1 (by omega)
  clear hs hsz hx0 hx90
  have hk_1 : (0 : Int) ≤ 1 + ((n0 * 3 : Nat) : Int) := by omega
  clear hb0_0 hb0_1 hb0_l hx90_0 hx90_1 hx90_l
  obtain ⟨hb0_0, hb0_1⟩ := hb0.cells2
  have hb0_l := hb0.lt
  -- region 14
  go_wp2_with fail
  refine (eqIntS_yes B1 B0 ((leftByI k0 x0)).length q1 q0 ((leftByI k0 x0)) _ (by exact hF1.holds) (by exact hF0.holds) rfl (by omega)).mono ?_
  rintro e v10 ⟨rfl, hb⟩
  have hz10 : v9.heap.size ≤ v10.heap.size := by have := hb.size; simpa using this
  replace ht := below_then ht hb ht.size
  replace hb0 := hb0.below hb
  replace hF0 := hF0.below hb
  replace hF1 := hF1.below hb
  clear hb
  clear hb0_0 hb0_1 hb0_l
  obtain ⟨hb0_0, hb0_1⟩ := hb0.cells2
  have hb0_l := hb0.lt
  -- region 17
  go_wp2_with fail
  refine (markIntS_any B1 ((leftByI k0 x0)).length q1 _ _ _ 1 _ hF1 (by rw [nums_len]) (by omega) (by omega) hlen).mono ?_
  rintro e v11 ⟨rfl, hs, hM⟩
  have hsz := ht.size
  replace ht := hs.below ht (by omega) hsz
  replace hb0 := hs.whole hb0 (by omega)
  replace hF0 := hs.fresh hF0 (by omega)
  clear hs hF1 hsz
  clear hb0_0 hb0_1 hb0_l
  obtain ⟨hb0_0, hb0_1⟩ := hb0.cells2
  have hb0_l := hb0.lt
  -- region 19
  go_wp2_with fail
  refine (heldIntS_any B1 ((leftByI k0 x0)).length q1 1 _ (by exact hM.holds) (by omega) (by omega) hlen).mono ?_
  rintro e v12 ⟨rfl, rfl⟩
  have hm0 : (0 : Int) ≤ 1 + (((leftByI k0 x0)).length : Int) := by omega
  clear hb0_0 hb0_1 hb0_l
  obtain ⟨hb0_0, hb0_1⟩ := hb0.cells2
  have hb0_l := hb0.lt
  -- region 24
  go_wp2_with fail
  refine (toPuzzle_own k0 A0 n0 c0 x0 _ (by exact h0.below ht) HX0.out (by omega)).mono ?_
  rintro e v12 ⟨gr0, rfl, hgr0, hwr0, hb⟩
  have hz12 : v11.heap.size ≤ v12.heap.size := by have := hb.size; simpa using this
  replace ht := below_then ht hb ht.size
  replace hb0 := hb0.below hb
  replace hF0 := hF0.below hb
  replace hM := hM.below hb
  have hr0 := Fresh.of_whole (lo := v11.heap.size) (hi := v12.heap.size) hwr0 (by simpa using hgr0) hwr0.lt
  clear hgr0 hwr0
  clear hb
  clear hb0_0 hb0_1 hb0_l
  obtain ⟨hb0_0, hb0_1⟩ := hb0.cells2
  have hb0_l := hb0.lt
  go_wp2_with fail
  refine (implLeftByClues_any k0 _ _ n0 _ x0 _ (by exact hr0.holds) HX0.out (by omega) (Nat.le_refl _)).mono ?_
  rintro e v13 ⟨B2, q2, rfl, hF2, hb⟩
  have hz13 : v12.heap.size ≤ v13.heap.size := by have := hb.size; simpa using this
  replace ht := below_then ht hb ht.size
  replace hb0 := hb0.below hb
  replace hF0 := hF0.below hb
  replace hM := hM.below hb
  replace hr0 := hr0.below hb
  replace hF2 := hF2.more (lo' := v12.heap.size) (hi' := v13.heap.size) (by simp) (Nat.le_refl _)
  clear hb
  clear hr0
  clear hb0_0 hb0_1 hb0_l
  obtain ⟨hb0_0, hb0_1⟩ := hb0.cells2
  have hb0_l := hb0.lt
  -- region 25
  go_wp2_with fail
  refine (eqIntS_yes B2 B0 ((leftByI k0 x0)).length q2 q0 ((leftByI k0 x0)) _ (by exact hF2.holds) (by exact hF0.holds) rfl (by omega)).mono ?_
  rintro e v14 ⟨rfl, hb⟩
  have hz14 : v13.heap.size ≤ v14.heap.size := by have := hb.size; simpa using this
  replace ht := below_then ht hb ht.size
  replace hb0 := hb0.below hb
  replace hF0 := hF0.below hb
  replace hM := hM.below hb
  replace hF2 := hF2.below hb
  clear hb
  clear hb0_0 hb0_1 hb0_l
  obtain ⟨hb0_0, hb0_1⟩ := hb0.cells2
  have hb0_l := hb0.lt
  -- region 28
  go_wp2_with fail
  refine (heldIntS_any B1 ((leftByI k0 x0)).length q1 1 _ (by exact hM.holds) (by omega) (by omega) hlen).mono ?_
  rintro e v15 ⟨rfl, rfl⟩
  clear hb0_0 hb0_1 hb0_l
  obtain ⟨hb0_0, hb0_1⟩ := hb0.cells2
  have hb0_l := hb0.lt
  go_wp2
  go_ret
  exact ⟨rfl, ht⟩

theorem lawLeftByClues_all (k0 : Int) (A0 : Option Addr) (n0 c0 : Nat) (x0 : List Cl) (w : World) (h0 : Holds w A0 (clsC x0)) (hx0 : x0.length = n0) (hn0 : n0 ≤ 9223372036854775807) :
    Calls Try.prog 14 #[.agg #[.int .i64 k0, .slice A0 n0 c0]] w fun e w' => e = .returned (.bool true) ∧ Below w.heap.size w w' := by
  rcases (inferInstance : Decidable (0 ≤ 1048576 - (n0 : Int))) with g0 | g0
  · exact lawLeftByClues_big0 k0 A0 n0 c0 x0 w h0 hx0 hn0  (by omega)
  exact lawLeftByClues_small k0 A0 n0 c0 x0 w h0 hx0 hn0 g0
end Go.Proofs.Ytcoagbcleccmmaa
