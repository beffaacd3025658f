/-
  What is proved: contracts of a puzzle's clues without one, of the model. Conditions: the clues are read as they lie.
  What is proved: contracts of slices.Grow at the nil list and of slices.Concat at lists of clues. Conditions: at most 1,048,576 clues; the lists are read as they lie.
  What is proved: the contract of the program's DropClue. Conditions: the clues are read as they lie.
  What is proved: contracts of the laws' own marks of clues and puzzles. Conditions: what is marked is a row of the call's own; counts are small.
  What is proved: contracts of NeedlessClues, of the model and of the program. Conditions: the clues are read as they lie.
  What is proved: the law FnExactNeedlessClues returns true at every argument, and leaves all that was there as it was. Conditions: the arguments are read as they lie.
-/
import Derived.Deep.RegionLawGrows
import Derived.Lib.AppendZeros
import Derived.Deep.RegionHeld3
import Derived.Test.YtgojakcepbdajaaJ5BestClue
set_option linter.unusedSimpArgs false
set_option linter.unusedVariables false
namespace Go.Proofs.Ytgojakcepbdajaa
open Go.RowKit

/-- The clues without one. -/
def woC (cs : List Cl) (k : Nat) : List Cl := cs.take k ++ cs.drop (k + 1)
theorem woC_len {cs : List Cl} {k : Nat} (hk : k < cs.length) : (woC cs k).length = cs.length - 1 := by
  simp only [woC, List.length_append, List.length_take, List.length_drop]
  omega
theorem all_wo {p : Int} {cs : List Cl} (h : cs.all (clOk p) = true) (k : Nat) : (woC cs k).all (clOk p) = true :=
  List.all_eq_true.2 fun x hx => List.all_eq_true.1 h x ((List.mem_append.1 hx).elim List.mem_of_mem_take List.mem_of_mem_drop)
theorem pzOk_wo {p : Int} {cs : List Cl} (h : pzOk p cs = true) {k : Nat} (hk : k < cs.length) : pzOk p (woC cs k) = true := by
  obtain ⟨h1, h4, h6, ha⟩ := pzOk_parts h
  simp only [pzOk, Bool.and_eq_true, within_iff, decide_eq_true_eq]
  exact ⟨⟨h1, h4⟩, by rw [woC_len hk]; omega, all_wo ha k⟩
theorem own_shapeC {w : World} {base size : Nat} {e : TypeId} {v : Value} {n : Nat} {xs : List Value} (h : w.ownsRow base e size v n xs) : ∃ (A : Option Addr) (c : Nat), v = .slice A n c := by
  obtain ⟨-, ⟨rfl, rfl⟩ | ⟨g, cap, cur, rfl, -⟩⟩ := h
  · exact ⟨_, _, rfl⟩
  · exact ⟨_, _, rfl⟩
/-- A list of clues of the call's own. -/
def CluesPost (l : List Cl) (w : World) (e : Ending) (w' : World) : Prop :=
  ∃ (A : Option Addr) (q : Nat), e = .returned (.slice A l.length q) ∧ w'.ownsRow w.heap.size 69 3 (.slice A l.length q) l.length (clsC l) ∧ Below w.heap.size w w'
theorem cls_parts {w : World} {b o n c k : Nat} {cs : List Cl} (h : Holds w (some ⟨b, o, none⟩) (clsC cs)) (hx : cs.length = n) (hk : k < n) (hc : n ≤ c) :
    Hid (∀ j u, (clsC (cs.take k))[j]? = some u → w.cell? ⟨b, o + j, none⟩ = some u) ∧ ∃ d, (if c = k + 1 then (some ⟨b, o, none⟩ : Option Addr) else some ⟨b, o + (k + 1) * 3, none⟩) = some ⟨b, d, none⟩ ∧ Hid (∀ j u, (clsC (cs.drop (k + 1)))[j]? = some u → w.cell? ⟨b, d + j, none⟩ = some u) := by
  rcases h with h | ⟨b', o', hA, hb, hcell⟩
  · have := clsC_len cs
    rw [h] at this
    simp at this
    omega
  · cases hA
    have hs : clsC cs = clsC (cs.take (k + 1)) ++ clsC (cs.drop (k + 1)) := by rw [← clsC_app, List.take_append_drop]
    have hs2 : clsC cs = clsC (cs.take k) ++ clsC (cs.drop k) := by rw [← clsC_app, List.take_append_drop]
    refine ⟨fun j u hu => hcell j u ?_, ?_⟩
    · rw [hs2, List.getElem?_append_left (List.getElem?_eq_some_iff.1 hu).1]
      exact hu
    · by_cases hck : c = k + 1
      · refine ⟨o, by simp [hck], fun j u hu => ?_⟩
        have h0 : cs.drop (k + 1) = [] := List.drop_eq_nil_of_le (by omega)
        rw [h0] at hu
        simp [clsC] at hu
      · refine ⟨o + (k + 1) * 3, by simp [hck], fun j u hu => ?_⟩
        have hl : (clsC (cs.take (k + 1))).length = (k + 1) * 3 := by rw [clsC_len, List.length_take]; congr 1; omega
        have := hcell ((k + 1) * 3 + j) u (by
          rw [hs, List.getElem?_append_right (by omega), hl, show (k + 1) * 3 + j - (k + 1) * 3 = j by omega]
          exact hu)
        rw [show o + (k + 1) * 3 + j = o + ((k + 1) * 3 + j) by omega]
        exact this

set_option maxHeartbeats 1600000 in
set_option maxRecDepth 100000 in
theorem pzWithout_any (b o n c k : Nat) (cs : List Cl) (w : World) (hA : Holds w (some ⟨b, o, none⟩) (clsC cs)) (hb : b < w.heap.size) (hx : cs.length = n) (hn : n ≤ 1048576) (hc : n ≤ c) (hcc : c ≤ 1048576) (hk : k < n) :
    Calls Try.prog 44 #[.slice (some ⟨b, o, none⟩) n c, .int .i64 (k : Int)] w (CluesPost (woC cs k) w) := by
  obtain ⟨i0, hi, hz0, hz1, hz2⟩ := info_parts info_clue
  have HI := Lib.hid hi
  have HZ0 := Lib.hid hz0
  have HZ1 := Lib.hid hz1
  have HZ2 := Lib.hid hz2
  obtain ⟨HHD, d, hd, HTL⟩ := cls_parts hA hx hk hc
  have hk0 : (0 : Int) ≤ k := by omega
  have hkc : (k : Int) ≤ c := by omega
  have hkc2 : k ≤ c := by omega
  have hp0 : (0 : Int) ≤ (k : Int) + 1 := by omega
  have hp1 : (k : Int) + 1 ≤ (n : Int) := by omega
  have hp2 : ((k : Int) + 1).toNat = k + 1 := by omega
  have hp3 : k + 1 ≤ n := by omega
  have HBB := Lib.hid hb
  have HLH : Hid ((clsC (cs.take k)).length = k * 3) := by show _ = _; rw [clsC_len, List.length_take]; congr 1; omega
  have HLT : Hid ((clsC (cs.drop (k + 1))).length = (n - (k + 1)) * 3) := by show _ = _; rw [clsC_len, List.length_drop, hx]
  have HWL : Hid ((woC cs k).length = k + (n - (k + 1))) := by show _ = _; rw [woC_len (by omega)]; omega
  have HM1 := Lib.hid (show 0 + k ≤ maxLen by unfold maxLen; omega)
  have HM2 := Lib.hid (show k + (n - (k + 1)) ≤ maxLen by unfold maxLen; omega)
  have HY1 := Lib.hid (show (0 + k) * 24 ≤ 140737488355328 by omega)
  have HY2 := Lib.hid (show (k + (n - (k + 1))) * 24 ≤ 140737488355328 by omega)
  have HB0 := Lib.hid ((below1 w (.cells #[] 69)))
  have HO0 : Hid ((w.alloc (.cells #[] 69)).ownsRow w.heap.size 69 3 (.slice (some ⟨w.heap.size, 0, none⟩) 0 0) 0 []) :=
    ⟨rfl, .inr ⟨w.heap.size, 0, #[], rfl, Nat.le_refl _, Whole.fresh w 69 #[], Nat.le_refl _, Nat.zero_le _, rfl, rfl⟩⟩
  have HON1 := Lib.hid (clsC_one (cs.take k))
  have HON2 := Lib.hid (clsC_one (cs.drop (k + 1)))
  have HN1 : Hid (∀ j u, (clsC (cs.take k))[j]? = some u → (w.alloc (.cells #[] 69)).cell? ((⟨b, o, none⟩ : Addr).add j) = some u) := fun j u hu => by rw [Addr.add_lit]; exact (HB0.out.cell (p := ⟨b, o + j, none⟩) HBB.out).trans (HHD.out j u hu)
  have hwr : IntKind.i64.wrap ((k : Int) + 1) = (k : Int) + 1 := IntWalk.i64_in _ (by omega)
  clear hi hz0 hz1 hz2 hA hx hb
  go_enter Try.func44, Try.ntmps44
  go_wp2_with fail
  go_region_law (first | (refine step_append_mine rfl (.tmp 5) (.tmp 8) 35 rfl w.heap.size 69 i0 (.agg #[.int .i64 0, .int .i64 0, .int .i64 0]) 3 24 Try.underlying35 HI.out HZ0.out HZ1.out HZ2.out rfl (by decide) (.slice (some ⟨w.heap.size, 0, none⟩) 0 0) 0 [] (by simp [Act.eval]) (by exact HO0.out) ⟨b, o, none⟩ k c (clsC (cs.take k)) (by simp [Act.eval]) HLH.out (by exact HN1.out) HON1.out HM1.out HY1.out (by simp) ?_; intro v1 w1 hown1 hg1; simp only [Nat.zero_add, List.nil_append] at hown1; obtain ⟨A1, q1, rfl⟩ := own_shapeC hown1; have hb1 := HB0.out.drew.grown hg1 (by simp) (fun kk e => by simp [Value.ownBlock] at e; omega); have HB1 := Lib.hid hb1; have HN2 : Hid (∀ j u, (clsC (cs.drop (k + 1)))[j]? = some u → w1.cell? ((⟨b, d, none⟩ : Addr).add j) = some u) := (fun j u hu => (by rw [Addr.add_lit]; exact (HB1.out.cell (p := ⟨b, d + j, none⟩) HBB.out).trans (HTL.out j u hu))); have HO1 := Lib.hid hown1; have HZ9 := Lib.hid hb1.size; clear hown1 hg1 hb1) | (refine step_append_mine rfl (.tmp 9) (.tmp 13) 35 rfl w.heap.size 69 i0 (.agg #[.int .i64 0, .int .i64 0, .int .i64 0]) 3 24 Try.underlying35 HI.out HZ0.out HZ1.out HZ2.out rfl (by decide) (.slice A1 k q1) k (clsC (cs.take k)) (by simp [Act.eval]) HO1.out ⟨b, d, none⟩ (n - (k + 1)) (c - (k + 1)) (clsC (cs.drop (k + 1))) (by simp [Act.eval, hd]) HLT.out HN2.out HON2.out HM2.out HY2.out HZ9.out ?_; intro v2 w2 hown2 hg2; obtain ⟨A2, q2, rfl⟩ := own_shapeC hown2))
  go_wp2
  go_ret
  exact ⟨A2, q2, by rw [HWL.out]; rfl, by rw [HWL.out, woC, clsC_app]; exact hown2, HB1.out.grown hg2 HZ9.out (fun kk e => (HO1.out.lt kk e).1)⟩
end Go.Proofs.Ytgojakcepbdajaa

namespace Go.Proofs.Ytgojakcepbdajaa
open Go.RowKit

set_option maxHeartbeats 1600000 in
set_option maxRecDepth 100000 in
theorem growNilK_any (n : Nat) (w : World) (h0 : 0 < n) (hn : n ≤ 1048576) :
    Calls Try.prog 89 #[.slice none 0 0, .int .i64 n] w (CluesPost [] w) := by
  obtain ⟨i0, hi, hz0, hz1, hz2⟩ := info_parts info_clue
  have hrun := fun W : World => Lib.run_append_nil_zeros (P := Try.prog) W 35 3 35 69 i0 (.agg #[.int .i64 0, .int .i64 0, .int .i64 0]) .i64 .i64 Try.underlying35 Try.underlying3 hi hz0 n h0 (by omega) (by omega) (by rw [hz2]; omega)
  have HR := Lib.hid hrun
  have hg0 : n ≤ grownCap w n 0 69 := grownCap_ge w n 0 _
  have hg1 : grownCap w n 0 69 ≤ maxLen := grownCap_le_maxLen w n 0 _ (by unfold maxLen; omega)
  have hg2 : (grownCap w n 0 69 : Int) ≤ 9223372036854775807 := by unfold maxLen at hg1; omega
  have hn0 : (0 : Int) < n := by omega
  have hn1 : ¬ (n : Int) < 0 := by omega
  have HG := Lib.hid hg1
  clear hi hz0 hz1 hz2 hrun hg1
  go_enter Try.func89, Try.ntmps89
  go_wp2_with (at_builtin; refine Lib.wpList_append_run _ rfl (.tmp 20) (.tmp 21) 35 3 rfl (.slice none 0 0) (.int .i64 n) rfl rfl _ _ (HR.out _) ?_)
  go_ret
  have hsz : (Builtin.zeroCells #[Value.int .i64 0, Value.int .i64 0, Value.int .i64 0] n ++ Builtin.zeroCells #[Value.int .i64 0, Value.int .i64 0, Value.int .i64 0] (grownCap w n 0 69 - n)).size = grownCap w n 0 69 * 3 := by
    rw [Array.size_append, size_zeroCells, size_zeroCells]
    simp
    omega
  exact ⟨_, _, rfl, (World.ownsRow_made (base := w.heap.size) (e := 69) (size := 3) w _ _ (Nat.le_refl _) HG.out hsz).drew, (below1 w _).drew⟩
theorem growNilK_zero (w : World) :
    Calls Try.prog 89 #[.slice none 0 0, .int .i64 ((0 : Nat) : Int)] w (CluesPost [] w) := by
  go_enter Try.func89, Try.ntmps89
  go_wp2
  go_ret
  exact ⟨none, 0, rfl, World.ownsRow_nil _ _ _ _, Below.refl _ _⟩

/-- A list of clues as it lies. -/
structure RowK where
  b : Nat
  o : Nat
  n : Nat
  c : Nat
  xs : List Cl
def RowK.val (r : RowK) : Value := .slice (some ⟨r.b, r.o, none⟩) r.n r.c
def partK (rs : List RowK) (k : Nat) : Nat := ((rs.take k).map RowK.n).sum
def joinK (rs : List RowK) (k : Nat) : List Cl := (rs.take k).flatMap RowK.xs
theorem partK_next {rs : List RowK} {k : Nat} (hk : k < rs.length) : partK rs (k + 1) = partK rs k + rs[k].n := by
  rw [partK, partK, List.take_succ_eq_append_getElem hk, List.map_append, List.sum_append]
  simp
theorem joinK_next {rs : List RowK} {k : Nat} (hk : k < rs.length) : joinK rs (k + 1) = joinK rs k ++ rs[k].xs := by
  rw [joinK, joinK, List.take_succ_eq_append_getElem hk, List.flatMap_append]
  simp
/-- The lists lie there, and so do their heads. -/
def GridK (w : World) (g : Nat) (rs : List RowK) : Prop :=
  g < w.heap.size ∧ (∀ k (h : k < rs.length), w.cell? ⟨g, k, none⟩ = some (rs[k]).val) ∧ ∀ k (h : k < rs.length), (rs[k]).b < w.heap.size ∧ (rs[k]).xs.length = (rs[k]).n ∧ ∀ j u, (clsC (rs[k]).xs)[j]? = some u → w.cell? ⟨(rs[k]).b, (rs[k]).o + j, none⟩ = some u
theorem GridK.below {w w' : World} {g : Nat} {rs : List RowK} (h : GridK w g rs) (hb : Below w.heap.size w w') : GridK w' g rs := by
  obtain ⟨h1, h2, h3⟩ := h
  refine ⟨Nat.lt_of_lt_of_le h1 hb.size, fun k hk => (hb.cell (p := ⟨g, k, none⟩) h1).trans (h2 k hk), fun k hk => ?_⟩
  obtain ⟨k1, k2, k3⟩ := h3 k hk
  exact ⟨Nat.lt_of_lt_of_le k1 hb.size, k2, fun j u hu => (hb.cell (p := ⟨(rs[k]).b, (rs[k]).o + j, none⟩) k1).trans (k3 j u hu)⟩
theorem joinK_len {w : World} {g : Nat} {rs : List RowK} (h : GridK w g rs) : ∀ {k : Nat}, k ≤ rs.length → (joinK rs k).length = partK rs k
  | 0, _ => by simp [joinK, partK]
  | k + 1, hk => by
    have hkr : k < rs.length := by omega
    rw [joinK_next hkr, List.length_append, joinK_len h (by omega), partK_next hkr, (h.2.2 k hkr).2.1]

set_option maxHeartbeats 3200000 in
set_option maxRecDepth 100000 in
theorem concatK_any (g n c : Nat) (rs : List RowK) (w : World) (hA : GridK w g rs) (hx : rs.length = n) (hn : n ≤ 1048576) (hp2 : ∀ k, k ≤ n → partK rs k ≤ 1048576) :
    Calls Try.prog 73 #[.slice (some ⟨g, 0, none⟩) n c] w (CluesPost (joinK rs n) w) := by
  have HX := Lib.hid hx
  have HP := Lib.hid hp2
  have HG := Lib.hid hA
  obtain ⟨i0, hi, hz0, hz1, hz2⟩ := info_parts info_clue
  have HI := Lib.hid hi
  have HZ0 := Lib.hid hz0
  have HZ1 := Lib.hid hz1
  have HZ2 := Lib.hid hz2
  clear hx hi hz0 hz1 hz2 hp2 hA
  go_enter Try.func73, Try.ntmps73
  go_wp2
  go_loop [3, 11] (fun v i => ∃ k : Nat, k ≤ n ∧ i = .int .i64 k ∧ v = .int .i64 (partK rs k)) (fun _ i => n - (intOf i).toNat)
  case atStart => exact ⟨0, Nat.zero_le _, rfl, rfl⟩
  case round =>
    obtain ⟨k, hk, rfl, rfl⟩ := hrel
    by_cases hlt : k < n
    · have hkr : k < rs.length := by have := HX.out; omega
      have hc := HG.out.2.1 k hkr
      rw [RowK.val] at hc
      have hgl := HG.out.1
      have hpn := partK_next hkr
      have hpl := HP.out (k + 1) (by omega)
      have hs0 : (0 : Int) ≤ (partK rs k : Int) + rs[k].n := by omega
      have hs1 : (partK rs k : Int) + rs[k].n ≤ 1048576 := by omega
      have hs2 : ¬ (partK rs k : Int) + rs[k].n < 0 := by omega
      have HPN := Lib.hid hpn
      clear hpn
      go_wp2
      go_round
      case rel => exact ⟨k + 1, by omega, by go_num, by rw [HPN.out]; first | exact congrArg _ (by omega) | (simp; omega)⟩
      case measure => simp [intOf]; omega
    · obtain rfl : k = n := by omega
      have HGROW : Hid (Calls Try.prog 89 #[.slice none 0 0, .int .i64 ((partK rs k : Nat) : Int)] w (CluesPost [] w)) := by
        show Calls _ _ _ _ _
        have h := HP.out k (Nat.le_refl _)
        generalize partK rs k = z at h
        cases z with
        | zero => exact growNilK_zero w
        | succ z => exact growNilK_any (z + 1) w (by omega) h
      go_wp2_with fail
      refine HGROW.out.mono ?_
      rintro e w1 ⟨A1, c1, rfl, hown1, hb1⟩
      have HO1 := Lib.hid hown1
      have HB1 := Lib.hid hb1
      have hwz := hb1.size
      clear hown1 hb1
      go_wp2
      go_loopw [6, 27] (fun v i wr => ∃ (j : Nat) (E : Option Addr) (d : Nat), j ≤ k ∧ i = .int .i64 j ∧ v = .slice E (partK rs j) d ∧ wr.ownsRow w.heap.size 69 3 (.slice E (partK rs j) d) (partK rs j) (clsC (joinK rs j)) ∧ Below w.heap.size w wr) (fun _ i _ => k - (intOf i).toNat)
      case atStart => exact ⟨0, A1, c1, Nat.zero_le _, rfl, rfl, HO1.out, HB1.out⟩
      case round =>
        obtain ⟨j, E, d, hj, rfl, rfl, hown, hb⟩ := hrel
        clear HO1 HB1
        by_cases hjk : j < k
        · have hjr : j < rs.length := by have := HX.out; omega
          have hGb := HG.out.below hb
          have hc := hGb.2.1 j hjr
          have hgl := hGb.1
          obtain ⟨ok0, ok2, ok3⟩ := hGb.2.2 j hjr
          have hpn := partK_next hjr
          have hjn := joinK_next hjr
          have hpl := HP.out (j + 1) (by omega)
          generalize rs[j] = r at hc ok0 ok2 ok3 hpn hjn
          obtain ⟨b1, o1, n1, d1, x1⟩ := r
          rw [RowK.val] at hc
          dsimp only at hc hpn hjn ok0 ok2 ok3
          have HPN := Lib.hid hpn
          have HJN := Lib.hid hjn
          have HOWN := Lib.hid hown
          have HB := Lib.hid hb
          have hbs := hb.size
          have hn1 : partK rs j + n1 ≤ 1048576 := by omega
          have HNEWS : Hid (∀ i u, (clsC x1)[i]? = some u → wr.cell? ((⟨b1, o1, none⟩ : Addr).add i) = some u) := fun i u hu => by rw [Addr.add_lit]; exact ok3 i u hu
          have HLEN : Hid ((clsC x1).length = n1 * 3) := by show _ = _; rw [clsC_len, ok2]
          have HONE := Lib.hid (clsC_one x1)
          clear ok0 ok2 ok3 hpn hjn hown hb hGb
          go_wp2_with (at_builtin; refine wpList_append_own _ rfl (.tmp 31) (.tmp 32) 35 rfl w.heap.size 69 i0 (.agg #[.int .i64 0, .int .i64 0, .int .i64 0]) 3 24 Try.underlying35 HI.out HZ0.out HZ1.out HZ2.out rfl (by decide) (.slice E (partK rs j) d) (partK rs j) _ rfl HOWN.out ⟨b1, o1, none⟩ n1 d1 (clsC x1) rfl HLEN.out HNEWS.out HONE.out (by unfold maxLen; omega) (by omega) hbs ?_; intro v' w2 hown2 hg2 _)
          obtain ⟨E2, d2, rfl⟩ := own_shapeC hown2
          have HO2 := Lib.hid hown2
          have HE := Lib.hid (HB.out.grown hg2 hbs (fun kk hkk => (HOWN.out.lt kk hkk).1))
          clear hown2 hg2
          go_roundw
          case rel => exact ⟨j + 1, E2, d2, by omega, by go_num, by rw [HPN.out], by rw [HPN.out, HJN.out, clsC_app]; exact HO2.out, HE.out⟩
          case measure => simp [intOf]; omega
        · obtain rfl : j = k := by omega
          go_wp2
          go_ret
          have hl := joinK_len HG.out (k := j) (by have := HX.out; omega)
          exact ⟨E, d, by rw [hl]; rfl, by rw [hl]; exact hown, hb⟩
end Go.Proofs.Ytgojakcepbdajaa

namespace Go.Proofs.Ytgojakcepbdajaa
open Go.RowKit

theorem own_freshK {w : World} {lo n c : Nat} {ty : TypeId} {A : Option Addr} {xs : List Value} (h : w.ownsRow lo ty 3 (.slice A n c) n xs) : Fresh w lo w.heap.size ty A xs := by
  obtain ⟨hl, ⟨-, h0⟩ | ⟨g, cap, cur, hv, hg, hh, hnc, -, hcs, ht⟩⟩ := h
  · left
    apply List.eq_nil_of_length_eq_zero
    omega
  · cases hv
    refine .inr ⟨g, cur, rfl, hg, (Array.getElem?_eq_some_iff.1 hh).1, hh, ?_, ?_⟩
    · omega
    · rw [hl]; exact ht
/-- What a call hands back that makes a puzzle and tells whether it did. -/
def PuzPost (p : Int) (l : List Cl) (ok : Bool) (w : World) (e : Ending) (w' : World) : Prop :=
  ∃ (A : Option Addr) (q : Nat), e = .returned (.tuple #[.agg #[.int .i64 p, .slice A l.length q], .bool ok]) ∧ Fresh w' w.heap.size w'.heap.size 69 A (clsC l) ∧ Below w.heap.size w w'
def drOk (p : Int) (cs : List Cl) (k : Int) : Bool := pzOk p cs && within k 0 ((cs.length : Int) - 1)
def drP (p : Int) (cs : List Cl) (k : Int) : Int := if drOk p cs k then p else 0
def drL (p : Int) (cs : List Cl) (k : Int) : List Cl := if drOk p cs k then woC cs k.toNat else []
theorem dr_no {p : Int} {cs : List Cl} {k : Int} (h : drOk p cs k = false) : drP p cs k = 0 ∧ drL p cs k = [] := by simp [drP, drL, h]
theorem dr_yes {p : Int} {cs : List Cl} {k : Int} (h : drOk p cs k = true) : drP p cs k = p ∧ drL p cs k = woC cs k.toNat := by simp [drP, drL, h]
theorem drOk_iff {p : Int} {cs : List Cl} {k : Int} : drOk p cs k = true ↔ pzOk p cs = true ∧ 0 ≤ k ∧ k < cs.length := by
  simp only [drOk, Bool.and_eq_true, within_iff]
  constructor
  · rintro ⟨h1, h2, h3⟩; exact ⟨h1, h2, by omega⟩
  · rintro ⟨h1, h2, h3⟩; exact ⟨h1, h2, by omega⟩

set_option maxHeartbeats 1600000 in
set_option maxRecDepth 100000 in
theorem implDropK_no (p : Int) (A : Option Addr) (n c : Nat) (cs : List Cl) (k : Int) (w : World) (hA : Holds w A (clsC cs)) (hx : cs.length = n) (hn : n ≤ 1048576) (hno : drOk p cs k = false) :
    Calls Try.prog 46 #[.agg #[.int .i64 p, .slice A n c], .int .i64 k] w (PuzPost (drP p cs k) (drL p cs k) (drOk p cs k) w) := by
  have HX := Lib.hid hx
  have HS := Lib.hid hno
  have hA2 := (hA.alloc (.cells #[.int .i64 p, .slice A n c] 37)).alloc (.cells #[.int .i64 0, .slice none 0 0] 37)
  have h0 := (Whole.fresh w 37 #[.int .i64 p, .slice A n c]).alloc (.cells #[.int .i64 0, .slice none 0 0] 37)
  have h1 := Whole.fresh (w.alloc (.cells #[.int .i64 p, .slice A n c] 37)) 37 #[.int .i64 0, .slice none 0 0]
  rw [World.size_alloc] at h1
  have HNO : Hid (pzOk p cs = true → k < 0 ∨ (n : Int) ≤ k) := by
    intro ha
    have h : ¬ (pzOk p cs = true ∧ 0 ≤ k ∧ k < cs.length) := fun h => by rw [drOk_iff.2 h] at hno; cases hno
    simp only [ha, true_and, hx] at h
    omega
  clear hx hno
  cases hp : pzOk p cs
  · have HP := Lib.hid hp
    clear hp
    go_enter Try.func46, Try.ntmps46
    go_wp2_with fail
    refine (isPuzzle_any p A n c cs _ hA2 HX.out hn).mono ?_
    rintro e w1 ⟨rfl, hb⟩
    rw [HP.out]
    have ht := below_then (below2 w _ _) hb (by simp; omega)
    have hr := h1.below hb
    have hlr := hr.lt
    obtain ⟨r0, r1, f0, f1⟩ := hr.two
    clear h0 h1 hb hA2
    go_wp2
    refine bodyPost_ret (v := .tuple #[.agg #[.int .i64 0, .slice none 0 0], .bool false]) (by simp [results, Try.results46, go_sem, r0, r1]) rfl ⟨none, 0, by rw [(dr_no HS.out).1, (dr_no HS.out).2, HS.out]; rfl, by rw [(dr_no HS.out).2]; exact .inl rfl, ?_⟩
    exact below_set (below_set ht (by omega)) (by omega)
  rcases (show k < 0 ∨ (¬ k < 0 ∧ (n : Int) ≤ k) by have := HNO.out hp; omega) with hk | ⟨hk, hkn⟩
  all_goals
    have HP := Lib.hid hp
    clear hp HNO
    go_enter Try.func46, Try.ntmps46
    go_wp2_with fail
    refine (isPuzzle_any p A n c cs _ hA2 HX.out hn).mono ?_
    rintro e w1 ⟨rfl, hb⟩
    rw [HP.out]
    have ht := below_then (below2 w _ _) hb (by simp; omega)
    have hp1 := h0.below hb
    obtain ⟨k0, k1, -, -⟩ := hp1.two
    have hr := h1.below hb
    have hlr := hr.lt
    obtain ⟨r0, r1, f0, f1⟩ := hr.two
    clear h0 h1 hb hA2
    go_wp2
    refine bodyPost_ret (v := .tuple #[.agg #[.int .i64 0, .slice none 0 0], .bool false]) (by simp [results, Try.results46, go_sem, r0, r1]) rfl ⟨none, 0, by rw [(dr_no HS.out).1, (dr_no HS.out).2, HS.out]; rfl, by rw [(dr_no HS.out).2]; exact .inl rfl, ?_⟩
    exact below_set (below_set ht (by omega)) (by omega)

set_option maxHeartbeats 3200000 in
set_option maxRecDepth 100000 in
theorem implDropK_on (p : Int) (b o n c k : Nat) (cs : List Cl) (w : World) (hA : Holds w (some ⟨b, o, none⟩) (clsC cs)) (hb0 : b < w.heap.size) (hx : cs.length = n) (hn : n ≤ 1048576) (hc : n ≤ c) (hcc : c ≤ 1048576) (hp : pzOk p cs = true) (hk : k < n) :
    Calls Try.prog 46 #[.agg #[.int .i64 p, .slice (some ⟨b, o, none⟩) n c], .int .i64 (k : Int)] w (PuzPost p (woC cs k) true w) := by
  have HX := Lib.hid hx
  have HP := Lib.hid hp
  have HA := Lib.hid ((hA.alloc (.cells #[.int .i64 p, .slice (some ⟨b, o, none⟩) n c] 37)).alloc (.cells #[.int .i64 0, .slice none 0 0] 37))
  have h0 := (Whole.fresh w 37 #[.int .i64 p, .slice (some ⟨b, o, none⟩) n c]).alloc (.cells #[.int .i64 0, .slice none 0 0] 37)
  have h1 := Whole.fresh (w.alloc (.cells #[.int .i64 p, .slice (some ⟨b, o, none⟩) n c] 37)) 37 #[.int .i64 0, .slice none 0 0]
  rw [World.size_alloc] at h1
  have HB0 := Lib.hid hb0
  have hnk : ¬ ((n : Int) ≤ k) := by omega
  have hnk2 : ¬ (n ≤ k) := by omega
  have hk00 : ¬ ((k : Int) < 0) := by omega
  clear hx hp hA hb0
  go_enter Try.func46, Try.ntmps46
  go_wp2_with fail
  refine (isPuzzle_any p _ n c cs _ HA.out HX.out hn).mono ?_
  rintro e w1 ⟨rfl, hb⟩
  rw [HP.out]
  have ht := below_then (below2 w _ _) hb (by simp; omega)
  have hq := h0.below hb
  obtain ⟨k0, k1⟩ := hq.cells2
  have hlq := hq.lt
  have hr := h1.below hb
  have hlr := hr.lt
  obtain ⟨r0, r1, f0, f1⟩ := hr.two
  have hA1 := HA.out.below hb
  have hbl1 : b < w1.heap.size := by have := HB0.out; have := ht.size; omega
  clear h0 h1 hb
  obtain ⟨HHD, d, hd, HTL⟩ := cls_parts hA1 HX.out hk hc
  have HHQ := Lib.hid hq
  have HHR := Lib.hid hr
  have HT := Lib.hid ht
  clear hq hr ht hA1
  have hki0 : (0 : Int) ≤ k := by omega
  have hkc : (k : Int) ≤ c := by omega
  have hkc2 : k ≤ c := by omega
  have hp0 : (0 : Int) ≤ (k : Int) + 1 := by omega
  have hp1 : (k : Int) + 1 ≤ (n : Int) := by omega
  have hp2 : ((k : Int) + 1).toNat = k + 1 := by omega
  have hp3 : k + 1 ≤ n := by omega
  have hwr : IntKind.i64.wrap ((k : Int) + 1) = (k : Int) + 1 := IntWalk.i64_in _ (by omega)
  go_wp2_with fail
  have hlen0 : ([⟨b, o, k, c, cs.take k⟩, ⟨b, d, n - (k + 1), c - (k + 1), cs.drop (k + 1)⟩] : List RowK).length = 2 := rfl
  have HG : Hid (GridK (w1.drew.alloc (.cells #[.slice (some ⟨b, o, none⟩) k c, .slice (some ⟨b, d, none⟩) (n - (k + 1)) (c - (k + 1))] 35)) w1.heap.size [⟨b, o, k, c, cs.take k⟩, ⟨b, d, n - (k + 1), c - (k + 1), cs.drop (k + 1)⟩]) := by
    have hW := Whole.fresh w1.drew 35 #[.slice (some ⟨b, o, none⟩) k c, .slice (some ⟨b, d, none⟩) (n - (k + 1)) (c - (k + 1))]
    have hbw := below1 w1.drew (.cells #[.slice (some ⟨b, o, none⟩) k c, .slice (some ⟨b, d, none⟩) (n - (k + 1)) (c - (k + 1))] 35)
    obtain ⟨e0, e1⟩ := hW.cells2
    refine ⟨hW.lt, fun j hj => ?_, fun j hj => ?_⟩
    · rcases (show j = 0 ∨ j = 1 by simp at hj; omega) with rfl | rfl
      · exact e0
      · exact e1
    · rcases (show j = 0 ∨ j = 1 by simp at hj; omega) with rfl | rfl
      · refine ⟨by simp [RowK.b]; omega, by show (cs.take k).length = k; rw [List.length_take, HX.out]; omega, fun i u hu => ?_⟩
        exact (hbw.cell (p := ⟨b, o + i, none⟩) hbl1).trans (HHD.out i u hu)
      · refine ⟨by simp [RowK.b]; omega, by show (cs.drop (k + 1)).length = n - (k + 1); rw [List.length_drop, HX.out], fun i u hu => ?_⟩
        exact (hbw.cell (p := ⟨b, d + i, none⟩) hbl1).trans (HTL.out i u hu)
  have HPT : Hid (∀ j, j ≤ 2 → partK [⟨b, o, k, c, cs.take k⟩, ⟨b, d, n - (k + 1), c - (k + 1), cs.drop (k + 1)⟩] j ≤ 1048576) := fun j hj => by
    rcases (show j = 0 ∨ j = 1 ∨ j = 2 by omega) with rfl | rfl | rfl
    · simp [partK]
    · simp [partK]; omega
    · simp [partK]; omega
  have HJN : Hid (joinK [⟨b, o, k, c, cs.take k⟩, ⟨b, d, n - (k + 1), c - (k + 1), cs.drop (k + 1)⟩] 2 = woC cs k) := by show _ = _; simp [joinK, woC]
  clear hlen0
  go_region_held3 (fun w' => w'.cell? ⟨w.heap.size, 0, none⟩ = some (.int .i64 p) ∧ w'.cell? ⟨w.heap.size, 1, none⟩ = some (.slice (some ⟨b, o, none⟩) n c)) (go_keep)
    (first | (go_at_call 73; refine (concatK_any w1.heap.size 2 2 [⟨b, o, k, c, cs.take k⟩, ⟨b, d, n - (k + 1), c - (k + 1), cs.drop (k + 1)⟩] _ HG.out rfl (by omega) HPT.out).mono ?_; rintro e w2 ⟨A2, q2, rfl, hown2, hb2⟩; rw [HJN.out] at hown2 ⊢; have hc2 : Below w1.heap.size w1 w2 := below_then ((Below.refl w1.heap.size w1).drew.alloc (Nat.le_refl _) (.cells #[.slice (some ⟨b, o, none⟩) k c, .slice (some ⟨b, d, none⟩) (n - (k + 1)) (c - (k + 1))] 35)) hb2 (by simp); have hq2 := HHQ.out.below hc2; obtain ⟨k2, k3⟩ := hq2.cells2; have hlq2 := hq2.lt; have hr2 := HHR.out.below hc2; obtain ⟨r2, r3, f2, f3⟩ := hr2.two; have hlr2 := hr2.lt; have HO2 := Lib.hid hown2; have HC2 := Lib.hid hc2; have HZ2 := Lib.hid hb2.size; clear hown2 hb2 hq2 hr2))
  have hsz3 : w1.heap.size ≤ w2.heap.size := HC2.out.size
  have hbw : Below w.heap.size w w2 := below_then HT.out HC2.out HT.out.size
  have hf := own_freshK HO2.out
  have HF := Lib.hid (((hf.set_out (b := w.heap.size + 1) (o := 0) (u := .int .i64 p) (.inl (by first | omega | (simp; omega)))).set_out (b := w.heap.size + 1) (o := 1) (u := .slice A2 (woC cs k).length q2) (.inl (by first | omega | (simp; omega)))).more (lo' := w.heap.size) (hi' := w2.heap.size) (by first | omega | (simp; omega)) (Nat.le_refl _))
  clear hf
  go_wp2
  refine bodyPost_ret (v := .tuple #[.agg #[.int .i64 p, .slice A2 (woC cs k).length q2], .bool true]) (by simp [results, Try.results46, go_sem, r2, r3]) rfl ⟨A2, q2, rfl, ?_, ?_⟩
  · have h := HF.out
    simpa [World.setCell] using h
  · exact below_set (below_set hbw (by omega)) (by omega)
theorem implDropK_any (p : Int) (b o n c : Nat) (cs : List Cl) (k : Int) (w : World) (hA : Holds w (some ⟨b, o, none⟩) (clsC cs)) (hb : b < w.heap.size) (hx : cs.length = n) (hn : n ≤ 1048576) (hc : n ≤ c) (hcc : c ≤ 1048576) :
    Calls Try.prog 46 #[.agg #[.int .i64 p, .slice (some ⟨b, o, none⟩) n c], .int .i64 k] w (PuzPost (drP p cs k) (drL p cs k) (drOk p cs k) w) := by
  cases hok : drOk p cs k
  · rw [← hok]
    exact implDropK_no p _ n c cs k w hA hx hn hok
  · obtain ⟨hp, h0, h1⟩ := drOk_iff.1 hok
    obtain ⟨e1, e2⟩ := dr_yes hok
    obtain ⟨j, rfl⟩ := Int.eq_ofNat_of_zero_le h0
    rw [e1, e2]
    exact implDropK_on p b o n c j cs w hA hb hx hn hc hcc hp (by omega)
end Go.Proofs.Ytgojakcepbdajaa

namespace Go.Proofs.Ytgojakcepbdajaa
open Go.RowKit

set_option maxHeartbeats 1600000 in
theorem markClueS_any (A : Option Addr) (n c lo hi : Nat) (cs : List Cl) (q : Int) (w : World) (hf : Fresh w lo hi 69 A (clsC cs)) (hx : cs.length = n) (h0 : 0 ≤ q) (h1 : q ≤ 2305843009213693952) (hn : n ≤ 1048576) :
    Calls Try.prog 43 #[.slice A n c, .int .i64 q] w fun e w' => e = .returned (.int .i64 (q + ((n * 3 : Nat) : Int))) ∧ Span lo hi w w' ∧ Fresh w' lo hi 69 A (nums (marksI q (n * 3))) := by
  subst hx
  have hlc := clsC_len cs
  generalize clsC cs = xs at hf hlc
  generalize cs.length = n at *
  rcases hf with rfl | ⟨g, cells, rfl, hlo, hhi, hw, hle, htk⟩
  · have hn0 : n = 0 := by simp at hlc; omega
    subst hn0
    go_enter Try.func43, Try.ntmps43
    go_wp2
    refine wp_loop_rounds 1 ?_
    rw [rounds_succ]
    go_wp2
    go_ret
    exact ⟨ret_of (by simp), Span.refl _ _ _, .inl (by simp [marksI, nums])⟩
  · have HT := Lib.hid htk
    have HLC := Lib.hid hlc
    have hsz : n * 3 ≤ cells.size := by omega
    have HSZ := Lib.hid hsz
    clear htk hlc hle hsz
    have hm0 : Whole w g 69 (marked (fun i : Nat => .int .i64 (q + (i : Int))) cells (0 * 3)) := by rw [Nat.zero_mul, marked_zero]; exact hw
    have hgl := hw.lt
    go_enter Try.func43, Try.ntmps43
    go_wp2
    go_loopw [1, 5] (fun v i wr => ∃ k : Nat, k ≤ n ∧ i = .int .i64 k ∧ v = .int .i64 (q + ((k * 3 : Nat) : Int)) ∧ Whole wr g 69 (marked (fun i : Nat => .int .i64 (q + (i : Int))) cells (k * 3)) ∧ Span lo hi w wr) (fun _ i _ => n - (intOf i).toNat)
    case atStart => exact ⟨0, Nat.zero_le _, rfl, by simp, hm0, Span.refl _ _ _⟩
    case round =>
      obtain ⟨k, hk, rfl, rfl, hm, hs⟩ := hrel
      clear hm0 hw
      by_cases hlt : k < n
      · have hs3 := HSZ.out
        have hks : k * 3 + 2 < cells.size := by omega
        have h00 : (marked (fun i : Nat => .int .i64 (q + (i : Int))) cells (k * 3)).size = cells.size := by simp [marked]; omega
        obtain ⟨u0, hu0⟩ : ∃ u, (marked (fun i : Nat => .int .i64 (q + (i : Int))) cells (k * 3))[k * 3]? = some u := ⟨_, Array.getElem?_eq_getElem (by omega)⟩
        obtain ⟨u1, hu1⟩ : ∃ u, (marked (fun i : Nat => .int .i64 (q + (i : Int))) cells (k * 3))[k * 3 + 1]? = some u := ⟨_, Array.getElem?_eq_getElem (by omega)⟩
        obtain ⟨u2, hu2⟩ : ∃ u, (marked (fun i : Nat => .int .i64 (q + (i : Int))) cells (k * 3))[k * 3 + 2]? = some u := ⟨_, Array.getElem?_eq_getElem (by omega)⟩
        have c0 := (hm.cell (k * 3)).trans hu0
        have c1 := (hm.cell (k * 3 + 1)).trans hu1
        have c2 := (hm.cell (k * 3 + 2)).trans hu2
        have f0 := hm.open_ (k * 3)
        have f1 := hm.open_ (k * 3 + 1)
        have f2 := hm.open_ (k * 3 + 2)
        obtain ⟨z, hz⟩ : ∃ z : Int, z = q + ((k * 3 : Nat) : Int) := ⟨_, rfl⟩
        have hset := ((hm.set_ (k * 3) (.int .i64 (q + ((k * 3 : Nat) : Int)))).set_ (k * 3 + 1) (.int .i64 (q + ((k * 3 + 1 : Nat) : Int)))).set_ (k * 3 + 2) (.int .i64 (q + ((k * 3 + 2 : Nat) : Int)))
        rw [marked_next (fun i : Nat => .int .i64 (q + (i : Int))) cells (k := k * 3) (by omega), marked_next (fun i : Nat => .int .i64 (q + (i : Int))) cells (k := k * 3 + 1) (by omega), marked_next (fun i : Nat => .int .i64 (q + (i : Int))) cells (k := k * 3 + 2) (by omega), show q + ((k * 3 + 1 : Nat) : Int) = z + 1 by omega, show q + ((k * 3 + 2 : Nat) : Int) = z + 1 + 1 by omega, ← hz] at hset
        have HSET := Lib.hid hset
        have HSP := Lib.hid hs
        have hz0 : 0 ≤ z := by omega
        have hz1 : z ≤ 4611686018427387904 := by omega
        have HZ := Lib.hid hz
        rw [← hz]
        have hkl : (k : Int) < n := by omega
        clear hm hs hset hu0 hu1 hu2 h00 hz hs3
        have hw1 : IntKind.i64.wrap (z + 1) = z + 1 := IntWalk.i64_in _ (by omega)
        have hw2 : IntKind.i64.wrap (z + 1 + 1) = z + 1 + 1 := IntWalk.i64_in _ (by omega)
        have hw3 : IntKind.i64.wrap (z + 1 + 1 + 1) = z + 1 + 1 + 1 := IntWalk.i64_in _ (by omega)
        go_wp2
        go_roundw
        case rel => exact ⟨k + 1, by omega, by go_num, congrArg _ (by have := HZ.out; omega), by rw [show (k + 1) * 3 = k * 3 + 2 + 1 by omega]; exact HSET.out, HSP.out.trans ⟨rfl, rfl, rfl, by simp [World.setCell], fun j _ hj => ((Below.heap_setCell _ _ _ _ (by show j ≠ g; omega)).trans (Below.heap_setCell _ _ _ _ (by show j ≠ g; omega))).trans (Below.heap_setCell _ _ _ _ (by show j ≠ g; omega))⟩⟩
        case measure => simp [intOf]; omega
      · have hkn : k = n := by omega
        subst hkn
        go_wp2
        go_ret
        refine ⟨rfl, hs, .inr ⟨g, _, rfl, hlo, hhi, hm, ?_, ?_⟩⟩
        · simp [nums_len, marksI_len, marked]
        · rw [nums_len, marksI_len, marked_take _ _ _]
          simp [nums, marksI]

set_option maxHeartbeats 1600000 in
theorem heldClueS_any (A : Option Addr) (n c : Nat) (q : Int) (w : World) (hA : Holds w A (nums (marksI q (n * 3)))) (h0 : 0 ≤ q) (h1 : q ≤ 2305843009213693952) (hn : n ≤ 1048576) :
    Calls Try.prog 54 #[.slice A n c, .int .i64 q] w fun e w' => e = .returned (.int .i64 (q + ((n * 3 : Nat) : Int))) ∧ w = w' := by
  have hl := marksI_len q (n * 3)
  have HL := Lib.hid hl
  clear hl
  go_enter Try.func54, Try.ntmps54
  go_wp2
  go_loop [1, 5] (fun v i => ∃ k : Nat, k ≤ n ∧ i = .int .i64 k ∧ v = .int .i64 (q + ((k * 3 : Nat) : Int))) (fun _ i => n - (intOf i).toNat)
  case atStart => exact ⟨0, Nat.zero_le _, rfl, by simp⟩
  case round =>
    obtain ⟨k, hk, rfl, rfl⟩ := hrel
    by_cases hlt : k < n
    · obtain ⟨b, o, rfl, hb, hc0⟩ := hA.look (k := k * 3) (by rw [nums_len, HL.out]; omega)
      obtain ⟨b1, o1, hA1, hb1, hc1⟩ := hA.look (k := k * 3 + 1) (by rw [nums_len, HL.out]; omega)
      obtain ⟨b2, o2, hA2, hb2, hc2⟩ := hA.look (k := k * 3 + 2) (by rw [nums_len, HL.out]; omega)
      obtain ⟨rfl, rfl⟩ : b = b1 ∧ o = o1 := by
        simp only [Option.some.injEq, Addr.mk.injEq] at hA1
        exact ⟨hA1.1, hA1.2.1⟩
      obtain ⟨rfl, rfl⟩ : b = b2 ∧ o = o2 := by
        simp only [Option.some.injEq, Addr.mk.injEq] at hA2
        exact ⟨hA2.1, hA2.2.1⟩
      obtain ⟨z, hz⟩ : ∃ z : Int, z = q + ((k * 3 : Nat) : Int) := ⟨_, rfl⟩
      have hv0 : (nums (marksI q (n * 3)))[k * 3]'(by rw [nums_len, HL.out]; omega) = .int .i64 z := by simp [nums, marksI, hz]
      have hv1 : (nums (marksI q (n * 3)))[k * 3 + 1]'(by rw [nums_len, HL.out]; omega) = .int .i64 (z + 1) := by simp [nums, marksI, hz]; omega
      have hv2 : (nums (marksI q (n * 3)))[k * 3 + 2]'(by rw [nums_len, HL.out]; omega) = .int .i64 (z + 1 + 1) := by simp [nums, marksI, hz]; omega
      rw [hv0] at hc0
      rw [hv1] at hc1
      rw [hv2] at hc2
      rw [← Nat.add_assoc] at hc1 hc2
      have hkl : (k : Int) < n := by omega
      have hw1 : IntKind.i64.wrap (z + 1) = z + 1 := IntWalk.i64_in _ (by omega)
      have hw2 : IntKind.i64.wrap (z + 1 + 1) = z + 1 + 1 := IntWalk.i64_in _ (by omega)
      have hw3 : IntKind.i64.wrap (z + 1 + 1 + 1) = z + 1 + 1 + 1 := IntWalk.i64_in _ (by omega)
      have hn0 : (z != z) = false := by simp
      have hn1 : (z + 1 != z + 1) = false := by simp
      have hn2 : (z + 1 + 1 != z + 1 + 1) = false := by simp
      have HZ := Lib.hid hz
      rw [← hz]
      clear hv0 hv1 hv2 hA1 hA2 hb1 hb2 hz
      go_wp2
      go_round
      case rel => exact ⟨k + 1, by omega, by go_num, congrArg _ (by have := HZ.out; omega)⟩
      case measure => simp [intOf]; omega
    · have hkn : k = n := by omega
      subst hkn
      go_wp2
      go_ret
      exact ⟨rfl, rfl⟩

set_option maxHeartbeats 400000 in
theorem markPuzzle_any (s : Int) (A : Option Addr) (n c lo hi : Nat) (cs : List Cl) (q : Int) (w : World) (hf : Fresh w lo hi 69 A (clsC cs)) (hx : cs.length = n) (h0 : 0 ≤ q) (h1 : q ≤ 2305843009213693952) (hn : n ≤ 1048576) :
    Calls Try.prog 22 #[.agg #[.int .i64 s, .slice A n c], .int .i64 q] w fun e w' => e = .returned (.int .i64 (q + ((n * 3 : Nat) : Int))) ∧ Span lo hi w w' ∧ Fresh w' lo hi 69 A (nums (marksI q (n * 3))) := by
  have HX := Lib.hid hx
  clear hx
  go_enter Try.func22, Try.ntmps22
  go_wp2_with fail
  refine (markClueS_any A n c lo hi cs q _ (hf.alloc _) HX.out h0 h1 hn).mono ?_
  rintro e w1 ⟨rfl, hs, hf1⟩
  have HS := Lib.hid hs
  have HF := Lib.hid hf1
  clear hs hf1
  go_wp2
  go_ret
  exact ⟨rfl, (Span.of_below (below1 w _) lo hi).trans HS.out, HF.out⟩

set_option maxHeartbeats 400000 in
theorem heldPuzzle_any (A : Option Addr) (n c : Nat) (s q : Int) (w : World) (hA : Holds w A (nums (marksI q (n * 3)))) (h0 : 0 ≤ q) (h1 : q ≤ 2305843009213693952) (hn : n ≤ 1048576) :
    Calls Try.prog 29 #[.agg #[.int .i64 s, .slice A n c], .int .i64 q] w fun e w' => e = .returned (.int .i64 (q + ((n * 3 : Nat) : Int))) ∧ Below w.heap.size w w' := by
  have hq0 : ¬ (q + ((n * 3 : Nat) : Int) < 0) := by omega
  obtain ⟨z, hz⟩ : ∃ z : Int, z = q + ((n * 3 : Nat) : Int) := ⟨_, rfl⟩
  have H := Lib.hid (heldClueS_any A n c q _ (hA.alloc (.cells #[.int .i64 s, .slice A n c] 37)) h0 h1 hn)
  rw [← hz] at H hq0 ⊢
  clear hA hz
  go_enter Try.func29, Try.ntmps29
  go_wp2_with fail
  refine H.out.mono ?_
  rintro e w1 ⟨rfl, rfl⟩
  go_wp2
  go_ret
  exact ⟨rfl, below1 w _⟩
end Go.Proofs.Ytgojakcepbdajaa

namespace Go.Proofs.Ytgojakcepbdajaa
open Go.RowKit

/-- How many hidden times match the clues without one. -/
def cntW (p : Int) (cs : List Cl) (k : Nat) : Nat := (solI p (woC cs k)).length
/-- The first clues without each of which there are as many. -/
def needI (p : Int) (cs : List Cl) (k : Nat) : List Int := ((List.range k).filter fun j => decide (cntW p cs j = (solI p cs).length)).map Int.ofNat
theorem need_yes {p : Int} {cs : List Cl} {k : Nat} (h : cntW p cs k = (solI p cs).length) : needI p cs (k + 1) = needI p cs k ++ [(k : Int)] := by
  simp [needI, List.range_succ, List.filter_append, h]
theorem need_no {p : Int} {cs : List Cl} {k : Nat} (h : ¬ cntW p cs k = (solI p cs).length) : needI p cs (k + 1) = needI p cs k := by
  simp [needI, List.range_succ, List.filter_append, h]
theorem need_len (p : Int) (cs : List Cl) (k : Nat) : (needI p cs k).length ≤ k := by
  rw [needI, List.length_map]
  exact Nat.le_trans (List.length_filter_le _ _) (by simp)
def needAll (p : Int) (cs : List Cl) : List Int := if pzOk p cs then needI p cs cs.length else []
theorem needAll_no {p : Int} {cs : List Cl} (h : pzOk p cs = false) : needAll p cs = [] := if_neg (by simp [h])
theorem needAll_yes {p : Int} {cs : List Cl} (h : pzOk p cs = true) : needAll p cs = needI p cs cs.length := if_pos h
theorem needAll_le (p : Int) (cs : List Cl) : (needAll p cs).length ≤ 1048576 := by
  cases h : pzOk p cs
  · rw [needAll_no h]; simp
  · rw [needAll_yes h]
    have := need_len p cs cs.length
    have := (pzOk_parts h).2.2.1
    omega
/-- A list of numbers of the call's own. -/
def NeedPost (l : List Int) (ok : Bool) (w : World) (e : Ending) (w' : World) : Prop :=
  ∃ (B : Option Addr) (q : Nat), e = .returned (.tuple #[.slice B l.length q, .bool ok]) ∧ Fresh w' w.heap.size w'.heap.size 3 B (nums l) ∧ Below w.heap.size w w'
theorem wo_spot {w : World} {b o : Nat} {cs : List Cl} (h : Holds w (some ⟨b, o, none⟩) (clsC cs)) (h0 : 0 < cs.length) : b < w.heap.size := by
  rcases h with h | ⟨b', o', hA, hb, -⟩
  · have := clsC_len cs
    rw [h] at this
    simp at this
    omega
  · cases hA
    exact hb

set_option maxHeartbeats 3200000 in
set_option maxRecDepth 100000 in
theorem specNeedlessClues_any (p : Int) (b o n c : Nat) (cs : List Cl) (w : World) (hA : Holds w (some ⟨b, o, none⟩) (clsC cs)) (hx : cs.length = n) (hn : n ≤ 1048576) (hc : n ≤ c) (hcc : c ≤ 1048576) :
    Calls Try.prog 23 #[.agg #[.int .i64 p, .slice (some ⟨b, o, none⟩) n c]] w (NeedPost (needAll p cs) (pzOk p cs) w) := by
  obtain ⟨i0, hi, hz0, hz1, hz2⟩ := info_parts info_int
  have HI := Lib.hid hi
  have HZ0 := Lib.hid hz0
  have HZ1 := Lib.hid hz1
  have HZ2 := Lib.hid hz2
  have hbl := below1 w (.cells #[.int .i64 p, .slice (some ⟨b, o, none⟩) n c] 37)
  have hw0 := Whole.fresh w 37 #[.int .i64 p, .slice (some ⟨b, o, none⟩) n c]
  have HBL := Lib.hid hbl
  have HA := Lib.hid (hA.below hbl)
  have H0 := Lib.hid hw0
  have HX := Lib.hid hx
  clear hi hz0 hz1 hz2
  cases hok : pzOk p cs
  · have HOK := Lib.hid hok
    have HS := Lib.hid (needAll_no hok)
    clear hbl hA hx hok hw0
    go_enter Try.func23, Try.ntmps23
    go_wp2_with fail
    refine (pzGood_any p _ n c cs _ HA.out HX.out (by omega)).mono ?_
    rintro e w2 ⟨rfl, hb⟩
    rw [HOK.out]
    have HF := Lib.hid (below_then HBL.out hb HBL.out.size)
    clear hb
    go_wp2
    go_ret2
    exact ⟨none, 0, by rw [HS.out]; rfl, by rw [HS.out]; exact .inl rfl, HF.out⟩
  · have HOK := Lib.hid hok
    have HS := Lib.hid (needAll_yes hok)
    obtain ⟨hp1, hp4, hl6, hall⟩ := pzOk_parts hok
    have HALL := Lib.hid hall
    have HLE := Lib.hid (solI_len cs hp1 hp4)
    have hn6 : n ≤ 6 := by omega
    clear hbl hA hx hok hw0 hall
    go_enter Try.func23, Try.ntmps23
    go_wp2_with fail
    refine (pzGood_any p _ n c cs _ HA.out HX.out (by omega)).mono ?_
    rintro e w1 ⟨rfl, hb⟩
    rw [HOK.out]
    have HF1 := Lib.hid (below_then HBL.out hb HBL.out.size)
    have HA1 := Lib.hid (HA.out.below hb)
    have h1 := H0.out.below hb
    have HQ1 := Lib.hid h1
    obtain ⟨c0, c1⟩ := h1.cells2
    have hlt0 := h1.lt
    clear hb h1
    go_wp2_with fail
    refine (pzAll_any p _ n c cs _ HA1.out HX.out hn6 HALL.out hp1 hp4).mono ?_
    rintro e w2 ⟨A0, c9, rs0, rfl, hr0, hh0, hb⟩
    have hz9 := heads_len hh0 hr0
    obtain ⟨z, hz⟩ : ∃ z, z = rs0.length := ⟨_, rfl⟩
    rw [← hz] at hz9 ⊢
    have HZ9 := Lib.hid hz9
    have HF := Lib.hid (below_then HF1.out hb HF1.out.size)
    have HA2 := Lib.hid (HA1.out.below hb)
    have h2 := HQ1.out.below hb
    have HQ2 := Lib.hid h2
    have hls2 : w.heap.size + 1 ≤ w2.heap.size := by have := h2.lt; omega
    have hzle : z ≤ 1296 := by rw [hz9]; exact HLE.out
    clear c0 c1 hlt0
    obtain ⟨c0, c1⟩ := h2.cells2
    have hlt0 := h2.lt
    clear hb h2 hr0 hh0 hz9 hz
    go_wp2
    go_loopw [4, 19] (fun v i wr => ∃ (k : Nat) (D : Option Addr) (d : Nat), k ≤ n ∧ i = .int .i64 k ∧ v = .slice D (needI p cs k).length d ∧ wr.ownsRow w2.heap.size 3 1 (.slice D (needI p cs k).length d) (needI p cs k).length (nums (needI p cs k)) ∧ Below w2.heap.size w2 wr) (fun _ i _ => n - (intOf i).toNat)
    case atStart => exact ⟨0, none, 0, Nat.zero_le _, rfl, rfl, World.ownsRow_nil _ _ _ _, Below.refl _ _⟩
    case round =>
      obtain ⟨k, D, d, hk, rfl, rfl, hown, hb⟩ := hrel
      have HOWN := Lib.hid hown
      have HB := Lib.hid hb
      have hq := HQ2.out.below hb
      clear c0 c1 hlt0
      obtain ⟨c0, c1⟩ := hq.cells2
      have hlt0 := hq.lt
      have hzr : w2.heap.size ≤ wr.heap.size := hb.size
      have HNL := Lib.hid (need_len p cs k)
      obtain ⟨F, hF⟩ : ∃ F, F = needI p cs k := ⟨_, rfl⟩
      have HFE := Lib.hid hF
      rw [← hF] at HOWN HNL ⊢
      have hfl : F.length ≤ 6 := by have := HNL.out; omega
      clear hown hq hb hF
      by_cases hlt : k < n
      · have hkI : (k : Int) < n := by omega
        have HK := Lib.hid (show k < cs.length by have := HX.out; omega)
        have HLW := Lib.hid (solI_len (woC cs k) hp1 hp4)
        have HQR := Lib.hid (HQ2.out.below HB.out)
        have HTA := Lib.hid (HA2.out.below HB.out)
        have HBS := Lib.hid (wo_spot HTA.out (by have := HK.out; omega))
        have HALW := Lib.hid (all_wo HALL.out k)
        have HWL := Lib.hid (woC_len HK.out)
        go_wp2_with fail
        go_region_held3 (fun w' => w'.cell? ⟨w.heap.size, 0, none⟩ = some (.int .i64 p) ∧ w'.cell? ⟨w.heap.size, 1, none⟩ = some (.slice (some ⟨b, o, none⟩) n c)) (go_keep)
          (first | (go_at_call 44; refine (pzWithout_any b o n c k cs wr.drew (by exact HTA.out.drew) (by exact HBS.out) HX.out (by omega) hc hcc hlt).mono ?_; rintro e w3 ⟨A3, q3, rfl, hown3, hb3⟩; have hbd3 : Below wr.heap.size wr w3 := below_then (Below.refl wr.heap.size wr).drew hb3 (Nat.le_refl _); obtain ⟨k2, k3⟩ := (HQR.out.below hbd3).cells2; have HBD3 := Lib.hid hbd3; have HO3 := Lib.hid (own_freshK hown3).holds; clear hown3 hb3 hbd3) | (go_at_call 38; refine (pzAll_any p A3 (woC cs k).length q3 (woC cs k) _ HO3.out rfl (by have := HWL.out; have := HX.out; omega) HALW.out hp1 hp4).mono ?_; rintro e w4 ⟨A4, c4, rs, rfl, hr, hh, hb4⟩; have HRL := Lib.hid (heads_len hh hr); have hrl : rs.length ≤ 1296 := (by rw [heads_len hh hr]; exact HLW.out); have hbd4 : Below wr.heap.size wr w4 := below_then HBD3.out hb4 HBD3.out.size; obtain ⟨k4, k5⟩ := (HQR.out.below hbd4).cells2; have HBD := Lib.hid hbd4; clear hr hh hb4 hbd4))
        have hlw4 : w2.heap.size ≤ w4.heap.size := by have := HBD.out.size; omega
        have HRC : Hid (rs.length = cntW p cs k) := HRL.out
        have HBE := Lib.hid (below_then HB.out HBD.out HB.out.size)
        have HOE := Lib.hid (own_below HOWN.out HBD.out)
        by_cases he : rs.length = z
        · have hb1 : ((rs.length : Int) == (z : Int)) = true := by simp [he]
          have HNX := Lib.hid (need_yes (p := p) (cs := cs) (k := k) (by rw [← HRC.out, he]; exact HZ9.out))
          have HOW := Lib.hid (HOE.out.alloc (.cells #[.int .i64 k] 3))
          have HBASE := Lib.hid (show w2.heap.size ≤ (w4.alloc (.cells #[.int .i64 k] 3)).heap.size by rw [World.size_alloc]; omega)
          have HMAX := Lib.hid (show F.length + 1 ≤ maxLen by unfold maxLen; omega)
          have HBYT := Lib.hid (show (F.length + 1) * 8 ≤ 140737488355328 by omega)
          clear he
          go_wp2_with (at_builtin; refine wpList_append_lies _ rfl (.tmp 32) (.tmp 34) 25 rfl w2.heap.size 3 i0 (.int .i64 0) 1 8 Try.underlying25 HI.out HZ0.out HZ1.out HZ2.out rfl (by decide) (.slice D F.length d) F.length (nums F) rfl HOW.out ⟨w4.heap.size, 0, none⟩ 1 1 [.int .i64 k] rfl rfl (cell_one_new _ _ _) (by simp [Value.oneCell']) (by decide) HMAX.out HBYT.out HBASE.out (w4.heap.size + 1) (by simp) ?_; intro g cap w5 hown5 hg5 hat5 hlt5)
          have HON := Lib.hid hown5
          have HBN := Lib.hid ((HBE.out.alloc hlw4 (.cells #[.int .i64 k] 3)).grown hg5 HBASE.out (fun kk e => (HOW.out.lt _ e).1))
          clear hown5 hg5 hat5 hlt5
          try go_wp2
          go_roundw
          case rel => exact ⟨k + 1, some ⟨g, 0, none⟩, cap, by omega, by go_num, by rw [HNX.out, ← HFE.out, List.length_append]; rfl, by rw [HNX.out, ← HFE.out, List.length_append, numsC_snoc]; exact HON.out, HBN.out⟩
          case measure => simp [intOf]; omega
        · have hb1 : ((rs.length : Int) == (z : Int)) = false := by simp; omega
          have HNX := Lib.hid (need_no (p := p) (cs := cs) (k := k) (fun h => he (by rw [HRC.out, h]; exact HZ9.out.symm)))
          clear he
          go_wp2
          go_roundw
          case rel => exact ⟨k + 1, D, d, by omega, by go_num, by rw [HNX.out, ← HFE.out], by rw [HNX.out, ← HFE.out]; exact HOE.out, HBE.out⟩
          case measure => simp [intOf]; omega
      · obtain rfl : k = n := by omega
        have HFR := Lib.hid (own_freshC HOWN.out)
        have HBB := Lib.hid (below_then HF.out HB.out HF.out.size)
        have HL1 : Hid (needAll p cs = F) := by show _ = _; rw [HS.out, HX.out, HFE.out]
        go_wp2
        go_ret2
        exact ⟨D, d, by rw [HL1.out]; rfl, by rw [HL1.out]; exact HFR.out.more (by omega) (Nat.le_refl _), HBB.out⟩

set_option maxHeartbeats 3200000 in
set_option maxRecDepth 100000 in
theorem implNeedlessClues_any (p : Int) (b o n c : Nat) (cs : List Cl) (w : World) (hA : Holds w (some ⟨b, o, none⟩) (clsC cs)) (hx : cs.length = n) (hn : n ≤ 1048576) (hc : n ≤ c) (hcc : c ≤ 1048576) :
    Calls Try.prog 24 #[.agg #[.int .i64 p, .slice (some ⟨b, o, none⟩) n c]] w (NeedPost (needAll p cs) (pzOk p cs) w) := by
  obtain ⟨i0, hi, hz0, hz1, hz2⟩ := info_parts info_int
  have HI := Lib.hid hi
  have HZ0 := Lib.hid hz0
  have HZ1 := Lib.hid hz1
  have HZ2 := Lib.hid hz2
  have hbl := below1 w (.cells #[.int .i64 p, .slice (some ⟨b, o, none⟩) n c] 37)
  have hw0 := Whole.fresh w 37 #[.int .i64 p, .slice (some ⟨b, o, none⟩) n c]
  have HBL := Lib.hid hbl
  have HA := Lib.hid (hA.below hbl)
  have H0 := Lib.hid hw0
  have HX := Lib.hid hx
  have HLE0 := Lib.hid (solsI_len p cs)
  clear hi hz0 hz1 hz2
  obtain ⟨c0, c1⟩ := hw0.cells2
  have hlt0 := hw0.lt
  cases hok : pzOk p cs
  · have HOK := Lib.hid hok
    have HS := Lib.hid (needAll_no hok)
    clear hbl hA hx hok hw0
    go_enter Try.func24, Try.ntmps24
    go_wp2_with fail
    refine (implCountSolutions_any p _ n c cs _ HA.out HX.out hn).mono ?_
    rintro e w2 ⟨rfl, hb⟩
    rw [HOK.out]
    have HF := Lib.hid (below_then HBL.out hb HBL.out.size)
    clear hb
    go_wp2
    go_ret2
    exact ⟨none, 0, by rw [HS.out]; rfl, by rw [HS.out]; exact .inl rfl, HF.out⟩
  · have HOK := Lib.hid hok
    have HS := Lib.hid (needAll_yes hok)
    have HSY := Lib.hid (solsI_yes hok)
    have hn6 : n ≤ 6 := by have := (pzOk_parts hok).2.2.1; omega
    clear hbl hA hx hok hw0
    go_enter Try.func24, Try.ntmps24
    go_wp2_with fail
    refine (implCountSolutions_any p _ n c cs _ HA.out HX.out hn).mono ?_
    rintro e w2 ⟨rfl, hb⟩
    rw [HOK.out]
    obtain ⟨z, hz⟩ : ∃ z, z = (solsI p cs).length := ⟨_, rfl⟩
    rw [← hz]
    have HZ9 : Hid (z = (solI p cs).length) := by show _ = _; rw [hz, HSY.out]
    have hzle : z ≤ 1296 := by rw [hz]; exact HLE0.out
    have HF := Lib.hid (below_then HBL.out hb HBL.out.size)
    have HA2 := Lib.hid (HA.out.below hb)
    have h2 := H0.out.below hb
    have HQ2 := Lib.hid h2
    have hls2 : w.heap.size + 1 ≤ w2.heap.size := by have := h2.lt; omega
    clear c0 c1 hlt0
    obtain ⟨c0, c1⟩ := h2.cells2
    have hlt0 := h2.lt
    clear hb h2 hz
    go_wp2
    go_loopw [6, 22] (fun v i wr => ∃ (k : Nat) (D : Option Addr) (d : Nat), k ≤ n ∧ i = .int .i64 k ∧ v = .slice D (needI p cs k).length d ∧ wr.ownsRow w2.heap.size 3 1 (.slice D (needI p cs k).length d) (needI p cs k).length (nums (needI p cs k)) ∧ Below w2.heap.size w2 wr) (fun _ i _ => n - (intOf i).toNat)
    case atStart => exact ⟨0, none, 0, Nat.zero_le _, rfl, rfl, World.ownsRow_nil _ _ _ _, Below.refl _ _⟩
    case round =>
      obtain ⟨k, D, d, hk, rfl, rfl, hown, hb⟩ := hrel
      have HOWN := Lib.hid hown
      have HB := Lib.hid hb
      have hq := HQ2.out.below hb
      clear c0 c1 hlt0
      obtain ⟨c0, c1⟩ := hq.cells2
      have hlt0 := hq.lt
      have hzr : w2.heap.size ≤ wr.heap.size := hb.size
      have HNL := Lib.hid (need_len p cs k)
      obtain ⟨F, hF⟩ : ∃ F, F = needI p cs k := ⟨_, rfl⟩
      have HFE := Lib.hid hF
      rw [← hF] at HOWN HNL ⊢
      have hfl : F.length ≤ 6 := by have := HNL.out; omega
      clear hown hq hb hF
      by_cases hlt : k < n
      · have hkI : (k : Int) < n := by omega
        have HK := Lib.hid (show k < cs.length by have := HX.out; omega)
        have HLW := Lib.hid (solI_len (woC cs k) (pzOk_parts HOK.out).1 (pzOk_parts HOK.out).2.1)
        have HTA := Lib.hid (HA2.out.below HB.out)
        have HBS := Lib.hid (wo_spot HTA.out (by have := HK.out; omega))
        have HWL := Lib.hid (woC_len HK.out)
        have HWO := Lib.hid (pzOk_wo HOK.out HK.out)
        go_wp2_with fail
        refine (implDropK_on p b o n c k cs _ HTA.out HBS.out HX.out hn hc hcc HOK.out hlt).mono ?_
        rintro e w3 ⟨A3, q3, rfl, hf3, hb3⟩
        have HF3 := Lib.hid hf3
        have HB3 := Lib.hid hb3
        have hz3 : wr.heap.size ≤ w3.heap.size := hb3.size
        clear hf3 hb3
        go_wp2_with fail
        have HH3 := Lib.hid (HF3.out.holds.alloc (.cells #[.int .i64 p, .slice A3 (woC cs k).length q3] 37))
        have HB3A := Lib.hid (HB3.out.alloc hz3 (.cells #[.int .i64 p, .slice A3 (woC cs k).length q3] 37))
        refine (implCountSolutions_any p A3 (woC cs k).length q3 (woC cs k) _ HH3.out rfl (by have := HWL.out; have := HX.out; omega)).mono ?_
        rintro e w4 ⟨rfl, hb4⟩
        rw [HWO.out, solsI_yes HWO.out]
        have HBD := Lib.hid (below_then HB3A.out hb4 HB3A.out.size)
        obtain ⟨y, hy⟩ : ∃ y, y = (solI p (woC cs k)).length := ⟨_, rfl⟩
        rw [← hy]
        have hyle : y ≤ 1296 := by rw [hy]; exact HLW.out
        have HRC : Hid (y = cntW p cs k) := hy
        have hlw4 : w2.heap.size ≤ w4.heap.size := by have := HBD.out.size; omega
        have HBE := Lib.hid (below_then HB.out HBD.out HB.out.size)
        have HOE := Lib.hid (own_below HOWN.out HBD.out)
        clear hb4 hy
        by_cases he : y = z
        · have hb1 : ((y : Int) == (z : Int)) = true := by simp [he]
          have HNX := Lib.hid (need_yes (p := p) (cs := cs) (k := k) (by rw [← HRC.out, he]; exact HZ9.out))
          have HOW := Lib.hid (HOE.out.alloc (.cells #[.int .i64 k] 3))
          have HBASE := Lib.hid (show w2.heap.size ≤ (w4.alloc (.cells #[.int .i64 k] 3)).heap.size by rw [World.size_alloc]; omega)
          have HMAX := Lib.hid (show F.length + 1 ≤ maxLen by unfold maxLen; omega)
          have HBYT := Lib.hid (show (F.length + 1) * 8 ≤ 140737488355328 by omega)
          clear he
          go_wp2_with (at_builtin; refine wpList_append_lies _ rfl (.tmp 42) (.tmp 44) 25 rfl w2.heap.size 3 i0 (.int .i64 0) 1 8 Try.underlying25 HI.out HZ0.out HZ1.out HZ2.out rfl (by decide) (.slice D F.length d) F.length (nums F) rfl HOW.out ⟨w4.heap.size, 0, none⟩ 1 1 [.int .i64 k] rfl rfl (cell_one_new _ _ _) (by simp [Value.oneCell']) (by decide) HMAX.out HBYT.out HBASE.out (w4.heap.size + 1) (by simp) ?_; intro g cap w5 hown5 hg5 hat5 hlt5)
          have HON := Lib.hid hown5
          have HBN := Lib.hid ((HBE.out.alloc hlw4 (.cells #[.int .i64 k] 3)).grown hg5 HBASE.out (fun kk e => (HOW.out.lt _ e).1))
          clear hown5 hg5 hat5 hlt5
          try go_wp2
          go_roundw
          case rel => exact ⟨k + 1, some ⟨g, 0, none⟩, cap, by omega, by go_num, by rw [HNX.out, ← HFE.out, List.length_append]; rfl, by rw [HNX.out, ← HFE.out, List.length_append, numsC_snoc]; exact HON.out, HBN.out⟩
          case measure => simp [intOf]; omega
        · have hb1 : ((y : Int) == (z : Int)) = false := by simp; omega
          have HNX := Lib.hid (need_no (p := p) (cs := cs) (k := k) (fun h => he (by rw [HRC.out, h]; exact HZ9.out.symm)))
          clear he
          go_wp2
          go_roundw
          case rel => exact ⟨k + 1, D, d, by omega, by go_num, by rw [HNX.out, ← HFE.out], by rw [HNX.out, ← HFE.out]; exact HOE.out, HBE.out⟩
          case measure => simp [intOf]; omega
      · obtain rfl : k = n := by omega
        have HFR := Lib.hid (own_freshC HOWN.out)
        have HBB := Lib.hid (below_then HF.out HB.out HF.out.size)
        have HL1 : Hid (needAll p cs = F) := by show _ = _; rw [HS.out, HX.out, HFE.out]
        go_wp2
        go_ret2
        exact ⟨D, d, by rw [HL1.out]; rfl, by rw [HL1.out]; exact HFR.out.more (by omega) (Nat.le_refl _), HBB.out⟩
end Go.Proofs.Ytgojakcepbdajaa

namespace Go.Proofs.Ytgojakcepbdajaa
open Go.RowKit

set_option maxHeartbeats 800000 in
set_option linter.unusedVariables false in
theorem lawNeedlessClues_big0 (k0 : Int) (A0 : Option Addr) (n0 c0 : Nat) (x0 : List Cl) (w : World) (h0 : Holds w A0 (clsC x0)) (hx0 : x0.length = n0) (hn0 : n0 ≤ 9223372036854775807)  (hbig : 1048576 - (n0 : Int) < 0) :
    Calls Try.prog 6 #[.agg #[.int .i64 k0, .slice A0 n0 c0]] w fun e w' => e = .returned (.bool true) ∧ Below w.heap.size w w' := by
  have hb0 := (Whole.fresh w 32 #[.int .i64 k0, .slice A0 n0 c0])
  have ht := below1 w (.cells #[.int .i64 k0, .slice A0 n0 c0] 32)
  have HX0 := Lib.hid hx0
  clear hx0
  obtain ⟨hb0_0, hb0_1⟩ := hb0.cells2
  have hb0_l := hb0.lt
  go_enter Try.func6, Try.ntmps6
  go_wp2_with fail
  refine (szPuzzle_any k0 A0 n0 c0 (1048576) _ (by omega) (by omega) (by omega)).mono ?_
  rintro e v1 ⟨rfl, hb⟩
  rw [if_pos (by omega)]
  have hz1 : w.heap.size + 1 ≤ v1.heap.size := by have := hb.size; simpa using this
  replace ht := below_then ht hb ht.size
  replace hb0 := hb0.below hb
  clear hb
  clear hb0_0 hb0_1 hb0_l
  go_wp2
  go_ret
  exact ⟨rfl, ht⟩

set_option maxHeartbeats 12800000 in
set_option maxRecDepth 100000 in
set_option linter.unusedSimpArgs false in
set_option linter.unusedVariables false in
theorem lawNeedlessClues_small (k0 : Int) (A0 : Option Addr) (n0 c0 : Nat) (x0 : List Cl) (w : World) (h0 : Holds w A0 (clsC x0)) (hx0 : x0.length = n0) (hn0 : n0 ≤ 9223372036854775807) (g0 : 0 ≤ 1048576 - (n0 : Int)) :
    Calls Try.prog 6 #[.agg #[.int .i64 k0, .slice A0 n0 c0]] w fun e w' => e = .returned (.bool true) ∧ Below w.heap.size w w' := by
  have hb0 := (Whole.fresh w 32 #[.int .i64 k0, .slice A0 n0 c0])
  have ht := below1 w (.cells #[.int .i64 k0, .slice A0 n0 c0] 32)
  have HX0 := Lib.hid hx0
  clear hx0
  have hlen : ((needAll k0 x0)).length ≤ 1048576 := needAll_le _ _
  obtain ⟨hb0_0, hb0_1⟩ := hb0.cells2
  have hb0_l := hb0.lt
  go_enter Try.func6, Try.ntmps6
  -- region 2
  go_wp2_with fail
  refine (szPuzzle_any k0 A0 n0 c0 (1048576) _ (by omega) (by omega) (by omega)).mono ?_
  rintro e v1 ⟨rfl, hb⟩
  rw [if_neg (by omega)]
  have hz1 : w.heap.size + 1 ≤ v1.heap.size := by have := hb.size; simpa using this
  replace ht := below_then ht hb ht.size
  replace hb0 := hb0.below hb
  clear hb
  clear hb0_0 hb0_1 hb0_l
  obtain ⟨hb0_0, hb0_1⟩ := hb0.cells2
  have hb0_l := hb0.lt
  -- region 5
  go_wp2_with fail
  refine (toPuzzle_own k0 A0 n0 c0 x0 _ (by exact h0.below ht) HX0.out (by omega)).mono ?_
  rintro e v2 ⟨gp0, rfl, hgp0, hwp0, hb⟩
  have hz2 : v1.heap.size ≤ v2.heap.size := by have := hb.size; simpa using this
  replace ht := below_then ht hb ht.size
  replace hb0 := hb0.below hb
  have hp0 := Fresh.of_whole (lo := v1.heap.size) (hi := v2.heap.size) hwp0 (by simpa using hgp0) hwp0.lt
  clear hgp0 hwp0
  clear hb
  clear hb0_0 hb0_1 hb0_l
  obtain ⟨hb0_0, hb0_1⟩ := hb0.cells2
  have hb0_l := hb0.lt
  go_wp2_with fail
  refine (specNeedlessClues_any k0 _ _ n0 _ x0 _ (by exact hp0.holds) HX0.out (by omega) (Nat.le_refl _) (by omega)).mono ?_
  rintro e v3 ⟨B0, q0, rfl, hF0, hb⟩
  have hz3 : v2.heap.size ≤ v3.heap.size := by have := hb.size; simpa using this
  replace ht := below_then ht hb ht.size
  replace hb0 := hb0.below hb
  replace hp0 := hp0.below hb
  replace hF0 := hF0.more (lo' := v2.heap.size) (hi' := v3.heap.size) (by simp) (Nat.le_refl _)
  clear hb
  clear hp0
  clear hb0_0 hb0_1 hb0_l
  obtain ⟨hb0_0, hb0_1⟩ := hb0.cells2
  have hb0_l := hb0.lt
  -- region 6
  go_wp2_with fail
  refine (toPuzzle_own k0 A0 n0 c0 x0 _ (by exact h0.below ht) HX0.out (by omega)).mono ?_
  rintro e v4 ⟨gx0, rfl, hgx0, hwx0, hb⟩
  have hz4 : v3.heap.size ≤ v4.heap.size := by have := hb.size; simpa using this
  replace ht := below_then ht hb ht.size
  replace hb0 := hb0.below hb
  replace hF0 := hF0.below hb
  have hx0 := Fresh.of_whole (lo := v3.heap.size) (hi := v4.heap.size) hwx0 (by simpa using hgx0) hwx0.lt
  clear hgx0 hwx0
  clear hb
  have hx90 := Whole.fresh v4 37 #[.int .i64 k0, .slice (some ⟨gx0, 0, none⟩) n0 n0]
  replace ht := ht.alloc ht.size (.cells #[.int .i64 k0, .slice (some ⟨gx0, 0, none⟩) n0 n0] 37)
  replace hb0 := hb0.alloc (.cells #[.int .i64 k0, .slice (some ⟨gx0, 0, none⟩) n0 n0] 37)
  replace hF0 := hF0.alloc (.cells #[.int .i64 k0, .slice (some ⟨gx0, 0, none⟩) n0 n0] 37)
  replace hx0 := hx0.alloc (.cells #[.int .i64 k0, .slice (some ⟨gx0, 0, none⟩) n0 n0] 37)
  clear hb0_0 hb0_1 hb0_l
  obtain ⟨hb0_0, hb0_1⟩ := hb0.cells2
  have hb0_l := hb0.lt
  obtain ⟨hx90_0, hx90_1⟩ := hx90.cells2
  have hx90_l := hx90.lt
  -- region 7
  go_wp2_with fail
  refine (implNeedlessClues_any k0 _ _ n0 _ x0 _ (by exact hx0.holds) HX0.out (by omega) (Nat.le_refl _) (by omega)).mono ?_
  rintro e v5 ⟨B1, q1, rfl, hF1, hb⟩
  have hz5 : v4.heap.size + 1 ≤ v5.heap.size := by have := hb.size; simpa using this
  replace ht := below_then ht hb ht.size
  replace hb0 := hb0.below hb
  replace hF0 := hF0.below hb
  replace hx0 := hx0.below hb
  replace hx90 := hx90.below hb
  replace hF1 := hF1.more (lo' := v4.heap.size + 1) (hi' := v5.heap.size) (by simp) (Nat.le_refl _)
  clear hb
  clear hb0_0 hb0_1 hb0_l hx90_0 hx90_1 hx90_l
  obtain ⟨hb0_0, hb0_1⟩ := hb0.cells2
  have hb0_l := hb0.lt
  obtain ⟨hx90_0, hx90_1⟩ := hx90.cells2
  have hx90_l := hx90.lt
  -- region 8
  go_wp2_with fail
  refine (eqIntS_yes B1 B0 ((needAll k0 x0)).length q1 q0 ((needAll k0 x0)) _ (by exact hF1.holds) (by exact hF0.holds) rfl (by omega)).mono ?_
  rintro e v6 ⟨rfl, hb⟩
  have hz6 : v5.heap.size ≤ v6.heap.size := by have := hb.size; simpa using this
  replace ht := below_then ht hb ht.size
  replace hb0 := hb0.below hb
  replace hF0 := hF0.below hb
  replace hx0 := hx0.below hb
  replace hx90 := hx90.below hb
  replace hF1 := hF1.below hb
  clear hb
  clear hb0_0 hb0_1 hb0_l hx90_0 hx90_1 hx90_l
  obtain ⟨hb0_0, hb0_1⟩ := hb0.cells2
  have hb0_l := hb0.lt
  obtain ⟨hx90_0, hx90_1⟩ := hx90.cells2
  have hx90_l := hx90.lt
  -- region 10
  clear hb0_0 hb0_1 hb0_l hx90_0 hx90_1 hx90_l
  go_wp2_with fail
  refine wp_region_held_drew (S := (fun w' => w'.cell? ⟨w.heap.size, 0, none⟩ = some (.int .i64 k0) ∧ w'.cell? ⟨w.heap.size, 1, none⟩ = some (.slice A0 n0 c0) ∧ w'.cell? ⟨v4.heap.size, 0, none⟩ = some (.int .i64 k0) ∧ w'.cell? ⟨v4.heap.size, 1, none⟩ = some (.slice (some ⟨gx0, 0, none⟩) n0 n0))) (by kernel_rfl) ⟨hb0.drew.cell 0, hb0.drew.cell 1, hx90.drew.cell 0, hx90.drew.cell 1⟩ (fun hHeld => ?_)
  replace ht := ht.drew
  replace hb0 := hb0.drew
  replace hF0 := hF0.drew
  replace hx0 := hx0.drew
  replace hx90 := hx90.drew
  replace hF1 := hF1.drew
  refine wpAnyH_take (i := 0) (v := ?_) rfl (by kernel_rfl) (by kernel_rfl) (by kernel_rfl) (fun _ _ _ h => h) (Or.inl ⟨rfl, ?_⟩) hHeld ?_
  rotate_left
  · intro w' hS; obtain ⟨s0, s1, s2, s3⟩ := hS; go_simp <;> with_reducible rfl
  simp only [Act.put, List.getElem_toArray, List.getElem_cons_succ, List.getElem_cons_zero, List.setIfInBounds_toArray, List.set_cons_succ, List.set_cons_zero]
  refine wpAnyH_take (i := 1) (v := ?_) rfl (by kernel_rfl) (by kernel_rfl) (by kernel_rfl) (fun _ _ _ h => h) (Or.inl ⟨rfl, ?_⟩) hHeld ?_
  rotate_left
  · intro w' hS; obtain ⟨s0, s1, s2, s3⟩ := hS; go_simp <;> with_reducible rfl
  simp only [Act.put, List.getElem_toArray, List.getElem_cons_succ, List.getElem_cons_zero, List.setIfInBounds_toArray, List.set_cons_succ, List.set_cons_zero]
  refine wpAnyH_ready (rs := [2]) (by kernel_rfl) (by simp) (AllReadyH.cons rfl (fun K hK => ?_) AllReadyH.nil)
  go_simp
  refine (toPuzzle_own k0 A0 n0 c0 x0 _ (by exact h0.below ht) HX0.out (by omega)).mono ?_
  rintro e v7 ⟨gy0, rfl, hgy0, hwy0, hb⟩
  have hz7 : v6.heap.size ≤ v7.heap.size := by have := hb.size; simpa using this
  replace ht := below_then ht hb ht.size
  replace hb0 := hb0.below hb
  replace hF0 := hF0.below hb
  replace hx0 := hx0.below hb
  replace hx90 := hx90.below hb
  replace hF1 := hF1.below hb
  have hy0 := Fresh.of_whole (lo := v6.heap.size) (hi := v7.heap.size) hwy0 (by simpa using hgy0) hwy0.lt
  clear hgy0 hwy0
  clear hb
  refine hK.out _ _ ⟨hb0.cell 0, hb0.cell 1, hx90.cell 0, hx90.cell 1⟩ (fun hHeld => ?_)
  clear hK K
  try simp only [Act.put, List.getElem_toArray, List.getElem_cons_succ, List.getElem_cons_zero, List.setIfInBounds_toArray, List.set_cons_succ, List.set_cons_zero]
  refine wpAnyH_ready (rs := [3]) (by kernel_rfl) (by simp) (AllReadyH.cons rfl (fun K hK => ?_) AllReadyH.nil)
  go_simp
  refine (eqPuzzle_yes _ _ n0 _ _ x0 k0 _ (by exact hx0.holds) (by exact hy0.holds) HX0.out (by omega)).mono ?_
  rintro e v8 ⟨rfl, hb⟩
  have hz8 : v7.heap.size ≤ v8.heap.size := by have := hb.size; simpa using this
  replace ht := below_then ht hb ht.size
  replace hb0 := hb0.below hb
  replace hF0 := hF0.below hb
  replace hx0 := hx0.below hb
  replace hx90 := hx90.below hb
  replace hF1 := hF1.below hb
  replace hy0 := hy0.below hb
  clear hb
  clear hy0
  refine hK.out _ _ ⟨hb0.cell 0, hb0.cell 1, hx90.cell 0, hx90.cell 1⟩ (fun hHeld => ?_)
  clear hK K
  try simp only [Act.put, List.getElem_toArray, List.getElem_cons_succ, List.getElem_cons_zero, List.setIfInBounds_toArray, List.set_cons_succ, List.set_cons_zero]
  refine wpAnyH_take (i := 4) (v := ?_) rfl (by kernel_rfl) (by kernel_rfl) (by kernel_rfl) (fun _ _ _ h => h) (Or.inl ⟨rfl, ?_⟩) hHeld ?_
  rotate_left
  · intro w' hS; obtain ⟨s0, s1, s2, s3⟩ := hS; go_simp <;> with_reducible rfl
  simp only [Act.put, List.getElem_toArray, List.getElem_cons_succ, List.getElem_cons_zero, List.setIfInBounds_toArray, List.set_cons_succ, List.set_cons_zero]
  refine wpAnyH_done (by kernel_rfl) ?_ _
  clear hHeld
  obtain ⟨hb0_0, hb0_1⟩ := hb0.cells2
  have hb0_l := hb0.lt
  obtain ⟨hx90_0, hx90_1⟩ := hx90.cells2
  have hx90_l := hx90.lt
  -- region 13
  go_wp2_with fail
  refine (markPuzzle_any k0 (some ⟨gx0, 0, none⟩) n0 n0 _ _ x0 (1) _ hx0 HX0.out (by omega) (by omega) (by omega)).mono ?_
  rintro e v9 ⟨rfl, hs, -⟩
  have hsz := ht.size
  replace ht := hs.below ht (by omega) hsz
  replace hb0 := hs.whole hb0 (by omega)
  replace hF0 := hs.fresh hF0 (by omega)
  replace hF1 := hs.fresh hF1 (by omega)
  clear hs hsz hx0 hx90
  have hk_1 : (0 : Int) ≤ 1 + ((n0 * 3 : Nat) : Int) := by omega
  clear hb0_0 hb0_1 hb0_l hx90_0 hx90_1 hx90_l
  obtain ⟨hb0_0, hb0_1⟩ := hb0.cells2
  have hb0_l := hb0.lt
  -- region 14
  go_wp2_with fail
  refine (eqIntS_yes B1 B0 ((needAll k0 x0)).length q1 q0 ((needAll k0 x0)) _ (by exact hF1.holds) (by exact hF0.holds) rfl (by omega)).mono ?_
  rintro e v10 ⟨rfl, hb⟩
  have hz10 : v9.heap.size ≤ v10.heap.size := by have := hb.size; simpa using this
  replace ht := below_then ht hb ht.size
  replace hb0 := hb0.below hb
  replace hF0 := hF0.below hb
  replace hF1 := hF1.below hb
  clear hb
  clear hb0_0 hb0_1 hb0_l
  obtain ⟨hb0_0, hb0_1⟩ := hb0.cells2
  have hb0_l := hb0.lt
  -- region 17
  go_wp2_with fail
  refine (markIntS_any B1 ((needAll k0 x0)).length q1 _ _ _ 1 _ hF1 (by rw [nums_len]) (by omega) (by omega) hlen).mono ?_
  rintro e v11 ⟨rfl, hs, hM⟩
  have hsz := ht.size
  replace ht := hs.below ht (by omega) hsz
  replace hb0 := hs.whole hb0 (by omega)
  replace hF0 := hs.fresh hF0 (by omega)
  clear hs hF1 hsz
  clear hb0_0 hb0_1 hb0_l
  obtain ⟨hb0_0, hb0_1⟩ := hb0.cells2
  have hb0_l := hb0.lt
  -- region 19
  go_wp2_with fail
  refine (heldIntS_any B1 ((needAll k0 x0)).length q1 1 _ (by exact hM.holds) (by omega) (by omega) hlen).mono ?_
  rintro e v12 ⟨rfl, rfl⟩
  have hm0 : (0 : Int) ≤ 1 + (((needAll k0 x0)).length : Int) := by omega
  clear hb0_0 hb0_1 hb0_l
  obtain ⟨hb0_0, hb0_1⟩ := hb0.cells2
  have hb0_l := hb0.lt
  -- region 24
  go_wp2_with fail
  refine (toPuzzle_own k0 A0 n0 c0 x0 _ (by exact h0.below ht) HX0.out (by omega)).mono ?_
  rintro e v12 ⟨gr0, rfl, hgr0, hwr0, hb⟩
  have hz12 : v11.heap.size ≤ v12.heap.size := by have := hb.size; simpa using this
  replace ht := below_then ht hb ht.size
  replace hb0 := hb0.below hb
  replace hF0 := hF0.below hb
  replace hM := hM.below hb
  have hr0 := Fresh.of_whole (lo := v11.heap.size) (hi := v12.heap.size) hwr0 (by simpa using hgr0) hwr0.lt
  clear hgr0 hwr0
  clear hb
  clear hb0_0 hb0_1 hb0_l
  obtain ⟨hb0_0, hb0_1⟩ := hb0.cells2
  have hb0_l := hb0.lt
  go_wp2_with fail
  refine (implNeedlessClues_any k0 _ _ n0 _ x0 _ (by exact hr0.holds) HX0.out (by omega) (Nat.le_refl _) (by omega)).mono ?_
  rintro e v13 ⟨B2, q2, rfl, hF2, hb⟩
  have hz13 : v12.heap.size ≤ v13.heap.size := by have := hb.size; simpa using this
  replace ht := below_then ht hb ht.size
  replace hb0 := hb0.below hb
  replace hF0 := hF0.below hb
  replace hM := hM.below hb
  replace hr0 := hr0.below hb
  replace hF2 := hF2.more (lo' := v12.heap.size) (hi' := v13.heap.size) (by simp) (Nat.le_refl _)
  clear hb
  clear hr0
  clear hb0_0 hb0_1 hb0_l
  obtain ⟨hb0_0, hb0_1⟩ := hb0.cells2
  have hb0_l := hb0.lt
  -- region 25
  go_wp2_with fail
  refine (eqIntS_yes B2 B0 ((needAll k0 x0)).length q2 q0 ((needAll k0 x0)) _ (by exact hF2.holds) (by exact hF0.holds) rfl (by omega)).mono ?_
  rintro e v14 ⟨rfl, hb⟩
  have hz14 : v13.heap.size ≤ v14.heap.size := by have := hb.size; simpa using this
  replace ht := below_then ht hb ht.size
  replace hb0 := hb0.below hb
  replace hF0 := hF0.below hb
  replace hM := hM.below hb
  replace hF2 := hF2.below hb
  clear hb
  clear hb0_0 hb0_1 hb0_l
  obtain ⟨hb0_0, hb0_1⟩ := hb0.cells2
  have hb0_l := hb0.lt
  -- region 28
  go_wp2_with fail
  refine (heldIntS_any B1 ((needAll k0 x0)).length q1 1 _ (by exact hM.holds) (by omega) (by omega) hlen).mono ?_
  rintro e v15 ⟨rfl, rfl⟩
  clear hb0_0 hb0_1 hb0_l
  obtain ⟨hb0_0, hb0_1⟩ := hb0.cells2
  have hb0_l := hb0.lt
  go_wp2
  go_ret
  exact ⟨rfl, ht⟩

theorem lawNeedlessClues_all (k0 : Int) (A0 : Option Addr) (n0 c0 : Nat) (x0 : List Cl) (w : World) (h0 : Holds w A0 (clsC x0)) (hx0 : x0.length = n0) (hn0 : n0 ≤ 9223372036854775807) :
    Calls Try.prog 6 #[.agg #[.int .i64 k0, .slice A0 n0 c0]] w fun e w' => e = .returned (.bool true) ∧ Below w.heap.size w w' := by
  rcases (inferInstance : Decidable (0 ≤ 1048576 - (n0 : Int))) with g0 | g0
  · exact lawNeedlessClues_big0 k0 A0 n0 c0 x0 w h0 hx0 hn0  (by omega)
  exact lawNeedlessClues_small k0 A0 n0 c0 x0 w h0 hx0 hn0 g0
end Go.Proofs.Ytgojakcepbdajaa
