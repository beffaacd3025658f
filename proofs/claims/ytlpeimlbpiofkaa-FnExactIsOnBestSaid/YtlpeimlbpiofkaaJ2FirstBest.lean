/-
  What is proved: the contract of the program's takeSoonest over places: it takes out those that wait for the least time. Conditions: something waits; all times lie from 0 to 2^40.
  What is proved: plain facts on what rides lead to, told as cells of a list. Conditions: none.
  What is proved: the contract of the closure of onwardBy: where the rides lead from a place, each with its time. Conditions: at most eight people; the lists are rising ones of people.
  What is proved: the contract of the model's seFar: the least time from a state to each, by their numbers. Conditions: at most eight people, at most eight seats; each person's time is from 1 to 1000.
  What is proved: the contract of the model's seLeast: the least time of a plan. Conditions: at most eight people, at most eight seats; each person's time is from 1 to 1000.
  What is proved: the contract of the program's leastTimes over places from one place: it tells the least times. Conditions: the rides are rising lists of at most eight people; each takes a time from 1 to 1000000.
-/
import Derived.Deep.LoopGhost
import Derived.Deep.AppendLies
import Derived.Test.YtlpeimlbpiofkaaJ1FirstBest
set_option linter.unusedSimpArgs false
set_option linter.unusedVariables false
namespace Go.Proofs.Ytlpeimlbpiofkaa
open Go.RowKit Go.Maps Go.WideShapes

theorem edgeC_get (k : Nat) : ∀ (L : List Nat) (j i : Nat) (hj : j < L.length), i < 9 → (edgeC k L)[j * 9 + i]? = (plcC k L[j]).toList[i]?
  | y :: L, 0, i, _, hi => by
    rw [edgeC_cons, show 0 * 9 + i = i by omega, List.getElem?_append_left (by simpa [plcC, place9] using hi)]
    rfl
  | y :: L, j + 1, i, hj, hi => by
    rw [edgeC_cons, List.getElem?_append_right (by simp [plcC, place9]; omega), show (j + 1) * 9 + i - (plcC k y).toList.length = j * 9 + i by simp [plcC, place9]; omega]
    exact edgeC_get k L j i (by simpa using hj) hi
theorem edgeC_len (k : Nat) (L : List Nat) : (edgeC k L).length = L.length * 9 := by
  induction L with
  | nil => rfl
  | cons y L ih => rw [edgeC_cons, List.length_append, ih]; simp [plcC, place9]; omega
theorem places_row {w : World} {lo c k : Nat} {A : Option Addr} {L : List Nat} (h : w.ownsRow lo 75 9 (.slice A L.length c) L.length (edgeC k L)) {j : Nat} (hj : j < L.length) :
    ∃ g, A = some ⟨g, 0, none⟩ ∧ lo ≤ g ∧ g < w.heap.size ∧ w.cell? ⟨g, j * 9, none⟩ = some (.bool (pf k L[j] 0)) ∧ w.cell? ⟨g, j * 9 + 1, none⟩ = some (.bool (pf k L[j] 1)) ∧ w.cell? ⟨g, j * 9 + 2, none⟩ = some (.bool (pf k L[j] 2)) ∧ w.cell? ⟨g, j * 9 + 3, none⟩ = some (.bool (pf k L[j] 3)) ∧ w.cell? ⟨g, j * 9 + 4, none⟩ = some (.bool (pf k L[j] 4)) ∧ w.cell? ⟨g, j * 9 + 5, none⟩ = some (.bool (pf k L[j] 5)) ∧ w.cell? ⟨g, j * 9 + 6, none⟩ = some (.bool (pf k L[j] 6)) ∧ w.cell? ⟨g, j * 9 + 7, none⟩ = some (.bool (pf k L[j] 7)) ∧ w.cell? ⟨g, j * 9 + 8, none⟩ = some (.bool (pt L[j])) := by
  have hx := h
  obtain ⟨-, ⟨-, h0⟩ | ⟨g, cap, cur, hv, hlo, hh, -⟩⟩ := hx
  · omega
  · obtain ⟨rfl, rfl⟩ : A = some ⟨g, 0, none⟩ ∧ c = cap := by simpa using hv
    have hg : g < w.heap.size := (Array.getElem?_eq_some_iff.1 hh).1
    have hc : ∀ i, i < 9 → w.cell? ⟨g, j * 9 + i, none⟩ = (plcC k L[j]).toList[i]? := fun i hi => (h.cellAt (j * 9 + i) (by omega)).trans (edgeC_get k L j i hj hi)
    exact ⟨g, rfl, hlo, hg, hc 0 (by omega), hc 1 (by omega), hc 2 (by omega), hc 3 (by omega), hc 4 (by omega), hc 5 (by omega), hc 6 (by omega), hc 7 (by omega), hc 8 (by omega)⟩
theorem own_cut0 {w : World} {lo size c n : Nat} {e : TypeId} {A : Option Addr} {xs : List Value} (h : w.ownsRow lo e size (.slice A n c) n xs) : w.ownsRow lo e size (.slice A 0 c) 0 [] := by
  obtain ⟨-, ⟨hv, h0⟩ | ⟨g, cap, cur, hv, hlo, hh, hnc, hcm, hsz, -⟩⟩ := h
  · cases hv
    exact ⟨by simp, .inl ⟨rfl, rfl⟩⟩
  · cases hv
    exact ⟨by simp, .inr ⟨g, c, cur, rfl, hlo, hh, Nat.zero_le _, hcm, hsz, by simp⟩⟩
theorem own_parts {w : World} {lo size c n : Nat} {e : TypeId} {A : Option Addr} {xs : List Value} (h : w.ownsRow lo e size (.slice A n c) n xs) : n ≤ c ∧ c ≤ 9223372036854775807 := by
  obtain ⟨-, ⟨hv, h0⟩ | ⟨g, cap, cur, hv, hlo, hh, hnc, hcm, -⟩⟩ := h
  · cases hv
    exact ⟨Nat.le_refl _, by omega⟩
  · cases hv
    unfold maxLen at hcm
    exact ⟨hnc, by omega⟩

/-- What holds but at some keys. -/
def gone (L : List Nat) (M : Nat → Option Int) : Nat → Option Int := fun x => if x ∈ L then none else M x
theorem gone_nil (M : Nat → Option Int) : gone [] M = M := by funext x; simp [gone]
theorem gone_next {L : List Nat} {M : Nat → Option Int} {j : Nat} (h : j < L.length) : del (gone (L.take j) M) L[j] = gone (L.take (j + 1)) M := by
  have hm : ∀ x, x ∈ L.take (j + 1) ↔ x ∈ L.take j ∨ x = L[j] := fun x => by rw [List.take_succ_eq_append_getElem h, List.mem_append, List.mem_singleton]
  funext x
  by_cases e : x = L[j]
  · subst e
    rw [del_same, gone, if_pos ((hm _).2 (.inr rfl))]
  · rw [del_other _ e, gone, gone]
    by_cases hx : x ∈ L.take j
    · rw [if_pos hx, if_pos ((hm _).2 (.inl hx))]
    · rw [if_neg hx, if_neg (fun hh => ((hm _).1 hh).elim hx e)]
theorem own_grown {w w' : World} {base size n : Nat} {e : TypeId} {v : Value} {xs : List Value} {row : Option Nat} (h : w.ownsRow base e size v n xs) (hg : w.grownBy w' row) (hne : ∀ g, base ≤ g → some g ≠ row) : w'.ownsRow base e size v n xs := by
  obtain ⟨hl, h | ⟨g, cap, cur, hv, hb, hh, r⟩⟩ := h
  · exact ⟨hl, .inl h⟩
  · exact ⟨hl, .inr ⟨g, cap, cur, hv, hb, (hg.block g (Array.getElem?_eq_some_iff.1 hh).1 (hne g hb)).trans hh, r⟩⟩
theorem own_shapeP {w : World} {base size : Nat} {e : TypeId} {v : Value} {n : Nat} {xs : List Value} (h : w.ownsRow base e size v n xs) : ∃ (A : Option Addr) (c : Nat), v = .slice A n c := by
  obtain ⟨-, ⟨rfl, rfl⟩ | ⟨g, cap, cur, rfl, -⟩⟩ := h
  · exact ⟨_, _, rfl⟩
  · exact ⟨_, _, rfl⟩
abbrev PlaceMap (w : World) (b : Nat) (M : Nat → Option Int) : Prop := MapIs Try.prog 75 3 (plcL 4) (sts 4) w b M
abbrev PlaceRange (w : World) (b r : Nat) (M : Nat → Option Int) (left : Nat → Bool) : Prop := RangeIs Try.prog 75 3 (plcL 4) (sts 4) w b r M left
/-- What takeSoonest hands back. -/
def SoonPost (b : Nat) (M : Nat → Option Int) (w : World) (e : Ending) (w' : World) : Prop :=
  ∃ (L : List Nat) (m : Int) (A : Option Addr) (c : Nat), e = .returned (.tuple #[.slice A L.length c, .int .i64 m]) ∧ SoonEnd M L m ∧ PlaceMap w' b (gone L M) ∧ w'.ownsRow (w.heap.size + 1) 75 9 (.slice A L.length c) L.length (edgeC 4 L) ∧ w.grownBy w' (some b)

set_option maxHeartbeats 6400000 in
set_option maxRecDepth 100000 in
set_option linter.unusedSimpArgs false in
theorem takeSoonest_any (b : Nat) (M : Nat → Option Int) (w : World) (hM : PlaceMap w b M) (hpos : ∀ x c, M x = some c → 0 ≤ c ∧ c ≤ 1099511627776) (hne : ∃ x c, M x = some c) :
    Calls Try.prog 141 #[.map (some b)] w (SoonPost b M w) := by
  obtain ⟨i0, hi, hz0, hz1, hz2⟩ := info_parts info_place
  have HI := Lib.hid hi
  have HZ0 := Lib.hid hz0
  have HZ1 := Lib.hid hz1
  have HZ2 := Lib.hid hz2
  have HP := Lib.hid hpos
  have HNE := Lib.hid hne
  have hbl := hM.lt
  have HDOM : Hid (∀ x, M x ≠ none → x ∈ sts 4) := fun x hx => hM.out hx
  clear hi hz0 hz1 hz2 hpos hne
  go_enter Try.func141, Try.ntmps141
  go_wp2_with (first
    | (at_range; refine wpList_map_range _ rfl _ rfl (place_keys (by omega)) Try.underlying76 rfl hM ?_; intro w0 hrg0 hg0 hs0)
    | fail)
  go_frame
  have HR0 := Lib.hid hrg0
  have HG0 := Lib.hid hg0
  clear hrg0 hg0
  go_loopw [4, 5] (fun v i wr => ∃ (left : Nat → Bool) (L : List Nat) (m : Int) (A : Option Addr) (c : Nat), v = .slice A L.length c ∧ i = .int .i64 m ∧ SoonSt M left L m ∧ PlaceRange wr b w.heap.size M left ∧ wr.ownsRow (w.heap.size + 1) 75 9 (.slice A L.length c) L.length (edgeC 4 L) ∧ w.grownBy wr none ∧ w.heap.size + 1 ≤ wr.heap.size)
    (fun _ _ wr => wr.rangeLeft b w.heap.size)
  case atStart => exact ⟨_, [], -1, none, 0, rfl, rfl, soon_start M, HR0.out, World.ownsRow_nil _ _ _ _, HG0.out, by omega⟩
  case round =>
    clear HR0 HG0 hs0
    obtain ⟨left, L, m, A, c, rfl, rfl, hst, hrg, hown, hgw, hsz⟩ := hrel
    obtain ⟨wz, rfl⟩ : ∃ X : World, X = wr := ⟨_, rfl⟩
    have HST := Lib.hid hst
    have HRG := Lib.hid hrg
    have HOWN := Lib.hid hown
    have HGW := Lib.hid hgw
    have hlen : L.length ≤ 512 := by have h := soon_len hst HDOM.out; simpa [sts] using h
    have hlow := hst.low
    have hmc : m ≤ 1099511627776 := by
      cases hL : L with
      | nil => have := hst.nil hL; omega
      | cons y r => exact (HP.out y m (hst.mem y (by simp [hL])).1).2
    obtain ⟨hac, hcm⟩ := own_parts hown
    clear hst hown hgw
    go_wp2_with (first
      | (at_next; refine wpList_map_next _ rfl _ rfl (place_keys (by omega)) Try.underlying3 rfl hrg ?_ ?_)
      | fail)
    · intro hl0
      obtain ⟨x0, c0, hx0⟩ := HNE.out
      have HE := Lib.hid (soon_end HST.out hl0 hx0)
      have HM1 := Lib.hid HRG.out.map
      clear hx0 hrg hl0
      go_wp2
      go_loopw [36] (fun i wr => ∃ j : Nat, j ≤ L.length ∧ i = .int .i64 j ∧ PlaceMap wr b (gone (L.take j) M) ∧ wr.ownsRow (w.heap.size + 1) 75 9 (.slice A L.length c) L.length (edgeC 4 L) ∧ w.grownBy wr (some b) ∧ w.heap.size + 1 ≤ wr.heap.size) (fun i _ => L.length - (intOf i).toNat)
      case atStart => exact ⟨0, Nat.zero_le _, rfl, by rw [List.take_zero, gone_nil]; exact HM1.out, HOWN.out, HGW.out.but _, hsz⟩
      case round =>
        clear HM1
        obtain ⟨j, hj, rfl, hm, hown, hg, hz⟩ := hrel
        obtain ⟨wo, rfl⟩ : ∃ X : World, X = wr := ⟨_, rfl⟩
        by_cases hlt : j < L.length
        · have hd1 : decide ((j : Int) < (L.length : Int)) = true := by simp; omega
          obtain ⟨g, rfl, hlo, hgl, p0, p1, p2, p3, p4, p5, p6, p7, p8⟩ := places_row hown hlt
          have hxd : L[j] ∈ sts 4 := HDOM.out _ (by rw [(HE.out.mem _).1 (List.getElem_mem hlt)]; simp)
          have HN := Lib.hid (gone_next (M := M) hlt)
          obtain ⟨y, hy⟩ : ∃ y, L[j] = y := ⟨_, rfl⟩
          rw [hy] at p0 p1 p2 p3 p4 p5 p6 p7 p8 hxd HN
          have HMA := Lib.hid (hm.alloc (.cells #[.bool (pf 4 y 0), .bool (pf 4 y 1), .bool (pf 4 y 2), .bool (pf 4 y 3), .bool (pf 4 y 4), .bool (pf 4 y 5), .bool (pf 4 y 6), .bool (pf 4 y 7), .bool (pt y)] 75))
          have HOA := Lib.hid (hown.alloc (.cells #[.bool (pf 4 y 0), .bool (pf 4 y 1), .bool (pf 4 y 2), .bool (pf 4 y 3), .bool (pf 4 y 4), .bool (pf 4 y 5), .bool (pf 4 y 6), .bool (pf 4 y 7), .bool (pt y)] 75))
          have HGA := Lib.hid (hg.andThen (World.grownBy_alloc wo (.cells #[.bool (pf 4 y 0), .bool (pf 4 y 1), .bool (pf 4 y 2), .bool (pf 4 y 3), .bool (pf 4 y 4), .bool (pf 4 y 5), .bool (pf 4 y 6), .bool (pf 4 y 7), .bool (pt y)] 75) none) (fun j hj => by cases hj))
          obtain ⟨t0, t1, t2, t3, t4, t5, t6, t7, t8⟩ := nine0_of (show Whole (wo.alloc (.cells #[.bool (pf 4 y 0), .bool (pf 4 y 1), .bool (pf 4 y 2), .bool (pf 4 y 3), .bool (pf 4 y 4), .bool (pf 4 y 5), .bool (pf 4 y 6), .bool (pf 4 y 7), .bool (pt y)] 75)) wo.heap.size 75 (plcC 4 y) from Whole.fresh _ _ _)
          clear hy hm hown hg
          go_wp2_with (at_delete; refine wpList_map_delete _ rfl _ _ rfl (place_keys (by omega)) Try.underlying76 rfl HMA.out y hxd rfl ?_; intro w2 hm2 hg2; go_frame)
          have HM2 := Lib.hid (hm2.same HN.out)
          have HO2 := Lib.hid (own_grown HOA.out hg2 (fun g hg e => by have := Option.some.inj e; omega))
          have HG2 := Lib.hid (HGA.out.andThen hg2 (fun j hj => .inr hj))
          have hz2 : w.heap.size + 1 ≤ w2.heap.size := by have := hg2.size; simp at this; omega
          clear hm2 hg2 t0 t1 t2 t3 t4 t5 t6 t7 t8 p0 p1 p2 p3 p4 p5 p6 p7 p8
          go_roundw
          case rel => exact ⟨j + 1, by omega, by go_num, HM2.out, HO2.out, HG2.out, hz2⟩
          case measure => simp [intOf]; omega
        · obtain rfl : j = L.length := by omega
          have hd1 : decide ((L.length : Int) < (L.length : Int)) = false := by simp
          rw [List.take_length] at hm
          have HM2 := Lib.hid hm
          have HO2 := Lib.hid hown
          have HG2 := Lib.hid hg
          clear hm hown hg
          go_wp2
          go_ret2
          exact ⟨L, m, A, c, rfl, HE.out, HM2.out, HO2.out, HG2.out⟩
    · intro x c' w1 hxd hlx hMx hwc hrg1 hlt hg1 hs1 hen
      obtain ⟨hc0, hcB⟩ := HP.out x c' hMx
      have HLT := Lib.hid hlt
      have HO9 := Lib.hid (own_grown HOWN.out hg1 (fun g hg e => by have := Option.some.inj e; omega))
      obtain ⟨lf, hlf1, hlf2, HR1⟩ : ∃ lf : Nat → Bool, lf x = false ∧ (∀ z, z ≠ x → lf z = left z) ∧ Hid (PlaceRange w1 b w.heap.size M lf) := ⟨_, by simp, fun z hz => by simp [hz], Lib.hid hrg1⟩
      have HLF1 := Lib.hid hlf1
      have HLF2 := Lib.hid hlf2
      clear hlf1 hlf2
      have HGA := Lib.hid ((HGW.out.andThen hg1 (fun j hj => .inl (by have := Option.some.inj hj; omega))).andThen (World.grownBy_alloc w1 (.cells #[.bool (pf 4 x 0), .bool (pf 4 x 1), .bool (pf 4 x 2), .bool (pf 4 x 3), .bool (pf 4 x 4), .bool (pf 4 x 5), .bool (pf 4 x 6), .bool (pf 4 x 7), .bool (pt x)] 75) none) (fun j hj => by cases hj))
      have hz1 : w.heap.size + 1 ≤ w1.heap.size := by omega
      unfold plc plcC place9 at hen
      clear hlt hrg hrg1 hg1 hs1 HRG HOWN
      by_cases hn : m < 0 ∨ c' < m
      · have HN := Lib.hid (soon_new (left' := lf) HST.out hMx hc0 HLF1.out HLF2.out hn)
        have HO := Lib.hid (own_cut0 HO9.out)
        have hce : (c' == c') = true := by simp
        clear HO9
        rcases (show m < 0 ∨ (0 ≤ m ∧ c' < m) by omega) with hm0 | ⟨hm0, hm1⟩
        all_goals clear hn
        · have hd1 : decide (m < 0) = true := by simpa using hm0
          have hne9 := cells_new (w1.alloc (.cells #[.bool (pf 4 x 0), .bool (pf 4 x 1), .bool (pf 4 x 2), .bool (pf 4 x 3), .bool (pf 4 x 4), .bool (pf 4 x 5), .bool (pf 4 x 6), .bool (pf 4 x 7), .bool (pt x)] 75)) 75 #[.bool (pf 4 x 0), .bool (pf 4 x 1), .bool (pf 4 x 2), .bool (pf 4 x 3), .bool (pf 4 x 4), .bool (pf 4 x 5), .bool (pf 4 x 6), .bool (pf 4 x 7), .bool (pt x)]
          rw [World.size_alloc] at hne9
          have HNEW := Lib.hid hne9
          have HO1 := Lib.hid ((HO.out.alloc (.cells #[.bool (pf 4 x 0), .bool (pf 4 x 1), .bool (pf 4 x 2), .bool (pf 4 x 3), .bool (pf 4 x 4), .bool (pf 4 x 5), .bool (pf 4 x 6), .bool (pf 4 x 7), .bool (pt x)] 75)).alloc (.cells #[.bool (pf 4 x 0), .bool (pf 4 x 1), .bool (pf 4 x 2), .bool (pf 4 x 3), .bool (pf 4 x 4), .bool (pf 4 x 5), .bool (pf 4 x 6), .bool (pf 4 x 7), .bool (pt x)] 75))
          have HRR := Lib.hid ((HR1.out.kept (World.grownBy_alloc w1 (.cells #[.bool (pf 4 x 0), .bool (pf 4 x 1), .bool (pf 4 x 2), .bool (pf 4 x 3), .bool (pf 4 x 4), .bool (pf 4 x 5), .bool (pf 4 x 6), .bool (pf 4 x 7), .bool (pt x)] 75) none) (by simp) (by simp)).kept (World.grownBy_alloc _ (.cells #[.bool (pf 4 x 0), .bool (pf 4 x 1), .bool (pf 4 x 2), .bool (pf 4 x 3), .bool (pf 4 x 4), .bool (pf 4 x 5), .bool (pf 4 x 6), .bool (pf 4 x 7), .bool (pt x)] 75) none) (by simp) (by simp))
          have HRL : Hid (((w1.alloc (.cells #[.bool (pf 4 x 0), .bool (pf 4 x 1), .bool (pf 4 x 2), .bool (pf 4 x 3), .bool (pf 4 x 4), .bool (pf 4 x 5), .bool (pf 4 x 6), .bool (pf 4 x 7), .bool (pt x)] 75)).alloc (.cells #[.bool (pf 4 x 0), .bool (pf 4 x 1), .bool (pf 4 x 2), .bool (pf 4 x 3), .bool (pf 4 x 4), .bool (pf 4 x 5), .bool (pf 4 x 6), .bool (pf 4 x 7), .bool (pt x)] 75)).rangeLeft b w.heap.size = w1.rangeLeft b w.heap.size) := ((HR1.out.kept (World.grownBy_alloc w1 (.cells #[.bool (pf 4 x 0), .bool (pf 4 x 1), .bool (pf 4 x 2), .bool (pf 4 x 3), .bool (pf 4 x 4), .bool (pf 4 x 5), .bool (pf 4 x 6), .bool (pf 4 x 7), .bool (pt x)] 75) none) (by simp) (by simp)).left_kept (World.grownBy_alloc _ (.cells #[.bool (pf 4 x 0), .bool (pf 4 x 1), .bool (pf 4 x 2), .bool (pf 4 x 3), .bool (pf 4 x 4), .bool (pf 4 x 5), .bool (pf 4 x 6), .bool (pf 4 x 7), .bool (pt x)] 75) none) (by simp) (by simp)).trans (HR1.out.left_kept (World.grownBy_alloc w1 (.cells #[.bool (pf 4 x 0), .bool (pf 4 x 1), .bool (pf 4 x 2), .bool (pf 4 x 3), .bool (pf 4 x 4), .bool (pf 4 x 5), .bool (pf 4 x 6), .bool (pf 4 x 7), .bool (pt x)] 75) none) (by simp) (by simp))
          have HG1 := Lib.hid (HGA.out.andThen (World.grownBy_alloc _ (.cells #[.bool (pf 4 x 0), .bool (pf 4 x 1), .bool (pf 4 x 2), .bool (pf 4 x 3), .bool (pf 4 x 4), .bool (pf 4 x 5), .bool (pf 4 x 6), .bool (pf 4 x 7), .bool (pt x)] 75) none) (fun j hj => by cases hj))
          have HMAX := Lib.hid (show 0 + 1 ≤ maxLen by unfold maxLen; omega)
          have HBYT := Lib.hid (show (0 + 1) * 9 ≤ 140737488355328 by omega)
          have HBASE := Lib.hid (show w.heap.size + 1 ≤ ((w1.alloc (.cells #[.bool (pf 4 x 0), .bool (pf 4 x 1), .bool (pf 4 x 2), .bool (pf 4 x 3), .bool (pf 4 x 4), .bool (pf 4 x 5), .bool (pf 4 x 6), .bool (pf 4 x 7), .bool (pt x)] 75)).alloc (.cells #[.bool (pf 4 x 0), .bool (pf 4 x 1), .bool (pf 4 x 2), .bool (pf 4 x 3), .bool (pf 4 x 4), .bool (pf 4 x 5), .bool (pf 4 x 6), .bool (pf 4 x 7), .bool (pt x)] 75)).heap.size by simp; omega)
          obtain ⟨t0, t1, t2, t3, t4, t5, t6, t7, t8⟩ := nine0_of (show Whole (w1.alloc (.cells #[.bool (pf 4 x 0), .bool (pf 4 x 1), .bool (pf 4 x 2), .bool (pf 4 x 3), .bool (pf 4 x 4), .bool (pf 4 x 5), .bool (pf 4 x 6), .bool (pf 4 x 7), .bool (pt x)] 75)) w1.heap.size 75 (plcC 4 x) from Whole.fresh _ _ _)
          clear hne9
          go_wp2_with (at_builtin; refine wpList_append_own _ rfl (.tmp 30) (.tmp 32) 105 rfl (w.heap.size + 1) 75 i0 (.agg #[.bool false, .bool false, .bool false, .bool false, .bool false, .bool false, .bool false, .bool false, .bool false]) 9 9 Try.underlying105 HI.out HZ0.out HZ1.out HZ2.out rfl (by decide) (.slice A 0 c) 0 [] rfl HO1.out ⟨w1.heap.size + 1, 0, none⟩ 1 1 [.bool (pf 4 x 0), .bool (pf 4 x 1), .bool (pf 4 x 2), .bool (pf 4 x 3), .bool (pf 4 x 4), .bool (pf 4 x 5), .bool (pf 4 x 6), .bool (pf 4 x 7), .bool (pt x)] rfl rfl HNEW.out (by simp [Value.oneCell']) HMAX.out HBYT.out HBASE.out ?_; intro v' w5 hown5 hg5 _)
          obtain ⟨A5, q5, rfl⟩ := own_shapeP hown5
          have hrow : ∀ y, (Value.slice A 0 c).ownBlock = some y → w.heap.size + 1 ≤ y := fun y hy => (HO1.out.lt y hy).1
          have HR5 := Lib.hid (HRR.out.kept hg5 (fun e => by have := hrow b e.symm; omega) (fun e => by have := hrow w.heap.size e.symm; omega))
          have HRL5 : Hid (w5.rangeLeft b w.heap.size = w1.rangeLeft b w.heap.size) := (HRR.out.left_kept hg5 (fun e => by have := hrow b e.symm; omega) (fun e => by have := hrow w.heap.size e.symm; omega)).trans HRL.out
          have HG5 := Lib.hid (HG1.out.andThen hg5 (fun j hj => .inl (by have := hrow j hj; omega)))
          have HO5 := Lib.hid hown5
          have hz5 : w.heap.size + 1 ≤ w5.heap.size := by have := hg5.size; have := HBASE.out; omega
          clear hown5 hg5 hrow t0 t1 t2 t3 t4 t5 t6 t7 t8
          go_roundw
          case rel => exact ⟨_, [x], c', A5, q5, rfl, rfl, HN.out, HR5.out, by simpa [edgeC, plcC, place9] using HO5.out, HG5.out, hz5⟩
          case measure => rw [HRL5.out]; exact HLT.out
        · have hd1 : decide (m < 0) = false := by simpa using hm0
          have hd2 : decide (c' < m) = true := by simpa using hm1
          have hne9 := cells_new (w1.alloc (.cells #[.bool (pf 4 x 0), .bool (pf 4 x 1), .bool (pf 4 x 2), .bool (pf 4 x 3), .bool (pf 4 x 4), .bool (pf 4 x 5), .bool (pf 4 x 6), .bool (pf 4 x 7), .bool (pt x)] 75)) 75 #[.bool (pf 4 x 0), .bool (pf 4 x 1), .bool (pf 4 x 2), .bool (pf 4 x 3), .bool (pf 4 x 4), .bool (pf 4 x 5), .bool (pf 4 x 6), .bool (pf 4 x 7), .bool (pt x)]
          rw [World.size_alloc] at hne9
          have HNEW := Lib.hid hne9
          have HO1 := Lib.hid ((HO.out.alloc (.cells #[.bool (pf 4 x 0), .bool (pf 4 x 1), .bool (pf 4 x 2), .bool (pf 4 x 3), .bool (pf 4 x 4), .bool (pf 4 x 5), .bool (pf 4 x 6), .bool (pf 4 x 7), .bool (pt x)] 75)).alloc (.cells #[.bool (pf 4 x 0), .bool (pf 4 x 1), .bool (pf 4 x 2), .bool (pf 4 x 3), .bool (pf 4 x 4), .bool (pf 4 x 5), .bool (pf 4 x 6), .bool (pf 4 x 7), .bool (pt x)] 75))
          have HRR := Lib.hid ((HR1.out.kept (World.grownBy_alloc w1 (.cells #[.bool (pf 4 x 0), .bool (pf 4 x 1), .bool (pf 4 x 2), .bool (pf 4 x 3), .bool (pf 4 x 4), .bool (pf 4 x 5), .bool (pf 4 x 6), .bool (pf 4 x 7), .bool (pt x)] 75) none) (by simp) (by simp)).kept (World.grownBy_alloc _ (.cells #[.bool (pf 4 x 0), .bool (pf 4 x 1), .bool (pf 4 x 2), .bool (pf 4 x 3), .bool (pf 4 x 4), .bool (pf 4 x 5), .bool (pf 4 x 6), .bool (pf 4 x 7), .bool (pt x)] 75) none) (by simp) (by simp))
          have HRL : Hid (((w1.alloc (.cells #[.bool (pf 4 x 0), .bool (pf 4 x 1), .bool (pf 4 x 2), .bool (pf 4 x 3), .bool (pf 4 x 4), .bool (pf 4 x 5), .bool (pf 4 x 6), .bool (pf 4 x 7), .bool (pt x)] 75)).alloc (.cells #[.bool (pf 4 x 0), .bool (pf 4 x 1), .bool (pf 4 x 2), .bool (pf 4 x 3), .bool (pf 4 x 4), .bool (pf 4 x 5), .bool (pf 4 x 6), .bool (pf 4 x 7), .bool (pt x)] 75)).rangeLeft b w.heap.size = w1.rangeLeft b w.heap.size) := ((HR1.out.kept (World.grownBy_alloc w1 (.cells #[.bool (pf 4 x 0), .bool (pf 4 x 1), .bool (pf 4 x 2), .bool (pf 4 x 3), .bool (pf 4 x 4), .bool (pf 4 x 5), .bool (pf 4 x 6), .bool (pf 4 x 7), .bool (pt x)] 75) none) (by simp) (by simp)).left_kept (World.grownBy_alloc _ (.cells #[.bool (pf 4 x 0), .bool (pf 4 x 1), .bool (pf 4 x 2), .bool (pf 4 x 3), .bool (pf 4 x 4), .bool (pf 4 x 5), .bool (pf 4 x 6), .bool (pf 4 x 7), .bool (pt x)] 75) none) (by simp) (by simp)).trans (HR1.out.left_kept (World.grownBy_alloc w1 (.cells #[.bool (pf 4 x 0), .bool (pf 4 x 1), .bool (pf 4 x 2), .bool (pf 4 x 3), .bool (pf 4 x 4), .bool (pf 4 x 5), .bool (pf 4 x 6), .bool (pf 4 x 7), .bool (pt x)] 75) none) (by simp) (by simp))
          have HG1 := Lib.hid (HGA.out.andThen (World.grownBy_alloc _ (.cells #[.bool (pf 4 x 0), .bool (pf 4 x 1), .bool (pf 4 x 2), .bool (pf 4 x 3), .bool (pf 4 x 4), .bool (pf 4 x 5), .bool (pf 4 x 6), .bool (pf 4 x 7), .bool (pt x)] 75) none) (fun j hj => by cases hj))
          have HMAX := Lib.hid (show 0 + 1 ≤ maxLen by unfold maxLen; omega)
          have HBYT := Lib.hid (show (0 + 1) * 9 ≤ 140737488355328 by omega)
          have HBASE := Lib.hid (show w.heap.size + 1 ≤ ((w1.alloc (.cells #[.bool (pf 4 x 0), .bool (pf 4 x 1), .bool (pf 4 x 2), .bool (pf 4 x 3), .bool (pf 4 x 4), .bool (pf 4 x 5), .bool (pf 4 x 6), .bool (pf 4 x 7), .bool (pt x)] 75)).alloc (.cells #[.bool (pf 4 x 0), .bool (pf 4 x 1), .bool (pf 4 x 2), .bool (pf 4 x 3), .bool (pf 4 x 4), .bool (pf 4 x 5), .bool (pf 4 x 6), .bool (pf 4 x 7), .bool (pt x)] 75)).heap.size by simp; omega)
          obtain ⟨t0, t1, t2, t3, t4, t5, t6, t7, t8⟩ := nine0_of (show Whole (w1.alloc (.cells #[.bool (pf 4 x 0), .bool (pf 4 x 1), .bool (pf 4 x 2), .bool (pf 4 x 3), .bool (pf 4 x 4), .bool (pf 4 x 5), .bool (pf 4 x 6), .bool (pf 4 x 7), .bool (pt x)] 75)) w1.heap.size 75 (plcC 4 x) from Whole.fresh _ _ _)
          clear hne9
          go_wp2_with (at_builtin; refine wpList_append_own _ rfl (.tmp 30) (.tmp 32) 105 rfl (w.heap.size + 1) 75 i0 (.agg #[.bool false, .bool false, .bool false, .bool false, .bool false, .bool false, .bool false, .bool false, .bool false]) 9 9 Try.underlying105 HI.out HZ0.out HZ1.out HZ2.out rfl (by decide) (.slice A 0 c) 0 [] rfl HO1.out ⟨w1.heap.size + 1, 0, none⟩ 1 1 [.bool (pf 4 x 0), .bool (pf 4 x 1), .bool (pf 4 x 2), .bool (pf 4 x 3), .bool (pf 4 x 4), .bool (pf 4 x 5), .bool (pf 4 x 6), .bool (pf 4 x 7), .bool (pt x)] rfl rfl HNEW.out (by simp [Value.oneCell']) HMAX.out HBYT.out HBASE.out ?_; intro v' w5 hown5 hg5 _)
          obtain ⟨A5, q5, rfl⟩ := own_shapeP hown5
          have hrow : ∀ y, (Value.slice A 0 c).ownBlock = some y → w.heap.size + 1 ≤ y := fun y hy => (HO1.out.lt y hy).1
          have HR5 := Lib.hid (HRR.out.kept hg5 (fun e => by have := hrow b e.symm; omega) (fun e => by have := hrow w.heap.size e.symm; omega))
          have HRL5 : Hid (w5.rangeLeft b w.heap.size = w1.rangeLeft b w.heap.size) := (HRR.out.left_kept hg5 (fun e => by have := hrow b e.symm; omega) (fun e => by have := hrow w.heap.size e.symm; omega)).trans HRL.out
          have HG5 := Lib.hid (HG1.out.andThen hg5 (fun j hj => .inl (by have := hrow j hj; omega)))
          have HO5 := Lib.hid hown5
          have hz5 : w.heap.size + 1 ≤ w5.heap.size := by have := hg5.size; have := HBASE.out; omega
          clear hown5 hg5 hrow t0 t1 t2 t3 t4 t5 t6 t7 t8
          go_roundw
          case rel => exact ⟨_, [x], c', A5, q5, rfl, rfl, HN.out, HR5.out, by simpa [edgeC, plcC, place9] using HO5.out, HG5.out, hz5⟩
          case measure => rw [HRL5.out]; exact HLT.out
      · have hm0 : 0 ≤ m := by omega
        have hd1 : decide (m < 0) = false := by simpa using hm0
        have hd2 : decide (c' < m) = false := by simp; omega
        by_cases he : c' = m
        · subst he
          have HN := Lib.hid (soon_more (left' := lf) HST.out hlx hMx hm0 HLF1.out HLF2.out)
          have HO := Lib.hid HO9.out
          have hce : (c' == c') = true := by simp
          clear HO9 hn
          have hne9 := cells_new (w1.alloc (.cells #[.bool (pf 4 x 0), .bool (pf 4 x 1), .bool (pf 4 x 2), .bool (pf 4 x 3), .bool (pf 4 x 4), .bool (pf 4 x 5), .bool (pf 4 x 6), .bool (pf 4 x 7), .bool (pt x)] 75)) 75 #[.bool (pf 4 x 0), .bool (pf 4 x 1), .bool (pf 4 x 2), .bool (pf 4 x 3), .bool (pf 4 x 4), .bool (pf 4 x 5), .bool (pf 4 x 6), .bool (pf 4 x 7), .bool (pt x)]
          rw [World.size_alloc] at hne9
          have HNEW := Lib.hid hne9
          have HO1 := Lib.hid ((HO.out.alloc (.cells #[.bool (pf 4 x 0), .bool (pf 4 x 1), .bool (pf 4 x 2), .bool (pf 4 x 3), .bool (pf 4 x 4), .bool (pf 4 x 5), .bool (pf 4 x 6), .bool (pf 4 x 7), .bool (pt x)] 75)).alloc (.cells #[.bool (pf 4 x 0), .bool (pf 4 x 1), .bool (pf 4 x 2), .bool (pf 4 x 3), .bool (pf 4 x 4), .bool (pf 4 x 5), .bool (pf 4 x 6), .bool (pf 4 x 7), .bool (pt x)] 75))
          have HRR := Lib.hid ((HR1.out.kept (World.grownBy_alloc w1 (.cells #[.bool (pf 4 x 0), .bool (pf 4 x 1), .bool (pf 4 x 2), .bool (pf 4 x 3), .bool (pf 4 x 4), .bool (pf 4 x 5), .bool (pf 4 x 6), .bool (pf 4 x 7), .bool (pt x)] 75) none) (by simp) (by simp)).kept (World.grownBy_alloc _ (.cells #[.bool (pf 4 x 0), .bool (pf 4 x 1), .bool (pf 4 x 2), .bool (pf 4 x 3), .bool (pf 4 x 4), .bool (pf 4 x 5), .bool (pf 4 x 6), .bool (pf 4 x 7), .bool (pt x)] 75) none) (by simp) (by simp))
          have HRL : Hid (((w1.alloc (.cells #[.bool (pf 4 x 0), .bool (pf 4 x 1), .bool (pf 4 x 2), .bool (pf 4 x 3), .bool (pf 4 x 4), .bool (pf 4 x 5), .bool (pf 4 x 6), .bool (pf 4 x 7), .bool (pt x)] 75)).alloc (.cells #[.bool (pf 4 x 0), .bool (pf 4 x 1), .bool (pf 4 x 2), .bool (pf 4 x 3), .bool (pf 4 x 4), .bool (pf 4 x 5), .bool (pf 4 x 6), .bool (pf 4 x 7), .bool (pt x)] 75)).rangeLeft b w.heap.size = w1.rangeLeft b w.heap.size) := ((HR1.out.kept (World.grownBy_alloc w1 (.cells #[.bool (pf 4 x 0), .bool (pf 4 x 1), .bool (pf 4 x 2), .bool (pf 4 x 3), .bool (pf 4 x 4), .bool (pf 4 x 5), .bool (pf 4 x 6), .bool (pf 4 x 7), .bool (pt x)] 75) none) (by simp) (by simp)).left_kept (World.grownBy_alloc _ (.cells #[.bool (pf 4 x 0), .bool (pf 4 x 1), .bool (pf 4 x 2), .bool (pf 4 x 3), .bool (pf 4 x 4), .bool (pf 4 x 5), .bool (pf 4 x 6), .bool (pf 4 x 7), .bool (pt x)] 75) none) (by simp) (by simp)).trans (HR1.out.left_kept (World.grownBy_alloc w1 (.cells #[.bool (pf 4 x 0), .bool (pf 4 x 1), .bool (pf 4 x 2), .bool (pf 4 x 3), .bool (pf 4 x 4), .bool (pf 4 x 5), .bool (pf 4 x 6), .bool (pf 4 x 7), .bool (pt x)] 75) none) (by simp) (by simp))
          have HG1 := Lib.hid (HGA.out.andThen (World.grownBy_alloc _ (.cells #[.bool (pf 4 x 0), .bool (pf 4 x 1), .bool (pf 4 x 2), .bool (pf 4 x 3), .bool (pf 4 x 4), .bool (pf 4 x 5), .bool (pf 4 x 6), .bool (pf 4 x 7), .bool (pt x)] 75) none) (fun j hj => by cases hj))
          have HMAX := Lib.hid (show L.length + 1 ≤ maxLen by unfold maxLen; omega)
          have HBYT := Lib.hid (show (L.length + 1) * 9 ≤ 140737488355328 by omega)
          have HBASE := Lib.hid (show w.heap.size + 1 ≤ ((w1.alloc (.cells #[.bool (pf 4 x 0), .bool (pf 4 x 1), .bool (pf 4 x 2), .bool (pf 4 x 3), .bool (pf 4 x 4), .bool (pf 4 x 5), .bool (pf 4 x 6), .bool (pf 4 x 7), .bool (pt x)] 75)).alloc (.cells #[.bool (pf 4 x 0), .bool (pf 4 x 1), .bool (pf 4 x 2), .bool (pf 4 x 3), .bool (pf 4 x 4), .bool (pf 4 x 5), .bool (pf 4 x 6), .bool (pf 4 x 7), .bool (pt x)] 75)).heap.size by simp; omega)
          obtain ⟨t0, t1, t2, t3, t4, t5, t6, t7, t8⟩ := nine0_of (show Whole (w1.alloc (.cells #[.bool (pf 4 x 0), .bool (pf 4 x 1), .bool (pf 4 x 2), .bool (pf 4 x 3), .bool (pf 4 x 4), .bool (pf 4 x 5), .bool (pf 4 x 6), .bool (pf 4 x 7), .bool (pt x)] 75)) w1.heap.size 75 (plcC 4 x) from Whole.fresh _ _ _)
          clear hne9
          go_wp2_with (at_builtin; refine wpList_append_own _ rfl (.tmp 30) (.tmp 32) 105 rfl (w.heap.size + 1) 75 i0 (.agg #[.bool false, .bool false, .bool false, .bool false, .bool false, .bool false, .bool false, .bool false, .bool false]) 9 9 Try.underlying105 HI.out HZ0.out HZ1.out HZ2.out rfl (by decide) (.slice A L.length c) L.length (edgeC 4 L) rfl HO1.out ⟨w1.heap.size + 1, 0, none⟩ 1 1 [.bool (pf 4 x 0), .bool (pf 4 x 1), .bool (pf 4 x 2), .bool (pf 4 x 3), .bool (pf 4 x 4), .bool (pf 4 x 5), .bool (pf 4 x 6), .bool (pf 4 x 7), .bool (pt x)] rfl rfl HNEW.out (by simp [Value.oneCell']) HMAX.out HBYT.out HBASE.out ?_; intro v' w5 hown5 hg5 _)
          obtain ⟨A5, q5, rfl⟩ := own_shapeP hown5
          have hrow : ∀ y, (Value.slice A L.length c).ownBlock = some y → w.heap.size + 1 ≤ y := fun y hy => (HO1.out.lt y hy).1
          have HR5 := Lib.hid (HRR.out.kept hg5 (fun e => by have := hrow b e.symm; omega) (fun e => by have := hrow w.heap.size e.symm; omega))
          have HRL5 : Hid (w5.rangeLeft b w.heap.size = w1.rangeLeft b w.heap.size) := (HRR.out.left_kept hg5 (fun e => by have := hrow b e.symm; omega) (fun e => by have := hrow w.heap.size e.symm; omega)).trans HRL.out
          have HG5 := Lib.hid (HG1.out.andThen hg5 (fun j hj => .inl (by have := hrow j hj; omega)))
          have HO5 := Lib.hid hown5
          have hz5 : w.heap.size + 1 ≤ w5.heap.size := by have := hg5.size; have := HBASE.out; omega
          clear hown5 hg5 hrow t0 t1 t2 t3 t4 t5 t6 t7 t8
          go_roundw
          case rel => exact ⟨_, L ++ [x], c', A5, q5, by rw [List.length_append]; rfl, rfl, HN.out, HR5.out, by rw [List.length_append, edgeC_snoc]; exact HO5.out, HG5.out, hz5⟩
          case measure => rw [HRL5.out]; exact HLT.out
        · have HN := Lib.hid (soon_skip (left' := lf) HST.out hlx hMx HLF1.out HLF2.out hm0 (by omega))
          have hce : (c' == m) = false := by simp; omega
          have HRR := Lib.hid (HR1.out.kept (World.grownBy_alloc w1 (.cells #[.bool (pf 4 x 0), .bool (pf 4 x 1), .bool (pf 4 x 2), .bool (pf 4 x 3), .bool (pf 4 x 4), .bool (pf 4 x 5), .bool (pf 4 x 6), .bool (pf 4 x 7), .bool (pt x)] 75) none) (by simp) (by simp))
          have HRL : Hid ((w1.alloc (.cells #[.bool (pf 4 x 0), .bool (pf 4 x 1), .bool (pf 4 x 2), .bool (pf 4 x 3), .bool (pf 4 x 4), .bool (pf 4 x 5), .bool (pf 4 x 6), .bool (pf 4 x 7), .bool (pt x)] 75)).rangeLeft b w.heap.size = w1.rangeLeft b w.heap.size) := HR1.out.left_kept (World.grownBy_alloc w1 (.cells #[.bool (pf 4 x 0), .bool (pf 4 x 1), .bool (pf 4 x 2), .bool (pf 4 x 3), .bool (pf 4 x 4), .bool (pf 4 x 5), .bool (pf 4 x 6), .bool (pf 4 x 7), .bool (pt x)] 75) none) (by simp) (by simp)
          have HO1 := Lib.hid (HO9.out.alloc (.cells #[.bool (pf 4 x 0), .bool (pf 4 x 1), .bool (pf 4 x 2), .bool (pf 4 x 3), .bool (pf 4 x 4), .bool (pf 4 x 5), .bool (pf 4 x 6), .bool (pf 4 x 7), .bool (pt x)] 75))
          clear HO9 he hn
          go_wp2
          go_roundw
          case rel => exact ⟨_, L, m, A, c, rfl, rfl, HN.out, HRR.out, HO1.out, HGA.out, by simp; omega⟩
          case measure => rw [HRL.out]; exact HLT.out
end Go.Proofs.Ytlpeimlbpiofkaa

namespace Go.Proofs.Ytlpeimlbpiofkaa
open Go.RowKit Go.Maps

/-- The cells of a place with a time. -/
def arrC (e : Nat × Int) : Array Value := #[.bool (pf 4 e.1 0), .bool (pf 4 e.1 1), .bool (pf 4 e.1 2), .bool (pf 4 e.1 3), .bool (pf 4 e.1 4), .bool (pf 4 e.1 5), .bool (pf 4 e.1 6), .bool (pf 4 e.1 7), .bool (pt e.1), .int .i64 e.2]
def arrsC (es : List (Nat × Int)) : List Value := es.flatMap fun e => (arrC e).toList
theorem arrsC_snoc (es : List (Nat × Int)) (e : Nat × Int) : arrsC (es ++ [e]) = arrsC es ++ (arrC e).toList := by simp [arrsC]
theorem arrsC_get : ∀ (es : List (Nat × Int)) (j i : Nat) (hj : j < es.length), i < 10 → (arrsC es)[j * 10 + i]? = (arrC es[j]).toList[i]?
  | e :: es, 0, i, _, hi => by
    rw [show arrsC (e :: es) = (arrC e).toList ++ arrsC es from rfl, show 0 * 10 + i = i by omega, List.getElem?_append_left (by simpa [arrC] using hi)]
    rfl
  | e :: es, j + 1, i, hj, hi => by
    rw [show arrsC (e :: es) = (arrC e).toList ++ arrsC es from rfl, List.getElem?_append_right (by simp [arrC]; omega), show (j + 1) * 10 + i - (arrC e).toList.length = j * 10 + i by simp [arrC]; omega]
    exact arrsC_get es j i (by simpa using hj) hi
theorem arr_row {w : World} {lo c : Nat} {A : Option Addr} {es : List (Nat × Int)} (h : w.ownsRow lo 168 10 (.slice A es.length c) es.length (arrsC es)) {j : Nat} (hj : j < es.length) :
    ∃ g, A = some ⟨g, 0, none⟩ ∧ lo ≤ g ∧ g < w.heap.size ∧ w.cell? ⟨g, j * 10, none⟩ = some (.bool (pf 4 es[j].1 0)) ∧ w.cell? ⟨g, j * 10 + 1, none⟩ = some (.bool (pf 4 es[j].1 1)) ∧ w.cell? ⟨g, j * 10 + 2, none⟩ = some (.bool (pf 4 es[j].1 2)) ∧ w.cell? ⟨g, j * 10 + 3, none⟩ = some (.bool (pf 4 es[j].1 3)) ∧ w.cell? ⟨g, j * 10 + 4, none⟩ = some (.bool (pf 4 es[j].1 4)) ∧ w.cell? ⟨g, j * 10 + 5, none⟩ = some (.bool (pf 4 es[j].1 5)) ∧ w.cell? ⟨g, j * 10 + 6, none⟩ = some (.bool (pf 4 es[j].1 6)) ∧ w.cell? ⟨g, j * 10 + 7, none⟩ = some (.bool (pf 4 es[j].1 7)) ∧ w.cell? ⟨g, j * 10 + 8, none⟩ = some (.bool (pt es[j].1)) ∧ w.cell? ⟨g, j * 10 + 9, none⟩ = some (.int .i64 es[j].2) := by
  have hx := h
  obtain ⟨-, ⟨-, h0⟩ | ⟨g, cap, cur, hv, hlo, hh, -⟩⟩ := hx
  · omega
  · obtain ⟨rfl, rfl⟩ : A = some ⟨g, 0, none⟩ ∧ c = cap := by simpa using hv
    have hg : g < w.heap.size := (Array.getElem?_eq_some_iff.1 hh).1
    have hc : ∀ i, i < 10 → w.cell? ⟨g, j * 10 + i, none⟩ = (arrC es[j]).toList[i]? := fun i hi => (h.cellAt (j * 10 + i) (by omega)).trans (arrsC_get es j i hj hi)
    exact ⟨g, rfl, hlo, hg, hc 0 (by omega), hc 1 (by omega), hc 2 (by omega), hc 3 (by omega), hc 4 (by omega), hc 5 (by omega), hc 6 (by omega), hc 7 (by omega), hc 8 (by omega), hc 9 (by omega)⟩
theorem info_arr : (Try.prog.info? 168).map (fun i => (i.zero, i.size, i.bytes)) = some (some (.agg #[.bool false, .bool false, .bool false, .bool false, .bool false, .bool false, .bool false, .bool false, .bool false, .int .i64 0]), 10, 24) := by kernel_rfl
/-- A closure's legs: what its box holds. -/
structure ArrFn (w : World) (T : List Int → Int) (gB lo : Nat) (E : Option Addr) (c : Nat) (Ls : List (List Int)) : Prop where
  box : Whole w gB 70 #[.slice E Ls.length c]
  own : w.ownsRow lo 89 9 (.slice E Ls.length c) Ls.length (legsCells T Ls)
theorem ArrFn.below {w w' : World} {T : List Int → Int} {gB lo : Nat} {E : Option Addr} {c : Nat} {Ls : List (List Int)} (h : ArrFn w T gB lo E c Ls) (hb : Below w.heap.size w w') : ArrFn w' T gB lo E c Ls := ⟨h.box.below hb, ownsRow_below h.own hb⟩
def arrFnV (gB : Nat) : Value := .func (.func 142) #[] #[.pointer (some ⟨gB, 0, none⟩)]
/-- What the closure hands back. -/
def ArrPost (es : List (Nat × Int)) (w : World) (e : Ending) (w' : World) : Prop :=
  ∃ (A : Option Addr) (c : Nat), e = .returned (.slice A es.length c) ∧ w'.ownsRow w.heap.size 168 10 (.slice A es.length c) es.length (arrsC es) ∧ Below w.heap.size w w'
end Go.Proofs.Ytlpeimlbpiofkaa

namespace Go.Proofs.Ytlpeimlbpiofkaa
open Go.RowKit Go.Maps

/-- What the closure's appending reads. -/
def MdT (g : Nat) (f : Nat → Bool) (tl : Int) (h : Nat) (f' : Nat → Bool) (t : Bool) (w : World) : Prop := Row8 g f w ∧ w.cell? ⟨g, 8, none⟩ = some (.int .i64 tl) ∧ Row8 h f' w ∧ w.cell? ⟨h, 8, none⟩ = some (.bool t)
/-- The cells of a leg. -/
def legC (f : Nat → Bool) (tl : Int) : Array Value := #[.bool (f 0), .bool (f 1), .bool (f 2), .bool (f 3), .bool (f 4), .bool (f 5), .bool (f 6), .bool (f 7), .int .i64 tl]
theorem mdt_of {w : World} {g h : Nat} {f f' : Nat → Bool} {tl : Int} {t : Bool} {y z : TypeId} (h1 : Whole w g y (legC f tl)) (h2 : Whole w h z (place9 f' t)) : MdT g f tl h f' t w := ⟨⟨h1.cell 0, h1.cell 1, h1.cell 2, h1.cell 3, h1.cell 4, h1.cell 5, h1.cell 6, h1.cell 7⟩, h1.cell 8, row8_of h2, h2.cell 8⟩
theorem arr_no {T : List Int → Int} {Ls : List (List Int)} {x j : Nat} (hj : j < Ls.length) (h : allAt (bitsOf (x / 2) (2 * 4)) (bitAt x 0) Ls[j] = false) : arrOf T 4 (Ls.take (j + 1)) x = arrOf T 4 (Ls.take j) x := by
  rw [arrOf, mvsW, rides_no hj h, arrOf, mvsW]
theorem arr_yes {T : List Int → Int} {Ls : List (List Int)} {x j : Nat} (hj : j < Ls.length) (h : allAt (bitsOf (x / 2) (2 * 4)) (bitAt x 0) Ls[j] = true) : arrOf T 4 (Ls.take (j + 1)) x = arrOf T 4 (Ls.take j) x ++ [(stepC x Ls[j], T Ls[j])] := by
  rw [arrOf, mvsW, rides_yes hj h, arrOf, mvsW, List.map_append]
  rfl
theorem arr_len (T : List Int → Int) (Ls : List (List Int)) (x j : Nat) : (arrOf T 4 (Ls.take j) x).length ≤ Ls.length := by
  rw [arrOf, List.length_map]
  have h := rides_len (bitsOf (x / 2) (2 * 4)) (bitAt x 0) (Ls.take j)
  have h2 : (Ls.take j).length ≤ Ls.length := by rw [List.length_take]; omega
  exact Nat.le_trans h h2

set_option maxHeartbeats 12800000 in
set_option maxRecDepth 100000 in
set_option linter.unusedSimpArgs false in
set_option linter.unusedVariables false in
theorem arrFn_any (T : List Int → Int) (gB lo : Nat) (E : Option Addr) (c : Nat) (Ls : List (List Int)) (x : Nat) (w : World) (hLs : Ls.length ≤ 255) (hup : ∀ l ∈ Ls, l ∈ upLists (2 * 4) (2 * 4)) (hx : x ∈ sts 4) (hF : ArrFn w T gB lo E c Ls) :
    Calls Try.prog 142 #[.agg (plcC 4 x), .pointer (some ⟨gB, 0, none⟩)] w (ArrPost (arrOf T 4 Ls x) w) := by
  obtain ⟨i0, hi, hz0, hz1, hz2⟩ := info_parts info_arr
  have HI := Lib.hid hi
  have HZ0 := Lib.hid hz0
  have HZ1 := Lib.hid hz1
  have HZ2 := Lib.hid hz2
  have HUP := Lib.hid hup
  have HXD := Lib.hid hx
  have H3 := Lib.hid (Whole.fresh w 75 (plcC 4 x))
  have HB := Lib.hid (below1 w (.cells (plcC 4 x) 75))
  have HF := Lib.hid hF
  have e0 := (hF.below HB.out).box.cells1
  clear hi hz0 hz1 hz2 hF hup hx
  unfold plcC place9 at e0
  unfold plcC place9
  go_enter Try.func142, Try.ntmps142
  go_wp2
  go_loopw [4, 9] (fun v i wr => ∃ (j : Nat) (Q : Option Addr) (r : Nat), j ≤ Ls.length ∧ i = .int .i64 j ∧ v = .slice Q (arrOf T 4 (Ls.take j) x).length r ∧ wr.ownsRow (w.heap.size + 1) 168 10 (.slice Q (arrOf T 4 (Ls.take j) x).length r) (arrOf T 4 (Ls.take j) x).length (arrsC (arrOf T 4 (Ls.take j) x)) ∧ Whole wr w.heap.size 75 (plcC 4 x) ∧ Below w.heap.size w wr) (fun _ i _ => Ls.length - (intOf i).toNat)
  case atStart => exact ⟨0, none, 0, Nat.zero_le _, rfl, rfl, World.ownsRow_nil _ _ _ _, H3.out, HB.out⟩
  case round =>
    clear H3 HB e0
    obtain ⟨j, Q, r, hj, rfl, rfl, hM, h3, ht⟩ := hrel
    by_cases hlt : j < Ls.length
    · have hd : decide ((j : Int) < (Ls.length : Int)) = true := by simp; omega
      have hFr := HF.out.below ht
      obtain ⟨gs, rfl, hgl, a0, a1, a2, a3, a4, a5, a6, a7, a8⟩ := legs_row hFr.own hlt
      have hst := up_steps (HUP.out _ (List.getElem_mem hlt))
      have HST := Lib.hid hst.1
      have HOUT : Hid (∀ i, (bitsOf (x / 2) (2 * 4)).length ≤ i → has Ls[j] i = false) := fun i hi => has_out hst.1 (by rw [bitsOf_len] at hi; omega)
      have hrl := arr_len T Ls x j
      have HPC : Hid (placeCells (bitsOf (x / 2) (2 * 4)) (bitAt x 0) = plcC 4 x) := rfl
      have HNO := fun h => Lib.hid (arr_no (T := T) (x := x) hlt h)
      have HYES := fun h => Lib.hid (arr_yes (T := T) (x := x) hlt h)
      have hwl := h3.lt
      have hw0 : w.heap.size + 1 ≤ wr.heap.size := hwl
      obtain ⟨p0, p1, p2, p3, p4, p5, p6, p7, p8⟩ := nine0_of h3
      have HOL : Hid (∀ q, (Value.slice Q (arrOf T 4 (Ls.take j) x).length r).ownBlock = some q → w.heap.size + 1 ≤ q ∧ q < wr.heap.size) := fun q hq => hM.lt q hq
      clear hst hFr
      obtain ⟨tl, htl⟩ : ∃ tl, T Ls[j] = tl := ⟨_, rfl⟩
      rw [htl] at a8
      have HTL := Lib.hid htl
      clear htl
      cases ha : allAt (bitsOf (x / 2) (2 * 4)) (bitAt x 0) Ls[j]
      · have HN := HNO ha
        have HA := Lib.hid ha
        have HM0 := Lib.hid hM
        have HT0 := Lib.hid ht
        have H30 := Lib.hid h3
        clear HNO HYES ha hM ht h3
        obtain ⟨l, hl⟩ : ∃ l, Ls[j] = l := ⟨_, rfl⟩
        rw [hl] at a0 a1 a2 a3 a4 a5 a6 a7 HST HA
        clear hl HTL HOUT
        go_wp2_with fail
        have hh := holds_any (2 * 4) (bitsOf (x / 2) (2 * 4)) l (bitAt x 0) (wr.alloc (.cells (legC (has l) tl) 89)) HST.out (by omega)
        rw [HPC.out, crowd8] at hh
        unfold plcC place9 cells8 at hh
        refine hh.mono ?_
        clear hh
        rintro e w5 ⟨rfl, hb⟩
        rw [HA.out]
        have hba := below_then (below1 wr (.cells (legC (has l) tl) 89)) hb (by simp)
        have HM := Lib.hid (ownsRow_below HM0.out hba)
        have ht := Lib.hid (below_then HT0.out hba HT0.out.size)
        have H3 := Lib.hid (H30.out.below hba)
        clear hb hba a0 a1 a2 a3 a4 a5 a6 a7 a8 p0 p1 p2 p3 p4 p5 p6 p7 p8 hwl hgl
        go_wp2
        go_roundw
        case rel => exact ⟨j + 1, Q, r, by omega, by go_num, by rw [HN.out], by rw [HN.out]; exact HM.out, H3.out, ht.out⟩
        case measure => simp [intOf]; omega
      · have HRN0 := HYES ha
        have HA := Lib.hid ha
        clear HNO HYES ha
        obtain ⟨l, hl⟩ : ∃ l, Ls[j] = l := ⟨_, rfl⟩
        have hst2 := (plcW_step (L := Ls) HUP.out HXD.out (show Ls[j] ∈ mvsW 4 Ls x from List.mem_filter.2 ⟨List.getElem_mem hlt, HA.out⟩)).1
        rw [hl] at a0 a1 a2 a3 a4 a5 a6 a7 HST HA HOUT HTL hst2
        obtain ⟨y, hy⟩ : ∃ y, stepC x l = y := ⟨_, rfl⟩
        rw [hy] at hst2
        have HPF : Hid (placeCells (flipped (bitsOf (x / 2) (2 * 4)) l) (!bitAt x 0) = plcC 4 y) := hst2
        have HRN : Hid (arrOf T 4 (Ls.take (j + 1)) x = arrOf T 4 (Ls.take j) x ++ [(y, tl)]) := by show _ = _; rw [HRN0.out, hl, hy, HTL.out]
        have HMC : Hid ((arrC (y, tl)).toList = [.bool (pf 4 y 0), .bool (pf 4 y 1), .bool (pf 4 y 2), .bool (pf 4 y 3), .bool (pf 4 y 4), .bool (pf 4 y 5), .bool (pf 4 y 6), .bool (pf 4 y 7), .bool (pt y), .int .i64 tl]) := rfl
        obtain ⟨na, hna⟩ : ∃ na, (arrOf T 4 (Ls.take j) x).length = na := ⟨_, rfl⟩
        have HNA := Lib.hid hna
        rw [hna] at hM hrl HOL ⊢
        clear hst2 hl hy HRN0 HTL hna
        have hx1 := Whole.fresh wr 89 (legC (has l) tl)
        have hp1 := h3.alloc (.cells (legC (has l) tl) 89)
        have ht1 := ht.alloc ht.size (.cells (legC (has l) tl) 89)
        have hO1 := hM.alloc (.cells (legC (has l) tl) 89)
        go_wp2_with fail
        have hh := holds_any (2 * 4) (bitsOf (x / 2) (2 * 4)) l (bitAt x 0) (wr.alloc (.cells (legC (has l) tl) 89)) HST.out (by omega)
        rw [HPC.out, crowd8] at hh
        unfold plcC place9 cells8 at hh
        refine hh.mono ?_
        clear hh
        rintro e w5 ⟨rfl, hb⟩
        rw [HA.out]
        have hz5 : wr.heap.size + 1 ≤ w5.heap.size := by have := hb.size; simpa using this
        replace hx1 := hx1.below hb
        replace hp1 := hp1.below hb
        replace ht1 := below_then ht1 hb ht1.size
        replace hO1 := ownsRow_below hO1 hb
        clear hb a0 a1 a2 a3 a4 a5 a6 a7 a8 p0 p1 p2 p3 p4 p5 p6 p7 p8 hwl hgl ht h3 hM
        have HMAX := Lib.hid (show na + 1 ≤ maxLen by unfold maxLen; omega)
        have HBYT := Lib.hid (show (na + 1) * 24 ≤ 140737488355328 by omega)
        go_wp2_with fail
        refine wp_region_held_drew (S := (MdT wr.heap.size (has l) tl w.heap.size (pf 4 x) (pt x))) (by kernel_rfl) (mdt_of hx1.drew hp1.drew) (fun hHeld => ?_)
        replace hx1 := hx1.drew
        replace hp1 := hp1.drew
        replace ht1 := ht1.drew
        have hzd : (World.drew w5).heap.size = w5.heap.size := rfl
        replace hO1 : (World.drew w5).ownsRow (w.heap.size + 1) 168 10 (.slice Q na r) na (arrsC (arrOf T 4 (Ls.take j) x)) := hO1
        generalize World.drew w5 = wd at hx1 hp1 ht1 hO1 hzd hHeld ⊢
        refine wpAnyH_take (i := 0) (v := ?_) rfl (by kernel_rfl) (by kernel_rfl) (by kernel_rfl) (fun _ _ _ h => h) (Or.inl ⟨rfl, ?_⟩) hHeld ?_
        rotate_left
        · intro w' hS; obtain ⟨⟨a0, a1, a2, a3, a4, a5, a6, a7⟩, a8, ⟨b0, b1, b2, b3, b4, b5, b6, b7⟩, b8⟩ := hS; go_simp <;> with_reducible rfl
        simp only [Act.put, List.getElem_toArray, List.getElem_cons_succ, List.getElem_cons_zero, List.setIfInBounds_toArray, List.set_cons_succ, List.set_cons_zero]
        refine wpAnyH_take (i := 1) (v := ?_) rfl (by kernel_rfl) (by kernel_rfl) (by kernel_rfl) (fun _ _ _ h => h) (Or.inl ⟨rfl, ?_⟩) hHeld ?_
        rotate_left
        · intro w' hS; obtain ⟨⟨a0, a1, a2, a3, a4, a5, a6, a7⟩, a8, ⟨b0, b1, b2, b3, b4, b5, b6, b7⟩, b8⟩ := hS; go_simp <;> with_reducible rfl
        simp only [Act.put, List.getElem_toArray, List.getElem_cons_succ, List.getElem_cons_zero, List.setIfInBounds_toArray, List.set_cons_succ, List.set_cons_zero]
        refine wpAnyH_take (i := 2) (v := ?_) rfl (by kernel_rfl) (by kernel_rfl) (by kernel_rfl) (fun _ _ _ h => h) (Or.inl ⟨rfl, ?_⟩) hHeld ?_
        rotate_left
        · intro w' hS; obtain ⟨⟨a0, a1, a2, a3, a4, a5, a6, a7⟩, a8, ⟨b0, b1, b2, b3, b4, b5, b6, b7⟩, b8⟩ := hS; go_simp <;> with_reducible rfl
        simp only [Act.put, List.getElem_toArray, List.getElem_cons_succ, List.getElem_cons_zero, List.setIfInBounds_toArray, List.set_cons_succ, List.set_cons_zero]
        refine wpAnyH_take (i := 3) (v := ?_) rfl (by kernel_rfl) (by kernel_rfl) (by kernel_rfl) (fun _ _ _ h => h) (Or.inl ⟨rfl, ?_⟩) hHeld ?_
        rotate_left
        · intro w' hS; obtain ⟨⟨a0, a1, a2, a3, a4, a5, a6, a7⟩, a8, ⟨b0, b1, b2, b3, b4, b5, b6, b7⟩, b8⟩ := hS; go_simp <;> with_reducible rfl
        simp only [Act.put, List.getElem_toArray, List.getElem_cons_succ, List.getElem_cons_zero, List.setIfInBounds_toArray, List.set_cons_succ, List.set_cons_zero]
        refine wpAnyH_take (i := 5) (v := ?_) rfl (by kernel_rfl) (by kernel_rfl) (by kernel_rfl) (fun _ _ _ h => h) (Or.inl ⟨rfl, ?_⟩) hHeld ?_
        rotate_left
        · intro w' hS; obtain ⟨⟨a0, a1, a2, a3, a4, a5, a6, a7⟩, a8, ⟨b0, b1, b2, b3, b4, b5, b6, b7⟩, b8⟩ := hS; go_simp <;> with_reducible rfl
        simp only [Act.put, List.getElem_toArray, List.getElem_cons_succ, List.getElem_cons_zero, List.setIfInBounds_toArray, List.set_cons_succ, List.set_cons_zero]
        refine wpAnyH_take (i := 6) (v := ?_) rfl (by kernel_rfl) (by kernel_rfl) (by kernel_rfl) (fun _ _ _ h => h) (Or.inl ⟨rfl, ?_⟩) hHeld ?_
        rotate_left
        · intro w' hS; obtain ⟨⟨a0, a1, a2, a3, a4, a5, a6, a7⟩, a8, ⟨b0, b1, b2, b3, b4, b5, b6, b7⟩, b8⟩ := hS; go_simp <;> with_reducible rfl
        simp only [Act.put, List.getElem_toArray, List.getElem_cons_succ, List.getElem_cons_zero, List.setIfInBounds_toArray, List.set_cons_succ, List.set_cons_zero]
        refine wpAnyH_ready (rs := [4]) (by kernel_rfl) (by simp) (AllReadyH.cons rfl (fun K hK => ?_) AllReadyH.nil)
        go_simp
        have hx := cross_any (bitsOf (x / 2) (2 * 4)) l (bitAt x 0) wd HOUT.out
        rw [HPF.out, HPC.out, crowd8] at hx
        unfold plcC place9 cells8 at hx
        refine hx.mono ?_
        clear hx
        rintro e w7 ⟨rfl, hb⟩
        have hz7 := hb.size
        replace hp1 := hp1.below hb
        replace hx1 := hx1.below hb
        replace ht1 := below_then ht1 hb ht1.size
        replace hO1 := ownsRow_below hO1 hb
        clear hb
        refine hK.out _ _ (mdt_of hx1 hp1) (fun hHeld => ?_)
        clear hK K
        try simp only [Act.put, List.getElem_toArray, List.getElem_cons_succ, List.getElem_cons_zero, List.setIfInBounds_toArray, List.set_cons_succ, List.set_cons_zero]
        refine wpAnyH_take (i := 7) (v := ?_) rfl (by kernel_rfl) (by kernel_rfl) (by kernel_rfl) (fun _ _ _ h => h) (Or.inl ⟨rfl, ?_⟩) hHeld ?_
        rotate_left
        · intro w' hS; obtain ⟨⟨a0, a1, a2, a3, a4, a5, a6, a7⟩, a8, ⟨b0, b1, b2, b3, b4, b5, b6, b7⟩, b8⟩ := hS; go_simp <;> with_reducible rfl
        simp only [Act.put, List.getElem_toArray, List.getElem_cons_succ, List.getElem_cons_zero, List.setIfInBounds_toArray, List.set_cons_succ, List.set_cons_zero]
        refine wpAnyH_ready (rs := [8]) (by kernel_rfl) (by simp) (AllReadyH.cons rfl (fun K hK => ?_) AllReadyH.nil)
        go_simp
        have HNEW := Lib.hid (cells_new w7 168 #[.bool (pf 4 y 0), .bool (pf 4 y 1), .bool (pf 4 y 2), .bool (pf 4 y 3), .bool (pf 4 y 4), .bool (pf 4 y 5), .bool (pf 4 y 6), .bool (pf 4 y 7), .bool (pt y), .int .i64 tl])
        have HO6 := Lib.hid (hO1.alloc (.cells #[.bool (pf 4 y 0), .bool (pf 4 y 1), .bool (pf 4 y 2), .bool (pf 4 y 3), .bool (pf 4 y 4), .bool (pf 4 y 5), .bool (pf 4 y 6), .bool (pf 4 y 7), .bool (pt y), .int .i64 tl] 168))
        have hx2 := hx1.alloc (.cells #[.bool (pf 4 y 0), .bool (pf 4 y 1), .bool (pf 4 y 2), .bool (pf 4 y 3), .bool (pf 4 y 4), .bool (pf 4 y 5), .bool (pf 4 y 6), .bool (pf 4 y 7), .bool (pt y), .int .i64 tl] 168)
        have hp2 := hp1.alloc (.cells #[.bool (pf 4 y 0), .bool (pf 4 y 1), .bool (pf 4 y 2), .bool (pf 4 y 3), .bool (pf 4 y 4), .bool (pf 4 y 5), .bool (pf 4 y 6), .bool (pf 4 y 7), .bool (pt y), .int .i64 tl] 168)
        have ht2 := ht1.alloc ht1.size (.cells #[.bool (pf 4 y 0), .bool (pf 4 y 1), .bool (pf 4 y 2), .bool (pf 4 y 3), .bool (pf 4 y 4), .bool (pf 4 y 5), .bool (pf 4 y 6), .bool (pf 4 y 7), .bool (pt y), .int .i64 tl] 168)
        refine hK.out _ _ (mdt_of hx2 hp2) (fun hHeld => ?_)
        clear hK K
        try simp only [Act.put, List.getElem_toArray, List.getElem_cons_succ, List.getElem_cons_zero, List.setIfInBounds_toArray, List.set_cons_succ, List.set_cons_zero]
        refine wpAnyH_ready (rs := [9]) (by kernel_rfl) (by simp) (AllReadyH.cons rfl (fun K hK => ?_) AllReadyH.nil)
        have HBASE := Lib.hid (show w.heap.size + 1 ≤ (w7.alloc (.cells #[.bool (pf 4 y 0), .bool (pf 4 y 1), .bool (pf 4 y 2), .bool (pf 4 y 3), .bool (pf 4 y 4), .bool (pf 4 y 5), .bool (pf 4 y 6), .bool (pf 4 y 7), .bool (pt y), .int .i64 tl] 168)).heap.size by simp; omega)
        refine step_append_lies _ rfl (.tmp 17) (.tmp 25) 166 rfl (w.heap.size + 1) 168 i0 (.agg #[.bool false, .bool false, .bool false, .bool false, .bool false, .bool false, .bool false, .bool false, .bool false, .int .i64 0]) 10 24 Try.underlying166 HI.out HZ0.out HZ1.out HZ2.out rfl (by decide) (.slice Q na r) na (arrsC (arrOf T 4 (Ls.take j) x)) (by simp [Act.eval]) HO6.out ⟨w7.heap.size, 0, none⟩ 1 1 [.bool (pf 4 y 0), .bool (pf 4 y 1), .bool (pf 4 y 2), .bool (pf 4 y 3), .bool (pf 4 y 4), .bool (pf 4 y 5), .bool (pf 4 y 6), .bool (pf 4 y 7), .bool (pt y), .int .i64 tl] (by simp [Act.eval]) rfl HNEW.out (by simp [Value.oneCell']) (by decide) HMAX.out HBYT.out HBASE.out (w7.heap.size + 1) (by simp) ?_
        intro g3 c3 w8 hown3 hg3 hat3 hlt3
        have hrr : ∀ q, (Value.slice Q na r).ownBlock = some q → w.heap.size + 1 ≤ q ∧ q < wr.heap.size := HOL.out
        have q7 := whole_apart hx2 hg3 (fun e => absurd (hrr _ e.symm).2 (by omega))
        have q3 := whole_apart hp2 hg3 (fun e => absurd (hrr _ e.symm).1 (by omega))
        have hbt := Below.grown ht2 hg3 (by have := ht1.size; simp; omega) (fun q hq => by have := (hrr q hq).1; omega)
        have P2 := Lib.hid hown3
        have P3 := Lib.hid q3
        have P4 := Lib.hid hbt
        clear hown3 hg3 hat3 hlt3 hbt hrr
        refine hK.out _ _ (mdt_of q7 q3) (fun hHeld => ?_)
        clear hK K
        try simp only [Act.put, List.getElem_toArray, List.getElem_cons_succ, List.getElem_cons_zero, List.setIfInBounds_toArray, List.set_cons_succ, List.set_cons_zero]
        refine wpAnyH_take (i := 10) (v := ?_) rfl (by kernel_rfl) (by kernel_rfl) (by kernel_rfl) (fun _ _ _ h => h) (Or.inl ⟨rfl, ?_⟩) hHeld ?_
        rotate_left
        · intro w' hS; obtain ⟨⟨a0, a1, a2, a3, a4, a5, a6, a7⟩, a8, ⟨b0, b1, b2, b3, b4, b5, b6, b7⟩, b8⟩ := hS; go_simp <;> with_reducible rfl
        simp only [Act.put, List.getElem_toArray, List.getElem_cons_succ, List.getElem_cons_zero, List.setIfInBounds_toArray, List.set_cons_succ, List.set_cons_zero]
        refine wpAnyH_done (by kernel_rfl) ?_ _
        clear hHeld
        go_wp2
        go_roundw
        case rel => exact ⟨j + 1, some ⟨g3, 0, none⟩, c3, by omega, by go_num, by rw [HRN.out, List.length_append, HNA.out]; rfl, by rw [HRN.out, List.length_append, HNA.out, arrsC_snoc, HMC.out]; exact P2.out, P3.out, P4.out⟩
        case measure => simp [intOf]; omega
    · obtain rfl : j = Ls.length := by omega
      have hd : decide ((Ls.length : Int) < (Ls.length : Int)) = false := by simp
      rw [List.take_length] at hM ⊢
      have HM := Lib.hid hM
      have HT := Lib.hid ht
      clear hM ht
      go_wp2
      go_ret
      exact ⟨Q, r, rfl, own_lower HM.out (by omega), HT.out⟩
end Go.Proofs.Ytlpeimlbpiofkaa

namespace Go.Proofs.Ytlpeimlbpiofkaa
open Go.RowKit

theorem make_intsF {z : Nat} (hz : z ≤ 512) (W : World) : (Instr.makeSlice 22 (.int .i64 (z : Int)) (.int .i64 (z : Int))).run Try.prog W = .ok (.slice (some ⟨W.heap.size, 0, none⟩) z z) (W.alloc (.cells (nums (List.replicate z 0)).toArray 3)) := by
  obtain ⟨i0, hi, hz0, hz1, hz2⟩ := info_parts info_int
  have h := run_make (P := Try.prog) W 22 3 i0 _ Try.underlying22 hi hz0 .i64 .i64 ((z : Nat) : Int) ((z : Nat) : Int) (by omega) (by omega) (by rw [hz2]; omega) (by omega)
  simp only [Int.toNat_natCast, hz1, made_zeros] at h
  rw [h]
theorem make_boolsF {z : Nat} (hz : z ≤ 512) (W : World) : (Instr.makeSlice 38 (.int .i64 (z : Int)) (.int .i64 (z : Int))).run Try.prog W = .ok (.slice (some ⟨W.heap.size, 0, none⟩) z z) (W.alloc (.cells (bits (falses z)).toArray 4)) := by
  obtain ⟨i0, hi, hz0, hz1, hz2⟩ := info_parts info_bool
  have h := run_make (P := Try.prog) W 38 4 i0 _ Try.underlying38 hi hz0 .i64 .i64 ((z : Nat) : Int) ((z : Nat) : Int) (by omega) (by omega) (by rw [hz2]; omega) (by omega)
  simp only [Int.toNat_natCast, hz1, made_falses] at h
  rw [h]
  rfl

theorem num_cellF {w : World} {g i : Nat} {t : TypeId} {F : List Int} {v : Int} (h : Whole w g t (nums F).toArray) (hi : i < F.length) (hv : F.getD i 0 = v) : w.cell? ⟨g, i, none⟩ = some (.int .i64 v) := by rw [h.cell, nums_at hi, hv]
theorem getD_m1 {o : List Int} {i : Nat} (h : i < o.length) : o.getD i 0 = o.getD i (-1) := by rw [List.getD_eq_getElem?_getD, List.getD_eq_getElem?_getD, List.getElem?_eq_getElem h]; rfl
theorem slow_boundF {xs l : List Int} (h1 : ∀ y ∈ xs, 1 ≤ y) (h2 : ∀ y ∈ xs, y ≤ 1000) : 0 ≤ slowOf xs l ∧ slowOf xs l ≤ 1000 := by
  have key : ∀ (f : List Int) (a : Int), 0 ≤ a → a ≤ 1000 → (∀ x ∈ f, x ≤ 1000) → 0 ≤ f.foldl max a ∧ f.foldl max a ≤ 1000 := by
    intro f
    induction f with
    | nil => exact fun a h0 h1 _ => ⟨h0, h1⟩
    | cons b f ih =>
      intro a h0 h1 hf
      have hb := hf b (List.mem_cons_self ..)
      exact ih (max a b) (by omega) (by omega) (fun x hx => hf x (List.mem_cons_of_mem _ hx))
  refine key _ 0 (Int.le_refl _) (by omega) (fun x hx => ?_)
  obtain ⟨k, -, rfl⟩ := List.mem_map.1 hx
  rw [List.getD_eq_getElem?_getD]
  cases hk : xs[k.toNat]? with
  | none => simp
  | some v => exact h2 v (List.mem_of_getElem? hk)
theorem below_spanF {lo hi : Nat} {a w w' : World} (h : Below a.heap.size a w) (hs : Span lo hi w w') (hl : a.heap.size ≤ lo) : Below a.heap.size a w' := hs.below h hl h.size
theorem span_setF (w : World) (b o : Nat) (u : Value) : Span b (b + 1) w (w.setCell ⟨b, o, none⟩ u) := by
  have h := below_set (Below.refl b w) (b := b) (o := o) (u := u) (Nat.le_refl _)
  refine ⟨h.os, h.tape, h.output, h.size, fun k hk hd => ?_⟩
  rcases hd with hd | hd
  · exact h.block k hd
  · exact Below.heap_setCell _ _ _ _ (by show k ≠ b; omega)
theorem own_partsF {w : World} {lo size c n : Nat} {e : TypeId} {A : Option Addr} {xs : List Value} (h : w.ownsRow lo e size (.slice A n c) n xs) : n ≤ 9223372036854775807 := by
  obtain ⟨-, ⟨hv, h0⟩ | ⟨g, cap, cur, hv, hlo, hh, hnc, hcm, -⟩⟩ := h
  · omega
  · unfold maxLen at hcm
    omega
theorem bits_setF (d : List Bool) (i : Nat) (v : Bool) : (bits d).toArray.setIfInBounds i (.bool v) = (bits (d.set i v)).toArray := by
  rw [List.setIfInBounds_toArray]
  congr 1
  simp [bits, List.map_set]
/-- What stands between two rounds: the two lists, the two boxes. -/
structure SeO (w wr : World) (cs ds : Array Value) (gF gD : Nat) (done : List Bool) (o : List Int) : Prop where
  far : Whole wr gF 3 (nums o).toArray
  don : Whole wr gD 4 (bits done).toArray
  cur : Whole wr w.heap.size 28 cs
  bel : Below w.heap.size w wr
  low : gD < wr.heap.size
/-- What seFar hands back. -/
def FarPost8 (xs : List Int) (s : Int) (n e : Nat) (w : World) (e' : Ending) (w' : World) : Prop :=
  ∃ (g : Nat) (done : List Bool) (o : List Int), e' = .returned (.slice (some ⟨g, 0, none⟩) o.length o.length) ∧ o.length = 2 ^ (n + 1) ∧ Whole w' g 3 (nums o).toArray ∧ Least (Leg xs n s) (stateS n e) (settledS n done o) ∧ (∀ i, i < 2 ^ (n + 1) → done.getD i false = false → o.getD i (-1) < 0) ∧ (∀ i, -1 ≤ o.getD i (-1) ∧ o.getD i (-1) ≤ 512000) ∧ w.heap.size ≤ g ∧ Below w.heap.size w w'

set_option maxHeartbeats 12800000 in
set_option maxRecDepth 100000 in
set_option linter.unusedVariables false in
set_option linter.unusedSimpArgs false in
theorem seFar_any (A B : Option Addr) (n c d q : Nat) (xs : List Int) (bs : List Bool) (t : Bool) (w : World) (hA : Holds w A (nums xs)) (hB : Holds w B (bits bs)) (hx : xs.length = n) (hy : bs.length = n) (h1 : 1 ≤ n) (hn : n ≤ 8) (hq : q ≤ 8) (hxs : ∀ y ∈ xs, 1 ≤ y ∧ y ≤ 1000) :
    Calls Try.prog 68 #[.agg #[.slice A n c, .int .i64 (q : Int)], .agg #[.slice B n d, .bool t]] w (FarPost8 xs q n (num bs t.toNat) w) := by
  have HX := Lib.hid hx
  have HY := Lib.hid hy
  have HXS := Lib.hid (fun y hy => (hxs y hy).1)
  have HXB := Lib.hid (fun y hy => (hxs y hy).2)
  have HA := Lib.hid hA
  have HB := Lib.hid hB
  have hc := (Whole.fresh w 28 #[.slice A n c, .int .i64 (q : Int)]).alloc (.cells #[.slice B n d, .bool t] 44)
  have hs := Whole.fresh (w.alloc (.cells #[.slice A n c, .int .i64 (q : Int)] 28)) 44 #[.slice B n d, .bool t]
  rw [World.size_alloc] at hs
  have ht := below2 w (.cells #[.slice A n c, .int .i64 (q : Int)] 28) (.cells #[.slice B n d, .bool t] 44)
  obtain ⟨c0, c1⟩ := hc.cells2
  have hcl := hc.lt
  obtain ⟨en, hen⟩ : ∃ en, en = num bs t.toNat := ⟨_, rfl⟩
  have HEN := Lib.hid hen
  rw [← HEN.out]
  obtain ⟨z, hz⟩ : ∃ z, z = 2 ^ (n + 1) := ⟨_, rfl⟩
  have hel : en < z := by
    have h := num_lt bs t
    rw [hy] at h
    rw [hen, hz]
    exact h
  have hz512 : z ≤ 512 := by rw [hz]; exact Nat.le_trans (Nat.pow_le_pow_right (by omega) (show n + 1 ≤ 9 by omega)) (by decide)
  have hzi : (2 * 2 ^ n : Int) = ((z : Nat) : Int) := by rw [hz, Nat.pow_succ]; push_cast; omega
  have hwr : IntKind.i64.wrap (2 * 2 ^ n) = ((z : Nat) : Int) := by rw [hzi]; exact IntWalk.i64_in _ (by omega)
  have hwr2 : IntKind.i64.wrap (2 ^ (n + 1)) = ((z : Nat) : Int) := by rw [← hwr, Int.pow_succ, Int.mul_comm]
  have HZ := Lib.hid hz
  clear hz hzi hx hy hxs hen hA hB
  have hmk := make_intsF (z := z) hz512 ((w.alloc (.cells #[.slice A n c, .int .i64 (q : Int)] 28)).alloc (.cells #[.slice B n d, .bool t] 44))
  have hmk2 := fun W : World => make_intsF (z := z) hz512 W
  have hmkb := fun W : World => make_boolsF (z := z) hz512 W
  go_enter Try.func68, Try.ntmps68
  go_upto_region 3 with fail
  clear hmk hmk2 hmkb
  have f1 := (Whole.fresh ((w.alloc (.cells #[.slice A n c, .int .i64 (q : Int)] 28)).alloc (.cells #[.slice B n d, .bool t] 44)) 3 (nums (List.replicate z 0)).toArray).alloc (.cells (bits (falses z)).toArray 4)
  have f2 := Whole.fresh (((w.alloc (.cells #[.slice A n c, .int .i64 (q : Int)] 28)).alloc (.cells #[.slice B n d, .bool t] 44)).alloc (.cells (nums (List.replicate z 0)).toArray 3)) 4 (bits (falses z)).toArray
  have f3 := (hc.alloc (.cells (nums (List.replicate z 0)).toArray 3)).alloc (.cells (bits (falses z)).toArray 4)
  have f4 := (hs.alloc (.cells (nums (List.replicate z 0)).toArray 3)).alloc (.cells (bits (falses z)).toArray 4)
  have f5 := (ht.alloc ht.size (.cells (nums (List.replicate z 0)).toArray 3)).alloc (by simp; omega) (.cells (bits (falses z)).toArray 4)
  simp only [World.size_alloc] at f1 f2
  clear hc hs ht c0 c1 hcl
  generalize (((w.alloc (.cells #[.slice A n c, .int .i64 (q : Int)] 28)).alloc (.cells #[.slice B n d, .bool t] 44)).alloc (.cells (nums (List.replicate z 0)).toArray 3)).alloc (.cells (bits (falses z)).toArray 4) = w4 at f1 f2 f3 f4 f5 ⊢
  obtain ⟨gF, hgF⟩ : ∃ g, g = w.heap.size + 1 + 1 := ⟨_, rfl⟩
  obtain ⟨gD, hgD⟩ : ∃ g, g = w.heap.size + 1 + 1 + 1 := ⟨_, rfl⟩
  rw [← hgD] at f2 ⊢
  rw [← hgF] at f1 ⊢
  have hne : gF ≠ gD := by omega
  have hfd : gF < gD := by omega
  have hgf : w.heap.size + 1 < gF := by omega
  have hgd : w.heap.size + 1 < gD := by omega
  have H1 := Lib.hid f1
  have H2 := Lib.hid f2
  have H3 := Lib.hid f3
  have H4 := Lib.hid f4
  have H5 := Lib.hid f5
  clear f1 f2 f3 f4 f5 hgF hgD
  go_wp2
  go_loopw [26] (fun i wr => ∃ j : Nat, j ≤ z ∧ i = .int .i64 j ∧ Whole wr gF 3 (nums (negs z j)).toArray ∧ Whole wr w.heap.size 28 #[.slice A n c, .int .i64 (q : Int)] ∧ Whole wr (w.heap.size + 1) 44 #[.slice B n d, .bool t] ∧ Whole wr gD 4 (bits (falses z)).toArray ∧ Below w.heap.size w wr) (fun i _ => z - (intOf i).toNat)
  case atStart => exact ⟨0, Nat.zero_le _, rfl, by rw [negs_zero]; exact H1.out, H3.out, H4.out, H2.out, H5.out⟩
  case round =>
    clear H1 H2 H3 H4 H5
    obtain ⟨j, hj, rfl, hf, hcw, hsw, hd, ht⟩ := hrel
    obtain ⟨wo, rfl⟩ : ∃ W : World, W = wr := ⟨_, rfl⟩
    have hlF := hf.lt
    by_cases hlt : j < z
    · have hd1 : decide ((j : Int) < (z : Int)) = true := by simp; omega
      have hcell := (hf.cell j).trans (nums_at (by rw [negs_len]; exact hlt))
      have hfr := hf.open_ j
      have G1 := Lib.hid (show Whole (wo.setCell ⟨gF, j, none⟩ (.int .i64 (-1))) gF 3 (nums (negs z (j + 1))).toArray by have h := hf.set_ j (.int .i64 (-1)); rw [nums_set, negs_next] at h; exact h)
      have G3 := Lib.hid (hcw.off (b := gF) (o := j) (u := .int .i64 (-1)) (by omega))
      have G4 := Lib.hid (hsw.off (b := gF) (o := j) (u := .int .i64 (-1)) (by omega))
      have G5 := Lib.hid (hd.off (b := gF) (o := j) (u := .int .i64 (-1)) (fun e => hne e.symm))
      have G6 := Lib.hid (below_set (b := gF) (o := j) (u := .int .i64 (-1)) ht (by omega))
      clear hf hcw hsw hd ht
      go_wp2
      go_roundw
      case rel => exact ⟨j + 1, by omega, by go_num, G1.out, G3.out, G4.out, G5.out, G6.out⟩
      case measure => simp [intOf]; omega
    · obtain rfl : j = z := by omega
      have hd1 : decide ((j : Int) < (j : Int)) = false := by simp
      rw [negs_all] at hf
      obtain ⟨e0, e1, -, -⟩ := hsw.two
      have hls := hsw.lt
      go_wp2_with fail
      refine (seIndex_any B n d bs t wo (HB.out.below ht) HY.out hn).mono ?_
      rintro e w3 ⟨rfl, hb3⟩
      rw [← HEN.out]
      replace hf := hf.below hb3
      replace hcw := hcw.below hb3
      replace hd := hd.below hb3
      replace ht := below_then ht hb3 ht.size
      clear hb3 e0 e1 hls hsw
      have a0 := num_cellF (v := -1) hf (i := en) (by simpa using hel) (by simp [hel])
      have a1 := hf.open_ en
      have a4 := hf.lt
      have hf1 := hf.set_ en (.int .i64 0)
      rw [nums_set] at hf1
      have hdj : decide ((en : Int) < (j : Int)) = true := by simp; omega
      have hdl := hd.lt
      have HS0 : Hid (SeO w (World.setCell w3 ⟨gF, en, none⟩ (.int .i64 0)) #[.slice A n c, .int .i64 (q : Int)] #[] gF gD (falses j) ((List.replicate j (-1)).set en 0)) :=
        ⟨hf1, hd.off (fun e => hne e.symm), hcw.off (by omega), below_set ht (by omega), by simpa [World.setCell] using hdl⟩
      clear hf hcw hd ht hf1
      go_wp2
      go_loopg [8] j (fun gh v wr => ∃ (done : List Bool) (o : List Int), done.count true + gh = j ∧ SeTo xs q n en done o ∧ (∀ i, -1 ≤ o.getD i (-1) ∧ o.getD i (-1) ≤ 1000 * (done.count true : Nat)) ∧ SeO w wr #[.slice A n c, .int .i64 (q : Int)] #[] gF gD done o)
      case atStart =>
        refine ⟨falses j, _, by simp [falses, List.count_replicate], ?_, fun i => ?_, HS0.out⟩
        · have h := se_start (xs := xs) (s := (q : Int)) (n := n) (e := en) (by rw [← HZ.out]; exact hel)
          rw [← HZ.out] at h
          exact h
        · have h0 : (falses j).count true = 0 := by simp [falses, List.count_replicate]
          rw [h0]
          by_cases hi : en = i
          · subst hi
            rw [List.getD_eq_getElem?_getD, List.getElem?_set_self (by simpa using hel)]
            exact ⟨by decide, Int.le_refl _⟩
          · rw [List.getD_eq_getElem?_getD, List.getElem?_set_ne hi, List.getElem?_replicate]
            split <;> simp
      case round =>
        clear HS0 a0 a1 a4
        obtain ⟨done, o, hcn, hst, hbd, hS⟩ := hrel
        obtain ⟨wz, rfl⟩ : ∃ X : World, X = wr := ⟨_, rfl⟩
        have hdl : done.length = j := by rw [HZ.out]; exact hst.hd
        have hol : o.length = j := by rw [HZ.out]; exact hst.ho
        have HST := Lib.hid hst
        have HBD := Lib.hid hbd
        have HSS := Lib.hid hS
        have HCN := Lib.hid hcn
        have hfar := hS.far
        have hdon := hS.don
        clear hst hbd hS hcn
        go_wp2
        go_loop [8, 39] (fun a i => ∃ k : Nat, k ≤ j ∧ i = .int .i64 k ∧ a = .int .i64 (pickTo done o k)) (fun _ i => j - (intOf i).toNat)
        case atStart => exact ⟨0, Nat.zero_le _, rfl, rfl⟩
        case round =>
          obtain ⟨k, hk, rfl, rfl⟩ := hrel
          by_cases hlt : k < j
          · have hk1 : decide ((k : Int) < (j : Int)) = true := by simp; omega
            have hnx := pick_next done o k
            unfold pickStep at hnx
            have hpi := pick_is done o k
            have b0 := num_cellF (v := o.getD k 0) hfar (i := k) (by omega) rfl
            have hok2 : o.getD k 0 = o.getD k (-1) := by rw [List.getD_eq_getElem?_getD, List.getD_eq_getElem?_getD, List.getElem?_eq_getElem (show k < o.length by omega)]; rfl
            rw [hok2] at b0
            have b1 : wz.cell? ⟨gD, k, none⟩ = some (.bool (done.getD k false)) := by rw [hdon.cell k]; simp [bits, show k < done.length by omega]
            skip
            generalize o.getD k (-1) = v at b0 hnx
            generalize done.getD k false = dk at b1 hnx
            have hge : ∀ x : Int, decide (0 ≤ x) = true ↔ 0 ≤ x := fun x => by simp
            rcases hpi with ⟨hp, -⟩ | ⟨p, hp0, hp, -, hp3, -⟩
            · rw [hp] at hnx ⊢
              have HNX := Lib.hid hnx
              clear hnx hp
              cases dk
              · by_cases hv : 0 ≤ v
                · have hd0 : decide (0 ≤ v) = true := by simp [hv]
                  go_wp2
                  go_round
                  case rel => exact ⟨k + 1, by omega, by go_num, by rw [HNX.out, if_pos ⟨rfl, hv, .inl (by omega)⟩]⟩
                  case measure => simp [intOf]; omega
                · have hd0 : decide (0 ≤ v) = false := by simp; omega
                  go_wp2
                  go_round
                  case rel => exact ⟨k + 1, by omega, by go_num, by rw [HNX.out, if_neg (fun h => hv h.2.1)]⟩
                  case measure => simp [intOf]; omega
              · go_wp2
                go_round
                case rel => exact ⟨k + 1, by omega, by go_num, by rw [HNX.out, if_neg (fun h => by cases h.1)]⟩
                case measure => simp [intOf]; omega
            · have b2 := num_cellF (v := o.getD p 0) hfar (i := p) (by omega) rfl
              have hop2 : o.getD p 0 = o.getD p (-1) := by rw [List.getD_eq_getElem?_getD, List.getD_eq_getElem?_getD, List.getElem?_eq_getElem (show p < o.length by omega)]; rfl
              rw [hop2] at b2
              rw [hp] at hnx ⊢
              simp only [Int.toNat_natCast] at hnx
              have hpj : p < j := by omega
              clear hop2 hp
              obtain ⟨u, hu0⟩ : ∃ u, o.getD p (-1) = u := ⟨_, rfl⟩
              simp only [hu0] at b2 hnx hp3
              clear hu0
              have HNX := Lib.hid hnx
              clear hnx
              cases dk
              · by_cases hv : 0 ≤ v
                · have hd0 : decide (0 ≤ v) = true := by simp [hv]
                  have hd2 : decide ((p : Int) < 0) = false := by simp
                  by_cases hu : v < u
                  · have hd3 : decide (v < u) = true := by simp [hu]
                    go_wp2
                    go_round
                    case rel => exact ⟨k + 1, by omega, by go_num, by rw [HNX.out, if_pos ⟨rfl, hv, .inr hu⟩]⟩
                    case measure => simp [intOf]; omega
                  · have hd3 : decide (v < u) = false := by simp; omega
                    go_wp2
                    go_round
                    case rel => exact ⟨k + 1, by omega, by go_num, by rw [HNX.out, if_neg (fun h => by rcases h.2.2 with h | h <;> omega)]⟩
                    case measure => simp [intOf]; omega
                · have hd0 : decide (0 ≤ v) = false := by simp; omega
                  go_wp2
                  go_round
                  case rel => exact ⟨k + 1, by omega, by go_num, by rw [HNX.out, if_neg (fun h => hv h.2.1)]⟩
                  case measure => simp [intOf]; omega
              · go_wp2
                go_round
                case rel => exact ⟨k + 1, by omega, by go_num, by rw [HNX.out, if_neg (fun h => by cases h.1)]⟩
                case measure => simp [intOf]; omega
          · obtain rfl : k = j := by omega
            have hk1 : decide ((k : Int) < (k : Int)) = false := by simp
            have hpi := pick_is done o k
            rcases hpi with ⟨hp, hnone⟩ | ⟨p, hpk, hp, hpd, hp0, -⟩
            · rw [hp]
              have HEND := Lib.hid (se_end (xs := xs) (s := (q : Int)) HST.out (by rw [← HZ.out, hp]; omega))
              have hcl : done.count true ≤ 512 := by have h := List.count_le_length (a := true) (l := done); omega
              have HBE : Hid (∀ i, -1 ≤ o.getD i (-1) ∧ o.getD i (-1) ≤ 512000) := fun i => by have := HBD.out i; omega
              have HOL := Lib.hid hol
              clear hp hnone hdl hol hfar hdon
              go_wp2
              go_ret
              exact ⟨gF, done, o, (by rw [HOL.out]; rfl), by rw [HOL.out]; exact HZ.out, HSS.out.far, HEND.out.1, HEND.out.2, HBE.out, by omega, HSS.out.bel⟩
            · rw [hp]
              obtain ⟨hst2, -, -, -⟩ := se_round (xs := xs) (s := (q : Int)) HX.out HXS.out HST.out (by rw [← HZ.out]; exact hp)
              obtain ⟨m, hm⟩ : ∃ m, o.getD p (-1) = m := ⟨_, rfl⟩
              rw [hm] at hst2 hp0
              have HST2 := Lib.hid hst2
              have hcd := count_set done p (by omega) hpd
              have hcl : done.count true ≤ 512 := by have h := List.count_le_length (a := true) (l := done); omega
              have hmB : m ≤ 512000 := by have := (HBD.out p).2; omega
              have HCD := Lib.hid hcd
              have b1 : wz.cell? ⟨gD, p, none⟩ = some (.bool (done.getD p false)) := by rw [hdon.cell p]; simp [bits, show p < done.length by omega]
              have b2 := hdon.open_ p
              have b3 := hdon.lt
              have hfar1 := hfar.off (b := gD) (o := p) (u := .bool true) hne
              have hdon1 : Whole (wz.setCell ⟨gD, p, none⟩ (.bool true)) gD 4 (bits (done.set p true)).toArray := by have h := hdon.set_ p (.bool true); rw [bits_setF] at h; exact h
              have hcur1 := HSS.out.cur.off (b := gD) (o := p) (u := .bool true) (by omega)
              have hbel1 := below_set (b := gD) (o := p) (u := .bool true) HSS.out.bel (by omega)
              have hlow1 : gD < (wz.setCell ⟨gD, p, none⟩ (.bool true)).heap.size := by simpa [World.setCell] using HSS.out.low
              clear hp hpd hst2 hcd hfar hdon
              go_upto_region 19 with fail
              clear b1 b2 b3
              generalize wz.setCell ⟨gD, p, none⟩ (.bool true) = w5 at hfar1 hdon1 hcur1 hbel1 hlow1 ⊢
              obtain ⟨c0, c1⟩ := hcur1.cells2
              have hcl5 := hcur1.lt
              have hdig := digits_len n p
              have htop : topBit n p = (stateS n p).2 := by show _ = decide _; rw [topBit, Bool.eq_iff_iff]; simp
              go_wp2_with fail
              refine (seState_own n p w5 hn (by omega)).mono ?_
              rintro e w6 ⟨E, r, rfl, hE, hb6⟩
              obtain ⟨bE, oE, rfl⟩ : ∃ bE oE, E = some ⟨bE, oE, none⟩ := by
                rcases hE.holds with h | ⟨bE, oE, h, -, -⟩
                · have h2 := congrArg List.length h
                  simp [bits, hdig] at h2
                  omega
                · exact ⟨bE, oE, h⟩
              replace hfar1 := hfar1.below hb6
              replace hdon1 := hdon1.below hb6
              replace hcur1 := hcur1.below hb6
              replace hbel1 := below_then hbel1 hb6 hbel1.size
              have hlow6 : gD < w6.heap.size := by have := hb6.size; omega
              clear hb6 c0 c1 hcl5
              have hs7 := Whole.fresh w6 44 #[.slice (some ⟨bE, oE, none⟩) n r, .bool (topBit n p)]
              replace hfar1 := hfar1.alloc (.cells #[.slice (some ⟨bE, oE, none⟩) n r, .bool (topBit n p)] 44)
              replace hdon1 := hdon1.alloc (.cells #[.slice (some ⟨bE, oE, none⟩) n r, .bool (topBit n p)] 44)
              replace hcur1 := hcur1.alloc (.cells #[.slice (some ⟨bE, oE, none⟩) n r, .bool (topBit n p)] 44)
              replace hbel1 := hbel1.alloc hbel1.size (.cells #[.slice (some ⟨bE, oE, none⟩) n r, .bool (topBit n p)] 44)
              have hE7 := hE.alloc (.cells #[.slice (some ⟨bE, oE, none⟩) n r, .bool (topBit n p)] 44)
              obtain ⟨c0, c1⟩ := hcur1.cells2
              have hcl5 := hcur1.lt
              obtain ⟨d0, d1, -, -⟩ := hs7.two
              have hsl7 := hs7.lt
              have HDIG := Lib.hid hdig
              have HTOP := Lib.hid htop
              clear hdig htop hE
              go_wp2_with fail
              refine (paTrips_any A (some ⟨bE, oE, none⟩) n c n r q (digits n p) (topBit n p) _ hE7.holds HDIG.out hn hq).mono ?_
              rintro e w8 ⟨G, cG, rs, rfl, hrn, hnil, -, hG, hb8⟩
              have HRN : Hid (rowNums rs = tripsIn n (q : Int) (stateS n p).1 (stateS n p).2) := by show _ = _; rw [hrn, tripsIn, ← HTOP.out]; rfl
              replace hfar1 := hfar1.below hb8
              replace hdon1 := hdon1.below hb8
              replace hcur1 := hcur1.below hb8
              replace hbel1 := below_then hbel1 hb8 hbel1.size
              have hs8 := hs7.below hb8
              have hE8 := hE7.below hb8
              have hG8 := hG.free
              have hrl := (own_partsF hG.1)
              have hz68 : w6.heap.size < (w6.alloc (.cells #[.slice (some ⟨bE, oE, none⟩) n r, .bool (topBit n p)] 44)).heap.size := by simp
              have hz8 : w6.heap.size < w8.heap.size := by have := hb8.size; omega
              clear hb8 c0 c1 hcl5 d0 d1 hsl7 hrn hnil hs7 hE7 hG
              have HF8 := Lib.hid hfar1
              have HD8 := Lib.hid hdon1
              have HC8 := Lib.hid hcur1
              have HB8 := Lib.hid hbel1
              have HS8 := Lib.hid hs8
              have HE8 := Lib.hid hE8
              have HG8 := Lib.hid hG8
              clear hfar1 hdon1 hcur1 hbel1 hs8 hE8 hG8
              have HLEG : Hid ((tripsIn n (q : Int) (stateS n p).1 (stateS n p).2).map (fun l => (numS (flipped (stateS n p).1 l, !(stateS n p).2), slowOf xs l)) = legsS xs n q (stateS n p)) := rfl
              obtain ⟨es, hes⟩ : ∃ es, es = legsS xs n q (stateS n p) := ⟨_, rfl⟩
              have hrlen : rs.length = es.length := by rw [hes, ← HLEG.out, List.length_map, ← HRN.out, rowNums_len]
              have HES : Hid (∀ (k : Nat) (hk : k < rs.length), ∃ h : k < es.length, es[k] = (num (flipped (digits n p) rs[k].xs) (!topBit n p).toNat, slowOf xs rs[k].xs) ∧ rs[k].xs ∈ upLists n q) := fun k hk => by
                have h1 : k < (tripsIn n (q : Int) (stateS n p).1 (stateS n p).2).length := by rw [← HRN.out, rowNums_len]; exact hk
                have h2 : (tripsIn n (q : Int) (stateS n p).1 (stateS n p).2)[k] = rs[k].xs := by have h := rowNums_get hk; simp only [HRN.out] at h; exact h
                refine ⟨by omega, ?_, ?_⟩
                · subst hes
                  simp only [legsS, List.getElem_map, h2, numS]
                  rw [HTOP.out]
                  rfl
                · have h3 : rs[k].xs ∈ tripsIn n (q : Int) (stateS n p).1 (stateS n p).2 := by rw [← h2]; exact List.getElem_mem h1
                  exact (trips_mem n q _ _ _).1 h3 |>.1
              have HE0 := Lib.hid hes
              have HRL := Lib.hid hrlen
              clear hes hrlen
              go_wp2
              go_loopw [82] (fun i wr => ∃ k' : Nat, k' ≤ rs.length ∧ i = .int .i64 k' ∧ Whole wr gF 3 (nums (relax m (es.take k') o)).toArray ∧ Span gF (gF + 1) w8 wr) (fun i _ => rs.length - (intOf i).toNat)
              case atStart => exact ⟨0, Nat.zero_le _, rfl, HF8.out, Span.refl _ _ _⟩
              case round =>
                obtain ⟨i, hi, rfl, hf, hsp⟩ := hrel
                obtain ⟨wv, rfl⟩ : ∃ X : World, X = wr := ⟨_, rfl⟩
                by_cases hlt : i < rs.length
                · have hd2 : decide ((i : Int) < (rs.length : Int)) = true := by simp; omega
                  obtain ⟨hlt2, hei, hup⟩ := HES.out i hlt
                  have hRX : relax m (es.take (i + 1)) o = relax1 m (relax m (es.take i) o) es[i] := by rw [List.take_succ_eq_append_getElem hlt2, relax_snoc]
                  rw [hei] at hRX
                  have hgz := hsp.freeGrid HG8.out (.inr (by omega))
                  obtain ⟨b6, o6, rfl, hbl6, hcell6, hrow6, hrl6, hrn6⟩ := hgz.grid.look hlt
                  have hst1 := (up_steps hup).1
                  have hsz := hsp.whole HS8.out (.inr (by omega))
                  have hcz := hsp.whole HC8.out (.inl (by omega))
                  have hez := hsp.fresh HE8.out (.inr (by omega))
                  obtain ⟨e0, e1, -, -⟩ := hsz.two
                  have hlz := hsz.lt
                  obtain ⟨y, hy⟩ : ∃ y, num (flipped (digits n p) rs[i].xs) (!topBit n p).toNat = y := ⟨_, rfl⟩
                  obtain ⟨l, hl⟩ : ∃ l, rs[i].xs = l := ⟨_, rfl⟩
                  rw [hl] at hy hRX hst1 hrow6 hrl6
                  rw [hy] at hRX
                  obtain ⟨T, hT⟩ : ∃ T, slowOf xs l = T := ⟨_, rfl⟩
                  rw [hT] at hRX
                  have HY9 := Lib.hid hy
                  have HT9 := Lib.hid hT
                  have HRX := Lib.hid hRX
                  have HROW := Lib.hid hrow6
                  have HLR := Lib.hid hrl6
                  have H68 := Lib.hid hf
                  have HSP := Lib.hid hsp
                  have HCZ := Lib.hid hcz
                  have HCE : Hid (∀ j u, (bits (digits n p))[j]? = some u → wv.cell? ⟨bE, oE + j, none⟩ = some u) := fun j u hu => by
                    rcases hez.holds with h | ⟨b9, o9, h9, -, hcell⟩
                    · rw [h] at hu; simp at hu
                    · cases h9; exact hcell j u hu
                  have hT0 : 0 ≤ T ∧ T ≤ 1000 := by
                    rw [← hT]
                    exact slow_boundF HXS.out HXB.out
                  have hT1 := hT0.1
                  have hT2 := hT0.2
                  have hyj : y < k := by
                    have h := num_lt (flipped (digits n p) l) (!topBit n p)
                    rw [flipped_len, HDIG.out, hy] at h
                    rw [HZ.out]
                    exact h
                  obtain ⟨rA, hrA⟩ : ∃ rA, rs[i].A = rA := ⟨_, rfl⟩
                  obtain ⟨rN, hrN⟩ : ∃ rN, rs[i].n = rN := ⟨_, rfl⟩
                  obtain ⟨rC, hrC⟩ : ∃ rC, rs[i].c = rC := ⟨_, rfl⟩
                  rw [hrA, hrN, hrC] at hcell6
                  rw [hrA] at HROW
                  rw [hrN] at HLR hrn6
                  clear hei hlt2 hgz hf hsp hcz hez hsz hT hT0 hy hl hrA hrN hrC hrow6 hrl6 hRX hup
                  have HST1 := Lib.hid hst1
                  clear hst1
                  go_wp2_with fail
                  refine (paCross_any bE oE n r rA rN rC (digits n p) l (topBit n p) wv HCE.out HDIG.out (by omega) (by omega) HROW.out HLR.out hrn6 HST1.out).mono ?_
                  rintro e wa ⟨A3, c3, rfl, hf3, hba⟩
                  go_wp2_with fail
                  refine (seIndex_any A3 (flipped (digits n p) l).length c3 (flipped (digits n p) l) (!topBit n p) wa hf3.holds rfl (by rw [flipped_len, HDIG.out]; exact hn)).mono ?_
                  rintro e wb ⟨rfl, hbb⟩
                  rw [HY9.out]
                  have hbw := below_then hba hbb hba.size
                  have hFb := H68.out.below hbw
                  have hSPb : Span gF (gF + 1) w8 wb := HSP.out.trans (Span.of_below hbw _ _)
                  have hCb := HCZ.out.below hbw
                  have HROWb := Lib.hid (HROW.out.below hbw)
                  have hol2 : (relax m (es.take i) o).length = k := by rw [relax_len]; exact hol
                  have hpm : (relax m (es.take i) o).getD p (-1) = m := by
                    have h := relax_low (m := m) (es.take i) o p (fun e he => by
                      obtain ⟨k9, hk9, rfl⟩ := List.getElem_of_mem (List.mem_of_mem_take he)
                      have h9 := HES.out k9 (by rw [HRL.out]; exact hk9)
                      rw [h9.2.1]
                      exact (slow_boundF HXS.out HXB.out).1) (by omega) (by rw [hm]; exact hp0) (by rw [hm]; exact Int.le_refl _)
                    rw [h]
                    exact hm
                  clear hba hbb hbw hf3 e0 e1 hlz hcell6 hbl6
                  have f0 := num_cellF (v := m) hFb (i := p) (by omega) (by rw [getD_m1 (by omega)]; exact hpm)
                  obtain ⟨k0, k1⟩ := hCb.cells2
                  have hkl := hCb.lt
                  have hfl := hFb.lt
                  have hpj : p < k := hpk
                  have HFb := Lib.hid hFb
                  have HSPb := Lib.hid hSPb
                  have HCb := Lib.hid hCb
                  have HOL2 := Lib.hid hol2
                  have HPM0 : Hid ((relax m (es.take i) o).getD p 0 = m) := by show _ = _; rw [getD_m1 (by omega)]; exact hpm
                  have hwr9 : IntKind.i64.wrap (m + T) = m + T := IntWalk.i64_in _ (by omega)
                  clear hFb hSPb hCb hol2 hpm
                  go_wp2_with fail
                  go_region_held3 (fun w' => w'.cell? ⟨gF, p, none⟩ = some (.int .i64 m) ∧ w'.cell? ⟨w.heap.size, 0, none⟩ = some (.slice A n c) ∧ w'.cell? ⟨w.heap.size, 1, none⟩ = some (.int .i64 (q : Int))) (go_keep)
                    (first | (go_at_call 114; refine (paTime_any A rA n c rN rC xs l (q : Int) wb.drew (by exact (HA.out.below (below_spanF HB8.out HSPb.out (by omega))).drew) HX.out (by exact HROWb.out.drew) HLR.out hrn6 (by omega) HST1.out).mono ?_; rintro e wd ⟨rfl, hbd⟩; rw [HT9.out]; have hbd2 : Below wb.heap.size wb wd := (below_then (Below.refl wb.heap.size wb).drew hbd (Nat.le_refl _)); have HBD2 := Lib.hid hbd2; have f2 := num_cellF (v := m) (HFb.out.below hbd2) (i := p) (by rw [HOL2.out]; exact hpj) HPM0.out; have k2 := (HCb.out.below hbd2).cells2.1; have k3 := (HCb.out.below hbd2).cells2.2; have hfl2 := (HFb.out.below hbd2).lt; clear hbd hbd2))
                  have hF2 := HFb.out.below HBD2.out
                  obtain ⟨v, hv⟩ : ∃ v, (relax m (es.take i) o).getD y (-1) = v := ⟨_, rfl⟩
                  have g0 := num_cellF (v := v) hF2 (i := y) (by rw [HOL2.out]; exact hyj) (by rw [getD_m1 (by rw [HOL2.out]; exact hyj)]; exact hv)
                  have g1 := hF2.open_ y
                  have hRX9 := HRX.out
                  rw [relax1, hv] at hRX9
                  have HSPd : Hid (Span gF (gF + 1) w8 wd) := HSPb.out.trans (Span.of_below HBD2.out _ _)
                  have HF2 := Lib.hid hF2
                  have HF3 : Hid (Whole (wd.setCell ⟨gF, y, none⟩ (.int .i64 (m + T))) gF 3 (nums ((relax m (es.take i) o).set y (m + T))).toArray) := by show Whole _ _ _ _; have h := hF2.set_ y (.int .i64 (m + T)); rw [nums_set] at h; exact h
                  have HSP3 : Hid (Span gF (gF + 1) w8 (wd.setCell ⟨gF, y, none⟩ (.int .i64 (m + T)))) := HSPd.out.trans (span_setF wd gF y _)
                  clear hF2 hv f2 k2 k3 f0 k0 k1
                  have hy0 : (y : Int) < (k : Int) := by omega
                  by_cases h0 : v < 0
                  · have HE1 : Hid (relax m (es.take (i + 1)) o = (relax m (es.take i) o).set y (m + T)) := by show _ = _; rw [hRX9, if_pos (.inl h0)]
                    have hd7 : decide (v < 0) = true := by simpa using h0
                    clear hRX9
                    go_wp2
                    go_roundw
                    case rel => exact ⟨i + 1, by omega, by go_num, by rw [HE1.out]; exact HF3.out, HSP3.out⟩
                    case measure => simp [intOf]; omega
                  · have hd7 : decide (v < 0) = false := by simpa using h0
                    by_cases h2 : m + T < v
                    · have HE1 : Hid (relax m (es.take (i + 1)) o = (relax m (es.take i) o).set y (m + T)) := by show _ = _; rw [hRX9, if_pos (.inr h2)]
                      have hd8 : decide (m + T < v) = true := by simpa using h2
                      clear hRX9
                      go_wp2
                      go_roundw
                      case rel => exact ⟨i + 1, by omega, by go_num, by rw [HE1.out]; exact HF3.out, HSP3.out⟩
                      case measure => simp [intOf]; omega
                    · have HE1 : Hid (relax m (es.take (i + 1)) o = relax m (es.take i) o) := by show _ = _; rw [hRX9, if_neg (fun h => h.elim h0 h2)]
                      have hd8 : decide (m + T < v) = false := by simpa using h2
                      clear hRX9
                      go_wp2
                      go_roundw
                      case rel => exact ⟨i + 1, by omega, by go_num, by rw [HE1.out]; exact HF2.out, HSPd.out⟩
                      case measure => simp [intOf]; omega
                · have hd2 : decide ((i : Int) < (rs.length : Int)) = false := by simp; omega
                  have hir : i = rs.length := by omega
                  rw [hir, HRL.out, List.take_length, HE0.out] at hf
                  have H68 := Lib.hid hf
                  have HSP := Lib.hid hsp
                  have HGG : Hid (∃ gh, gh < gk ∧ (done.set p true).count true + gh = k) := by
                    have h := HCN.out
                    have h2 := HCD.out
                    have h3 := List.count_le_length (a := true) (l := done.set p true)
                    rw [List.length_set] at h3
                    exact ⟨gk - 1, by omega, by omega⟩
                  have HBN : Hid (∀ i, -1 ≤ (relax m (legsS xs n q (stateS n p)) o).getD i (-1) ∧ (relax m (legsS xs n q (stateS n p)) o).getD i (-1) ≤ 1000 * ((done.set p true).count true : Nat)) := fun i => by
                    have h2 := HCD.out
                    have hmp := (HBD.out p).2
                    rw [hm] at hmp
                    by_cases hi2 : i < o.length
                    · rcases relax_from m (legsS xs n q (stateS n p)) o i hi2 with h | ⟨e, he, -, h⟩
                      · rw [h]; have := HBD.out i; omega
                      · rw [h]
                        simp only [legsS, List.mem_map] at he
                        obtain ⟨l, -, rfl⟩ := he
                        have := slow_boundF (l := l) HXS.out HXB.out
                        show -1 ≤ m + slowOf xs l ∧ m + slowOf xs l ≤ _
                        omega
                    · rw [List.getD_eq_getElem?_getD, List.getElem?_eq_none (by rw [relax_len]; omega)]
                      show (-1 : Int) ≤ -1 ∧ (-1 : Int) ≤ _
                      omega
                  clear hf hsp hir
                  go_wp2
                  obtain ⟨gh, hg1, hg2⟩ := HGG.out
                  go_roundg gh
                  case measure => exact hg1
                  case rel => exact ⟨done.set p true, relax m (legsS xs n q (stateS n p)) o, hg2, HST2.out, HBN.out, ⟨H68.out, HSP.out.whole HD8.out (.inr (by omega)), HSP.out.whole HC8.out (.inl (by omega)), below_spanF HB8.out HSP.out (by omega), by have := HSP.out.size; omega⟩⟩
end Go.Proofs.Ytlpeimlbpiofkaa

namespace Go.Proofs.Ytlpeimlbpiofkaa
open Go.RowKit

/-- The least time of a plan, or -1. -/
noncomputable def leastP (xs : List Int) (n q : Nat) : Int := (timeST xs n q (falses n, false) (trues n, true)).getD (-1)
def Two (g : Nat) (x y : Value) (w : World) : Prop := w.cell? ⟨g, 0, none⟩ = some x ∧ w.cell? ⟨g, 1, none⟩ = some y
theorem two_of {g : Nat} {t : TypeId} {x y : Value} {w : World} (h1 : Whole w g t #[x, y]) : Two g x y w := ⟨h1.cell 0, h1.cell 1⟩

set_option maxHeartbeats 12800000 in
set_option maxRecDepth 100000 in
set_option linter.unusedVariables false in
set_option linter.unusedSimpArgs false in
theorem seLeast_any (A : Option Addr) (n c q : Nat) (xs : List Int) (w : World) (hA0 : Holds w A (nums xs)) (hx : xs.length = n) (h1 : 1 ≤ n) (hn : n ≤ 8) (hq8 : q ≤ 8) (hxs : ∀ y ∈ xs, 1 ≤ y ∧ y ≤ 1000) :
    Calls Try.prog 61 #[.agg #[.slice A n c, .int .i64 (q : Int)]] w fun e w' => e = .returned (.int .i64 (leastP xs n q)) ∧ Below w.heap.size w w' := by
  have hA := Lib.hid hA0
  have HX := Lib.hid hx
  have HXS := Lib.hid hxs
  have HFL : Hid ((falses n).length = n) := by show _ = _; simp [falses]
  have HTL : Hid ((trues n).length = n) := by show _ = _; simp [trues]
  have hq := Whole.fresh w 28 #[.slice A n c, .int .i64 (q : Int)]
  have ht := below1 w (.cells #[.slice A n c, .int .i64 (q : Int)] 28)
  clear hA0 hx hxs
  go_enter Try.func61, Try.ntmps61
  go_wp2_with fail
  refine wp_region_held_drew (S := (Two w.heap.size (.slice A n c) (.int .i64 (q : Int)))) (by kernel_rfl) (two_of hq.drew) (fun hHeld => ?_)
  replace hq := hq.drew
  replace ht := ht.drew
  generalize World.drew (w.alloc (.cells #[.slice A n c, .int .i64 (q : Int)] 28)) = wd at hq ht hHeld ⊢
  refine wpAnyH_take (i := 0) (v := ?_) rfl (by kernel_rfl) (by kernel_rfl) (by kernel_rfl) (fun _ _ _ h => h) (Or.inl ⟨rfl, ?_⟩) hHeld ?_
  rotate_left
  · intro w' hS; obtain ⟨s0, s1⟩ := hS; go_simp <;> with_reducible rfl
  simp only [Act.put, List.getElem_toArray, List.getElem_cons_succ, List.getElem_cons_zero, List.setIfInBounds_toArray, List.set_cons_succ, List.set_cons_zero]
  refine wpAnyH_take (i := 1) (v := ?_) rfl (by kernel_rfl) (by kernel_rfl) (by kernel_rfl) (fun _ _ _ h => h) (Or.inl ⟨rfl, ?_⟩) hHeld ?_
  rotate_left
  · intro w' hS; obtain ⟨s0, s1⟩ := hS; go_simp <;> with_reducible rfl
  simp only [Act.put, List.getElem_toArray, List.getElem_cons_succ, List.getElem_cons_zero, List.setIfInBounds_toArray, List.set_cons_succ, List.set_cons_zero]
  refine wpAnyH_take (i := 4) (v := ?_) rfl (by kernel_rfl) (by kernel_rfl) (by kernel_rfl) (fun _ _ _ h => h) (Or.inl ⟨rfl, ?_⟩) hHeld ?_
  rotate_left
  · intro w' hS; obtain ⟨s0, s1⟩ := hS; go_simp <;> with_reducible rfl
  simp only [Act.put, List.getElem_toArray, List.getElem_cons_succ, List.getElem_cons_zero, List.setIfInBounds_toArray, List.set_cons_succ, List.set_cons_zero]
  refine wpAnyH_ready (rs := [2]) (by kernel_rfl) (by simp) (AllReadyH.cons rfl (fun K hK => ?_) AllReadyH.nil)
  go_simp
  refine (paFirst_any A n c (q : Int) _ (by omega)).mono ?_
  rintro e wdf ⟨rfl, hw9, hb⟩
  obtain ⟨g1, hg1⟩ : ∃ g, g = wd.heap.size + 1 + 1 := ⟨_, rfl⟩
  rw [← hg1] at hw9 ⊢
  replace hq := hq.below hb
  replace ht := below_then ht hb ht.size
  clear hb
  have hB1 : Holds wdf (some ⟨g1, 0, none⟩) (bits (falses n)) := (Fresh.of_whole (lo := 0) (hi := wdf.heap.size) hw9 (Nat.zero_le _) hw9.lt).holds
  clear hw9 hg1
  refine hK.out _ _ (two_of hq) (fun hHeld => ?_)
  clear hK K
  try simp only [Act.put, List.getElem_toArray, List.getElem_cons_succ, List.getElem_cons_zero, List.setIfInBounds_toArray, List.set_cons_succ, List.set_cons_zero]
  refine wpAnyH_ready (rs := [3]) (by kernel_rfl) (by simp) (AllReadyH.cons rfl (fun K hK => ?_) AllReadyH.nil)
  go_simp
  refine (seFar_any A (some ⟨g1, 0, none⟩) n c n q xs (falses n) false _ (hA.out.below ht) hB1 HX.out HFL.out h1 hn hq8 HXS.out).mono ?_
  rintro e wdfs ⟨g, done, o, rfl, hol, hFr0, hL, hno, hbd, -, hb⟩
  replace hq := hq.below hb
  replace hB1 := hB1.below hb
  replace ht := below_then ht hb ht.size
  clear hb
  have hFr := hFr0
  have HOL := Lib.hid hol
  have HFA : Hid (o.getD (num (trues n) true.toNat) (-1) = leastP xs n q) := by show _ = _; have h := far_at (a := (falses n, false)) (b := (trues n, true)) HX.out (fun y hy => (HXS.out y hy).1) HFL.out HTL.out hL hno (fun i => (hbd i).1); exact h
  have HNB := Lib.hid (hbd (num (trues n) true.toNat))
  clear hFr0 hol hL hno hbd
  refine hK.out _ _ (two_of hq) (fun hHeld => ?_)
  clear hK K
  try simp only [Act.put, List.getElem_toArray, List.getElem_cons_succ, List.getElem_cons_zero, List.setIfInBounds_toArray, List.set_cons_succ, List.set_cons_zero]
  refine wpAnyH_ready (rs := [5]) (by kernel_rfl) (by simp) (AllReadyH.cons rfl (fun K hK => ?_) AllReadyH.nil)
  go_simp
  refine (paLast_any A n c (q : Int) _ (by omega)).mono ?_
  rintro e wdfsl ⟨A2, c2, rfl, hw9, hb⟩
  rw [HTL.out]
  replace hq := hq.below hb
  replace hB1 := hB1.below hb
  replace hFr := hFr.below hb
  replace ht := below_then ht hb ht.size
  clear hb
  have hB2 := hw9.holds
  clear hw9
  refine hK.out _ _ (two_of hq) (fun hHeld => ?_)
  clear hK K
  try simp only [Act.put, List.getElem_toArray, List.getElem_cons_succ, List.getElem_cons_zero, List.setIfInBounds_toArray, List.set_cons_succ, List.set_cons_zero]
  refine wpAnyH_ready (rs := [6]) (by kernel_rfl) (by simp) (AllReadyH.cons rfl (fun K hK => ?_) AllReadyH.nil)
  go_simp
  refine (seIndex_any A2 n c2 (trues n) true _ hB2 HTL.out hn).mono ?_
  rintro e wdfsli ⟨rfl, hb⟩
  obtain ⟨y, hy⟩ : ∃ y, num (trues n) true.toNat = y := ⟨_, rfl⟩
  have HY := Lib.hid hy
  rw [hy]
  clear hy
  replace hq := hq.below hb
  replace hB1 := hB1.below hb
  replace hB2 := hB2.below hb
  replace hFr := hFr.below hb
  replace ht := below_then ht hb ht.size
  clear hb
  refine hK.out _ _ (two_of hq) (fun hHeld => ?_)
  clear hK K
  try simp only [Act.put, List.getElem_toArray, List.getElem_cons_succ, List.getElem_cons_zero, List.setIfInBounds_toArray, List.set_cons_succ, List.set_cons_zero]
  refine wpAnyH_ready (rs := [7]) (by kernel_rfl) (by simp) (AllReadyH.cons rfl (fun K hK => ?_) AllReadyH.nil)
  have HYZ : Hid (y < o.length) := by rw [← HY.out]; show _ < _; rw [HOL.out]; have h := num_lt (trues n) true; rw [HTL.out] at h; exact h
  have hyz := HYZ.out
  have hyz2 : (y : Int) < (o.length : Int) := by omega
  have hfl := hFr.lt
  go_simp
  refine hK.out _ _ (two_of hq) (fun hHeld => ?_)
  clear hK K
  try simp only [Act.put, List.getElem_toArray, List.getElem_cons_succ, List.getElem_cons_zero, List.setIfInBounds_toArray, List.set_cons_succ, List.set_cons_zero]
  refine wpAnyH_ready (rs := [8]) (by kernel_rfl) (by simp) (AllReadyH.cons rfl (fun K hK => ?_) AllReadyH.nil)
  have k0 := num_cellF (v := leastP xs n q) hFr (i := y) HYZ.out (by rw [getD_m1 HYZ.out, ← HY.out]; exact HFA.out)
  go_simp
  refine hK.out _ _ (two_of hq) (fun hHeld => ?_)
  clear hK K
  try simp only [Act.put, List.getElem_toArray, List.getElem_cons_succ, List.getElem_cons_zero, List.setIfInBounds_toArray, List.set_cons_succ, List.set_cons_zero]
  refine wpAnyH_take (i := 9) (v := ?_) rfl (by kernel_rfl) (by kernel_rfl) (by kernel_rfl) (fun _ _ _ h => h) (Or.inl ⟨rfl, ?_⟩) hHeld ?_
  rotate_left
  · intro w' hS; obtain ⟨s0, s1⟩ := hS; go_simp <;> with_reducible rfl
  simp only [Act.put, List.getElem_toArray, List.getElem_cons_succ, List.getElem_cons_zero, List.setIfInBounds_toArray, List.set_cons_succ, List.set_cons_zero]
  refine wpAnyH_done (by kernel_rfl) ?_ _
  clear hHeld
  have HTT := Lib.hid ht
  clear ht hq hFr hB1 hB2
  go_wp2
  go_ret
  exact ⟨rfl, HTT.out⟩
end Go.Proofs.Ytlpeimlbpiofkaa

namespace Go.Proofs.Ytlpeimlbpiofkaa
open Go.RowKit Go.Maps Go.WideShapes

/-- What is told, with more. -/
def settle (L : List Nat) (m : Int) (R : Nat → Option Int) : Nat → Option Int := fun x => if x ∈ L then some m else R x
theorem settle_nil (m : Int) (R : Nat → Option Int) : settle [] m R = R := by funext x; simp [settle]
theorem settle_next {L : List Nat} {m : Int} {R : Nat → Option Int} {j : Nat} (h : j < L.length) : upd (settle (L.take j) m R) L[j] m = settle (L.take (j + 1)) m R := by
  have hm : ∀ x, x ∈ L.take (j + 1) ↔ x ∈ L.take j ∨ x = L[j] := fun x => by rw [List.take_succ_eq_append_getElem h, List.mem_append, List.mem_singleton]
  funext x
  by_cases e : x = L[j]
  · subst e
    rw [upd_same, settle, if_pos ((hm _).2 (.inr rfl))]
  · rw [upd_other _ _ e, settle, settle]
    by_cases hx : x ∈ L.take j
    · rw [if_pos hx, if_pos ((hm _).2 (.inl hx))]
    · rw [if_neg hx, if_neg (fun hh => ((hm _).1 hh).elim hx e)]
noncomputable def srcMap (src j : Nat) : Nat → Option Int := if j = 0 then fun _ => none else upd (fun _ => none) src 0
theorem grown_below {a b c : World} {row : Nat} (h : Below a.heap.size a b) (hg : b.grownBy c (some row)) (hB : a.heap.size ≤ row) : Below a.heap.size a c := h.grown hg h.size (fun x hx => by have := Option.some.inj hx; omega)
/-- The map of what waits, in the midst of a round. -/
noncomputable def waitW (T : List Int → Int) (Ls : List (List Int)) (L : List Nat) (m : Int) (R W : Nat → Option Int) (i : Nat) (es : List (Nat × Int)) : Nat → Option Int := waitAll m (settle L m R) (esOf T 4 Ls (L.take i) ++ es) (gone L W)
theorem waitW_start {T : List Int → Int} {Ls : List (List Int)} {L : List Nat} {m : Int} {R W : Nat → Option Int} : waitW T Ls L m R W 0 [] = gone L W := by simp [waitW, esOf, waitAll]
theorem waitW_row {T : List Int → Int} {Ls : List (List Int)} {L : List Nat} {m : Int} {R W : Nat → Option Int} {i : Nat} (h : i < L.length) : waitW T Ls L m R W i (arrOf T 4 Ls L[i]) = waitW T Ls L m R W (i + 1) [] := by
  rw [waitW, waitW, es_next h, List.append_nil]
theorem waitW_next {T : List Int → Int} {Ls : List (List Int)} {L : List Nat} {m : Int} {R W : Nat → Option Int} {i j : Nat} {es : List (Nat × Int)} (h : j < es.length) : waitW T Ls L m R W i (es.take (j + 1)) = wait1 m (settle L m R) (waitW T Ls L m R W i (es.take j)) es[j] := by
  rw [waitW, List.take_succ_eq_append_getElem h, ← List.append_assoc, waitAll_snoc]
  rfl
/-- Between two rounds. -/
def TimesJ (T : List Int → Int) (Ls : List (List Int)) (src gB b : Nat) (w : World) (n : Nat) (a' : Act) (w' : World) : Prop :=
  ∃ (R W : Nat → Option Int), TimesSt (LegE T 4 Ls) (sts 4) src 1000000 R W ∧ n + countIs (sts 4) R = 512 ∧ PlaceMap w' w.heap.size R ∧ PlaceMap w' (w.heap.size + 1) W ∧ (∃ x c, W x = some c) ∧ Below w.heap.size w w' ∧
    ∃ (u2 u3 u7 u8 u9 u10 u11 u12 u13 u14 u15 u16 u17 u18 u19 u20 u21 u22 u23 u24 u25 u26 u27 u28 u29 u30 u31 u32 u33 u34 u35 u36 u37 u38 u39 u40 u41 u42 u43 u44 u45 u46 u47 u48 u49 u50 u51 u52 u53 u54 u55 u56 u57 u58 u59 u60 u61 u62 u63 u64 u65 u66 u67 u68 u69 u70 u71 u72 u73 u74 u75 u76 u77 u78 u79 u80 u81 u82 u83 u84 u85 u86 u87 u88 u89 u90 u91 u92 u93 u94 u95 u96 u97 : Value), a' = { tmps := #[.func (.func 142) #[] #[.pointer (some ⟨gB, 0, none⟩)], .slice (some ⟨b, 0, none⟩) 1 1, u2, u3, .map none, .map (some w.heap.size), .map (some (w.heap.size + 1)), u7, u8, u9, u10, u11, u12, u13, u14, u15, u16, u17, u18, u19, u20, u21, u22, u23, u24, u25, u26, u27, u28, u29, u30, u31, u32, u33, u34, u35, u36, u37, u38, u39, u40, u41, u42, u43, u44, u45, u46, u47, u48, u49, u50, u51, u52, u53, u54, u55, u56, u57, u58, u59, u60, u61, u62, u63, u64, u65, u66, u67, u68, u69, u70, u71, u72, u73, u74, u75, u76, u77, u78, u79, u80, u81, u82, u83, u84, u85, u86, u87, u88, u89, u90, u91, u92, u93, u94, u95, u96, u97], defers := [] }
theorem count_le (R : Nat → Option Int) : countIs (sts 4) R ≤ 512 := by
  have h := List.length_filter_le (fun a => (R a).isSome) (sts 4)
  have h2 : (sts 4).length = 512 := by simp [sts]
  unfold countIs
  omega
theorem count_none {R : Nat → Option Int} (h : countIs (sts 4) R = 0) (hd : ∀ x, R x ≠ none → x ∈ sts 4) : ∀ x, R x = none := by
  intro x
  cases hx : R x with
  | none => rfl
  | some v =>
    have hm : x ∈ (sts 4).filter fun a => (R a).isSome := List.mem_filter.2 ⟨hd x (by rw [hx]; simp), by simp [hx]⟩
    have := List.length_pos_of_mem hm
    unfold countIs at h
    omega
theorem count_some {R : Nat → Option Int} (h : countIs (sts 4) R ≠ 0) : ∃ x c, R x = some c := by
  have h2 : 0 < ((sts 4).filter fun a => (R a).isSome).length := by unfold countIs at h; omega
  obtain ⟨x, hx⟩ := List.exists_mem_of_length_pos h2
  obtain ⟨c, hc⟩ := Option.isSome_iff_exists.1 (List.mem_filter.1 hx).2
  exact ⟨x, c, hc⟩
/-- What leastTimes hands back. -/
def TimesPost (M : Nat → Option Int) (w : World) (e : Ending) (w' : World) : Prop := ∃ m, e = .returned (.map (some m)) ∧ PlaceMap w' m M ∧ Below w.heap.size w w'

set_option maxHeartbeats 12800000 in
set_option maxRecDepth 100000 in
set_option linter.unusedSimpArgs false in
theorem leastTimes_any (T : List Int → Int) (gB lo b : Nat) (E : Option Addr) (c : Nat) (Ls : List (List Int)) (src : Nat) (w : World) (hF : ArrFn w T gB lo E c Ls) (hLs : Ls.length ≤ 255) (hup : ∀ l ∈ Ls, l ∈ upLists (2 * 4) (2 * 4)) (hT : ∀ l ∈ Ls, 1 ≤ T l ∧ T l ≤ 1000000) (hsrc : src ∈ sts 4) (hrow : Whole w b 75 (plcC 4 src)) :
    Calls Try.prog 117 #[arrFnV gB, .slice (some ⟨b, 0, none⟩) 1 1] w (TimesPost (leastD (LegE T 4 Ls) src) w) := by
  have hmm := @run_makeMap Try.prog
  have HFN := Lib.hid hF
  have HUP := Lib.hid hup
  have HTT := Lib.hid hT
  have HLS := Lib.hid hLs
  have HSD := Lib.hid hsrc
  have HEE := Lib.hid (legE_bound (k := 4) hT)
  have H1 := Lib.hid ((MapIs.made w Try.prog 75 3 (plcL 4) (sts 4)).alloc (.map #[] 0))
  have h2 := MapIs.made (w.alloc (.map #[] 0)) Try.prog 75 3 (plcL 4) (sts 4)
  rw [World.size_alloc] at h2
  have H2 := Lib.hid h2
  have HB := Lib.hid (below2 w (.map #[] 0) (.map #[] 0))
  have HRW := Lib.hid ((hrow.alloc (.map #[] 0)).alloc (.map #[] 0))
  have hbl := hrow.lt
  clear hF hup hT hLs hsrc h2 hrow
  unfold arrFnV
  go_enter Try.func117, Try.ntmps117
  go_wp2
  refine wp_scope_again 0 (TimesJ T Ls src gB b w) rfl ?_ ?_
  · rintro n a w0 ⟨R, W, hst, hn, hR, hW, hne, hb, u2, u3, u7, u8, u9, u10, u11, u12, u13, u14, u15, u16, u17, u18, u19, u20, u21, u22, u23, u24, u25, u26, u27, u28, u29, u30, u31, u32, u33, u34, u35, u36, u37, u38, u39, u40, u41, u42, u43, u44, u45, u46, u47, u48, u49, u50, u51, u52, u53, u54, u55, u56, u57, u58, u59, u60, u61, u62, u63, u64, u65, u66, u67, u68, u69, u70, u71, u72, u73, u74, u75, u76, u77, u78, u79, u80, u81, u82, u83, u84, u85, u86, u87, u88, u89, u90, u91, u92, u93, u94, u95, u96, u97, rfl⟩
    clear H1 H2 HB HRW hmm
    have HST := Lib.hid hst
    have HN := Lib.hid hn
    have HR := Lib.hid hR
    have HB := Lib.hid hb
    have hlR := hR.lt
    have hlW := hW.lt
    have hWpos : Hid (∀ x c, W x = some c → 0 ≤ c ∧ c ≤ 1099511627776) := fun x c hx => by
      have h1 := hst.cap x c (.inr hx)
      have h2 := hst.seek.low x c (.inr hx)
      have h3 := count_le R
      omega
    clear hst hn hR hb
    go_wp2_with fail
    refine (takeSoonest_any (w.heap.size + 1) W w0 hW hWpos.out hne).mono ?_
    rintro e w1 ⟨L, m, A, cL, rfl, hE, hW1, hown, hg⟩
    have hm0 := hE.low
    have hmB : m ≤ 512000000 := by
      obtain ⟨x0, r, e0⟩ := List.exists_cons_of_ne_nil hE.ne
      have h1 := HST.out.cap x0 m (.inr ((hE.mem x0).1 (by rw [e0]; simp)))
      have h3 := count_le R
      omega
    have hLL : L.length ≤ 512 := by
      have h := nodup_le _ _ hE.nodup (fun x hx => hW.out (by rw [(hE.mem x).1 hx]; simp) : ∀ x ∈ L, x ∈ sts 4)
      simpa [sts] using h
    have HWFM : Hid ((Lit.int .i64 m).wf = true) := WalkArith.wf_i64 (by omega)
    have HLD : Hid (∀ x ∈ L, x ∈ sts 4) := fun x hx => hW.out (by rw [(hE.mem x).1 hx]; simp)
    have HWD : Hid (∀ x, W x ≠ none → x ∈ sts 4) := fun x hx => hW.out hx
    have HE := Lib.hid hE
    have HR1 := Lib.hid (HR.out.kept hg (fun e => by have := Option.some.inj e; omega))
    have HW1 := Lib.hid hW1
    have HO1 := Lib.hid hown
    have HB1 := Lib.hid (grown_below HB.out hg (by omega))
    have hz1 : w0.heap.size ≤ w1.heap.size := hg.size
    have hlo : w.heap.size + 1 < w0.heap.size := hlW
    clear hE hW hW1 hown hg hWpos hne hlR hlW
    go_wp2
    go_loopw [40] (fun i wr => ∃ j : Nat, j ≤ L.length ∧ i = .int .i64 j ∧ PlaceMap wr w.heap.size (settle (L.take j) m R) ∧ PlaceMap wr (w.heap.size + 1) (gone L W) ∧ wr.ownsRow (w0.heap.size + 1) 75 9 (.slice A L.length cL) L.length (edgeC 4 L) ∧ Below w.heap.size w wr ∧ w0.heap.size ≤ wr.heap.size) (fun i _ => L.length - (intOf i).toNat)
    case atStart => exact ⟨0, Nat.zero_le _, rfl, by rw [List.take_zero, settle_nil]; exact HR1.out, HW1.out, HO1.out, HB1.out, hz1⟩
    case round =>
      clear HR1 HW1 HO1 HB1 hz1
      obtain ⟨j, hj, rfl, hR, hW, hown, hb, hz⟩ := hrel
      obtain ⟨wo, rfl⟩ : ∃ X : World, X = wr := ⟨_, rfl⟩
      by_cases hlt : j < L.length
      · have hd1 : decide ((j : Int) < (L.length : Int)) = true := by simp; omega
        obtain ⟨g, rfl, hlo2, hgl, p0, p1, p2, p3, p4, p5, p6, p7, p8⟩ := places_row hown hlt
        have hxd : L[j] ∈ sts 4 := HLD.out _ (List.getElem_mem hlt)
        have HNX := Lib.hid (settle_next (m := m) (R := R) hlt)
        obtain ⟨y, hy⟩ : ∃ y, L[j] = y := ⟨_, rfl⟩
        rw [hy] at p0 p1 p2 p3 p4 p5 p6 p7 p8 hxd HNX
        have HRA := Lib.hid (hR.alloc (.cells #[.bool (pf 4 y 0), .bool (pf 4 y 1), .bool (pf 4 y 2), .bool (pf 4 y 3), .bool (pf 4 y 4), .bool (pf 4 y 5), .bool (pf 4 y 6), .bool (pf 4 y 7), .bool (pt y)] 75))
        have HWA := Lib.hid (hW.alloc (.cells #[.bool (pf 4 y 0), .bool (pf 4 y 1), .bool (pf 4 y 2), .bool (pf 4 y 3), .bool (pf 4 y 4), .bool (pf 4 y 5), .bool (pf 4 y 6), .bool (pf 4 y 7), .bool (pt y)] 75))
        have HOA := Lib.hid (hown.alloc (.cells #[.bool (pf 4 y 0), .bool (pf 4 y 1), .bool (pf 4 y 2), .bool (pf 4 y 3), .bool (pf 4 y 4), .bool (pf 4 y 5), .bool (pf 4 y 6), .bool (pf 4 y 7), .bool (pt y)] 75))
        have HBA := Lib.hid (hb.alloc hb.size (.cells #[.bool (pf 4 y 0), .bool (pf 4 y 1), .bool (pf 4 y 2), .bool (pf 4 y 3), .bool (pf 4 y 4), .bool (pf 4 y 5), .bool (pf 4 y 6), .bool (pf 4 y 7), .bool (pt y)] 75))
        obtain ⟨t0, t1, t2, t3, t4, t5, t6, t7, t8⟩ := nine0_of (show Whole (wo.alloc (.cells #[.bool (pf 4 y 0), .bool (pf 4 y 1), .bool (pf 4 y 2), .bool (pf 4 y 3), .bool (pf 4 y 4), .bool (pf 4 y 5), .bool (pf 4 y 6), .bool (pf 4 y 7), .bool (pt y)] 75)) wo.heap.size 75 (plcC 4 y) from Whole.fresh _ _ _)
        clear hy hR hW hown hb
        go_wp2_with (at_mapUpdate; refine wpList_map_put _ rfl _ _ _ rfl (place_keys (by omega)) Try.underlying76 Try.underlying3 (sts_len (by omega)) rfl HRA.out y hxd rfl m HWFM.out rfl ?_; intro w2 hR2 hg2; go_frame)
        have HR2 := Lib.hid (hR2.same HNX.out)
        have HW2 := Lib.hid (HWA.out.kept hg2 (fun e => by have := Option.some.inj e; omega))
        have HO2 := Lib.hid (own_grown HOA.out hg2 (fun g hg e => by have := Option.some.inj e; omega))
        have HB2 := Lib.hid (grown_below HBA.out hg2 (Nat.le_refl _))
        have hz2 : w0.heap.size ≤ w2.heap.size := by have := hg2.size; simp at this; omega
        clear hR2 hg2 t0 t1 t2 t3 t4 t5 t6 t7 t8 p0 p1 p2 p3 p4 p5 p6 p7 p8
        go_roundw
        case rel => exact ⟨j + 1, by omega, by go_num, HR2.out, HW2.out, HO2.out, HB2.out, hz2⟩
        case measure => simp [intOf]; omega
      · obtain rfl : j = L.length := by omega
        have hd1 : decide ((L.length : Int) < (L.length : Int)) = false := by simp
        rw [List.take_length] at hR
        have HR1 := Lib.hid hR
        have HW1 := Lib.hid hW
        have HO1 := Lib.hid hown
        have HB1 := Lib.hid hb
        clear hR hW hown hb
        go_wp2
        go_loopw [50] (fun i wr => ∃ j : Nat, j ≤ L.length ∧ i = .int .i64 j ∧ PlaceMap wr w.heap.size (settle L m R) ∧ PlaceMap wr (w.heap.size + 1) (waitW T Ls L m R W j []) ∧ wr.ownsRow (w0.heap.size + 1) 75 9 (.slice A L.length cL) L.length (edgeC 4 L) ∧ Below w.heap.size w wr ∧ w0.heap.size ≤ wr.heap.size) (fun i _ => L.length - (intOf i).toNat)
        case atStart => exact ⟨0, Nat.zero_le _, rfl, HR1.out, by rw [waitW_start]; exact HW1.out, HO1.out, HB1.out, hz⟩
        case round =>
          clear HR1 HW1 HO1 HB1 hz
          obtain ⟨i, hi, rfl, hR, hW, hown, hb, hz⟩ := hrel
          obtain ⟨wi, rfl⟩ : ∃ X : World, X = wr := ⟨_, rfl⟩
          by_cases hlt : i < L.length
          · have hd1 : decide ((i : Int) < (L.length : Int)) = true := by simp; omega
            obtain ⟨g, rfl, hlo2, hgl, p0, p1, p2, p3, p4, p5, p6, p7, p8⟩ := places_row hown hlt
            have hxd : L[i] ∈ sts 4 := HLD.out _ (List.getElem_mem hlt)
            have HROW := Lib.hid (waitW_row (T := T) (Ls := Ls) (m := m) (R := R) (W := W) hlt)
            obtain ⟨x, hx⟩ : ∃ x, L[i] = x := ⟨_, rfl⟩
            rw [hx] at p0 p1 p2 p3 p4 p5 p6 p7 p8 hxd HROW
            have HRA := Lib.hid (hR.alloc (.cells #[.bool (pf 4 x 0), .bool (pf 4 x 1), .bool (pf 4 x 2), .bool (pf 4 x 3), .bool (pf 4 x 4), .bool (pf 4 x 5), .bool (pf 4 x 6), .bool (pf 4 x 7), .bool (pt x)] 75))
            have HWA := Lib.hid (hW.alloc (.cells #[.bool (pf 4 x 0), .bool (pf 4 x 1), .bool (pf 4 x 2), .bool (pf 4 x 3), .bool (pf 4 x 4), .bool (pf 4 x 5), .bool (pf 4 x 6), .bool (pf 4 x 7), .bool (pt x)] 75))
            have HOA := Lib.hid (hown.alloc (.cells #[.bool (pf 4 x 0), .bool (pf 4 x 1), .bool (pf 4 x 2), .bool (pf 4 x 3), .bool (pf 4 x 4), .bool (pf 4 x 5), .bool (pf 4 x 6), .bool (pf 4 x 7), .bool (pt x)] 75))
            have HBA := Lib.hid (hb.alloc hb.size (.cells #[.bool (pf 4 x 0), .bool (pf 4 x 1), .bool (pf 4 x 2), .bool (pf 4 x 3), .bool (pf 4 x 4), .bool (pf 4 x 5), .bool (pf 4 x 6), .bool (pf 4 x 7), .bool (pt x)] 75))
            have HFA := Lib.hid (HFN.out.below HBA.out)
            have hbw : w.heap.size ≤ wi.heap.size := hb.size
            obtain ⟨t0, t1, t2, t3, t4, t5, t6, t7, t8⟩ := nine0_of (show Whole (wi.alloc (.cells #[.bool (pf 4 x 0), .bool (pf 4 x 1), .bool (pf 4 x 2), .bool (pf 4 x 3), .bool (pf 4 x 4), .bool (pf 4 x 5), .bool (pf 4 x 6), .bool (pf 4 x 7), .bool (pt x)] 75)) wi.heap.size 75 (plcC 4 x) from Whole.fresh _ _ _)
            clear hx hR hW hown hb
            go_wp2_with fail
            have har := arrFn_any T gB lo E c Ls x _ HLS.out HUP.out hxd HFA.out
            unfold plcC place9 at har
            refine har.mono ?_
            clear har
            rintro e w2 ⟨A2, c2, rfl, hown2, hb2⟩
            have HES : Hid (∀ e ∈ arrOf T 4 Ls x, e.1 ∈ sts 4 ∧ 1 ≤ e.2 ∧ e.2 ≤ 1000000) := fun e he => by
              obtain ⟨l, hl, rfl⟩ := List.mem_map.1 he
              exact ⟨(plcW_step HUP.out hxd hl).2, HTT.out l (mvsW_mem hl)⟩
            have hel : (arrOf T 4 Ls x).length ≤ 255 := by rw [arrOf, List.length_map]; exact mvsW_len HLS.out
            obtain ⟨es, hes⟩ : ∃ es, arrOf T 4 Ls x = es := ⟨_, rfl⟩
            rw [hes] at hown2 HES hel HROW ⊢
            have HR2 := Lib.hid (HRA.out.below hb2)
            have HW2 : Hid (PlaceMap w2 (w.heap.size + 1) (waitW T Ls L m R W i (es.take 0))) := by show PlaceMap _ _ _; rw [List.take_zero]; exact HWA.out.below hb2
            have HO2 := Lib.hid (ownsRow_below HOA.out hb2)
            have HB2 := Lib.hid (below_then HBA.out hb2 HBA.out.size)
            have HV2 := Lib.hid hown2
            have hz2 : w0.heap.size ≤ w2.heap.size := by have := hb2.size; simp at this; omega
            have hwx : wi.heap.size < (wi.alloc (.cells #[.bool (pf 4 x 0), .bool (pf 4 x 1), .bool (pf 4 x 2), .bool (pf 4 x 3), .bool (pf 4 x 4), .bool (pf 4 x 5), .bool (pf 4 x 6), .bool (pf 4 x 7), .bool (pt x)] 75)).heap.size := by simp
            clear hes hown2 hb2 t0 t1 t2 t3 t4 t5 t6 t7 t8 p0 p1 p2 p3 p4 p5 p6 p7 p8 hgl
            go_wp2
            go_loopw [58] (fun i' wr => ∃ j : Nat, j ≤ es.length ∧ i' = .int .i64 j ∧ PlaceMap wr w.heap.size (settle L m R) ∧ PlaceMap wr (w.heap.size + 1) (waitW T Ls L m R W i (es.take j)) ∧ wr.ownsRow (w0.heap.size + 1) 75 9 (.slice (some ⟨g, 0, none⟩) L.length cL) L.length (edgeC 4 L) ∧ wr.ownsRow (wi.alloc (.cells #[.bool (pf 4 x 0), .bool (pf 4 x 1), .bool (pf 4 x 2), .bool (pf 4 x 3), .bool (pf 4 x 4), .bool (pf 4 x 5), .bool (pf 4 x 6), .bool (pf 4 x 7), .bool (pt x)] 75)).heap.size 168 10 (.slice A2 es.length c2) es.length (arrsC es) ∧ Below w.heap.size w wr ∧ w0.heap.size ≤ wr.heap.size) (fun i' _ => es.length - (intOf i').toNat)
            case atStart => exact ⟨0, Nat.zero_le _, rfl, HR2.out, HW2.out, HO2.out, HV2.out, HB2.out, hz2⟩
            case round =>
              clear HR2 HW2 HO2 HV2 HB2 hz2
              obtain ⟨j, hj, rfl, hR, hW, hown, hvs, hb, hz⟩ := hrel
              obtain ⟨wo, rfl⟩ : ∃ X : World, X = wr := ⟨_, rfl⟩
              by_cases hlt2 : j < es.length
              · have hd2 : decide ((j : Int) < (es.length : Int)) = true := by simp; omega
                obtain ⟨g2, rfl, hlo3, hgl2, p0, p1, p2, p3, p4, p5, p6, p7, p8, p9⟩ := arr_row hvs hlt2
                obtain ⟨hyd, ht1, htB⟩ := HES.out _ (List.getElem_mem hlt2)
                have HNX := Lib.hid (waitW_next (T := T) (Ls := Ls) (L := L) (m := m) (R := R) (W := W) (i := i) hlt2)
                obtain ⟨⟨y, t⟩, hy⟩ : ∃ y, es[j] = y := ⟨_, rfl⟩
                rw [hy] at p0 p1 p2 p3 p4 p5 p6 p7 p8 p9 hyd ht1 htB HNX
                dsimp only at p0 p1 p2 p3 p4 p5 p6 p7 p8 p9 hyd ht1 htB
                have HRA := Lib.hid (hR.alloc (.cells #[.bool (pf 4 y 0), .bool (pf 4 y 1), .bool (pf 4 y 2), .bool (pf 4 y 3), .bool (pf 4 y 4), .bool (pf 4 y 5), .bool (pf 4 y 6), .bool (pf 4 y 7), .bool (pt y), .int .i64 t] 168))
                have HWA := Lib.hid (hW.alloc (.cells #[.bool (pf 4 y 0), .bool (pf 4 y 1), .bool (pf 4 y 2), .bool (pf 4 y 3), .bool (pf 4 y 4), .bool (pf 4 y 5), .bool (pf 4 y 6), .bool (pf 4 y 7), .bool (pt y), .int .i64 t] 168))
                have HOA := Lib.hid (hown.alloc (.cells #[.bool (pf 4 y 0), .bool (pf 4 y 1), .bool (pf 4 y 2), .bool (pf 4 y 3), .bool (pf 4 y 4), .bool (pf 4 y 5), .bool (pf 4 y 6), .bool (pf 4 y 7), .bool (pt y), .int .i64 t] 168))
                have HVA := Lib.hid (hvs.alloc (.cells #[.bool (pf 4 y 0), .bool (pf 4 y 1), .bool (pf 4 y 2), .bool (pf 4 y 3), .bool (pf 4 y 4), .bool (pf 4 y 5), .bool (pf 4 y 6), .bool (pf 4 y 7), .bool (pt y), .int .i64 t] 168))
                have HBA := Lib.hid (hb.alloc hb.size (.cells #[.bool (pf 4 y 0), .bool (pf 4 y 1), .bool (pf 4 y 2), .bool (pf 4 y 3), .bool (pf 4 y 4), .bool (pf 4 y 5), .bool (pf 4 y 6), .bool (pf 4 y 7), .bool (pt y), .int .i64 t] 168))
                have hwh := Whole.fresh wo 168 #[.bool (pf 4 y 0), .bool (pf 4 y 1), .bool (pf 4 y 2), .bool (pf 4 y 3), .bool (pf 4 y 4), .bool (pf 4 y 5), .bool (pf 4 y 6), .bool (pf 4 y 7), .bool (pt y), .int .i64 t]
                have s0 := hwh.cell 0
                have s1 := hwh.cell 1
                have s2 := hwh.cell 2
                have s3 := hwh.cell 3
                have s4 := hwh.cell 4
                have s5 := hwh.cell 5
                have s6 := hwh.cell 6
                have s7 := hwh.cell 7
                have s8 := hwh.cell 8
                have s9 := hwh.cell 9
                have HWF : Hid ((Lit.int .i64 (m + t)).wf = true) := WalkArith.wf_i64 (by omega)
                have hz3 : w0.heap.size ≤ (wo.alloc (.cells #[.bool (pf 4 y 0), .bool (pf 4 y 1), .bool (pf 4 y 2), .bool (pf 4 y 3), .bool (pf 4 y 4), .bool (pf 4 y 5), .bool (pf 4 y 6), .bool (pf 4 y 7), .bool (pt y), .int .i64 t] 168)).heap.size := by simp; omega
                clear hy hR hW hown hvs hb hwh hgl2
                cases hRy : settle L m R y with
                | some v =>
                  have HN2 : Hid (waitW T Ls L m R W i (es.take (j + 1)) = waitW T Ls L m R W i (es.take j)) := HNX.out.trans (wait1_skip (by show settle L m R y ≠ none; rw [hRy]; simp))
                  have HRY := Lib.hid hRy
                  clear hRy
                  go_wp2_with (at_lookup; refine wpList_map_some _ rfl _ _ rfl (place_keys (by omega)) Try.underlying76 Try.underlying3 (hzero _) rfl HRA.out y hyd rfl HRY.out ?_; go_frame)
                  clear s0 s1 s2 s3 s4 s5 s6 s7 s8 s9 p0 p1 p2 p3 p4 p5 p6 p7 p8 p9
                  go_roundw
                  case rel => exact ⟨j + 1, by omega, by go_num, HRA.out, by rw [HN2.out]; exact HWA.out, HOA.out, HVA.out, HBA.out, hz3⟩
                  case measure => simp [intOf]; omega
                | none =>
                  have HRY := Lib.hid hRy
                  clear hRy
                  cases hWy : waitW T Ls L m R W i (es.take j) y with
                  | none =>
                    have HN2 : Hid (waitW T Ls L m R W i (es.take (j + 1)) = upd (waitW T Ls L m R W i (es.take j)) y (m + t)) := HNX.out.trans (wait1_new HRY.out hWy)
                    have HWY := Lib.hid hWy
                    clear hWy
                    go_wp2_with (first | (at_lookup; refine wpList_map_none _ rfl _ _ rfl (place_keys (by omega)) Try.underlying76 Try.underlying3 (hzero _) rfl HRA.out y hyd rfl HRY.out ?_; go_frame) | (at_lookup; refine wpList_map_none _ rfl _ _ rfl (place_keys (by omega)) Try.underlying76 Try.underlying3 (hzero _) rfl HWA.out y hyd rfl HWY.out ?_; go_frame) | (at_mapUpdate; refine wpList_map_put _ rfl _ _ _ rfl (place_keys (by omega)) Try.underlying76 Try.underlying3 (sts_len (by omega)) rfl HWA.out y hyd rfl (m + t) HWF.out rfl ?_; intro w3 hW3 hg3; go_frame))
                    have HW3 := Lib.hid (hW3.same HN2.out.symm)
                    have HR3 := Lib.hid (HRA.out.kept hg3 (fun e => by have := Option.some.inj e; omega))
                    have HO3 := Lib.hid (own_grown HOA.out hg3 (fun g hg e => by have := Option.some.inj e; omega))
                    have HV3 := Lib.hid (own_grown HVA.out hg3 (fun g hg e => by have := Option.some.inj e; simp at hg; omega))
                    have HB3 := Lib.hid (grown_below HBA.out hg3 (by omega))
                    have hz4 : w0.heap.size ≤ w3.heap.size := by have := hg3.size; omega
                    clear hW3 hg3 s0 s1 s2 s3 s4 s5 s6 s7 s8 s9 p0 p1 p2 p3 p4 p5 p6 p7 p8 p9
                    go_roundw
                    case rel => exact ⟨j + 1, by omega, by go_num, HR3.out, HW3.out, HO3.out, HV3.out, HB3.out, hz4⟩
                    case measure => simp [intOf]; omega
                  | some k =>
                    have HWY := Lib.hid hWy
                    by_cases hk : m + t < k
                    · have HN2 : Hid (waitW T Ls L m R W i (es.take (j + 1)) = upd (waitW T Ls L m R W i (es.take j)) y (m + t)) := HNX.out.trans (wait1_less HRY.out hWy hk)
                      have hdk : decide (m + t < k) = true := by simpa using hk
                      clear hWy
                      go_wp2_with (first | (at_lookup; refine wpList_map_none _ rfl _ _ rfl (place_keys (by omega)) Try.underlying76 Try.underlying3 (hzero _) rfl HRA.out y hyd rfl HRY.out ?_; go_frame) | (at_lookup; refine wpList_map_some _ rfl _ _ rfl (place_keys (by omega)) Try.underlying76 Try.underlying3 (hzero _) rfl HWA.out y hyd rfl HWY.out ?_; go_frame) | (at_mapUpdate; refine wpList_map_put _ rfl _ _ _ rfl (place_keys (by omega)) Try.underlying76 Try.underlying3 (sts_len (by omega)) rfl HWA.out y hyd rfl (m + t) HWF.out rfl ?_; intro w3 hW3 hg3; go_frame))
                      have HW3 := Lib.hid (hW3.same HN2.out.symm)
                      have HR3 := Lib.hid (HRA.out.kept hg3 (fun e => by have := Option.some.inj e; omega))
                      have HO3 := Lib.hid (own_grown HOA.out hg3 (fun g hg e => by have := Option.some.inj e; omega))
                      have HV3 := Lib.hid (own_grown HVA.out hg3 (fun g hg e => by have := Option.some.inj e; simp at hg; omega))
                      have HB3 := Lib.hid (grown_below HBA.out hg3 (by omega))
                      have hz4 : w0.heap.size ≤ w3.heap.size := by have := hg3.size; omega
                      clear hW3 hg3 s0 s1 s2 s3 s4 s5 s6 s7 s8 s9 p0 p1 p2 p3 p4 p5 p6 p7 p8 p9
                      go_roundw
                      case rel => exact ⟨j + 1, by omega, by go_num, HR3.out, HW3.out, HO3.out, HV3.out, HB3.out, hz4⟩
                      case measure => simp [intOf]; omega
                    · have HN2 : Hid (waitW T Ls L m R W i (es.take (j + 1)) = waitW T Ls L m R W i (es.take j)) := HNX.out.trans (wait1_keep hWy hk)
                      have hdk : decide (m + t < k) = false := by simpa using hk
                      clear hWy
                      go_wp2_with (first | (at_lookup; refine wpList_map_none _ rfl _ _ rfl (place_keys (by omega)) Try.underlying76 Try.underlying3 (hzero _) rfl HRA.out y hyd rfl HRY.out ?_; go_frame) | (at_lookup; refine wpList_map_some _ rfl _ _ rfl (place_keys (by omega)) Try.underlying76 Try.underlying3 (hzero _) rfl HWA.out y hyd rfl HWY.out ?_; go_frame))
                      clear s0 s1 s2 s3 s4 s5 s6 s7 s8 s9 p0 p1 p2 p3 p4 p5 p6 p7 p8 p9
                      go_roundw
                      case rel => exact ⟨j + 1, by omega, by go_num, HRA.out, by rw [HN2.out]; exact HWA.out, HOA.out, HVA.out, HBA.out, hz3⟩
                      case measure => simp [intOf]; omega
              · obtain rfl : j = es.length := by omega
                have hd2 : decide ((es.length : Int) < (es.length : Int)) = false := by simp
                rw [List.take_length, HROW.out] at hW
                have HR1 := Lib.hid hR
                have HW1 := Lib.hid hW
                have HO1 := Lib.hid hown
                have HB1 := Lib.hid hb
                clear hR hW hown hvs hb
                go_wp2
                go_roundw
                case rel => exact ⟨i + 1, by omega, by go_num, HR1.out, HW1.out, HO1.out, HB1.out, hz⟩
                case measure => simp [intOf]; omega
          · obtain rfl : i = L.length := by omega
            have hd1 : decide ((L.length : Int) < (L.length : Int)) = false := by simp
            have hWe : waitW T Ls L m R W L.length [] = waitAll m (settle L m R) (esOf T 4 Ls L) (gone L W) := by rw [waitW, List.take_length, List.append_nil]
            rw [hWe] at hW
            obtain ⟨hst2, hcn⟩ := times_round (by omega) HEE.out HST.out HE.out HWD.out (leg_in (T := T) (k := 4) (Ls := Ls)) leg_out
            have hst3 : TimesSt (LegE T 4 Ls) (sts 4) src 1000000 (settle L m R) (waitAll m (settle L m R) (esOf T 4 Ls L) (gone L W)) := hst2
            have hcn3 : countIs (sts 4) R < countIs (sts 4) (settle L m R) := hcn
            have hc5 := count_le (settle L m R)
            clear hWe hst2 hcn
            obtain ⟨R2, hR2⟩ : ∃ R2, R2 = settle L m R := ⟨_, rfl⟩
            obtain ⟨W2, hW2⟩ : ∃ W2, W2 = waitAll m (settle L m R) (esOf T 4 Ls L) (gone L W) := ⟨_, rfl⟩
            rw [← hW2, ← hR2] at hst3
            rw [← hW2] at hW
            rw [← hR2] at hR hcn3 hc5
            clear hW2 hR2
            have hn := HN.out
            have HNC : Hid (∃ n', n' < n ∧ n' + countIs (sts 4) R2 = 512) := ⟨512 - countIs (sts 4) R2, by omega, by omega⟩
            have HST2 := Lib.hid hst3
            have HR1 := Lib.hid hR
            have HW1 := Lib.hid hW
            have HB1 := Lib.hid hb
            clear hst3 hcn3 hc5 hn hR hb hown
            obtain ⟨q, hq⟩ : ∃ q, q = countIs (sts 4) W2 := ⟨_, rfl⟩
            have HQ := Lib.hid hq
            by_cases h0 : q = 0
            · have hd9 : decide (0 < q) = false := by simp; omega
              have HNO : Hid (∀ x, W2 x = none) := count_none (by rw [← hq]; exact h0) (fun x hx => hW.out hx)
              have HLE : Hid (leastD (LegE T 4 Ls) src = R2) := leastD_of (fun x t y h => (HEE.out x t y h).1) (seek_end HST2.out.seek HNO.out)
              have H00 := Lib.hid h0
              clear hW hq h0
              go_wp2_with (at_len; refine wpList_map_len _ rfl _ rfl (place_keys (by omega)) (sts_nodup 4) Try.underlying76 rfl HW1.out ?_; rw [← HQ.out]; go_frame)
              try simp only [Exit.jump]
              go_ret
              exact ⟨w.heap.size, rfl, by rw [HLE.out]; exact HR1.out, HB1.out⟩
            · have hd9 : decide (0 < q) = true := by simp; omega
              have HSO := Lib.hid (count_some (R := W2) (by rw [← hq]; exact h0))
              clear hW hq
              go_wp2_with (at_len; refine wpList_map_len _ rfl _ rfl (place_keys (by omega)) (sts_nodup 4) Try.underlying76 rfl HW1.out ?_; rw [← HQ.out]; go_frame)
              go_step3
              obtain ⟨n', hn1, hn2⟩ := HNC.out
              exact ⟨rfl, n', hn1, R2, W2, HST2.out, hn2, HR1.out, HW1.out, HSO.out, HB1.out, _, _, _, _, _, _, _, _, _, _, _, _, _, _, _, _, _, _, _, _, _, _, _, _, _, _, _, _, _, _, _, _, _, _, _, _, _, _, _, _, _, _, _, _, _, _, _, _, _, _, _, _, _, _, _, _, _, _, _, _, _, _, _, _, _, _, _, _, _, _, _, _, _, _, _, _, _, _, _, _, _, _, _, _, _, _, _, _, _, _, _, _, _, rfl⟩
  · intro HP
    have HPP := Lib.hid HP
    clear HP
    go_wp2
    go_loopw [26] (fun i wr => ∃ j : Nat, j ≤ 1 ∧ i = .int .i64 j ∧ PlaceMap wr w.heap.size (fun _ => none) ∧ PlaceMap wr (w.heap.size + 1) (srcMap src j) ∧ Whole wr b 75 (plcC 4 src) ∧ Below w.heap.size w wr ∧ w.heap.size + 1 < wr.heap.size) (fun i _ => 1 - (intOf i).toNat)
    case atStart => exact ⟨0, by omega, rfl, H1.out, H2.out, HRW.out, HB.out, by simp⟩
    case round =>
      clear H1 H2 HRW HB hmm
      obtain ⟨j, hj, rfl, hR, hW, hrow, hb, hz⟩ := hrel
      obtain ⟨wo, rfl⟩ : ∃ X : World, X = wr := ⟨_, rfl⟩
      rcases (show j = 0 ∨ j = 1 by omega) with rfl | rfl
      · obtain ⟨p0, p1, p2, p3, p4, p5, p6, p7, p8⟩ := nine0_of hrow
        have hgl := hrow.lt
        have hd1 : decide ((0 : Int) < 1) = true := by decide
        have HRA := Lib.hid (hR.alloc (.cells #[.bool (pf 4 src 0), .bool (pf 4 src 1), .bool (pf 4 src 2), .bool (pf 4 src 3), .bool (pf 4 src 4), .bool (pf 4 src 5), .bool (pf 4 src 6), .bool (pf 4 src 7), .bool (pt src)] 75))
        have HWA := Lib.hid (hW.alloc (.cells #[.bool (pf 4 src 0), .bool (pf 4 src 1), .bool (pf 4 src 2), .bool (pf 4 src 3), .bool (pf 4 src 4), .bool (pf 4 src 5), .bool (pf 4 src 6), .bool (pf 4 src 7), .bool (pt src)] 75))
        have HOA := Lib.hid (hrow.alloc (.cells #[.bool (pf 4 src 0), .bool (pf 4 src 1), .bool (pf 4 src 2), .bool (pf 4 src 3), .bool (pf 4 src 4), .bool (pf 4 src 5), .bool (pf 4 src 6), .bool (pf 4 src 7), .bool (pt src)] 75))
        have HBA := Lib.hid (hb.alloc hb.size (.cells #[.bool (pf 4 src 0), .bool (pf 4 src 1), .bool (pf 4 src 2), .bool (pf 4 src 3), .bool (pf 4 src 4), .bool (pf 4 src 5), .bool (pf 4 src 6), .bool (pf 4 src 7), .bool (pt src)] 75))
        have HS1 : Hid (upd (srcMap src 0) src 0 = srcMap src 1) := by show _ = _; simp [srcMap]
        obtain ⟨t0, t1, t2, t3, t4, t5, t6, t7, t8⟩ := nine0_of (show Whole (wo.alloc (.cells #[.bool (pf 4 src 0), .bool (pf 4 src 1), .bool (pf 4 src 2), .bool (pf 4 src 3), .bool (pf 4 src 4), .bool (pf 4 src 5), .bool (pf 4 src 6), .bool (pf 4 src 7), .bool (pt src)] 75)) wo.heap.size 75 (plcC 4 src) from Whole.fresh _ _ _)
        clear hR hW hrow hb
        go_wp2_with (at_mapUpdate; refine wpList_map_put _ rfl _ _ _ rfl (place_keys (by omega)) Try.underlying76 Try.underlying3 (sts_len (by omega)) rfl HWA.out src HSD.out rfl 0 (by decide) rfl ?_; intro w2 hW2 hg2; go_frame)
        have HR2 := Lib.hid (HRA.out.kept hg2 (fun e => by have := Option.some.inj e; omega))
        have HW2 := Lib.hid (hW2.same HS1.out)
        have HO2 : Hid (Whole w2 b 75 (plcC 4 src)) := (hg2.block b HOA.out.lt (fun e => by have := Option.some.inj e; omega)).trans HOA.out
        have HB2 := Lib.hid (grown_below HBA.out hg2 (by omega))
        have hz2 : w.heap.size + 1 < w2.heap.size := by have := hg2.size; simp at this; omega
        clear hW2 hg2 t0 t1 t2 t3 t4 t5 t6 t7 t8 p0 p1 p2 p3 p4 p5 p6 p7 p8
        go_roundw
        case rel => exact ⟨1, by omega, by go_num, HR2.out, HW2.out, HO2.out, HB2.out, hz2⟩
        case measure => simp [intOf]
      · have hd1 : decide ((1 : Int) < 1) = false := by decide
        have HR1 := Lib.hid hR
        have HW1 := Lib.hid hW
        have HB1 := Lib.hid hb
        clear hR hW hrow hb
        have HJ : Hid (TimesSt (LegE T 4 Ls) (sts 4) src 1000000 (fun _ => none) (srcMap src 1)) := times_start _ _ _ _
        have H0 : Hid (countIs (sts 4) (fun _ => (none : Option Int)) = 0) := by show _ = _; simp [countIs]
        have HX : Hid (∃ x c, srcMap src 1 x = some c) := ⟨src, 0, by rw [srcMap, if_neg (by omega), upd_same]⟩
        go_wp2
        go_step3
        rename_i hK
        exact hK _ _ (HPP.out 512 _ _ ⟨fun _ => none, srcMap src 1, HJ.out, by rw [H0.out], HR1.out, HW1.out, HX.out, HB1.out, _, _, _, _, _, _, _, _, _, _, _, _, _, _, _, _, _, _, _, _, _, _, _, _, _, _, _, _, _, _, _, _, _, _, _, _, _, _, _, _, _, _, _, _, _, _, _, _, _, _, _, _, _, _, _, _, _, _, _, _, _, _, _, _, _, _, _, _, _, _, _, _, _, _, _, _, _, _, _, _, _, _, _, _, _, _, _, _, _, _, _, _, _, rfl⟩)
end Go.Proofs.Ytlpeimlbpiofkaa
