/-
  What is proved: the contract of the program's planOf. Conditions: the party and the lists are read as they lie.
-/
import Derived.Test.YtionmcgaicijkaaPaPlan
namespace Go.Proofs.Ytionmcgaicijkaa
open Go.RowKit

/-- What planOf hands back. -/
def PlanPost (xs : List Int) (n : Nat) (s : Int) (ls : List (List Int)) (w : World) (e : Ending) (w' : World) : Prop :=
  (((isParty xs s && isPlan n s ls) = true ∧ ∃ (T : Option Addr) (c : Nat), e = .returned (.tuple #[.slice T ls.length c, .bool true]) ∧ ∃ base, w.heap.size ≤ base ∧ w'.ownsRow base 80 8 (.slice T ls.length c) ls.length (crowdsOf ls)) ∨
    ((isParty xs s && isPlan n s ls) = false ∧ e = .returned (.tuple #[.slice none 0 0, .bool false]))) ∧ Below w.heap.size w w'
theorem PlanPost.no {xs : List Int} {n : Nat} {s : Int} {ls : List (List Int)} {w w' : World} (h : (isParty xs s && isPlan n s ls) = false) (hb : Below w.heap.size w w') : PlanPost xs n s ls w (.returned (.tuple #[.slice none 0 0, .bool false])) w' := ⟨.inr ⟨h, rfl⟩, hb⟩
theorem isParty_pos {xs : List Int} {s : Int} (h : isParty xs s = true) : 0 < xs.length := by
  simp only [isParty, Bool.and_eq_true] at h
  have := (within_iff.1 h.1).1
  omega

theorem walk_none (P D : Option Addr) (n c q z : Nat) (rs : List RowV) (s : Int) (w : World) (hD : Grid w D rs) (hz : rs.length = q) (hn : n ≤ 8) (hq : q ≤ 1048576) :
    Calls Try.prog 69 #[.agg #[.slice P n c, .int .i64 s], .agg #[.bool false, .bool false, .bool false, .bool false, .bool false, .bool false, .bool false, .bool false, .bool false], .slice D q z] w (WalkPost n s (falses n) false (rowNums rs) w) := by
  have h := walk_any P D n c q z (falses n) rs s false w hD (falses_len n) hz hn hq
  rw [place_falses] at h
  exact h

/-- Two places compared. -/
def sameEight (v0 v1 v2 v3 v4 v5 v6 v7 u0 u1 u2 u3 u4 u5 u6 u7 : Bool) : Bool := v0 == u0 && v1 == u1 && v2 == u2 && v3 == u3 && v4 == u4 && v5 == u5 && v6 == u6 && v7 == u7
def samePlace (v0 v1 v2 v3 v4 v5 v6 v7 v8 u0 u1 u2 u3 u4 u5 u6 u7 u8 : Bool) : Bool := sameEight v0 v1 v2 v3 v4 v5 v6 v7 u0 u1 u2 u3 u4 u5 u6 u7 && v8 == u8
set_option maxHeartbeats 1600000 in
theorem eight_eq (v0 v1 v2 v3 v4 v5 v6 v7 u0 u1 u2 u3 u4 u5 u6 u7 : Bool) (w : World) : (Op.equalIn 9998 78 (.agg #[.bool v0, .bool v1, .bool v2, .bool v3, .bool v4, .bool v5, .bool v6, .bool v7]) (.agg #[.bool u0, .bool u1, .bool u2, .bool u3, .bool u4, .bool u5, .bool u6, .bool u7])).run Try.prog w = .ok (sameEight v0 v1 v2 v3 v4 v5 v6 v7 u0 u1 u2 u3 u4 u5 u6 u7) w := by
  unfold sameEight
  have uB := Try.underlying4
  have aB := Try.isAgg4
  have zB := Try.sizeOf4
  rw [show (9998 : Nat) = 9997 + 1 from rfl, Op.equalIn]
  simp only [Sem.run_bind, run_underlying Try.underlying78, Result.andThen_ok]
  simp only [Std.Legacy.Range.forIn_eq_forIn_range', Std.Legacy.Range.size, Nat.sub_zero, Nat.add_sub_cancel, Nat.div_one, List.range'_succ, List.range'_zero, List.forIn_cons, List.forIn_nil]
  go_simp
  by_cases h0 : v0 = u0
  case neg => simp [h0]
  case pos =>
    subst h0
    by_cases h1 : v1 = u1
    case neg => simp [h1]
    case pos =>
      subst h1
      by_cases h2 : v2 = u2
      case neg => simp [h2]
      case pos =>
        subst h2
        by_cases h3 : v3 = u3
        case neg => simp [h3]
        case pos =>
          subst h3
          by_cases h4 : v4 = u4
          case neg => simp [h4]
          case pos =>
            subst h4
            by_cases h5 : v5 = u5
            case neg => simp [h5]
            case pos =>
              subst h5
              by_cases h6 : v6 = u6
              case neg => simp [h6]
              case pos =>
                subst h6
                by_cases h7 : v7 = u7
                case neg => simp [h7]
                case pos =>
                  subst h7
                  simp
set_option maxHeartbeats 1600000 in
@[go_sem high] theorem place_eq (v0 v1 v2 v3 v4 v5 v6 v7 v8 u0 u1 u2 u3 u4 u5 u6 u7 u8 : Bool) (w : World) : (Op.equalIn 10000 82 (.agg #[.bool v0, .bool v1, .bool v2, .bool v3, .bool v4, .bool v5, .bool v6, .bool v7, .bool v8]) (.agg #[.bool u0, .bool u1, .bool u2, .bool u3, .bool u4, .bool u5, .bool u6, .bool u7, .bool u8])).run Try.prog w = .ok (samePlace v0 v1 v2 v3 v4 v5 v6 v7 v8 u0 u1 u2 u3 u4 u5 u6 u7 u8) w := by
  have h := eight_eq v0 v1 v2 v3 v4 v5 v6 v7 u0 u1 u2 u3 u4 u5 u6 u7
  unfold samePlace
  generalize sameEight v0 v1 v2 v3 v4 v5 v6 v7 u0 u1 u2 u3 u4 u5 u6 u7 = b at h ⊢
  go_simp
  by_cases h8 : v8 = u8 <;> cases b <;> simp [h8]

theorem sameBits_ext {bs cs : List Bool} (hl : bs.length = cs.length) (h8 : bs.length ≤ 8) : sameEight (bs.getD 0 false) (bs.getD 1 false) (bs.getD 2 false) (bs.getD 3 false) (bs.getD 4 false) (bs.getD 5 false) (bs.getD 6 false) (bs.getD 7 false) (cs.getD 0 false) (cs.getD 1 false) (cs.getD 2 false) (cs.getD 3 false) (cs.getD 4 false) (cs.getD 5 false) (cs.getD 6 false) (cs.getD 7 false) = sameBits bs cs := by
  by_cases h : bs = cs
  · subst h
    rw [sameBits_yes rfl]
    simp [sameEight]
  · rw [sameBits_no h]
    cases hs : sameEight (bs.getD 0 false) (bs.getD 1 false) (bs.getD 2 false) (bs.getD 3 false) (bs.getD 4 false) (bs.getD 5 false) (bs.getD 6 false) (bs.getD 7 false) (cs.getD 0 false) (cs.getD 1 false) (cs.getD 2 false) (cs.getD 3 false) (cs.getD 4 false) (cs.getD 5 false) (cs.getD 6 false) (cs.getD 7 false)
    · rfl
    · exfalso
      apply h
      simp only [sameEight, Bool.and_eq_true, beq_iff_eq] at hs
      obtain ⟨⟨⟨⟨⟨⟨⟨e0, e1⟩, e2⟩, e3⟩, e4⟩, e5⟩, e6⟩, e7⟩ := hs
      apply List.ext_getElem hl
      intro i h1 h2
      have g : ∀ (l : List Bool) (h : i < l.length), l[i] = l.getD i false := fun l h => by simp [h]
      rw [g bs h1, g cs h2]
      match i, h1 with
      | 0, _ => exact e0
      | 1, _ => exact e1
      | 2, _ => exact e2
      | 3, _ => exact e3
      | 4, _ => exact e4
      | 5, _ => exact e5
      | 6, _ => exact e6
      | 7, _ => exact e7
      | k + 8, h => omega

set_option maxHeartbeats 1600000 in
set_option maxRecDepth 100000 in
theorem planOf_any (A D : Option Addr) (n c q z : Nat) (xs : List Int) (rs : List RowV) (s : Int) (w : World) (hA : Holds w A (nums xs)) (hD : Grid w D rs) (hx : xs.length = n) (hz : rs.length = q) (hn : n ≤ 9223372036854775807) (hq : q ≤ 9223372036854775807) :
    Calls Try.prog 74 #[.agg #[.slice A n c, .int .i64 s], .slice D q z] w (PlanPost xs n s (rowNums rs) w) := by
  have HX := Lib.hid hx
  have HZ := Lib.hid hz
  have HLS := Lib.hid (rowNums_len rs)
  have hA2 := hA.alloc (.cells #[.slice A n c, .int .i64 s] 33)
  have hD2 := hD.alloc (.cells #[.slice A n c, .int .i64 s] 33)
  have h0 := Whole.fresh w 33 #[.slice A n c, .int .i64 s]
  have hbw := below1 w (.cells #[.slice A n c, .int .i64 s] 33)
  cases hp : isParty xs s
  · have HP := Lib.hid hp
    have HF := Lib.hid (show (isParty xs s && isPlan n s (rowNums rs)) = false by rw [hp]; rfl)
    clear hp hx hz
    go_enter Try.func74, Try.ntmps74
    go_wp2_with fail
    refine (isParty_any A n c xs s _ hA2 HX.out (by omega)).mono ?_
    rintro e w1 ⟨rfl, hb⟩
    rw [HP.out]
    have ht := below_then hbw hb (by simp)
    clear hb
    go_wp2
    go_ret2
    exact PlanPost.no HF.out ht
  · have HP := Lib.hid hp
    have h8 := isParty_le hp
    have hpos := isParty_pos hp
    rw [hx] at h8 hpos
    clear hp hx hz
    by_cases h40 : 40 < q
    · have HF : Hid ((isParty xs s && isPlan n s (rowNums rs)) = false) := by
        show _ = _
        have := HLS.out
        have := HZ.out
        simp [isPlan]
        omega
      go_enter Try.func74, Try.ntmps74
      go_wp2_with fail
      refine (isParty_any A n c xs s _ hA2 HX.out (by omega)).mono ?_
      rintro e w1 ⟨rfl, hb⟩
      rw [HP.out]
      have ht := below_then hbw hb (by simp)
      clear hb
      go_wp2
      go_ret2
      exact PlanPost.no HF.out ht
    · have hmle : made n s (falses n) false (rowNums rs) ≤ q := by have := made_le n s (rowNums rs) (falses n) false; have := HLS.out; have := HZ.out; omega
      have HFL := Lib.hid (falses_len n)
      go_enter Try.func74, Try.ntmps74
      go_wp2_with fail
      refine (isParty_any A n c xs s _ hA2 HX.out (by omega)).mono ?_
      rintro e w1 ⟨rfl, hb⟩
      rw [HP.out]
      have ht := below_then hbw hb (by simp)
      replace h0 := h0.below hb
      have hD3 := hD2.below hb
      obtain ⟨c0, c1, -, -⟩ := h0.two
      clear hb hbw hA2 hD2
      go_wp2_with fail
      have ht1s := ht.size
      refine (walk_none A D n c q z rs s _ hD3 HZ.out h8 (by omega)).mono ?_
      rintro e w2 ⟨T, c2, rfl, hown, hb⟩
      replace ht := below_then ht hb ht.size
      replace h0 := h0.below hb
      have hl2 : w.heap.size < w2.heap.size := h0.lt
      have HOWN := Lib.hid hown
      have HBASE : w.heap.size ≤ w1.heap.size + 1 + 1 + 1 := by have := ht1s; omega
      have HEL := Lib.hid ((ended_len n s (falses n) false (rowNums rs)).trans (falses_len n))
      clear hb hown c0 c1
      obtain ⟨c0, c1, -, -⟩ := h0.two
      by_cases hmd : made n s (falses n) false (rowNums rs) < q
      · have HF : Hid ((isParty xs s && isPlan n s (rowNums rs)) = false) := by
          show _ = _
          have h1 := HLS.out
          have h2 := HZ.out
          have h3 : ¬ made n s (falses n) false (rowNums rs) = rs.length := by omega
          simp [isPlan, h1, h3]
        have hd : decide (made n s (falses n) false (rowNums rs) < q) = true := by simpa using hmd
        unfold placeCells
        go_wp2_with fail
        go_quiet (fail)
        go_wp2
        go_ret2
        exact PlanPost.no HF.out (below_draws (ht.alloc ht.size _) _)
      · have hd : decide (made n s (falses n) false (rowNums rs) < q) = false := by simpa using hmd
        obtain ⟨v0, hv0⟩ : ∃ v : Bool, v = (ended n s (falses n) false (rowNums rs)).1.getD 0 false := ⟨_, rfl⟩
        obtain ⟨v1, hv1⟩ : ∃ v : Bool, v = (ended n s (falses n) false (rowNums rs)).1.getD 1 false := ⟨_, rfl⟩
        obtain ⟨v2, hv2⟩ : ∃ v : Bool, v = (ended n s (falses n) false (rowNums rs)).1.getD 2 false := ⟨_, rfl⟩
        obtain ⟨v3, hv3⟩ : ∃ v : Bool, v = (ended n s (falses n) false (rowNums rs)).1.getD 3 false := ⟨_, rfl⟩
        obtain ⟨v4, hv4⟩ : ∃ v : Bool, v = (ended n s (falses n) false (rowNums rs)).1.getD 4 false := ⟨_, rfl⟩
        obtain ⟨v5, hv5⟩ : ∃ v : Bool, v = (ended n s (falses n) false (rowNums rs)).1.getD 5 false := ⟨_, rfl⟩
        obtain ⟨v6, hv6⟩ : ∃ v : Bool, v = (ended n s (falses n) false (rowNums rs)).1.getD 6 false := ⟨_, rfl⟩
        obtain ⟨v7, hv7⟩ : ∃ v : Bool, v = (ended n s (falses n) false (rowNums rs)).1.getD 7 false := ⟨_, rfl⟩
        obtain ⟨v8, hv8⟩ : ∃ v : Bool, v = (ended n s (falses n) false (rowNums rs)).2 := ⟨_, rfl⟩
        unfold placeCells
        rw [← hv0, ← hv1, ← hv2, ← hv3, ← hv4, ← hv5, ← hv6, ← hv7, ← hv8]
        have HV := Lib.hid (And.intro hv0 (And.intro hv1 (And.intro hv2 (And.intro hv3 (And.intro hv4 (And.intro hv5 (And.intro hv6 (And.intro hv7 hv8))))))))
        clear hv0 hv1 hv2 hv3 hv4 hv5 hv6 hv7 hv8
        have h0' := h0.alloc (.cells #[.bool v0, .bool v1, .bool v2, .bool v3, .bool v4, .bool v5, .bool v6, .bool v7, .bool v8] 82)
        have hE := Whole.fresh w2 82 #[.bool v0, .bool v1, .bool v2, .bool v3, .bool v4, .bool v5, .bool v6, .bool v7, .bool v8]
        have ht2 := ht.alloc ht.size (.cells #[.bool v0, .bool v1, .bool v2, .bool v3, .bool v4, .bool v5, .bool v6, .bool v7, .bool v8] 82)
        have hown2 := HOWN.out.alloc (.cells #[.bool v0, .bool v1, .bool v2, .bool v3, .bool v4, .bool v5, .bool v6, .bool v7, .bool v8] 82)
        go_wp2_with fail
        generalize w2.alloc (.cells #[.bool v0, .bool v1, .bool v2, .bool v3, .bool v4, .bool v5, .bool v6, .bool v7, .bool v8] 82) = W at h0' hE ht2 hown2 ⊢
        have hec : ∀ {W' : World}, Whole W' w2.heap.size 82 #[.bool v0, .bool v1, .bool v2, .bool v3, .bool v4, .bool v5, .bool v6, .bool v7, .bool v8] → W'.cell? ⟨w2.heap.size, 0, none⟩ = some (.bool v0) ∧ W'.cell? ⟨w2.heap.size, 1, none⟩ = some (.bool v1) ∧ W'.cell? ⟨w2.heap.size, 2, none⟩ = some (.bool v2) ∧ W'.cell? ⟨w2.heap.size, 3, none⟩ = some (.bool v3) ∧ W'.cell? ⟨w2.heap.size, 4, none⟩ = some (.bool v4) ∧ W'.cell? ⟨w2.heap.size, 5, none⟩ = some (.bool v5) ∧ W'.cell? ⟨w2.heap.size, 6, none⟩ = some (.bool v6) ∧ W'.cell? ⟨w2.heap.size, 7, none⟩ = some (.bool v7) ∧ W'.cell? ⟨w2.heap.size, 8, none⟩ = some (.bool v8) := fun h => ⟨(h.cell 0).trans rfl, (h.cell 1).trans rfl, (h.cell 2).trans rfl, (h.cell 3).trans rfl, (h.cell 4).trans rfl, (h.cell 5).trans rfl, (h.cell 6).trans rfl, (h.cell 7).trans rfl, (h.cell 8).trans rfl⟩
        obtain ⟨a0, a1, a2, a3, a4, a5, a6, a7, a8⟩ := hec hE
        obtain ⟨k0, k1, -, -⟩ := h0'.two
        clear c0 c1
        go_region_held3 (fun w' => (w'.cell? ⟨w.heap.size, 0, none⟩ = some (.slice A n c)) ∧ w'.cell? ⟨w2.heap.size, 0, none⟩ = some (.bool v0) ∧ w'.cell? ⟨w2.heap.size, 1, none⟩ = some (.bool v1) ∧ w'.cell? ⟨w2.heap.size, 2, none⟩ = some (.bool v2) ∧ w'.cell? ⟨w2.heap.size, 3, none⟩ = some (.bool v3) ∧ w'.cell? ⟨w2.heap.size, 4, none⟩ = some (.bool v4) ∧ w'.cell? ⟨w2.heap.size, 5, none⟩ = some (.bool v5) ∧ w'.cell? ⟨w2.heap.size, 6, none⟩ = some (.bool v6) ∧ w'.cell? ⟨w2.heap.size, 7, none⟩ = some (.bool v7) ∧ w'.cell? ⟨w2.heap.size, 8, none⟩ = some (.bool v8)) (go_keep)
          (first | (go_at_call 105; refine (everybodyOver_any n _ h8).mono ?_; rintro e w3 ⟨rfl, hb3⟩; obtain ⟨l0, l1, -, -⟩ := (h0'.drew.below hb3).two; obtain ⟨b0, b1, b2, b3, b4, b5, b6, b7, b8⟩ := hec (hE.drew.below hb3); unfold placeCells; obtain ⟨u0, hu0⟩ : ∃ u : Bool, u = (trues n).getD 0 false := ⟨_, rfl⟩; obtain ⟨u1, hu1⟩ : ∃ u : Bool, u = (trues n).getD 1 false := ⟨_, rfl⟩; obtain ⟨u2, hu2⟩ : ∃ u : Bool, u = (trues n).getD 2 false := ⟨_, rfl⟩; obtain ⟨u3, hu3⟩ : ∃ u : Bool, u = (trues n).getD 3 false := ⟨_, rfl⟩; obtain ⟨u4, hu4⟩ : ∃ u : Bool, u = (trues n).getD 4 false := ⟨_, rfl⟩; obtain ⟨u5, hu5⟩ : ∃ u : Bool, u = (trues n).getD 5 false := ⟨_, rfl⟩; obtain ⟨u6, hu6⟩ : ∃ u : Bool, u = (trues n).getD 6 false := ⟨_, rfl⟩; obtain ⟨u7, hu7⟩ : ∃ u : Bool, u = (trues n).getD 7 false := ⟨_, rfl⟩; rw [← hu0, ← hu1, ← hu2, ← hu3, ← hu4, ← hu5, ← hu6, ← hu7]; have HU := Lib.hid (And.intro hu0 (And.intro hu1 (And.intro hu2 (And.intro hu3 (And.intro hu4 (And.intro hu5 (And.intro hu6 hu7))))))); clear hu0 hu1 hu2 hu3 hu4 hu5 hu6 hu7))
        have hV : samePlace v0 v1 v2 v3 v4 v5 v6 v7 v8 u0 u1 u2 u3 u4 u5 u6 u7 true = allOver n s (rowNums rs) := by
          obtain ⟨e0, e1, e2, e3, e4, e5, e6, e7, e8⟩ := HV.out
          obtain ⟨d0, d1, d2, d3, d4, d5, d6, d7⟩ := HU.out
          rw [samePlace, allOver, e0, e1, e2, e3, e4, e5, e6, e7, e8, d0, d1, d2, d3, d4, d5, d6, d7, sameBits_ext (HEL.out.trans (trues_len n).symm) (by rw [HEL.out]; exact h8)]
          simp
        have hq2 : made n s (falses n) false (rowNums rs) = (rowNums rs).length := by have := HLS.out; have := HZ.out; omega
        have hq3 : (rowNums rs).length ≤ 40 := by have := HLS.out; have := HZ.out; omega
        have ht3 := below_then ht2.drew hb3 ht2.size
        have hpl : isPlan n s (rowNums rs) = allOver n s (rowNums rs) := by simp [isPlan, hq2, hq3]
        generalize samePlace v0 v1 v2 v3 v4 v5 v6 v7 v8 u0 u1 u2 u3 u4 u5 u6 u7 true = b at *
        cases b
        · have HF : Hid ((isParty xs s && isPlan n s (rowNums rs)) = false) := by show _ = _; rw [hpl, ← hV]; simp
          clear hV hpl hq2 hq3 HV HU
          go_wp2
          go_ret2
          exact PlanPost.no HF.out ht3
        · have HT : Hid ((isParty xs s && isPlan n s (rowNums rs)) = true) := by show _ = _; rw [hpl, ← hV, HP.out]; rfl
          have HQ := Lib.hid hq2
          clear hV hpl hq2 hq3 HV HU
          go_wp2
          go_ret2
          have ho := ownsRow_below hown2.drew hb3
          rw [HQ.out, List.take_length] at ho
          exact ⟨.inl ⟨HT.out, T, c2, by rw [← HQ.out]; rfl, _, by have := HBASE; omega, ho⟩, ht3⟩
end Go.Proofs.Ytionmcgaicijkaa
