/-
  What is proved: the contract of the model's CountSafe. Conditions: the arguments are read as they lie.
  What is proved: plain facts on the rising lists that begin with some people and go on with others, and on lists of lists put one behind the other. Conditions: none.
  What is proved: the contract of the program's listsFrom: the rising lists that begin with some people and go on with others. Conditions: the lists are read as they lie; at most eight others, and at most eight to begin with.
  What is proved: contracts of IsSafe and DangersNow, of the model and of the program. Conditions: the arguments are read as they lie.
  What is proved: the contract of crowd.list: the people of a crowd in their order. Conditions: a crowd of a strictly rising list of numbers from 0 to 7.
  What is proved: the contract of the model's sorting (paSorted). Conditions: the list is read as it lies; at most 1,048,576 numbers.
  What is proved: the people who are where the torch is, as the program lists them. Conditions: at most eight people.
  What is proved: the crowds of so many people, as the program lists them. Conditions: at most eight people.
  What is proved: contracts of the program's loadsUpTo and CountSafe. Conditions: the arguments are read as they lie.
  What is proved: that the program's count of safe banks is the model's, and the contract of the program's CountSafe. Conditions: the arguments are read as they lie.
  What is proved: contracts of the laws' own helpers for keeps: their size, their copy, their comparison, their marks. Conditions: the given lists are read as they lie; a copy is of at most 1,048,576 numbers.
  What is proved: the law FnExactCountSafe returns true at every argument, and leaves all that was there as it was. Conditions: the arguments are read as they lie.
-/
import Derived.Laws.AppendOwnNone
import Derived.Deep.RegionHeld3
import Derived.Test.YtkdjdnknhbmliaaJ2CountSafe
namespace Go.Proofs.Ytkdjdnknhbmliaa
open Go.RowKit

set_option maxHeartbeats 1600000 in
theorem keBank_own (n x : Nat) (w : World) (hn : n ≤ 8) (hx : x < 1048576) :
    Calls Try.prog 101 #[.int .i64 x, .int .i64 n] w (fun e w' => ∃ (E : Option Addr) (r : Nat), e = .returned (.agg #[.slice E n r, .bool (topBit n x)]) ∧ Fresh w' w.heap.size w'.heap.size 4 E (bits (digits n x)) ∧ Below w.heap.size w w') := by
  have h0 := Whole.fresh w 63 #[.slice none 0 0, .bool false]
  have hb1 := below1 w (.cells #[.slice none 0 0, .bool false] 63)
  go_enter Try.func101, Try.ntmps101
  go_wp2_with fail
  refine (seState_own n x _ hn hx).mono ?_
  rintro e w1 ⟨E, r, rfl, hf, hb⟩
  have hl1 : w.heap.size + 1 ≤ w1.heap.size := by have := hb.size; simpa using this
  have ht := below_then hb1 hb (by simp)
  have h0a := (h0.below hb).alloc (.cells #[.slice E n r, .bool (topBit n x)] 33)
  have ht2 := ht.alloc ht.size (.cells #[.slice E n r, .bool (topBit n x)] 33)
  have hf2 := hf.alloc (.cells #[.slice E n r, .bool (topBit n x)] 33)
  obtain ⟨e0, e1, f0, f1⟩ := h0a.two
  have hl0 := h0a.lt
  have HF := Lib.hid (((hf2.set_out (b := w.heap.size) (o := 0) (u := .slice E n r) (.inl (by simp))).set_out (b := w.heap.size) (o := 1) (u := .bool (topBit n x)) (.inl (by simp))).more (lo' := w.heap.size) (hi' := w1.heap.size + 1) (by simp) (by omega))
  have HB := Lib.hid (below_set (b := w.heap.size) (o := 1) (u := .bool (topBit n x)) (below_set (b := w.heap.size) (o := 0) (u := .slice E n r) ht2 (Nat.le_refl _)) (Nat.le_refl _))
  clear hb ht hf hf2 ht2 h0
  go_wp2
  refine bodyPost_ret (v := .agg #[.slice E n r, .bool (topBit n x)]) (by simp [results, Try.results101, go_sem, e0, e1]) rfl ⟨E, r, rfl, ?_, HB.out⟩
  have h := HF.out
  simpa [World.setCell] using h

/-- Is the bank with a number safe? -/
def safeAt (n : Nat) (ls : List (List Int)) (x : Nat) : Bool := !ls.any (leftBy (digits n x) (topBit n x))
/-- How many of the first j banks are safe. -/
def safeTo (n : Nat) (ls : List (List Int)) (j : Nat) : Nat := ((List.range j).filter (safeAt n ls)).length
theorem safeTo_next (n : Nat) (ls : List (List Int)) (j : Nat) : safeTo n ls (j + 1) = safeTo n ls j + (safeAt n ls j).toNat := by
  rw [safeTo, List.range_succ, List.filter_append, List.length_append, safeTo]
  cases h : safeAt n ls j <;> simp [h]
theorem safeTo_le (n : Nat) (ls : List (List Int)) (j : Nat) : safeTo n ls j ≤ j := by
  have := List.length_filter_le (safeAt n ls) (List.range j)
  rw [List.length_range] at this
  exact this
noncomputable def countSafe (k s : Int) (ls : List (List Int)) : Int := if keepOk k s ls then (safeTo k.toNat ls (2 ^ (k.toNat + 1)) : Nat) else 0

set_option maxHeartbeats 6400000 in
set_option maxRecDepth 100000 in
theorem specCountSafe_any (k s : Int) (A : Option Addr) (m c : Nat) (rs : List RowV) (w : World) (hA : Grid w A rs) (hx : rs.length = m) (hm : m ≤ 1048576) :
    Calls Try.prog 56 #[.agg #[.int .i64 k, .slice A m c, .int .i64 s]] w fun e w' => e = .returned (.tuple #[.int .i64 (countSafe k s (rowNums rs)), .bool (keepOk k s (rowNums rs))]) ∧ Below w.heap.size w w' := by
  have HX := Lib.hid hx
  clear hx
  have h0 := Whole.fresh w 54 #[.int .i64 k, .slice A m c, .int .i64 s]
  have hbw := below1 w (.cells #[.int .i64 k, .slice A m c, .int .i64 s] 54)
  have hA2 := hA.below hbw
  cases hk : keepOk k s (rowNums rs)
  · have HK := Lib.hid hk
    have HS : Hid (countSafe k s (rowNums rs) = 0) := by show _ = _; rw [countSafe, hk]; rfl
    clear hk
    go_enter Try.func56, Try.ntmps56
    go_wp2_with fail
    refine (keGood_any k s A m c rs _ hA2 HX.out hm).mono ?_
    rintro e w1 ⟨rfl, hb⟩
    rw [HK.out]
    have ht := below_then hbw hb (by simp)
    clear hb
    go_wp2
    go_ret2
    exact ⟨by rw [HS.out]; rfl, ht⟩
  · obtain ⟨n, rfl⟩ : ∃ n : Nat, k = n := ⟨k.toNat, by have := (keepOk_iff.1 hk).1; omega⟩
    have hn8 : n ≤ 8 := by have := (keepOk_iff.1 hk).1; omega
    have HK := Lib.hid hk
    have HS : Hid (countSafe (n : Int) s (rowNums rs) = (safeTo n (rowNums rs) (2 ^ (n + 1)) : Nat)) := by show _ = _; rw [countSafe, hk]; rfl
    have HDG : Hid (∀ d ∈ rowNums rs, IsDg (n : Int) d) := fun d hd => by
      obtain ⟨j, hj, rfl⟩ := List.getElem_of_mem hd
      exact dg_at hk hj
    have hN : 2 ^ (n + 1) ≤ 512 := Nat.le_trans (Nat.pow_le_pow_right (n := 2) (by decide) (show n + 1 ≤ 9 by omega)) (by decide)
    have h1 : (2 : Int) * 2 ^ n = ((2 ^ (n + 1) : Nat) : Int) := by push_cast; rw [Int.pow_succ, Int.mul_comm]
    generalize 2 ^ (n + 1) = N at hN h1 HS
    have hsh : IntKind.i64.wrap (2 * 2 ^ n) = (N : Int) := by
      rw [h1]
      exact IntWalk.i64_in _ (by omega)
    clear h1
    clear hk
    go_enter Try.func56, Try.ntmps56
    go_wp2_with fail
    refine (keGood_any (n : Int) s A m c rs _ hA2 HX.out hm).mono ?_
    rintro e w1 ⟨rfl, hb⟩
    rw [HK.out]
    have H0 := Lib.hid (h0.below hb)
    have HT := Lib.hid (below_then hbw hb (by simp))
    have HG := Lib.hid hA
    have hl0 := H0.out.lt
    clear hb h0 hbw hA hA2
    go_wp2
    go_loopw [4, 5] (fun v i wr => ∃ j : Nat, j ≤ N ∧ i = .int .i64 j ∧ v = .int .i64 (safeTo n (rowNums rs) j : Nat) ∧ Whole wr w.heap.size 54 #[.int .i64 (n : Int), .slice A m c, .int .i64 s] ∧ Below w.heap.size w wr) (fun _ i _ => N - (intOf i).toNat)
    case atStart => exact ⟨0, Nat.zero_le _, rfl, by simp [safeTo], H0.out, HT.out⟩
    case round =>
      clear H0 HT hl0
      obtain ⟨j, hj, rfl, rfl, h0, hb⟩ := hrel
      obtain ⟨z0, z1, z2⟩ := h0.cells3
      have HNX := Lib.hid (safeTo_next n (rowNums rs) j)
      have hst := safeTo_le n (rowNums rs) j
      have HA : Hid (safeAt n (rowNums rs) j = !(rowNums rs).any (leftBy (digits n j) (topBit n j))) := rfl
      have H0 := Lib.hid h0
      have HB := Lib.hid hb
      clear h0 hb
      generalize hcn : safeTo n (rowNums rs) j = cn at *
      have HCN := Lib.hid hcn
      clear hcn
      by_cases hlt : j < N
      · have hji : (j : Int) < (N : Int) := by omega
        have hd : decide ((j : Int) < (N : Int)) = true := by simp; omega
        go_wp2_with fail
        go_region_held3 (fun w' => w'.cell? ⟨w.heap.size, 0, none⟩ = some (.int .i64 (n : Int)) ∧ w'.cell? ⟨w.heap.size, 1, none⟩ = some (.slice A m c) ∧ w'.cell? ⟨w.heap.size, 2, none⟩ = some (.int .i64 s)) (go_keep)
          (first | (go_at_call 101; refine (keBank_own n j _ hn8 (by omega)).mono ?_; rintro e w3 ⟨E, r, rfl, hf3, hb3⟩; obtain ⟨y0, y1, y2⟩ := (H0.out.drew.below hb3).cells3) | (go_at_call 88; refine (keNow_any (n : Int) s A E m c n r rs (digits n j) (topBit n j) _ (by exact (HG.out.below HB.out.drew).below hb3) (by exact hf3.holds) HX.out hm (digits_len n j) (by omega) HDG.out).mono ?_; rintro e w4 ⟨D, d, acc, rfl, hra, -, hb4⟩; obtain ⟨x0, x1, x2⟩ := ((H0.out.drew.below hb3).below hb4).cells3))
        have HB4 := Lib.hid (below_then (below_then HB.out.drew hb3 HB.out.size) hb4 (Nat.le_trans HB.out.size hb3.size))
        have H04 := Lib.hid ((H0.out.drew.below hb3).below hb4)
        have HE : Hid (((acc.length : Int) == 0) = safeAt n (rowNums rs) j) := by
          show _ = _
          rw [HA.out, now_some, ← hra, rowNums_len]
          cases acc <;> simp <;> omega
        have hE := HE.out
        clear hb3 hb4 hra hf3
        cases hsa : safeAt n (rowNums rs) j
        · rw [hsa] at hE HNX
          go_wp2
          go_roundw
          case rel => exact ⟨j + 1, by omega, by go_num, by rw [HNX.out]; simp, H04.out, HB4.out⟩
          case measure => simp [intOf]; omega
        · rw [hsa] at hE HNX
          have hw1 : IntKind.i64.wrap ((cn : Int) + 1) = (cn : Int) + 1 := IntWalk.i64_in _ (by omega)
          go_wp2
          go_roundw
          case rel => exact ⟨j + 1, by omega, by go_num, by rw [HNX.out]; simp, H04.out, HB4.out⟩
          case measure => simp [intOf]; omega
      · obtain rfl : j = N := by omega
        have hd : decide ((j : Int) < (j : Int)) = false := by simp
        clear HNX
        go_wp2
        go_ret2
        exact ⟨by rw [HS.out, HCN.out]; rfl, HB.out⟩
end Go.Proofs.Ytkdjdnknhbmliaa

namespace Go.Proofs.Ytkdjdnknhbmliaa
open Go.RowKit

/-- The rising lists of at most m that begin with b and go on with some of the others, at least one of them; each ahead of those that it begins. -/
def subs (m : Nat) : List Int → List Int → List (List Int)
  | [], _ => []
  | k :: r, b => if m ≤ b.length then [] else ((b ++ [k]) :: subs m r (b ++ [k])) ++ subs m r b
theorem subs_full {m : Nat} {b : List Int} (h : m ≤ b.length) : ∀ o : List Int, subs m o b = []
  | [] => rfl
  | _ :: _ => if_pos h
theorem subs_next {m : Nat} {b o : List Int} {i : Nat} (hi : i < o.length) (h : b.length < m) : subs m (o.drop i) b = ((b ++ [o[i]]) :: subs m (o.drop (i + 1)) (b ++ [o[i]])) ++ subs m (o.drop (i + 1)) b := by
  rw [List.drop_eq_getElem_cons hi, subs, if_neg (by omega)]
theorem subs_len (m : Nat) : ∀ (o b : List Int), (subs m o b).length + 1 ≤ 2 ^ o.length
  | [], _ => by simp [subs]
  | k :: r, b => by
    have h1 := subs_len m r (b ++ [k])
    have h2 := subs_len m r b
    rw [subs, List.length_cons, Nat.pow_succ]
    split
    · have : 0 < 2 ^ r.length := Nat.pos_of_ne_zero (by simp)
      simp
      omega
    · simp only [List.length_append, List.length_cons]
      omega
theorem subs_small {m : Nat} {o b : List Int} (h : o.length ≤ 8) : (subs m o b).length ≤ 255 := by
  have h1 := subs_len m o b
  have h2 : 2 ^ o.length ≤ 2 ^ 8 := Nat.pow_le_pow_right (by omega) h
  omega

theorem subs_mem (m : Nat) : ∀ (o b l : List Int), l ∈ subs m o b ↔ ∃ c, l = b ++ c ∧ c ≠ [] ∧ c.Sublist o ∧ l.length ≤ m := by
  intro o
  induction o with
  | nil =>
    intro b l
    constructor
    · intro h
      simp [subs] at h
    · rintro ⟨c, -, hne, hs, -⟩
      exact absurd (List.sublist_nil.1 hs) hne
  | cons k r ih =>
    intro b l
    rw [subs]
    by_cases hm : m ≤ b.length
    · rw [if_pos hm]
      constructor
      · intro h
        simp at h
      · rintro ⟨c, rfl, hne, -, hl⟩
        have : 0 < c.length := List.length_pos_iff.2 hne
        rw [List.length_append] at hl
        omega
    · rw [if_neg hm, List.mem_append, List.mem_cons, ih, ih]
      constructor
      · rintro ((rfl | ⟨c, rfl, hne, hs, hl⟩) | ⟨c, rfl, hne, hs, hl⟩)
        · refine ⟨[k], rfl, by simp, ?_, by simp; omega⟩
          exact (List.nil_sublist r).cons_cons k
        · refine ⟨k :: c, by simp, by simp, hs.cons_cons k, hl⟩
        · exact ⟨c, rfl, hne, hs.cons k, hl⟩
      · rintro ⟨c, rfl, hne, hs, hl⟩
        cases hs with
        | cons _ h => exact .inr ⟨c, rfl, hne, h, hl⟩
        | cons_cons _ h =>
          rename_i c'
          by_cases hc : c' = []
          · subst hc
            exact .inl (.inl rfl)
          · exact .inl (.inr ⟨c', by simp, hc, h, hl⟩)

theorem FreeRows.grown {w w' : World} {ps : List (Nat × Nat)} {rs : List RowV} {row : Option Nat} (h : FreeRows w ps rs) (hg : w.grownBy w' row) (hd : ∀ g, row = some g → ∀ p ∈ ps, g < p.1 ∨ p.2 ≤ g) : FreeRows w' ps rs :=
  ⟨h.1, fun k r p hr hp => ⟨fresh_grown (h.2.1 k r p hr hp).1 hg (fun g e => hd g e p (List.mem_of_getElem? hp)), (h.2.1 k r p hr hp).2⟩, h.2.2⟩
theorem FreeRows.join {w : World} {ps qs : List (Nat × Nat)} {rs ss : List RowV} (h : FreeRows w ps rs) (h' : FreeRows w qs ss) (hd : ∀ p ∈ ps, ∀ q ∈ qs, p.2 ≤ q.1) : FreeRows w (ps ++ qs) (rs ++ ss) := by
  obtain ⟨a1, a2, a3⟩ := h
  obtain ⟨b1, b2, b3⟩ := h'
  refine ⟨by simp [a1, b1], fun k r p hr hp => ?_, fun i j p p' hij hp hp' => ?_⟩
  · rcases Nat.lt_or_ge k rs.length with hk | hk
    · rw [List.getElem?_append_left hk] at hr
      rw [List.getElem?_append_left (by omega)] at hp
      exact a2 k r p hr hp
    · rw [List.getElem?_append_right hk] at hr
      rw [List.getElem?_append_right (by omega), a1] at hp
      exact b2 _ r p hr hp
  · rcases Nat.lt_or_ge i ps.length with hi | hi <;> rcases Nat.lt_or_ge j ps.length with hj | hj
    · rw [List.getElem?_append_left hi] at hp
      rw [List.getElem?_append_left hj] at hp'
      exact a3 i j p p' hij hp hp'
    · rw [List.getElem?_append_left hi] at hp
      rw [List.getElem?_append_right hj] at hp'
      exact .inl (hd p (List.mem_of_getElem? hp) p' (List.mem_of_getElem? hp'))
    · rw [List.getElem?_append_right hi] at hp
      rw [List.getElem?_append_left hj] at hp'
      exact .inr (hd p' (List.mem_of_getElem? hp') p (List.mem_of_getElem? hp))
    · rw [List.getElem?_append_right hi] at hp
      rw [List.getElem?_append_right hj] at hp'
      exact b3 _ _ p p' (by omega) hp hp'
/-- Lists of lists put behind others, both made by the call. -/
theorem Heads.join {w w1 w2 : World} {lo c d cap g : Nat} {A B : Option Addr} {rs ss : List RowV} (h : Heads w lo A c rs) (hlo : lo ≤ w.heap.size) (hb : Below w.heap.size w w1) (h' : Heads w1 w.heap.size B d ss)
    (hown : w2.ownsRow lo 40 1 (.slice (some ⟨g, 0, none⟩) (rs.length + ss.length) cap) (rs.length + ss.length) (rowVals rs ++ rowVals ss)) (hg : w1.grownBy w2 (Value.slice A rs.length c).ownBlock)
    (hat : (Value.slice A rs.length c).ownBlock = some g ∨ g = w1.heap.size) : Heads w2 lo (some ⟨g, 0, none⟩) cap (rs ++ ss) := by
  obtain ⟨h1, ps, h2, h3, h4⟩ := h
  obtain ⟨-, qs, k2, k3, -⟩ := h'
  have hsz := hb.size
  have hsg := hg.size
  have hob : ∀ q, (Value.slice A rs.length c).ownBlock = some q → ∃ a : Addr, A = some a ∧ a.block = q ∧ q < w.heap.size := by
    intro q hq
    cases A with
    | none => simp [Value.ownBlock] at hq
    | some a => exact ⟨a, rfl, by simpa [Value.ownBlock] using hq, (h1.lt q hq).2⟩
  refine ⟨by rw [List.length_append]; show World.ownsRow _ _ _ _ _ _ _; simpa [rowVals] using hown, ps ++ qs, ?_, ?_, ?_⟩
  · refine (FreeRows.join (h2.below hb) k2 fun p hp q hq => ?_).grown hg ?_
    · have := (h3 p hp).2; have := (k3 q hq).1; omega
    · intro q hq p hp
      obtain ⟨a, hA, hq2, hl⟩ := hob q hq
      rcases List.mem_append.1 hp with hp | hp
      · have := h4 a hA p hp; omega
      · have := (k3 p hp).1; omega
  · intro p hp
    rcases List.mem_append.1 hp with hp | hp
    · exact ⟨(h3 p hp).1, by have := (h3 p hp).2; omega⟩
    · exact ⟨by have := (k3 p hp).1; omega, by have := (k3 p hp).2; omega⟩
  · intro a ha p hp
    obtain rfl : (⟨g, 0, none⟩ : Addr) = a := Option.some.inj ha
    show g < p.1 ∨ p.2 ≤ g
    rcases List.mem_append.1 hp with hp | hp
    · rcases hat with hat | hat
      · obtain ⟨a, hA, hq2, -⟩ := hob g hat
        have := h4 a hA p hp
        omega
      · have := (h3 p hp).2
        omega
    · rcases hat with hat | hat
      · obtain ⟨a, hA, hq2, hl⟩ := hob g hat
        have := (k3 p hp).1
        omega
      · have := (k3 p hp).2
        omega
theorem Heads.raise {w : World} {lo lo' c : Nat} {A : Option Addr} {rs : List RowV} (h : Heads w lo A c rs) (hl : lo' ≤ lo) : Heads w lo' A c rs := by
  obtain ⟨h1, ps, h2, h3, h4⟩ := h
  refine ⟨?_, ps, h2, fun p hp => ⟨Nat.le_trans hl (h3 p hp).1, (h3 p hp).2⟩, h4⟩
  obtain ⟨hn, h | ⟨g, cap, cur, hv, hg, r⟩⟩ := h1
  · exact ⟨hn, .inl h⟩
  · exact ⟨hn, .inr ⟨g, cap, cur, hv, Nat.le_trans hl hg, r⟩⟩
/-- What a call hands back that makes a list of lists to which more can be appended. -/
def SubsPost (ls : List (List Int)) (w : World) (e : Ending) (w' : World) : Prop :=
  ∃ (A : Option Addr) (c : Nat) (rs : List RowV), e = .returned (.slice A rs.length c) ∧ rowNums rs = ls ∧ (A = none → rs = [] ∧ c = 0) ∧ (∀ a, A = some a → a = ⟨a.block, 0, none⟩ ∧ 0 < rs.length) ∧ Heads w' w.heap.size A c rs ∧ Below w.heap.size w w'
end Go.Proofs.Ytkdjdnknhbmliaa

namespace Go.Proofs.Ytkdjdnknhbmliaa
open Go.RowKit

/-- slices.Clone of a list, to which more can be appended. -/
def OwnOr (xs : List Int) (w : World) (e : Ending) (w' : World) : Prop :=
  ∃ (A : Option Addr) (c : Nat), e = .returned (.slice A xs.length c) ∧ w'.ownsRow w.heap.size 3 1 (.slice A xs.length c) xs.length (nums xs) ∧ Below w.heap.size w w'

set_option maxHeartbeats 800000 in
set_option maxRecDepth 100000 in
theorem cloneO_any (A : Option Addr) (n d : Nat) (bs : List Int) (w : World) (hB : Holds w A (nums bs)) (hy : bs.length = n) (hn : n ≤ 1048576) (hnil : A = none → n = 0 ∧ d = 0) :
    Calls Try.prog 92 #[.slice A n d] w (OwnOr bs w) := by
  subst hy
  cases A with
  | none =>
    obtain ⟨h0, rfl⟩ := hnil rfl
    obtain rfl := List.length_eq_zero_iff.1 h0
    clear h0
    go_enter Try.func92, Try.ntmps92
    have hnl := fun (W : World) => Lib.run_eql_slice_nil (P := Try.prog) W 40 3 none 0 0 0 0 Try.underlying40
    go_wp2
    go_ret
    exact ⟨none, 0, rfl, World.ownsRow_nil _ _ _ _, Below.refl _ _⟩
  | some ad =>
    obtain ⟨b, o, had⟩ : ∃ b o, (nums bs = [] ∨ ad = ⟨b, o, none⟩) := by
      rcases hB with h | ⟨b, o, h, -, -⟩
      · exact ⟨0, 0, .inl h⟩
      · exact ⟨b, o, .inr (Option.some.inj h)⟩
    obtain ⟨i0, hi, hz0, hz1, hz2⟩ := info_parts info_int
    have HI := Lib.hid hi
    have HZ0 := Lib.hid hz0
    have HZ1 := Lib.hid hz1
    have HZ2 := Lib.hid hz2
    have hnews : ∀ j u, (nums bs)[j]? = some u → (w.alloc (.cells #[] 3)).cell? (ad.add j) = some u := fun j u hu => by
      rcases hB with h | ⟨b, o, h, hb, hcell⟩
      · rw [h] at hu; simp at hu
      · obtain rfl : ad = ⟨b, o, none⟩ := by simpa using h
        rw [show (⟨b, o, none⟩ : Addr).add j = ⟨b, o + j, none⟩ from by unfold Addr.add; split <;> simp_all, World.cell?_alloc_lt _ _ _ hb]
        exact hcell j u hu
    clear hi hz0 hz1 hz2 had hnil
    go_enter Try.func92, Try.ntmps92
    have hnl := fun (W : World) => Lib.run_eql_slice_nil (P := Try.prog) W 40 3 (some ad) bs.length d 0 0 Try.underlying40
    have HOWN := Lib.hid (World.ownsRow_made (base := w.heap.size) (e := 3) (size := 1) w #[] 0 (Nat.le_refl _) (by unfold maxLen; omega) rfl)
    have HNEWS := Lib.hid hnews
    have HLEN := Lib.hid (show (nums bs).length = bs.length * 1 by rw [nums_len, Nat.mul_one])
    have HONE := Lib.hid (ints_one bs)
    have HMAX := Lib.hid (show 0 + bs.length ≤ maxLen by unfold maxLen; omega)
    have HBYT := Lib.hid (show (0 + bs.length) * 8 ≤ 140737488355328 by omega)
    clear hnews
    go_wp2_with (at_builtin; refine wpList_append_own _ rfl (.tmp 5) (.tmp 6) 40 rfl w.heap.size 3 i0 (.int .i64 0) 1 8 Try.underlying40 HI.out HZ0.out HZ1.out HZ2.out rfl (by decide) _ 0 [] rfl HOWN.out ad bs.length d (nums bs) rfl HLEN.out HNEWS.out HONE.out HMAX.out HBYT.out (by simp) ?_; intro v' w1 hown1 hg1 _)
    go_ret
    simp only [Nat.zero_add, List.nil_append] at hown1
    have hbe := (below1 w (.cells #[] 3)).grown hg1 (by simp) (fun k hk => Nat.le_of_eq (Option.some.inj (show some w.heap.size = some k from hk)))
    obtain ⟨A1, c1, rfl⟩ := own_shape hown1
    exact ⟨A1, c1, rfl, hown1, hbe⟩

/-- Where the list behind a place lies, nil or not: at the list's own address where no room is left behind that place. -/
theorem behind_at {w : World} {A : Option Addr} {n c k : Nat} {xs : List Int} (h : Holds w A (nums xs)) (hx : xs.length = n) (hn : n ≤ c) (hk : k < n) :
    ∃ b o d, A = some ⟨b, o, none⟩ ∧ b < w.heap.size ∧ (if c = k + 1 then some (⟨b, o, none⟩ : Addr) else some ⟨b, o + (k + 1), none⟩) = some ⟨b, d, none⟩ ∧ Holds w (some ⟨b, d, none⟩) (nums (xs.drop (k + 1))) := by
  rcases h with h | ⟨b, o, rfl, hb, hc⟩
  · have := congrArg List.length h
    rw [nums_len, List.length_nil] at this
    omega
  · obtain ⟨d, hd, hh⟩ := tail_at (w := w) (b := b) (o := o) (n := n) (c := c) (k := k) (xs := xs) hc hx hn
    exact ⟨b, o, d, rfl, hb, hd, .inr ⟨b, d, rfl, hb, hh.out⟩⟩

theorem holds_of_own {w : World} {base : Nat} {e : TypeId} {A : Option Addr} {n c : Nat} {xs : List Value} (h : w.ownsRow base e 1 (.slice A n c) n xs) : Holds w A xs := by
  obtain ⟨A', c', hv, hf⟩ := Fresh.of_own h (Nat.le_refl _)
  obtain ⟨rfl, -⟩ : A = A' ∧ c = c' := by simpa using hv
  exact hf.holds

theorem rowVals_one (rs : List RowV) : ∀ u ∈ rowVals rs, u.oneCell' = true := by
  intro v hv
  simp only [rowVals, List.mem_map] at hv
  obtain ⟨x, -, rfl⟩ := hv
  rfl
theorem own_fresh0' {w : World} {lo n c : Nat} {ty : TypeId} {A : Option Addr} {xs : List Value} (h : w.ownsRow lo ty 1 (.slice A n c) n xs) : Fresh w lo w.heap.size ty A xs := by
  obtain ⟨A', c', hv, hf⟩ := Fresh.of_own h (Nat.le_refl _)
  obtain ⟨rfl, -⟩ : A = A' ∧ c = c' := by simpa using hv
  exact hf

set_option maxHeartbeats 6400000 in
set_option maxRecDepth 100000 in
theorem listsFrom_any (m : Nat) (hm : m ≤ 8) : ∀ (g : Nat) (A B : Option Addr) (k z n c : Nat) (bs os : List Int) (w : World), os.length < g → g ≤ 9 → Holds w A (nums bs) → Holds w B (nums os) → bs.length = k → os.length = n → n ≤ c → (A = none → k = 0 ∧ z = 0) →
    Calls Try.prog 134 #[.slice A k z, .slice B n c, .int .i64 m] w (SubsPost (subs m os bs) w) := by
  intro g
  induction g with
  | zero => intro A B k z n c bs os w hg; omega
  | succ g ih =>
    intro A B k z n c bs os w hg hg8 hA hB hk hn hc hnil
    by_cases hfull : m ≤ k
    · have HS := Lib.hid (subs_full (by omega : m ≤ bs.length) os)
      have hge : (m : Int) ≤ (k : Int) := by omega
      clear ih hg hk hn hnil
      go_enter Try.func134, Try.ntmps134
      go_wp2
      go_ret
      rw [HS.out]
      exact ⟨none, 0, [], rfl, rfl, fun _ => ⟨rfl, rfl⟩, fun a h => (by cases h), Heads.nil _ _, Below.refl _ _⟩
    · obtain ⟨i0, hi, hz0, hz1, hz2⟩ := info_parts info_int
      have HI := Lib.hid hi
      have HZ0 := Lib.hid hz0
      have HZ1 := Lib.hid hz1
      have HZ2 := Lib.hid hz2
      obtain ⟨i1, ri, rz0, rz1, rz2⟩ := info_parts info_row
      have RI := Lib.hid ri
      have RZ0 := Lib.hid rz0
      have RZ1 := Lib.hid rz1
      have RZ2 := Lib.hid rz2
      have HK := Lib.hid hk
      have HN := Lib.hid hn
      have HG := Lib.hid hg
      have HNIL := Lib.hid hnil
      have HFU := Lib.hid hfull
      have hk8 : k ≤ 8 := by omega
      have hfd : decide (m ≤ k) = false := by simpa using hfull
      have hn8 : n ≤ 8 := by omega
      clear hi hz0 hz1 hz2 ri rz0 rz1 rz2 hk hn hg hnil hfull
      go_enter Try.func134, Try.ntmps134
      go_wp2
      go_loopw [7, 17] (fun v i wr => ∃ (j : Nat) (E : Option Addr) (d : Nat) (acc : List RowV), j ≤ n ∧ i = .int .i64 j ∧ v = .slice E acc.length d ∧ rowNums acc ++ subs m (os.drop j) bs = subs m os bs ∧ (E = none → acc = [] ∧ d = 0) ∧ (∀ a, E = some a → a = ⟨a.block, 0, none⟩ ∧ 0 < acc.length) ∧ Heads wr w.heap.size E d acc ∧ Below w.heap.size w wr) (fun _ i _ => n - (intOf i).toNat)
      case atStart => exact ⟨0, none, 0, [], Nat.zero_le _, rfl, rfl, rfl, fun _ => ⟨rfl, rfl⟩, fun a h => (by cases h), Heads.nil _ _, Below.refl _ _⟩
      case round =>
        obtain ⟨j, E, d, acc, hj, rfl, rfl, hacc, hEn, hEs, hh, hb⟩ := hrel
        by_cases hjn : j < n
        · have hjl : j < os.length := by have := HN.out; omega
          obtain ⟨b0, o0, d0, rfl, hbl, hd0, hrest⟩ := behind_at hB HN.out hc hjn
          obtain ⟨b1, o1, hab, hbl1, hcell⟩ := (hB.below hb).look (k := j) (by rw [nums_len]; exact hjl)
          obtain ⟨rfl, rfl⟩ : b0 = b1 ∧ o0 = o1 := by simpa using hab
          clear hab hbl1
          simp only [nums, List.getElem_map] at hcell
          have hkb : bs.length < m := by have := HK.out; have := HFU.out; omega
          have HNX : Hid (rowNums acc ++ ((bs ++ [os[j]]) :: subs m (os.drop (j + 1)) (bs ++ [os[j]])) ++ subs m (os.drop (j + 1)) bs = subs m os bs) := by show _ = _; rw [List.append_assoc, ← subs_next hjl hkb]; exact hacc
          have HAL : Hid (acc.length + (1 + (subs m (os.drop (j + 1)) (bs ++ [os[j]])).length) ≤ 255) := by
            have h1 := congrArg List.length HNX.out
            have h2 := subs_small (m := m) (o := os) (b := bs) (by have := HN.out; omega)
            simp only [List.length_append, List.length_cons, rowNums_len] at h1
            show _ ≤ _
            omega
          have HH := Lib.hid hh
          have HB := Lib.hid hb
          have HRE := Lib.hid hrest
          have hbs : w.heap.size ≤ wr.heap.size := hb.size
          have hA1 := hA.below hb
          generalize hx : os[j] = x at hcell HNX HAL
          clear hacc hEn hEs hh hb hrest hx
          go_wp2_with fail
          refine (cloneO_any A k z bs _ hA1 HK.out (by omega) HNIL.out).mono ?_
          rintro e w1 ⟨A1, c1, rfl, hown1, hb1⟩
          rw [HK.out] at hown1 ⊢
          have hs1 : wr.heap.size ≤ w1.heap.size := hb1.size
          have HO1 := Lib.hid (hown1.alloc (.cells #[.int .i64 x] 3))
          have HB1 := Lib.hid hb1
          have HM1 := Lib.hid (show k + 1 ≤ maxLen by unfold maxLen; omega)
          have HY1 := Lib.hid (show (k + 1) * 8 ≤ 140737488355328 by omega)
          have HZ1' := Lib.hid (show wr.heap.size ≤ (w1.alloc (.cells #[.int .i64 x] 3)).heap.size by simp; omega)
          clear hown1 hb1
          go_upto_region 8 with (at_builtin; refine wpList_append_lies _ rfl (.tmp 23) (.tmp 25) 40 rfl wr.heap.size 3 i0 (.int .i64 0) 1 8 Try.underlying40 HI.out HZ0.out HZ1.out HZ2.out rfl (by decide) (.slice A1 k c1) k (nums bs) rfl HO1.out ⟨w1.heap.size, 0, none⟩ 1 1 [.int .i64 x] rfl rfl (cell_one_new _ _ _) (by simp [Value.oneCell']) (by decide) HM1.out HY1.out HZ1'.out (w1.heap.size + 1) (by simp) ?_; intro g2 c2 w2 hown2 hg2 hat2 hlt2)
          have hb2 : Below wr.heap.size wr w2 := (HB1.out.alloc hs1 (.cells #[.int .i64 x] 3)).grown hg2 HZ1'.out (fun kk e => (HO1.out.lt kk e).1)
          have hs2 : wr.heap.size ≤ w2.heap.size := hb2.size
          have HO2 := Lib.hid (own_fresh0' hown2)
          have HB2 := Lib.hid hb2
          have HOE := Lib.hid ((HH.out.below hb2).alloc (.cells #[.slice (some ⟨g2, 0, none⟩) (k + 1) c2] 40)).1
          have HM2 := Lib.hid (show acc.length + 1 ≤ maxLen by have := HAL.out; unfold maxLen; omega)
          have HY2 := Lib.hid (show (acc.length + 1) * 24 ≤ 140737488355328 by have := HAL.out; omega)
          have HZ2' := Lib.hid (show w.heap.size ≤ (w2.alloc (.cells #[.slice (some ⟨g2, 0, none⟩) (k + 1) c2] 40)).heap.size by simp; omega)
          clear hown2 hg2 hat2 hb2
          go_upto_region 9 with (at_builtin; refine wpList_append_lies _ rfl (.tmp 27) (.tmp 29) 28 rfl w.heap.size 40 i1 (.slice none 0 0) 1 24 Try.underlying28 RI.out RZ0.out RZ1.out RZ2.out rfl (by decide) (.slice E acc.length d) acc.length (rowVals acc) rfl HOE.out ⟨w2.heap.size, 0, none⟩ 1 1 [.slice (some ⟨g2, 0, none⟩) (k + 1) c2] rfl rfl (cell_one_new _ _ _) (by simp [Value.oneCell']) (by decide) HM2.out HY2.out HZ2'.out (w2.heap.size + 1) (by simp) ?_; intro g3 c3 w3 hown3 hg3 hat3 hlt3)
          have hF2 := HO2.out
          have hFl : (bs ++ [x]).length = k + 1 := by have := HK.out; simp; omega
          have hnx : nums bs ++ [Value.int .i64 x] = nums (bs ++ [x]) := by simp [nums]
          rw [hnx] at hF2
          have hH3 := Heads.push (r := ⟨some ⟨g2, 0, none⟩, k + 1, c2, bs ++ [x]⟩) HH.out hbs HB2.out hF2 hFl (by show k + 1 ≤ _; omega) hown3 hg3 hat3
          have hb3 : Below w.heap.size w w3 := ((below_then HB.out HB2.out hbs).alloc (by omega) (.cells #[.slice (some ⟨g2, 0, none⟩) (k + 1) c2] 40)).grown hg3 HZ2'.out (fun kk e => (HOE.out.lt kk e).1)
          have hs3 : w2.heap.size + 1 ≤ w3.heap.size := by have := hg3.size; simpa using this
          have hL3 : Holds w3 (some ⟨g2, 0, none⟩) (nums (bs ++ [x])) := (fresh_grown (hF2.alloc (.cells #[.slice (some ⟨g2, 0, none⟩) (k + 1) c2] 40)) hg3 (fun q e => .inl (by have := (HH.out.1.lt q e).2; omega))).holds
          have hR3 : Holds w3 (some ⟨b0, d0, none⟩) (nums (os.drop (j + 1))) := HRE.out.below hb3
          have hdl : (os.drop (j + 1)).length = n - (j + 1) := by have := HN.out; simp; omega
          have hcall := ih (some ⟨g2, 0, none⟩) (some ⟨b0, d0, none⟩) (k + 1) c2 (n - (j + 1)) (c - (j + 1)) (bs ++ [x]) (os.drop (j + 1)) w3 (by have := HG.out; have := HN.out; omega) (by omega) hL3 hR3 hFl hdl (by omega) (fun h => by cases h)
          have HC := Lib.hid hcall
          have HH3 := Lib.hid hH3
          have HB3 := Lib.hid hb3
          have hp0 : (0 : Int) ≤ (j : Int) + 1 := by omega
          have hp1 : (j : Int) + 1 ≤ (n : Int) := by omega
          have hp2 : ((j : Int) + 1).toNat = j + 1 := by omega
          have hbs3 : w.heap.size ≤ w3.heap.size := hb3.size
          clear hF2 hFl hnx hH3 hb3 hown3 hg3 hat3 hlt3 hL3 hR3 hdl hcall ih
          go_wp2_with fail
          refine HC.out.mono ?_
          rintro e w4 ⟨A4, c4, rs4, rfl, hr4, hn4, hs4, hh4, hb4⟩
          have HR4 := Lib.hid hr4
          have HH4 := Lib.hid hh4
          have HB4 := Lib.hid hb4
          have HL4 : Hid (acc.length + (1 + rs4.length) ≤ 255) := by show _ ≤ _; have h1 := HAL.out; have h2 := rowNums_len rs4; rw [hr4] at h2; omega
          have HOA := Lib.hid (HH3.out.below hb4).1
          have hal : (acc ++ [(⟨some ⟨g2, 0, none⟩, k + 1, c2, bs ++ [x]⟩ : RowV)]).length = acc.length + 1 := by simp
          have HAL2 := Lib.hid hal
          have hbs4 : w3.heap.size ≤ w4.heap.size := hb4.size
          have hEnd : rowNums (acc ++ [(⟨some ⟨g2, 0, none⟩, k + 1, c2, bs ++ [x]⟩ : RowV)]) ++ rowNums rs4 ++ subs m (os.drop (j + 1)) bs = subs m os bs := by
            rw [← HNX.out, hr4]
            simp [rowNums]
          have HEND := Lib.hid hEnd
          rw [hal] at HOA
          clear hr4 hh4 hb4 hal hEnd
          cases A4 with
          | none =>
            obtain ⟨rfl, rfl⟩ := hn4 rfl
            clear hn4 hs4
            go_wp2_with (at_builtin; refine wpList_append_own_none rfl (.tmp 31) (.tmp 38) 28 rfl w.heap.size 40 i1 1 Try.underlying28 RI.out _ (acc.length + 1) _ rfl HOA.out rfl ?_)
            go_roundw
            case rel => exact ⟨j + 1, some ⟨g3, 0, none⟩, c3, acc ++ [⟨some ⟨g2, 0, none⟩, k + 1, c2, bs ++ [x]⟩], by omega, by go_num, by rw [HAL2.out], by simpa [rowNums] using HEND.out, fun h => (by cases h), fun a h => by obtain rfl := Option.some.inj h; exact ⟨rfl, by rw [HAL2.out]; omega⟩, HH3.out.below HB4.out, below_then HB3.out HB4.out hbs3⟩
            case measure => simp [intOf]; omega
          | some a4 =>
            obtain ⟨ha4, hpos⟩ := hs4 a4 rfl
            obtain ⟨b4, rfl⟩ : ∃ b4, a4 = ⟨b4, 0, none⟩ := ⟨_, ha4⟩
            have HNW : Hid (∀ j u, (rowVals rs4)[j]? = some u → w4.cell? ((⟨b4, 0, none⟩ : Addr).add j) = some u) := fun j u hu => by
              rw [Addr.add_lit]
              rcases holds_of_own HH4.out.1 with h | ⟨b, o, h, -, hcell⟩
              · rw [h] at hu; simp at hu
              · obtain ⟨rfl, rfl⟩ : b4 = b ∧ 0 = o := by simpa using h
                exact hcell j u hu
            have HLN := Lib.hid (show (rowVals rs4).length = rs4.length * 1 by rw [rowVals_len, Nat.mul_one])
            have HM4 := Lib.hid (show acc.length + 1 + rs4.length ≤ maxLen by have := HL4.out; unfold maxLen; omega)
            have HY4 := Lib.hid (show (acc.length + 1 + rs4.length) * 24 ≤ 140737488355328 by have := HL4.out; omega)
            have HZ4 := Lib.hid (show w.heap.size ≤ w4.heap.size by omega)
            clear hn4 hs4 ha4
            go_wp2_with (at_builtin; refine wpList_append_lies _ rfl (.tmp 31) (.tmp 38) 28 rfl w.heap.size 40 i1 (.slice none 0 0) 1 24 Try.underlying28 RI.out RZ0.out RZ1.out RZ2.out rfl (by decide) (.slice (some ⟨g3, 0, none⟩) (acc.length + 1) c3) (acc.length + 1) _ rfl HOA.out ⟨b4, 0, none⟩ rs4.length c4 (rowVals rs4) rfl HLN.out HNW.out (rowVals_one rs4) hpos HM4.out HY4.out HZ4.out w4.heap.size rfl ?_; intro g5 c5 w5 hown5 hg5 hat5 hlt5)
            rw [← HAL2.out] at hown5 hg5 hat5
            have HJ := Lib.hid (Heads.join HH3.out hbs3 HB4.out HH4.out hown5 hg5 hat5)
            have HB5 := Lib.hid ((below_then HB3.out HB4.out hbs3).grown hg5 HZ4.out (fun kk e => by rw [HAL2.out] at e; exact (HOA.out.lt kk e).1))
            clear hown5 hg5 hat5 hlt5
            go_roundw
            case rel => exact ⟨j + 1, some ⟨g5, 0, none⟩, c5, acc ++ [⟨some ⟨g2, 0, none⟩, k + 1, c2, bs ++ [x]⟩] ++ rs4, by omega, by go_num, by rw [List.length_append, HAL2.out], by rw [show rowNums (acc ++ [⟨some ⟨g2, 0, none⟩, k + 1, c2, bs ++ [x]⟩] ++ rs4) = rowNums (acc ++ [⟨some ⟨g2, 0, none⟩, k + 1, c2, bs ++ [x]⟩]) ++ rowNums rs4 by simp [rowNums]]; exact HEND.out, fun h => (by cases h), fun a h => by obtain rfl := Option.some.inj h; exact ⟨rfl, by rw [List.length_append]; omega⟩, HJ.out, HB5.out⟩
            case measure => simp [intOf]; omega
        · obtain rfl : j = n := by omega
          have HR : Hid (rowNums acc = subs m os bs) := by show _ = _; rw [← hacc, List.drop_eq_nil_of_le (by have := HN.out; omega)]; simp [subs]
          have HH := Lib.hid hh
          have HEN := Lib.hid hEn
          have HES := Lib.hid hEs
          clear hacc hh hEn hEs
          go_wp2
          go_ret
          exact ⟨E, d, acc, rfl, HR.out, HEN.out, HES.out, HH.out, hb⟩
end Go.Proofs.Ytkdjdnknhbmliaa

namespace Go.Proofs.Ytkdjdnknhbmliaa
open Go.RowKit

def placeK (f : Nat → Bool) (t : Bool) : Array Value := #[.bool (f 0), .bool (f 1), .bool (f 2), .bool (f 3), .bool (f 4), .bool (f 5), .bool (f 6), .bool (f 7), .bool t]
theorem place_K (bs : List Bool) (t : Bool) : placeCells bs t = placeK (fun i => bs.getD i false) t := rfl
/-- What IsSafe and DangersNow tell. -/
noncomputable def safeB (k s : Int) (ls : List (List Int)) (bs : List Bool) (t : Bool) : Bool := asked k s ls bs && !ls.any (leftBy bs t)
noncomputable def dangersLs (k s : Int) (ls : List (List Int)) (bs : List Bool) (t : Bool) : List (List Int) := if asked k s ls bs then nowOf bs t ls else []
theorem asked_dg {k s : Int} {ls : List (List Int)} {bs : List Bool} (h : asked k s ls bs = true) : ∀ d ∈ ls, IsDg (bs.length : Int) d := by
  obtain ⟨h1, h2⟩ := asked_parts h
  intro d hd
  obtain ⟨j, hj, rfl⟩ := List.getElem_of_mem hd
  rw [h2]
  exact dg_at h1 hj

set_option maxHeartbeats 1600000 in
theorem specIsSafe_any (k s : Int) (A B : Option Addr) (m c q z : Nat) (rs : List RowV) (bs : List Bool) (t : Bool) (w : World) (hA : Grid w A rs) (hB : Holds w B (bits bs)) (hx : rs.length = m) (hm : m ≤ 1048576) (hy : bs.length = q) (hq : q ≤ 1048576) :
    Calls Try.prog 40 #[.agg #[.int .i64 k, .slice A m c, .int .i64 s], .agg #[.slice B q z, .bool t]] w fun e w' => e = .returned (.tuple #[.bool (safeB k s (rowNums rs) bs t), .bool (asked k s (rowNums rs) bs)]) ∧ Below w.heap.size w w' := by
  have HX := Lib.hid hx
  have HY := Lib.hid hy
  have h0 := (Whole.fresh w 54 #[.int .i64 k, .slice A m c, .int .i64 s]).alloc (.cells #[.slice B q z, .bool t] 63)
  have h1 := Whole.fresh (w.alloc (.cells #[.int .i64 k, .slice A m c, .int .i64 s] 54)) 63 #[.slice B q z, .bool t]
  rw [World.size_alloc] at h1
  have hbw := below2 w (.cells #[.int .i64 k, .slice A m c, .int .i64 s] 54) (.cells #[.slice B q z, .bool t] 63)
  have hA2 := hA.below hbw
  have hB2 := hB.below hbw
  clear hx hy
  cases hk : asked k s (rowNums rs) bs
  · have HK := Lib.hid hk
    have HS : Hid (safeB k s (rowNums rs) bs t = false) := by show _ = _; rw [safeB, hk]; rfl
    rw [HS.out]
    clear hk
    go_enter Try.func40, Try.ntmps40
    go_wp2_with fail
    refine (keAsked_any k s A B m c q z rs bs t _ hA2 hB2 HX.out hm HY.out hq).mono ?_
    rintro e w1 ⟨rfl, hb⟩
    rw [HK.out]
    have ht := below_then hbw hb (by simp; omega)
    clear hb
    go_wp2
    go_ret2
    exact ⟨rfl, ht⟩
  · have HK := Lib.hid hk
    have HDG : Hid (∀ d ∈ rowNums rs, IsDg (q : Int) d) := fun d hd => by have h := asked_dg hk d hd; rw [HY.out] at h; exact h
    have HS : Hid (safeB k s (rowNums rs) bs t = !(rowNums rs).any (leftBy bs t)) := by show _ = _; rw [safeB, hk]; rfl
    rw [HS.out]
    clear hk
    go_enter Try.func40, Try.ntmps40
    go_wp2_with fail
    refine (keAsked_any k s A B m c q z rs bs t _ hA2 hB2 HX.out hm HY.out hq).mono ?_
    rintro e w1 ⟨rfl, hb⟩
    rw [HK.out]
    have ht := below_then hbw hb (by simp; omega)
    have hA3 := hA2.below hb
    have hB3 := hB2.below hb
    obtain ⟨f0, f1, f2⟩ := (h0.below hb).cells3
    obtain ⟨g0, g1, -, -⟩ := (h1.below hb).two
    clear hb
    go_wp2_with fail
    refine (keNow_any k s A B m c q z rs bs t _ hA3 hB3 HX.out hm HY.out hq HDG.out).mono ?_
    rintro e w2 ⟨E, d, acc, rfl, hra, hh, hb⟩
    have hw1 : w.heap.size ≤ w1.heap.size := ht.size
    replace ht := below_then ht hb ht.size
    have HRA := Lib.hid hra
    clear hra hb f0 f1 f2 g0 g1
    have HV : Hid (((acc.length : Int) == 0) = !(rowNums rs).any (leftBy bs t)) := by
      show _ = _
      rw [now_some, ← HRA.out, rowNums_len]
      cases acc <;> simp <;> omega
    clear hh
    go_wp2
    go_ret2
    exact ⟨ret_of (by rw [← HV.out]; rfl), ht⟩

set_option maxHeartbeats 1600000 in
theorem specDangersNow_any (k s : Int) (A B : Option Addr) (m c q z : Nat) (rs : List RowV) (bs : List Bool) (t : Bool) (w : World) (hA : Grid w A rs) (hB : Holds w B (bits bs)) (hx : rs.length = m) (hm : m ≤ 1048576) (hy : bs.length = q) (hq : q ≤ 1048576) :
    Calls Try.prog 44 #[.agg #[.int .i64 k, .slice A m c, .int .i64 s], .agg #[.slice B q z, .bool t]] w (BackPost (dangersLs k s (rowNums rs) bs t) (asked k s (rowNums rs) bs) w) := by
  have HX := Lib.hid hx
  have HY := Lib.hid hy
  have h0 := (Whole.fresh w 54 #[.int .i64 k, .slice A m c, .int .i64 s]).alloc (.cells #[.slice B q z, .bool t] 63)
  have h1 := Whole.fresh (w.alloc (.cells #[.int .i64 k, .slice A m c, .int .i64 s] 54)) 63 #[.slice B q z, .bool t]
  rw [World.size_alloc] at h1
  have hbw := below2 w (.cells #[.int .i64 k, .slice A m c, .int .i64 s] 54) (.cells #[.slice B q z, .bool t] 63)
  have hA2 := hA.below hbw
  have hB2 := hB.below hbw
  clear hx hy
  cases hk : asked k s (rowNums rs) bs
  · have HK := Lib.hid hk
    have HS : Hid (dangersLs k s (rowNums rs) bs t = []) := by show _ = _; rw [dangersLs, hk]; rfl
    rw [HS.out]
    clear hk
    go_enter Try.func44, Try.ntmps44
    go_wp2_with fail
    refine (keAsked_any k s A B m c q z rs bs t _ hA2 hB2 HX.out hm HY.out hq).mono ?_
    rintro e w1 ⟨rfl, hb⟩
    rw [HK.out]
    have ht := below_then hbw hb (by simp; omega)
    clear hb
    go_wp2
    go_ret2
    exact BackPost.no ht
  · have HK := Lib.hid hk
    have HDG : Hid (∀ d ∈ rowNums rs, IsDg (q : Int) d) := fun d hd => by have h := asked_dg hk d hd; rw [HY.out] at h; exact h
    have HS : Hid (dangersLs k s (rowNums rs) bs t = nowOf bs t (rowNums rs)) := by show _ = _; rw [dangersLs, hk]; rfl
    rw [HS.out]
    clear hk
    go_enter Try.func44, Try.ntmps44
    go_wp2_with fail
    refine (keAsked_any k s A B m c q z rs bs t _ hA2 hB2 HX.out hm HY.out hq).mono ?_
    rintro e w1 ⟨rfl, hb⟩
    rw [HK.out]
    have ht := below_then hbw hb (by simp; omega)
    have hA3 := hA2.below hb
    have hB3 := hB2.below hb
    obtain ⟨f0, f1, f2⟩ := (h0.below hb).cells3
    obtain ⟨g0, g1, -, -⟩ := (h1.below hb).two
    clear hb
    go_wp2_with fail
    refine (keNow_any k s A B m c q z rs bs t _ hA3 hB3 HX.out hm HY.out hq HDG.out).mono ?_
    rintro e w2 ⟨E, d, acc, rfl, hra, hh, hb⟩
    have hw1 : w.heap.size ≤ w1.heap.size := ht.size
    replace ht := below_then ht hb ht.size
    have HRA := Lib.hid hra
    clear hra hb f0 f1 f2 g0 g1
    have HFR := Lib.hid (hh.free.more (lo' := w.heap.size) (hi' := w2.heap.size) (by omega) (Nat.le_refl _))
    clear hh
    go_wp2
    go_ret2
    exact ⟨E, acc.length, d, acc, rfl, HRA.out, rfl, HFR.out, ht⟩

def BankPlacePost (k s : Int) (ls : List (List Int)) (bs : List Bool) (t : Bool) (w : World) (e : Ending) (w' : World) : Prop :=
  ((asked k s ls bs = true ∧ e = .returned (.tuple #[.agg (placeCells bs t), .bool true])) ∨ (asked k s ls bs = false ∧ e = .returned (.tuple #[.agg (placeCells [] false), .bool false]))) ∧ Below w.heap.size w w'

set_option maxHeartbeats 3200000 in
theorem bankPlace_any (k s : Int) (A B : Option Addr) (m c q z : Nat) (rs : List RowV) (bs : List Bool) (t : Bool) (w : World) (hA : Grid w A rs) (hB : Holds w B (bits bs)) (hx : rs.length = m) (hm : m ≤ 1048576) (hy : bs.length = q) (hq : q ≤ 1048576) :
    Calls Try.prog 89 #[.agg #[.int .i64 k, .slice A m c, .int .i64 s], .agg #[.slice B q z, .bool t]] w (BankPlacePost k s (rowNums rs) bs t w) := by
  have HX := Lib.hid hx
  have HY := Lib.hid hy
  have h0 := (Whole.fresh w 54 #[.int .i64 k, .slice A m c, .int .i64 s]).alloc (.cells #[.slice B q z, .bool t] 63)
  have h1 := Whole.fresh (w.alloc (.cells #[.int .i64 k, .slice A m c, .int .i64 s] 54)) 63 #[.slice B q z, .bool t]
  rw [World.size_alloc] at h1
  have hbw := below2 w (.cells #[.int .i64 k, .slice A m c, .int .i64 s] 54) (.cells #[.slice B q z, .bool t] 63)
  have hA2 := hA.below hbw
  have hB2 := hB.below hbw
  clear hx
  have hbw3 := below3 w (.cells #[.int .i64 k, .slice A m c, .int .i64 s] 54) (.cells #[.slice B q z, .bool t] 63) (.cells (placeCells [] false) 90)
  have h0' := h0.alloc (.cells (placeCells [] false) 90)
  have h1' := h1.alloc (.cells (placeCells [] false) 90)
  have hres := Whole.fresh ((w.alloc (.cells #[.int .i64 k, .slice A m c, .int .i64 s] 54)).alloc (.cells #[.slice B q z, .bool t] 63)) 90 (placeCells [] false)
  rw [World.size_alloc, World.size_alloc] at hres
  have hA3 := hA2.alloc (.cells (placeCells [] false) 90)
  have hB3 := hB2.alloc (.cells (placeCells [] false) 90)
  clear h0 h1 hA2 hB2 hbw
  cases hk : keepOk k s (rowNums rs)
  · have HQ : Hid (asked k s (rowNums rs) bs = false) := by show _ = _; simp [asked, hk]
    have HK := Lib.hid hk
    clear hk hy
    go_enter Try.func89, Try.ntmps89
    go_wp2_with fail
    refine (isKeep_any k s A m c rs _ hA3 HX.out hm).mono ?_
    rintro e w1 ⟨rfl, hb⟩
    rw [HK.out]
    have ht := below_then hbw3 hb (by simp; omega)
    have hres' := hres.below hb
    have hlr := hres'.lt
    obtain ⟨r0, r1, r2, r3, r4, r5, r6, r7, r8⟩ := place_cells hres'
    obtain ⟨f0, f1, f2, f3, f4, f5, f6, f7, f8⟩ := place_open hres'
    clear hb
    go_wp2
    refine bodyPost_ret (v := .tuple #[.agg (placeCells [] false), .bool false]) (by simp [results, Try.results89, go_sem, r0, r1, r2, r3, r4, r5, r6, r7, r8, placeCells]) rfl ⟨.inr ⟨HQ.out, rfl⟩, ?_⟩
    exact set_place ht (by omega)
  · have h8 := (keepOk_iff.1 hk).1
    have HK := Lib.hid hk
    by_cases hl : (q : Int) = k
    · have HQ : Hid (asked k s (rowNums rs) bs = true) := by show _ = _; simp [asked, hk, hy, hl]
      subst hl
      have hl' : ((q : Int) != (q : Int)) = false := by simp
      have hq8 : q ≤ 8 := by omega
      have hn : bs.length ≤ 8 := by rw [hy]; exact hq8
      clear hk h8 hy
      go_enter Try.func89, Try.ntmps89
      go_wp2_with fail
      refine (isKeep_any (q : Int) s A m c rs _ hA3 HX.out hm).mono ?_
      rintro e w1 ⟨rfl, hb⟩
      rw [HK.out]
      have ht := below_then hbw3 hb (by simp; omega)
      have hres' := hres.below hb
      obtain ⟨x0, x1, x2⟩ := (h0'.below hb).cells3
      obtain ⟨y0, y1, -, -⟩ := (h1'.below hb).two
      have v0 : World.cell? (w1.alloc (.cells #[.bool false, .bool false, .bool false, .bool false, .bool false, .bool false, .bool false, .bool false, .bool t] 90)) ⟨w.heap.size + 1, 0, none⟩ = some (.slice B q z) := ((h1'.below hb).alloc (.cells (placeCells [] t) 90)).two.1
      have hlr := hres'.lt
      have hlw : w.heap.size + 3 ≤ w1.heap.size := by omega
      go_wp2
      have hfar := (hB3.below hb).alloc (.cells (placeCells [] t) 90)
      have hblk := Whole.fresh w1 90 (placeCells [] t)
      have hb3 := below1 w1 (.cells (placeCells [] t) 90)
      have hsrc : 0 < (bits bs).length → (some ⟨w1.heap.size, 0, none⟩ : Option Addr) = some ⟨w1.heap.size, 0, none⟩ ∧ ∃ ad : Addr, B = some ad ∧ ∀ j v, (bits bs)[j]? = some v → (w1.alloc (.cells (placeCells [] t) 90)).cell? (ad.add j) = some v := by
        intro h0
        refine ⟨rfl, ?_⟩
        rcases hfar with h | ⟨b, o, hA, hb, hc⟩
        · rw [h] at h0; simp at h0
        · exact ⟨_, hA, fun j v hv => by rw [show (⟨b, o, none⟩ : Addr).add j = ⟨b, o + j, none⟩ from by unfold Addr.add; split <;> simp_all]; exact hc j v hv⟩
      have HSRC := Lib.hid hsrc
      have HBL : Hid ((bits bs).length = Nat.min q 8) := by show _ = _; rw [bits_len, HY.out]; exact (Nat.min_eq_left hq8).symm
      have HONE : Hid (∀ v ∈ bits bs, v.oneCell' = true) := by
        intro v hv
        simp only [bits, List.mem_map] at hv
        obtain ⟨x, -, rfl⟩ := hv
        rfl
      have HFIT : Hid (0 + (bits bs).length ≤ (placeCells [] t).toList.length) := by show _ ≤ _; rw [bits_len]; show 0 + bs.length ≤ 9; omega
      clear hsrc hfar hb
      go_region_law (refine step_copy_splice rfl (.tmp 24) (.tmp 26) 24 24 rfl 4 Try.underlying24 size_bool (some ⟨w1.heap.size, 0, none⟩) B 8 8 q z (by simp [Act.eval]) (by simp [Act.eval]) w1.heap.size 0 (placeCells [] t).toList 90 (by exact hblk.drew) (bits bs) HBL.out (by exact HSRC.out) HFIT.out HONE.out w1.heap.size _ (by exact hb3.drew) (Nat.le_refl _) ?_; intro w' hw' hb')
      have hq' : Whole w' w1.heap.size 90 (placeCells bs t) := by
        have h := hw'.out
        rw [splice_place bs t hn] at h
        exact h
      have hr := hres'.below' hb' (by omega)
      obtain ⟨a0, a1, a2, a3, a4, a5, a6, a7, a8⟩ := place_cells hq'
      obtain ⟨r0, r1, r2, r3, r4, r5, r6, r7, r8⟩ := place_cells hr
      obtain ⟨f0, f1, f2, f3, f4, f5, f6, f7, f8⟩ := place_open hr
      have hlt1 := hr.lt
      clear hw' hblk hres hb3 HSRC HBL HONE HFIT hq' x0 x1 x2 y0 y1 v0
      go_wp2
      have hbw : Below w.heap.size w w' := below_then ht (by simpa using hb') (by omega)
      refine bodyPost_ret (v := .tuple #[.agg (placeCells bs t), .bool true]) (by simp [results, Try.results89, go_sem, r0, r1, r2, r3, r4, r5, r6, r7, r8, placeCells]) rfl ⟨.inl ⟨HQ.out, rfl⟩, ?_⟩
      exact set_place hbw (by omega)
    · have HQ : Hid (asked k s (rowNums rs) bs = false) := by show _ = _; simp [asked, hy, hl]
      have hl' : ((q : Int) != k) = true := by simp; exact hl
      clear hk h8 hy hl
      go_enter Try.func89, Try.ntmps89
      go_wp2_with fail
      refine (isKeep_any k s A m c rs _ hA3 HX.out hm).mono ?_
      rintro e w1 ⟨rfl, hb⟩
      rw [HK.out]
      have ht := below_then hbw3 hb (by simp; omega)
      have hres' := hres.below hb
      have hlr := hres'.lt
      obtain ⟨x0, x1, x2⟩ := (h0'.below hb).cells3
      obtain ⟨y0, y1, -, -⟩ := (h1'.below hb).two
      obtain ⟨r0, r1, r2, r3, r4, r5, r6, r7, r8⟩ := place_cells hres'
      obtain ⟨f0, f1, f2, f3, f4, f5, f6, f7, f8⟩ := place_open hres'
      clear hb
      go_wp2
      refine bodyPost_ret (v := .tuple #[.agg (placeCells [] false), .bool false]) (by simp [results, Try.results89, go_sem, r0, r1, r2, r3, r4, r5, r6, r7, r8, placeCells]) rfl ⟨.inr ⟨HQ.out, rfl⟩, ?_⟩
      exact set_place ht (by omega)

set_option maxHeartbeats 3200000 in
theorem implIsSafe_any (k s : Int) (A B : Option Addr) (m c q z : Nat) (rs : List RowV) (bs : List Bool) (t : Bool) (w : World) (hA : Grid w A rs) (hB : Holds w B (bits bs)) (hx : rs.length = m) (hm : m ≤ 1048576) (hy : bs.length = q) (hq : q ≤ 1048576) :
    Calls Try.prog 42 #[.agg #[.int .i64 k, .slice A m c, .int .i64 s], .agg #[.slice B q z, .bool t]] w fun e w' => e = .returned (.tuple #[.bool (safeB k s (rowNums rs) bs t), .bool (asked k s (rowNums rs) bs)]) ∧ Below w.heap.size w w' := by
  have HX := Lib.hid hx
  have HY := Lib.hid hy
  have h0 := (Whole.fresh w 54 #[.int .i64 k, .slice A m c, .int .i64 s]).alloc (.cells #[.slice B q z, .bool t] 63)
  have h1 := Whole.fresh (w.alloc (.cells #[.int .i64 k, .slice A m c, .int .i64 s] 54)) 63 #[.slice B q z, .bool t]
  rw [World.size_alloc] at h1
  have hbw := below2 w (.cells #[.int .i64 k, .slice A m c, .int .i64 s] 54) (.cells #[.slice B q z, .bool t] 63)
  have hA2 := hA.below hbw
  have hB2 := hB.below hbw
  clear hx hy
  go_enter Try.func42, Try.ntmps42
  go_wp2_with fail
  refine (bankPlace_any k s A B m c q z rs bs t _ hA2 hB2 HX.out hm HY.out hq).mono ?_
  rintro e w1 ⟨⟨hk, rfl⟩ | ⟨hk, rfl⟩, hb⟩
  · have HK := Lib.hid hk
    have HDG : Hid (DgAll (rowNums rs)) := keep_all (asked_parts hk).1
    have HS : Hid (safeB k s (rowNums rs) bs t = !(rowNums rs).any (leftBy bs t)) := by show _ = _; rw [safeB, hk]; rfl
    have ht := below_then hbw hb (by simp; omega)
    obtain ⟨f, hf⟩ : ∃ f : Nat → Bool, f = fun i => bs.getD i false := ⟨_, rfl⟩
    have HPL : Hid (placeCells bs t = placeK f t) := by show _ = _; rw [place_K, hf]
    have hA3 := (hA2.below hb).alloc (.cells (placeK f t) 90)
    have h0' := (h0.below hb).alloc (.cells (placeK f t) 90)
    have hp := Whole.fresh w1 90 (placeK f t)
    have ht2 := ht.alloc ht.size (.cells (placeK f t) 90)
    obtain ⟨f0, f1, f2⟩ := h0'.cells3
    have p0 := hp.cell 0
    have p1 := hp.cell 1
    have p2 := hp.cell 2
    have p3 := hp.cell 3
    have p4 := hp.cell 4
    have p5 := hp.cell 5
    have p6 := hp.cell 6
    have p7 := hp.cell 7
    have p8 := hp.cell 8
    rw [HPL.out]
    have hcall := fun W hG => isSafePlace_any k s A m c rs bs t W hG HX.out hm HDG.out
    rw [HPL.out] at hcall
    clear hb hk hf h0 h1 h0' hp
    unfold placeK at p0 p1 p2 p3 p4 p5 p6 p7 p8 f0 f1 f2 hA3 ht2 hcall
    unfold placeK
    replace p0 : World.cell? _ _ = some (Value.bool (f 0)) := p0
    replace p1 : World.cell? _ _ = some (Value.bool (f 1)) := p1
    replace p2 : World.cell? _ _ = some (Value.bool (f 2)) := p2
    replace p3 : World.cell? _ _ = some (Value.bool (f 3)) := p3
    replace p4 : World.cell? _ _ = some (Value.bool (f 4)) := p4
    replace p5 : World.cell? _ _ = some (Value.bool (f 5)) := p5
    replace p6 : World.cell? _ _ = some (Value.bool (f 6)) := p6
    replace p7 : World.cell? _ _ = some (Value.bool (f 7)) := p7
    replace p8 : World.cell? _ _ = some (Value.bool t) := p8
    go_wp2_with fail
    refine (hcall _ hA3).mono ?_
    rintro e w2 ⟨rfl, hb⟩
    replace ht2 := below_then ht2 hb ht2.size
    clear hb hcall p0 p1 p2 p3 p4 p5 p6 p7 p8 f0 f1 f2
    go_wp2
    go_ret2
    exact ⟨by rw [HS.out, HK.out]; rfl, ht2⟩
  · have HK := Lib.hid hk
    have HS : Hid (safeB k s (rowNums rs) bs t = false) := by show _ = _; rw [safeB, hk]; rfl
    have ht := below_then hbw hb (by simp; omega)
    have ht2 := ht.alloc ht.size (.cells (placeCells [] false) 90)
    clear hb hk h0 h1
    rw [show placeCells [] false = #[.bool false, .bool false, .bool false, .bool false, .bool false, .bool false, .bool false, .bool false, .bool false] from rfl] at ht2 ⊢
    go_wp2
    go_ret2
    exact ⟨by rw [HS.out, HK.out]; rfl, ht2⟩

end Go.Proofs.Ytkdjdnknhbmliaa

namespace Go.Proofs.Ytkdjdnknhbmliaa
open Go.RowKit

/-- The people of a crowd before the k-th. -/
def upTo (l : List Int) (k : Nat) : List Int := ((List.range k).filter (fun i => has l i)).map Int.ofNat
theorem upTo_yes {l : List Int} {k : Nat} (h : has l k = true) : upTo l (k + 1) = upTo l k ++ [(k : Int)] := by
  simp [upTo, List.range_succ, List.filter_append, h]
theorem upTo_no {l : List Int} {k : Nat} (h : has l k = false) : upTo l (k + 1) = upTo l k := by
  simp [upTo, List.range_succ, List.filter_append, h]
theorem upTo_len (l : List Int) (k : Nat) : (upTo l k).length ≤ k := by
  have := List.length_filter_le (fun i => has l i) (List.range k)
  simpa [upTo] using this
theorem rise_eq : ∀ {a b : List Int}, a.Pairwise (· < ·) → b.Pairwise (· < ·) → (∀ x, x ∈ a ↔ x ∈ b) → a = b
  | [], [], _, _, _ => rfl
  | [], y :: b, _, _, h => by have := (h y).2 (by simp); simp at this
  | x :: a, [], _, _, h => by have := (h x).1 (by simp); simp at this
  | x :: a, y :: b, ha, hb, h => by
    rw [List.pairwise_cons] at ha hb
    have e : x = y := by
      have h1 := (h x).1 (by simp)
      have h2 := (h y).2 (by simp)
      rcases List.mem_cons.1 h1 with h1 | h1
      · exact h1
      · rcases List.mem_cons.1 h2 with h2 | h2
        · exact h2.symm
        · have := hb.1 _ h1
          have := ha.1 _ h2
          omega
    subst e
    rw [rise_eq ha.2 hb.2 fun z => ?_]
    constructor
    · intro hz
      rcases List.mem_cons.1 ((h z).1 (List.mem_cons_of_mem _ hz)) with e | e
      · have := ha.1 _ hz; omega
      · exact e
    · intro hz
      rcases List.mem_cons.1 ((h z).2 (List.mem_cons_of_mem _ hz)) with e | e
      · have := hb.1 _ hz; omega
      · exact e
theorem steps_lt {l : List Int} {hi : Int} (h : StepsTo l hi l.length) : ∀ (d i : Nat), i + d + 1 < l.length → l.getD i 0 < l.getD (i + d + 1) 0
  | 0, i, hd => by
    have := (h (i + 1) (by omega)).2.2
    rcases this with h | h
    · omega
    · simpa using h
  | d + 1, i, hd => by
    have h1 := steps_lt h d i (by omega)
    have := (h (i + d + 1 + 1) (by omega)).2.2
    rcases this with h | h
    · omega
    · have h2 : l.getD (i + d + 1) 0 < l.getD (i + d + 1 + 1) 0 := by simpa using h
      exact Int.lt_trans h1 h2
theorem steps_pair {l : List Int} {hi : Int} (h : StepsTo l hi l.length) : l.Pairwise (· < ·) := by
  rw [List.pairwise_iff_getElem]
  intro i j hi' hj hij
  have := steps_lt h (j - i - 1) i (by omega)
  rw [show i + (j - i - 1) + 1 = j by omega] at this
  simpa [hi', hj] using this
theorem upTo_all {l : List Int} {hi : Int} (h : StepsTo l hi l.length) (h7 : hi ≤ 7) : upTo l 8 = l := by
  refine rise_eq ?_ (steps_pair h) fun x => ?_
  · refine List.Pairwise.map _ (fun a b hab => ?_) (List.Pairwise.filter _ (List.pairwise_lt_range (n := 8)))
    exact Int.ofNat_lt.2 hab
  · simp only [upTo, List.mem_map, List.mem_filter, List.mem_range]
    constructor
    · rintro ⟨i, ⟨-, hh⟩, rfl⟩
      exact has_iff.1 hh
    · intro hx
      have hm := mem_steps h hx
      obtain ⟨i, rfl⟩ := Int.eq_ofNat_of_zero_le hm.1
      exact ⟨i, ⟨by omega, has_iff.2 hx⟩, rfl⟩

set_option maxHeartbeats 1600000 in
set_option maxRecDepth 100000 in
theorem list_any (l : List Int) (hi : Int) (w : World) (hs : StepsTo l hi l.length) (h7 : hi ≤ 7) :
    Calls Try.prog 100 #[.agg (crowdCells l)] w (OwnPost l w) := by
  obtain ⟨i0, hi0, hz0, hz1, hz2⟩ := info_parts info_int
  have HI := Lib.hid hi0
  have HZ0 := Lib.hid hz0
  have HZ1 := Lib.hid hz1
  have HZ2 := Lib.hid hz2
  have HALL := Lib.hid (upTo_all hs h7)
  have hc := Whole.fresh w 88 (crowdCells l)
  have hbw := below1 w (.cells (crowdCells l) 88)
  have HBW := Lib.hid hbw
  obtain ⟨m0, m1, m2, m3, m4, m5, m6, m7⟩ := crowd_cells hc
  clear hi0 hz0 hz1 hz2 hs h7 hbw
  go_enter Try.func100, Try.ntmps100
  go_wp2
  go_loopw [3, 8] (fun v i wr => ∃ (k : Nat) (E : Option Addr) (d : Nat), k ≤ 8 ∧ i = .int .i64 k ∧ v = .slice E (upTo l k).length d ∧ wr.ownsRow w.heap.size 3 1 (.slice E (upTo l k).length d) (upTo l k).length (nums (upTo l k)) ∧ Below w.heap.size w wr) (fun _ i _ => 8 - (intOf i).toNat)
  case atStart => exact ⟨0, none, 0, by omega, rfl, rfl, World.ownsRow_nil _ _ _ _, HBW.out⟩
  case round =>
    obtain ⟨k, E, d, hk, rfl, rfl, hown, hb⟩ := hrel
    by_cases hlt : k < 8
    · have hix := fun W : World => index_crowd l hlt W
      have hk8 : (k : Int) < 8 := by omega
      have hul := upTo_len l k
      cases hp : has l k
      · have HS := Lib.hid (upTo_no hp)
        have HO := Lib.hid hown
        rw [hp] at hix
        clear hp hown
        go_wp2
        go_roundw
        case rel => exact ⟨k + 1, E, d, by omega, by go_num, by rw [HS.out], by rw [HS.out]; exact HO.out, hb⟩
        case measure => simp [intOf]; omega
      · have HS := Lib.hid (upTo_yes hp)
        have HOW := Lib.hid (hown.alloc (.cells #[.int .i64 k] 3))
        have HB := Lib.hid (hb.alloc hb.size (.cells #[.int .i64 k] 3))
        have HBASE := Lib.hid (show w.heap.size ≤ (wr.alloc (.cells #[.int .i64 k] 3)).heap.size by have := hb.size; simp; omega)
        have HMAX := Lib.hid (show (upTo l k).length + 1 ≤ maxLen by unfold maxLen; omega)
        have HBYT := Lib.hid (show ((upTo l k).length + 1) * 8 ≤ 140737488355328 by omega)
        have HLEN : Hid ((upTo l (k + 1)).length = (upTo l k).length + 1) := by show _ = _; rw [HS.out]; simp
        rw [hp] at hix
        clear hp hown hb
        go_wp2_with (at_builtin; refine wpList_append_own _ rfl (.tmp 13) (.tmp 15) 40 rfl w.heap.size 3 i0 (.int .i64 0) 1 8 Try.underlying40 HI.out HZ0.out HZ1.out HZ2.out rfl (by decide) (.slice E (upTo l k).length d) (upTo l k).length (nums (upTo l k)) rfl HOW.out ⟨wr.heap.size, 0, none⟩ 1 1 [.int .i64 k] rfl rfl (cell_one_new _ _ _) (by simp [Value.oneCell']) HMAX.out HBYT.out HBASE.out ?_; intro v' w2 hown1 hg1 _; obtain ⟨D', q', hv', -⟩ := Fresh.of_own hown1 (Nat.le_refl _); rw [hv'] at hown1 ⊢; clear hv')
        have HBN := Lib.hid (HB.out.grown hg1 HBASE.out (fun kk e => (HOW.out.lt _ e).1))
        have HON := Lib.hid hown1
        clear hg1 hown1
        go_roundw
        case rel => exact ⟨k + 1, D', q', by omega, by go_num, by rw [HLEN.out], by rw [HLEN.out, HS.out, show nums (upTo l k ++ [(k : Int)]) = nums (upTo l k) ++ [.int .i64 k] by simp [nums]]; exact HON.out, HBN.out⟩
        case measure => simp [intOf]; omega
    · obtain rfl : k = 8 := by omega
      rw [HALL.out] at hown
      have HO := Lib.hid hown
      have HL : Hid ((upTo l 8).length = l.length) := by show _ = _; rw [HALL.out]
      clear hown
      go_wp2
      go_ret
      exact ⟨E, d, by rw [HL.out]; rfl, HO.out, hb⟩
end Go.Proofs.Ytkdjdnknhbmliaa

namespace Go.Proofs.Ytkdjdnknhbmliaa
open Go.RowKit

/-- The place at which a number goes among the first k of a list: behind the last one that is not greater. -/
def spot (l : List Int) (x : Int) : Nat → Nat
  | 0 => 0
  | k + 1 => if x < l.getD k 0 then spot l x k else k + 1
theorem spot_le (l : List Int) (x : Int) : ∀ k, spot l x k ≤ k
  | 0 => Nat.le_refl _
  | k + 1 => by
    rw [spot]
    split
    · have := spot_le l x k; omega
    · omega
theorem spot_down {l : List Int} {x : Int} {k : Nat} (h : x < l.getD k 0) : spot l x (k + 1) = spot l x k := if_pos h
theorem spot_here {l : List Int} {x : Int} {k : Nat} (h : ¬ x < l.getD k 0) : spot l x (k + 1) = k + 1 := if_neg h
def ins (l : List Int) (x : Int) : List Int := (l.take (spot l x l.length) ++ [x]) ++ l.drop (spot l x l.length)
theorem ins_len (l : List Int) (x : Int) : (ins l x).length = l.length + 1 := by
  have := spot_le l x l.length
  simp [ins]
  omega
def insTo (xs : List Int) (j : Nat) : List Int := (xs.take j).foldl ins []
theorem insTo_next {xs : List Int} {j : Nat} (h : j < xs.length) : insTo xs (j + 1) = ins (insTo xs j) xs[j] := by
  rw [insTo, List.take_succ_eq_append_getElem h, List.foldl_append]
  rfl
theorem insTo_len (xs : List Int) : ∀ {j : Nat}, j ≤ xs.length → (insTo xs j).length = j
  | 0, _ => rfl
  | j + 1, h => by rw [insTo_next h, ins_len, insTo_len xs (by omega)]
theorem own_lower {w : World} {base base' size : Nat} {e : TypeId} {v : Value} {n : Nat} {xs : List Value} (h : w.ownsRow base e size v n xs) (hb : base' ≤ base) : w.ownsRow base' e size v n xs := by
  obtain ⟨hl, h | ⟨g, cap, cur, hv, hg, r⟩⟩ := h
  · exact ⟨hl, .inl h⟩
  · exact ⟨hl, .inr ⟨g, cap, cur, hv, Nat.le_trans hb hg, r⟩⟩
theorem own_cells {w : World} {base : Nat} {e : TypeId} {g n c : Nat} {xs : List Value} (h : w.ownsRow base e 1 (.slice (some ⟨g, 0, none⟩) n c) n xs) : g < w.heap.size ∧ base ≤ g ∧ ∀ j u, xs[j]? = some u → w.cell? ⟨g, j, none⟩ = some u := by
  obtain ⟨hl, ⟨hv, -⟩ | ⟨g', cap, cur, hv, hg, hh, h1, h2, h3, h4⟩⟩ := h
  · cases hv
  · obtain ⟨rfl, rfl⟩ : g = g' ∧ c = cap := by simpa using hv
    have hw : Whole w g e cur := hh
    refine ⟨hw.lt, hg, fun j u hu => ?_⟩
    have hj : j < xs.length := (List.getElem?_eq_some_iff.1 hu).1
    rw [hw.cell j, ← hu]
    rw [hl] at hj
    have hj' : j < n := by omega
    have := congrArg (fun l : List Value => l[j]?) h4
    simpa [List.getElem?_take, hj, hj'] using this
theorem own_below {w w' : World} {base : Nat} {e : TypeId} {size : Nat} {v : Value} {n : Nat} {xs : List Value} (h : w.ownsRow base e size v n xs) (hb : Below w.heap.size w w') : w'.ownsRow base e size v n xs := by
  obtain ⟨hl, h | ⟨g, cap, cur, hv, hg, hh, r⟩⟩ := h
  · exact ⟨hl, .inl h⟩
  · exact ⟨hl, .inr ⟨g, cap, cur, hv, hg, (hb.block g (Array.getElem?_eq_some_iff.1 hh).1).trans hh, r⟩⟩

theorem cell_grown {w w' : World} {row : Option Nat} {g i : Nat} (h : w.grownBy w' row) (hl : g < w.heap.size) (hn : row ≠ some g) : w'.cell? ⟨g, i, none⟩ = w.cell? ⟨g, i, none⟩ := by
  have h1 := h.block g hl (fun e => hn e.symm)
  simp only [World.cell?, h1]

end Go.Proofs.Ytkdjdnknhbmliaa

namespace Go.Proofs.Ytkdjdnknhbmliaa
open Go.RowKit

theorem own_room {w : World} {base n c : Nat} {e : TypeId} {A : Option Addr} {xs : List Value} (h : w.ownsRow base e 1 (.slice A n c) n xs) : n ≤ c := by
  rcases own_some h with ⟨-, rfl, rfl⟩ | ⟨g, -, h⟩
  · exact Nat.le_refl _
  · exact h

/-- The people before the k-th who are where the torch is. -/
def hereTo (bs : List Bool) (t : Bool) (k : Nat) : List Int := ((List.range k).filter (fun i => bs.getD i false == t)).map Int.ofNat
theorem here_yes {bs : List Bool} {t : Bool} {k : Nat} (h : (bs.getD k false == t) = true) : hereTo bs t (k + 1) = hereTo bs t k ++ [(k : Int)] := by
  simp only [hereTo, List.range_succ, List.filter_append, List.map_append, List.filter_cons, h]
  rfl
theorem here_no {bs : List Bool} {t : Bool} {k : Nat} (h : (bs.getD k false == t) = false) : hereTo bs t (k + 1) = hereTo bs t k := by
  simp only [hereTo, List.range_succ, List.filter_append, List.map_append, List.filter_cons, h]
  simp
theorem here_len (bs : List Bool) (t : Bool) (k : Nat) : (hereTo bs t k).length ≤ k := by
  have := List.length_filter_le (fun i => bs.getD i false == t) (List.range k)
  simpa [hereTo] using this

set_option maxHeartbeats 3200000 in
set_option maxRecDepth 100000 in
theorem atTorch_any (n : Nat) (bs : List Bool) (t : Bool) (w : World) (hn : n ≤ 8) :
    Calls Try.prog 135 #[.agg (placeCells bs t), .int .i64 n] w (OwnPost (hereTo bs t n) w) := by
  obtain ⟨i0, hi, hz0, hz1, hz2⟩ := info_parts info_int
  have HI := Lib.hid hi
  have HZ0 := Lib.hid hz0
  have HZ1 := Lib.hid hz1
  have HZ2 := Lib.hid hz2
  have h0 := Whole.fresh w 90 (placeCells bs t)
  have hbw := below1 w (.cells (placeCells bs t) 90)
  have HBW := Lib.hid hbw
  have HH0 := Lib.hid h0
  clear hi hz0 hz1 hz2 hbw h0
  go_enter Try.func135, Try.ntmps135
  go_wp2
  go_loopw [5, 8] (fun v i wr => ∃ (k : Nat) (E : Option Addr) (r : Nat), k ≤ n ∧ i = .int .i64 k ∧ v = .slice E (hereTo bs t k).length r ∧ wr.ownsRow (w.heap.size + 1) 3 1 (.slice E (hereTo bs t k).length r) (hereTo bs t k).length (nums (hereTo bs t k)) ∧ Below (w.heap.size + 1) (w.alloc (.cells (placeCells bs t) 90)) wr) (fun _ i _ => n - (intOf i).toNat)
  case atStart => exact ⟨0, none, 0, Nat.zero_le _, rfl, rfl, World.ownsRow_nil _ _ _ _, Below.refl _ _⟩
  case round =>
    obtain ⟨k, E, r, hk, rfl, rfl, hown, hb⟩ := hrel
    have hhl := here_len bs t k
    have h1 := HH0.out.below' hb (by omega)
    have ht8 := (h1.cell 8).trans (show (placeCells bs t)[8]? = some (.bool t) from rfl)
    have hs2 : w.heap.size + 1 ≤ wr.heap.size := by have := hb.size; simpa using this
    by_cases hlt : k < n
    · have hkc := (h1.cell k).trans (place_at bs t (by omega : k < 8))
      have hk8 : (k : Int) < 8 := by omega
      have hyes := here_yes (bs := bs) (t := t) (k := k)
      have hno := here_no (bs := bs) (t := t) (k := k)
      generalize bs.getD k false = x at hkc hyes hno
      have HOWN := Lib.hid hown
      have HB := Lib.hid hb
      clear hown hb h1
      by_cases hxt : x = t
      · subst hxt
        have HS := Lib.hid (hyes (by simp))
        have hxx : (x == x) = true := by simp
        have HLEN : Hid ((hereTo bs x (k + 1)).length = (hereTo bs x k).length + 1) := by show _ = _; rw [HS.out]; simp
        clear hyes hno
        go_wp2
        go_quiet (fail)
        rename_i nq
        have HOW := Lib.hid ((own_below HOWN.out (below_draws (Below.refl _ _) nq)).alloc (.cells #[.int .i64 k] 3))
        have HBB := Lib.hid ((below_draws HB.out nq).alloc (by simpa using hs2) (.cells #[.int .i64 k] 3))
        have HBASE := Lib.hid (show w.heap.size + 1 ≤ ((wr.drewN nq).alloc (.cells #[.int .i64 k] 3)).heap.size by simp; omega)
        have HMAX := Lib.hid (show (hereTo bs x k).length + 1 ≤ maxLen by unfold maxLen; omega)
        have HBYT := Lib.hid (show ((hereTo bs x k).length + 1) * 8 ≤ 140737488355328 by omega)
        go_wp2_with (at_builtin; refine wpList_append_own _ rfl (.tmp 19) (.tmp 21) 40 rfl (w.heap.size + 1) 3 i0 (.int .i64 0) 1 8 Try.underlying40 HI.out HZ0.out HZ1.out HZ2.out rfl (by decide) (.slice E (hereTo bs x k).length r) (hereTo bs x k).length (nums (hereTo bs x k)) rfl HOW.out ⟨wr.heap.size, 0, none⟩ 1 1 [.int .i64 k] rfl rfl (cell_one_new _ _ _) (by simp [Value.oneCell']) HMAX.out HBYT.out HBASE.out ?_; intro v' w2 hown1 hg1 _; obtain ⟨D', q', hv', -⟩ := Fresh.of_own hown1 (Nat.le_refl _); rw [hv'] at hown1 ⊢; clear hv')
        have HBN := Lib.hid (HBB.out.grown hg1 HBASE.out (fun kk e => (HOW.out.lt _ e).1))
        have HON := Lib.hid hown1
        clear hg1 hown1
        go_roundw
        case rel => exact ⟨k + 1, D', q', by omega, by go_num, by rw [HLEN.out], by rw [HLEN.out, HS.out, show nums (hereTo bs x k ++ [(k : Int)]) = nums (hereTo bs x k) ++ [.int .i64 k] by simp [nums]]; exact HON.out, HBN.out⟩
        case measure => simp [intOf]; omega
      · have HS := Lib.hid (hno (by simpa using hxt))
        have hxf : (x == t) = false := by simpa using hxt
        clear hyes hno
        go_wp2
        go_quiet (fail)
        rename_i nq
        have HOW := Lib.hid (own_below HOWN.out (below_draws (Below.refl _ _) nq))
        have HBB := Lib.hid (below_draws HB.out nq)
        go_wp2
        go_roundw
        case rel => exact ⟨k + 1, E, r, by omega, by go_num, by rw [HS.out], by rw [HS.out]; exact HOW.out, HBB.out⟩
        case measure => simp [intOf]; omega
    · obtain rfl : k = n := by omega
      have HO := Lib.hid (own_lower hown (base' := w.heap.size) (by omega))
      have HB := Lib.hid (HBW.out.trans (hb.mono (by omega)))
      clear hown hb
      go_wp2
      go_ret
      exact ⟨E, r, rfl, HO.out, HB.out⟩
end Go.Proofs.Ytkdjdnknhbmliaa

namespace Go.Proofs.Ytkdjdnknhbmliaa
open Go.RowKit

/-- The first n people. -/
def firsts (n : Nat) : List Int := (List.range n).map Int.ofNat
theorem firsts_len (n : Nat) : (firsts n).length = n := by simp [firsts]
theorem here_firsts (n : Nat) : hereTo [] false n = firsts n := by
  rw [hereTo, firsts]
  congr 1
  rw [List.filter_eq_self]
  intro x _
  rfl
/-- The lists of 1..m of the first n people, in order. -/
def upLists (n m : Nat) : List (List Int) := subs m (firsts n) []
theorem upLists_small {n m : Nat} (h : n ≤ 8) : (upLists n m).length ≤ 255 := subs_small (by rw [firsts_len]; exact h)
theorem steps_of {l : List Int} {hi : Int} (hp : l.Pairwise (· < ·)) (h0 : ∀ x ∈ l, 0 ≤ x ∧ x ≤ hi) : StepsTo l hi l.length := fun j hj => by
  have hm := h0 l[j] (List.getElem_mem hj)
  refine ⟨by rw [getD_at l hj]; exact hm.1, by rw [getD_at l hj]; exact hm.2, ?_⟩
  by_cases h : j = 0
  · exact .inl h
  · right
    rw [getD_at l hj, getD_at l (by omega)]
    exact List.pairwise_iff_getElem.1 hp (j - 1) j (by omega) hj (by omega)
theorem firsts_pair (n : Nat) : (firsts n).Pairwise (· < ·) := by
  rw [firsts, List.pairwise_map]
  exact List.pairwise_lt_range.imp (fun h => by simpa using h)
theorem firsts_mem {n : Nat} {x : Int} (h : x ∈ firsts n) : 0 ≤ x ∧ x ≤ (n : Int) - 1 := by
  obtain ⟨k, hk, rfl⟩ := List.mem_map.1 h
  have := List.mem_range.1 hk
  exact ⟨by simp, by simp; omega⟩
theorem up_steps {n m : Nat} {l : List Int} (h : l ∈ upLists n m) : StepsTo l ((n : Int) - 1) l.length ∧ 1 ≤ l.length ∧ l.length ≤ m := by
  obtain ⟨c, hc, hne, hs, hl⟩ := (subs_mem m (firsts n) [] l).1 h
  rw [List.nil_append] at hc
  subst hc
  exact ⟨steps_of ((firsts_pair n).sublist hs) (fun x hx => firsts_mem (hs.subset hx)), List.length_pos_iff.2 hne, hl⟩
theorem up_trip {n m : Nat} {l : List Int} (h : l ∈ upLists n m) : isTrip n m l = true := by
  obtain ⟨h1, h2, h3⟩ := up_steps h
  exact trip_yes (by omega) (by omega) h1

/-- What a call hands back that makes a list of crowds. -/
def CrowdsPost (ls : List (List Int)) (w : World) (e : Ending) (w' : World) : Prop :=
  ∃ (A : Option Addr) (c : Nat), e = .returned (.slice A ls.length c) ∧ w'.ownsRow w.heap.size 88 8 (.slice A ls.length c) ls.length (crowdsOf ls) ∧ Below w.heap.size w w'

set_option maxHeartbeats 3200000 in
set_option maxRecDepth 100000 in
theorem crowdsUpTo_any (n m : Nat) (w : World) (hn : n ≤ 8) (hm : m ≤ 8) :
    Calls Try.prog 116 #[.int .i64 n, .int .i64 m] w (CrowdsPost (upLists n m) w) := by
  obtain ⟨i0, hi, hz0, hz1, hz2⟩ := info_parts info_crowd
  have HI := Lib.hid hi
  have HZ0 := Lib.hid hz0
  have HZ1 := Lib.hid hz1
  have HZ2 := Lib.hid hz2
  have HF := Lib.hid (here_firsts n)
  have HLN := Lib.hid (firsts_len n)
  have HSM := Lib.hid (upLists_small (m := m) hn)
  have HTR : Hid (∀ l ∈ upLists n m, isTrip n m l = true) := fun l h => up_trip h
  clear hi hz0 hz1 hz2
  go_enter Try.func116, Try.ntmps116
  go_wp2_with fail
  refine (atTorch_any n [] false w hn).mono ?_
  rintro e w1 ⟨A1, c1, rfl, hown1, hb1⟩
  rw [HF.out, HLN.out] at hown1 ⊢
  go_wp2_with fail
  refine (listsFrom_any m hm 9 none A1 0 0 n c1 [] (firsts n) w1 (by rw [HLN.out]; omega) (Nat.le_refl _) (Holds.empty _ _) (holds_of_own hown1) rfl HLN.out (own_room hown1) (fun _ => ⟨rfl, rfl⟩)).mono ?_
  rintro e w2 ⟨A2, c2, rs, rfl, hr, hn2, hs2, hh, hb2⟩
  have hb0 : Below w.heap.size w w2 := below_then hb1 hb2 hb1.size
  have hG := hh.free.grid
  have HR : Hid (rowNums rs = upLists n m) := hr
  have HRL : Hid (rs.length = (upLists n m).length) := by show _ = _; rw [← HR.out, rowNums_len]
  have HB0 := Lib.hid hb0
  have hw12 : w1.heap.size ≤ w2.heap.size := hb2.size
  have hw01 : w.heap.size ≤ w1.heap.size := hb1.size
  clear hown1 hb1 hb2 hr hn2 hs2 hh hb0
  go_wp2
  go_loopw [5, 16] (fun v i wr => ∃ (k : Nat) (T : Option Addr) (r : Nat), k ≤ rs.length ∧ i = .int .i64 k ∧ v = .slice T k r ∧ wr.ownsRow w2.heap.size 88 8 (.slice T k r) k (crowdsOf ((rowNums rs).take k)) ∧ Below w2.heap.size w2 wr) (fun _ i _ => rs.length - (intOf i).toNat)
  case atStart => exact ⟨0, none, 0, Nat.zero_le _, rfl, rfl, World.ownsRow_nil _ _ _ _, Below.refl _ _⟩
  case round =>
    obtain ⟨k, T, r, hk, rfl, rfl, hown, hb⟩ := hrel
    have HOWN := Lib.hid hown
    clear hown
    by_cases hlt : k < rs.length
    · have hkl : k < (rowNums rs).length := by rw [rowNums_len]; exact hlt
      obtain ⟨b1, o1, rfl, hbl1, hc, hok⟩ := (hG.below hb).look hlt
      have hget := rowNums_get hlt
      have HTK : Hid (isTrip n m rs[k].xs = true) := HTR.out _ (by rw [← HR.out, ← hget]; exact List.getElem_mem hkl)
      have hcn := crowdsOf_next hkl
      rw [hget] at hcn
      have HCN := Lib.hid hcn
      have hk255 : k ≤ 255 := by have := HSM.out; have := HRL.out; omega
      clear hget hcn
      go_wp2_with fail
      refine (crowdOf_any _ n _ _ rs[k].xs m _ hok.1 hok.2.1 hok.2.2 hn).mono ?_
      rintro e1 w3 ⟨⟨ht, rfl⟩ | ⟨ht, rfl⟩, hb3⟩
      · have HBB := Lib.hid (((below_then hb hb3 hb.size).alloc (below_then hb hb3 hb.size).size (.cells (crowdCells rs[k].xs) 88)).alloc (Nat.le_trans (below_then hb hb3 hb.size).size (by simp)) (.cells (crowdCells rs[k].xs) 88))
        have HOW := Lib.hid (((ownsRow_below HOWN.out hb3).alloc (.cells (crowdCells rs[k].xs) 88)).alloc (.cells (crowdCells rs[k].xs) 88))
        have hnew := cells_new (w3.alloc (.cells (crowdCells rs[k].xs) 88)) 88 (crowdCells rs[k].xs)
        rw [World.size_alloc] at hnew
        have HNEW := Lib.hid hnew
        have HONE := Lib.hid (crowd_ones rs[k].xs)
        have HMAX := Lib.hid (show k + 1 ≤ maxLen by unfold maxLen; omega)
        have HBYT := Lib.hid (show (k + 1) * 8 ≤ 140737488355328 by omega)
        have HBASE := Lib.hid (show w2.heap.size ≤ ((w3.alloc (.cells (crowdCells rs[k].xs) 88)).alloc (.cells (crowdCells rs[k].xs) 88)).heap.size by have := (below_then hb hb3 hb.size).size; simp; omega)
        clear ht hb hb3 hok hc hnew
        unfold crowdCells at HNEW HONE HOW HBASE HBB
        unfold crowdCells
        go_wp2_with (at_builtin; refine wpList_append_own _ rfl (.tmp 28) (.tmp 30) 122 rfl w2.heap.size 88 i0 (.agg #[.bool false, .bool false, .bool false, .bool false, .bool false, .bool false, .bool false, .bool false]) 8 8 Try.underlying122 HI.out HZ0.out HZ1.out HZ2.out rfl (by decide) (.slice T k r) k (crowdsOf ((rowNums rs).take k)) rfl HOW.out ⟨w3.heap.size + 1, 0, none⟩ 1 1 [.bool (has rs[k].xs 0), .bool (has rs[k].xs 1), .bool (has rs[k].xs 2), .bool (has rs[k].xs 3), .bool (has rs[k].xs 4), .bool (has rs[k].xs 5), .bool (has rs[k].xs 6), .bool (has rs[k].xs 7)] rfl rfl HNEW.out HONE.out HMAX.out HBYT.out HBASE.out ?_; intro v' w4 hown1 hg1 _; obtain ⟨g2, e2, hv2⟩ := own_form hown1; subst hv2)
        have hbb2 := HBB.out.grown hg1 HBASE.out (fun kk x => by have := (HOW.out.lt _ x).1; omega)
        have hown2 : w4.ownsRow w2.heap.size 88 8 (.slice (some ⟨g2, 0, none⟩) (k + 1) e2) (k + 1) (crowdsOf ((rowNums rs).take (k + 1))) := by rw [← HCN.out]; exact hown1
        have HO2 := Lib.hid hown2
        clear hown1 hown2 hg1
        go_roundw
        case rel => exact ⟨k + 1, _, e2, by omega, by go_num, rfl, HO2.out, hbb2⟩
        case measure => simp [intOf]; omega
      · rw [HTK.out] at ht; cases ht
    · obtain rfl : k = rs.length := by omega
      have HO := Lib.hid (own_lower HOWN.out (base' := w.heap.size) (by omega))
      have HBB := Lib.hid (below_then HB0.out hb (by omega))
      go_wp2
      go_ret
      refine ⟨T, r, by rw [HRL.out]; rfl, ?_, HBB.out⟩
      have h := HO.out
      rw [List.take_of_length_le (by rw [rowNums_len]; exact Nat.le_refl _), HR.out, HRL.out] at h
      rw [← HRL.out] at h ⊢
      exact h
end Go.Proofs.Ytkdjdnknhbmliaa

namespace Go.Proofs.Ytkdjdnknhbmliaa
open Go.RowKit

theorem crowdsK_get : ∀ (ls : List (List Int)) (i j : Nat) (hi : i < ls.length), j < 8 → (crowdsOf ls)[i * 8 + j]? = some (.bool (has ls[i] j))
  | [], i, j, hi, _ => by simp at hi
  | l :: r, 0, j, hi, hj => by
    rw [show crowdsOf (l :: r) = (crowdCells l).toList ++ crowdsOf r from rfl, Nat.zero_mul, Nat.zero_add, List.getElem?_append_left (by simp [crowdCells]; omega)]
    have := crowd_at l hj
    simpa using this
  | l :: r, i + 1, j, hi, hj => by
    have ih := crowdsK_get r i j (by simpa using hi) hj
    rw [show crowdsOf (l :: r) = (crowdCells l).toList ++ crowdsOf r from rfl, List.getElem?_append_right (by simp [crowdCells]; omega)]
    rw [show (i + 1) * 8 + j - (crowdCells l).toList.length = i * 8 + j by simp [crowdCells]; omega]
    simpa using ih
/-- The cells of a crowd in a list of crowds. -/
theorem crowdsK_row {w : World} {lo n c : Nat} {A : Option Addr} {ls : List (List Int)} (h : w.ownsRow lo 88 8 (.slice A n c) n (crowdsOf ls)) (hl : ls.length = n) {i : Nat} (hi : i < ls.length) :
    ∃ g, A = some ⟨g, 0, none⟩ ∧ g < w.heap.size ∧ w.cell? ⟨g, i * 8, none⟩ = some (.bool (has ls[i] 0)) ∧ w.cell? ⟨g, i * 8 + 1, none⟩ = some (.bool (has ls[i] 1)) ∧ w.cell? ⟨g, i * 8 + 2, none⟩ = some (.bool (has ls[i] 2)) ∧ w.cell? ⟨g, i * 8 + 3, none⟩ = some (.bool (has ls[i] 3)) ∧
      w.cell? ⟨g, i * 8 + 4, none⟩ = some (.bool (has ls[i] 4)) ∧ w.cell? ⟨g, i * 8 + 5, none⟩ = some (.bool (has ls[i] 5)) ∧ w.cell? ⟨g, i * 8 + 6, none⟩ = some (.bool (has ls[i] 6)) ∧ w.cell? ⟨g, i * 8 + 7, none⟩ = some (.bool (has ls[i] 7)) := by
  have hx := h
  obtain ⟨-, ⟨-, h0⟩ | ⟨g, cap, cur, hv, -, hh, -⟩⟩ := hx
  · omega
  · obtain ⟨rfl, rfl⟩ : A = some ⟨g, 0, none⟩ ∧ c = cap := by simpa using hv
    have hg : g < w.heap.size := (Array.getElem?_eq_some_iff.1 hh).1
    have hc : ∀ j, j < 8 → w.cell? ⟨g, i * 8 + j, none⟩ = some (.bool (has ls[i] j)) := fun j hj => (h.cellAt (i * 8 + j) (by omega)).trans (crowdsK_get ls i j hi hj)
    exact ⟨g, rfl, hg, hc 0 (by omega), hc 1 (by omega), hc 2 (by omega), hc 3 (by omega), hc 4 (by omega), hc 5 (by omega), hc 6 (by omega), hc 7 (by omega)⟩
theorem crowds_ones : ∀ (ls : List (List Int)), ∀ u ∈ crowdsOf ls, u.oneCell' = true
  | [], u, h => by simp [crowdsOf] at h
  | l :: r, u, h => by
    rw [show crowdsOf (l :: r) = (crowdCells l).toList ++ crowdsOf r from rfl] at h
    rcases List.mem_append.1 h with h | h
    · exact crowd_ones l u h
    · exact crowds_ones r u h
theorem own_some8 {w : World} {base : Nat} {e : TypeId} {A : Option Addr} {n c : Nat} {xs : List Value} (h : w.ownsRow base e 8 (.slice A n c) n xs) : (A = none ∧ n = 0 ∧ c = 0) ∨ ∃ g, A = some ⟨g, 0, none⟩ ∧ n ≤ c := by
  obtain ⟨-, ⟨hv, hn⟩ | ⟨g, cap, cur, hv, -, -, h1, -⟩⟩ := h
  · obtain ⟨rfl, -, rfl⟩ : A = none ∧ n = 0 ∧ c = 0 := by simpa using hv
    exact .inl ⟨rfl, hn, rfl⟩
  · obtain ⟨rfl, -, rfl⟩ : A = some ⟨g, 0, none⟩ ∧ n = n ∧ c = cap := by simpa using hv
    exact .inr ⟨g, rfl, h1⟩
theorem own_nobody (w : World) : (w.alloc (.cells (crowdCells []) 88)).ownsRow w.heap.size 88 8 (.slice (some ⟨w.heap.size, 0, none⟩) 1 1) 1 (crowdsOf [[]]) :=
  ⟨rfl, .inr ⟨w.heap.size, 1, _, rfl, Nat.le_refl _, heap_alloc_new w _, Nat.le_refl _, by decide, rfl, rfl⟩⟩

set_option maxHeartbeats 3200000 in
set_option maxRecDepth 100000 in
theorem loadsUpTo_any (n m : Nat) (w : World) (hn : n ≤ 8) (hm : m ≤ 8) :
    Calls Try.prog 99 #[.int .i64 n, .int .i64 m] w (CrowdsPost ([] :: upLists n m) w) := by
  obtain ⟨i0, hi, hz0, hz1, hz2⟩ := info_parts info_crowd
  have HI := Lib.hid hi
  have HZ0 := Lib.hid hz0
  have HZ1 := Lib.hid hz1
  have HZ2 := Lib.hid hz2
  have hsm := upLists_small (m := m) hn
  have HO0 := Lib.hid (own_nobody w)
  have HB0 := Lib.hid (below1 w (.cells (crowdCells []) 88))
  clear hi hz0 hz1 hz2
  go_enter Try.func99, Try.ntmps99
  go_wp2_with fail
  refine (crowdsUpTo_any n m _ hn hm).mono ?_
  rintro e w1 ⟨A1, c1, rfl, hown1, hb1⟩
  have HO1 := Lib.hid (own_keep HO0.out hb1)
  have HB1 := Lib.hid (below_then HB0.out hb1 (by simp))
  have hs1 : w.heap.size + 1 ≤ w1.heap.size := by have := hb1.size; simpa using this
  have HN := Lib.hid hown1
  have HMAX := Lib.hid (show 1 + (upLists n m).length ≤ maxLen by unfold maxLen; omega)
  have HBYT := Lib.hid (show (1 + (upLists n m).length) * 8 ≤ 140737488355328 by omega)
  have HBASE := Lib.hid (show w.heap.size ≤ w1.heap.size by omega)
  have HONE := Lib.hid (crowds_ones (upLists n m))
  have HLN := Lib.hid (crowdsOf_len (upLists n m))
  rcases own_some8 hown1 with ⟨rfl, hl0, rfl⟩ | ⟨g, rfl, hgc⟩
  · have HNIL : Hid (upLists n m = []) := List.length_eq_zero_iff.1 hl0
    rw [hl0]
    clear hown1 hb1 hl0 hsm
    go_wp2_with (at_builtin; refine wpList_append_own_none rfl (.tmp 6) (.tmp 9) 122 rfl w.heap.size 88 i0 8 Try.underlying122 HI.out _ 1 (crowdsOf [[]]) rfl HO1.out rfl ?_)
    go_ret
    exact ⟨some ⟨w.heap.size, 0, none⟩, 1, by rw [HNIL.out]; rfl, by rw [HNIL.out]; exact HO1.out, HB1.out⟩
  · have HNEW : Hid (∀ j u, (crowdsOf (upLists n m))[j]? = some u → w1.cell? ((⟨g, 0, none⟩ : Addr).add j) = some u) := fun j u hu => by
      have hj : j < (upLists n m).length * 8 := by have := (List.getElem?_eq_some_iff.1 hu).1; rwa [crowdsOf_len] at this
      rw [show (⟨g, 0, none⟩ : Addr).add j = ⟨g, j, none⟩ from by unfold Addr.add; split <;> simp_all]
      exact (HN.out.cellAt j hj).trans hu
    clear hown1 hb1 hsm hgc
    go_wp2_with (at_builtin; refine wpList_append_own _ rfl (.tmp 6) (.tmp 9) 122 rfl w.heap.size 88 i0 (.agg #[.bool false, .bool false, .bool false, .bool false, .bool false, .bool false, .bool false, .bool false]) 8 8 Try.underlying122 HI.out HZ0.out HZ1.out HZ2.out rfl (by decide) (.slice (some ⟨w.heap.size, 0, none⟩) 1 1) 1 (crowdsOf [[]]) rfl HO1.out ⟨g, 0, none⟩ (upLists n m).length c1 (crowdsOf (upLists n m)) rfl HLN.out HNEW.out HONE.out HMAX.out HBYT.out HBASE.out ?_; intro v' w2 hown2 hg2 hz2)
    obtain ⟨D, q, rfl⟩ : ∃ D q, v' = .slice D (1 + (upLists n m).length) q := by
      obtain ⟨-, ⟨-, h0⟩ | ⟨g2, cap, cur, h, -⟩⟩ := hown2
      · omega
      · exact ⟨_, _, h⟩
    clear hz2
    have HBB := Lib.hid (HB1.out.grown hg2 HBASE.out (fun kk x => (HO1.out.lt _ x).1))
    have HO2 := Lib.hid hown2
    clear hown2 hg2
    go_ret
    exact ⟨D, q, by rw [List.length_cons, Nat.add_comm]; rfl, by rw [List.length_cons, Nat.add_comm]; exact HO2.out, HBB.out⟩
end Go.Proofs.Ytkdjdnknhbmliaa

namespace Go.Proofs.Ytkdjdnknhbmliaa
open Go.RowKit

/-- The things of a list, as truth values. -/
def bs8 (l : List Int) : List Bool := [has l 0, has l 1, has l 2, has l 3, has l 4, has l 5, has l 6, has l 7]
theorem place_bs8 (l : List Int) : placeCells (bs8 l) true = placeK (has l) true := rfl
/-- Is nothing left by the things of a list, the keeper with them? -/
def safeL (ls : List (List Int)) (l : List Int) : Bool := !ls.any (leftBy (bs8 l) true)
/-- Twice how many of some loads are safe. -/
def twiceL (ls : List (List Int)) : List (List Int) → Nat
  | [] => 0
  | l :: r => (if safeL ls l then 2 else 0) + twiceL ls r
theorem twiceL_snoc (ls : List (List Int)) (x : List Int) : ∀ r, twiceL ls (r ++ [x]) = twiceL ls r + (if safeL ls x then 2 else 0)
  | [] => by simp [twiceL]
  | l :: r => by rw [List.cons_append, twiceL, twiceL, twiceL_snoc ls x r]; omega
theorem twiceL_le (ls : List (List Int)) : ∀ r, twiceL ls r ≤ 2 * r.length
  | [] => by simp [twiceL]
  | l :: r => by have := twiceL_le ls r; rw [twiceL, List.length_cons]; split <;> omega
theorem twiceL_next {ls L : List (List Int)} {j : Nat} (hj : j < L.length) : twiceL ls (L.take (j + 1)) = twiceL ls (L.take j) + (if safeL ls L[j] then 2 else 0) := by
  rw [List.take_succ_eq_append_getElem hj, twiceL_snoc]

/-- What is where the keeper is. -/
def effM (n x : Nat) : List Bool := (digits n x).map fun b => b == topBit n x
def effL (n : Nat) (l : List Int) : List Bool := (List.range n).map (has l)
/-- Both things of a danger are elsewhere. -/
def gone (e : List Bool) (d : List Int) : Bool := !e.getD (d.getD 0 0).toNat false && !e.getD (d.getD 1 0).toNat false
theorem gone_M {n x : Nat} {d : List Int} (hd : IsDg (n : Int) d) : leftBy (digits n x) (topBit n x) d = gone (effM n x) d := by
  obtain ⟨-, h0, h1, h2⟩ := hd
  have e : ∀ i, i < n → ((digits n x).getD i false != topBit n x) = !(effM n x).getD i false := fun i hi => by
    rw [effM, List.getD_eq_getElem?_getD, List.getD_eq_getElem?_getD, List.getElem?_map, List.getElem?_eq_getElem (by rw [digits_len]; exact hi)]
    rfl
  rw [leftBy, gone, e _ (by omega), e _ (by omega)]
theorem bs8_get (l : List Int) (i : Nat) (hi : i < 8) : (bs8 l).getD i false = has l i := by
  have : i = 0 ∨ i = 1 ∨ i = 2 ∨ i = 3 ∨ i = 4 ∨ i = 5 ∨ i = 6 ∨ i = 7 := by omega
  rcases this with rfl | rfl | rfl | rfl | rfl | rfl | rfl | rfl <;> rfl
theorem gone_L {n : Nat} {l : List Int} {d : List Int} (hn : n ≤ 8) (hd : IsDg (n : Int) d) : leftBy (bs8 l) true d = gone (effL n l) d := by
  obtain ⟨-, h0, h1, h2⟩ := hd
  have e : ∀ i, i < n → ((bs8 l).getD i false != true) = !(effL n l).getD i false := fun i hi => by
    rw [bs8_get l i (by omega), effL, List.getD_eq_getElem?_getD, List.getElem?_map, List.getElem?_range hi]
    show (has l i != true) = !has l i
    cases has l i <;> rfl
  rw [leftBy, gone, e _ (by omega), e _ (by omega)]
theorem same_perm {n : Nat} (hn : n ≤ 8) : ((List.range (2 ^ (n + 1))).map (effM n)).isPerm (([] :: upLists n n).map (effL n) ++ ([] :: upLists n n).map (effL n)) = true := by
  have h : ∀ n, n < 9 → ((List.range (2 ^ (n + 1))).map (effM n)).isPerm (([] :: upLists n n).map (effL n) ++ ([] :: upLists n n).map (effL n)) = true := by decide +kernel
  exact h n (by omega)
theorem any_same {α : Type} {p q : α → Bool} : ∀ {ls : List α}, (∀ d ∈ ls, p d = q d) → ls.any p = ls.any q
  | [], _ => rfl
  | a :: r, h => by rw [List.any_cons, List.any_cons, h a (List.mem_cons_self ..), any_same fun d hd => h d (List.mem_cons_of_mem _ hd)]
theorem twiceL_count {n : Nat} {ls : List (List Int)} (hn : n ≤ 8) (hd : ∀ d ∈ ls, IsDg (n : Int) d) : ∀ r : List (List Int), twiceL ls r = 2 * (r.map (effL n)).countP (fun e => !ls.any (gone e))
  | [] => rfl
  | l :: r => by
    rw [twiceL, List.map_cons, List.countP_cons, twiceL_count hn hd r, safeL, any_same fun d h => gone_L (l := l) hn (hd d h)]
    cases ls.any (gone (effL n l)) <;> simp <;> omega
theorem count_both {n : Nat} {ls : List (List Int)} (hn : n ≤ 8) (hd : ∀ d ∈ ls, IsDg (n : Int) d) : safeTo n ls (2 ^ (n + 1)) = twiceL ls ([] :: upLists n n) := by
  rw [twiceL_count hn hd]
  have h1 : safeTo n ls (2 ^ (n + 1)) = ((List.range (2 ^ (n + 1))).map (effM n)).countP (fun e => !ls.any (gone e)) := by
    rw [safeTo, ← List.countP_eq_length_filter, List.countP_map]
    refine List.countP_congr fun x _ => ?_
    show safeAt n ls x = true ↔ (!ls.any (gone (effM n x))) = true
    rw [safeAt, any_same fun d h => gone_M (x := x) (hd d h)]
  rw [h1, (List.isPerm_iff.1 (same_perm hn)).countP_eq, List.countP_append]
  omega

set_option maxHeartbeats 6400000 in
set_option maxRecDepth 100000 in
theorem implCountSafe_any (k s : Int) (A : Option Addr) (m c : Nat) (rs : List RowV) (w : World) (hA : Grid w A rs) (hx : rs.length = m) (hm : m ≤ 1048576) :
    Calls Try.prog 57 #[.agg #[.int .i64 k, .slice A m c, .int .i64 s]] w fun e w' => e = .returned (.tuple #[.int .i64 (countSafe k s (rowNums rs)), .bool (keepOk k s (rowNums rs))]) ∧ Below w.heap.size w w' := by
  have HX := Lib.hid hx
  clear hx
  have h0 := Whole.fresh w 54 #[.int .i64 k, .slice A m c, .int .i64 s]
  have hbw := below1 w (.cells #[.int .i64 k, .slice A m c, .int .i64 s] 54)
  have hA2 := hA.below hbw
  cases hk : keepOk k s (rowNums rs)
  · have HK := Lib.hid hk
    have HS : Hid (countSafe k s (rowNums rs) = 0) := by show _ = _; rw [countSafe, hk]; rfl
    clear hk
    go_enter Try.func57, Try.ntmps57
    go_wp2_with fail
    refine (isKeep_any k s A m c rs _ hA2 HX.out hm).mono ?_
    rintro e w1 ⟨rfl, hb⟩
    rw [HK.out]
    have ht := below_then hbw hb (by simp)
    clear hb
    go_wp2
    go_ret2
    exact ⟨by rw [HS.out]; rfl, ht⟩
  · obtain ⟨n, rfl⟩ : ∃ n : Nat, k = n := ⟨k.toNat, by have := (keepOk_iff.1 hk).1; omega⟩
    have hn8 : n ≤ 8 := by have := (keepOk_iff.1 hk).1; omega
    have HK := Lib.hid hk
    have HDG : Hid (∀ d ∈ rowNums rs, IsDg (n : Int) d) := fun d hd => by
      obtain ⟨j, hj, rfl⟩ := List.getElem_of_mem hd
      exact dg_at hk hj
    have HDA : Hid (DgAll (rowNums rs)) := keep_all hk
    have HS : Hid (countSafe (n : Int) s (rowNums rs) = (twiceL (rowNums rs) ([] :: upLists n n) : Nat)) := by show _ = _; rw [countSafe, hk, ← count_both hn8 HDG.out]; rfl
    have HSM : Hid (([] :: upLists n n).length ≤ 256) := by show _ ≤ _; have := upLists_small (m := n) hn8; rw [List.length_cons]; omega
    clear hk
    go_enter Try.func57, Try.ntmps57
    go_wp2_with fail
    refine (isKeep_any (n : Int) s A m c rs _ hA2 HX.out hm).mono ?_
    rintro e w1 ⟨rfl, hb⟩
    rw [HK.out]
    have h01 := h0.below hb
    have ht1 := below_then hbw hb (by simp)
    obtain ⟨z0, z1, z2⟩ := h01.cells3
    clear hb h0 hbw hA2
    go_wp2_with fail
    refine (loadsUpTo_any n n _ hn8 hn8).mono ?_
    rintro e w3 ⟨D, d, rfl, hown, hb⟩
    generalize ([] :: upLists n n : List (List Int)) = L at HS HSM hown
    have H0 := Lib.hid (h01.below hb)
    have HT := Lib.hid (below_then ht1 hb ht1.size)
    have HG := Lib.hid hA
    have HOWN := Lib.hid hown
    have hl0 := H0.out.lt
    have hl := HSM.out
    clear hb hown h01 ht1 hA z0 z1 z2
    go_wp2
    go_loopw [4, 16] (fun v i wr => ∃ j : Nat, j ≤ L.length ∧ i = .int .i64 j ∧ v = .int .i64 (twiceL (rowNums rs) (L.take j) : Nat) ∧ Below w3.heap.size w3 wr) (fun _ i _ => L.length - (intOf i).toNat)
    case atStart => exact ⟨0, Nat.zero_le _, rfl, by simp [twiceL], Below.refl _ _⟩
    case round =>
      obtain ⟨j, hj, rfl, rfl, hb⟩ := hrel
      have htl := twiceL_le (rowNums rs) (L.take j)
      have htk : (L.take j).length ≤ 256 := by rw [List.length_take]; omega
      by_cases hlt : j < L.length
      · have hr := ownsRow_below HOWN.out hb
        obtain ⟨g, rfl, hgl, a0, a1, a2, a3, a4, a5, a6, a7⟩ := crowdsK_row hr rfl hlt
        have hd : decide ((j : Int) < (L.length : Int)) = true := by simp; omega
        have HNX := Lib.hid (twiceL_next (ls := rowNums rs) hlt)
        have HB := Lib.hid hb
        obtain ⟨l, hll⟩ : ∃ l, l = L[j] := ⟨_, rfl⟩
        rw [← hll] at a0 a1 a2 a3 a4 a5 a6 a7 HNX
        have HP : Hid (placeCells (bs8 l) true = #[.bool (has l 0), .bool (has l 1), .bool (has l 2), .bool (has l 3), .bool (has l 4), .bool (has l 5), .bool (has l 6), .bool (has l 7), .bool true]) := rfl
        have hcall := fun W hG => isSafePlace_any (n : Int) s A m c rs (bs8 l) true W hG HX.out hm HDA.out
        rw [HP.out] at hcall
        have HC := Lib.hid hcall
        have HSL : Hid (safeL (rowNums rs) l = !(rowNums rs).any (leftBy (bs8 l) true)) := rfl
        have hbK := Lib.hid (below_then HT.out hb HT.out.size)
        obtain ⟨z0, z1, z2⟩ := (((H0.out.below hb)).alloc (.cells #[.bool (has l 0), .bool (has l 1), .bool (has l 2), .bool (has l 3), .bool (has l 4), .bool (has l 5), .bool (has l 6), .bool (has l 7)] 88)).cells3
        clear hr hb hcall hll
        go_wp2_with fail
        refine (HC.out _ (by exact HG.out.below (hbK.out.alloc hbK.out.size _))).mono ?_
        rintro e w4 ⟨rfl, hb⟩
        rw [← HSL.out]
        have hbb := HB.out.alloc HB.out.size (.cells #[.bool (has l 0), .bool (has l 1), .bool (has l 2), .bool (has l 3), .bool (has l 4), .bool (has l 5), .bool (has l 6), .bool (has l 7)] 88)
        have HBB := Lib.hid (below_then hbb hb hbb.size)
        clear hb hbb a0 a1 a2 a3 a4 a5 a6 a7 z0 z1 z2
        cases hsl : safeL (rowNums rs) l
        · have HSF := Lib.hid hsl
          clear hsl
          go_wp2
          go_roundw
          case rel => exact ⟨j + 1, by omega, by go_num, by rw [HNX.out, HSF.out]; simp, HBB.out⟩
          case measure => simp [intOf]; omega
        · have HSF := Lib.hid hsl
          have hw2 : IntKind.i64.wrap (((twiceL (rowNums rs) (L.take j) : Nat) : Int) + 2) = ((twiceL (rowNums rs) (L.take j) : Nat) : Int) + 2 := IntWalk.i64_in _ (by omega)
          clear hsl
          go_wp2
          go_roundw
          case rel => exact ⟨j + 1, by omega, by go_num, by rw [HNX.out, HSF.out]; simp, HBB.out⟩
          case measure => simp [intOf]; omega
      · obtain rfl : j = L.length := by omega
        have HTK : Hid (L.take L.length = L) := by show _ = _; simp
        rw [HTK.out]
        have HBB := Lib.hid (below_then HT.out hb HT.out.size)
        clear hb
        go_wp2
        go_ret2
        exact ⟨by rw [HS.out]; rfl, HBB.out⟩

theorem specCountSafe_on (k s : Int) (A : Option Addr) (m c : Nat) (rs : List RowV) (ls : List (List Int)) (w : World) (hA : Grid w A rs) (he : rowNums rs = ls) (hx : rs.length = m) (hm : m ≤ 1048576) :
    Calls Try.prog 56 #[.agg #[.int .i64 k, .slice A m c, .int .i64 s]] w fun e w' => e = .returned (.tuple #[.int .i64 (countSafe k s ls), .bool (keepOk k s ls)]) ∧ Below w.heap.size w w' :=
  he ▸ specCountSafe_any k s A m c rs w hA hx hm
theorem implCountSafe_on (k s : Int) (A : Option Addr) (m c : Nat) (rs : List RowV) (ls : List (List Int)) (w : World) (hA : Grid w A rs) (he : rowNums rs = ls) (hx : rs.length = m) (hm : m ≤ 1048576) :
    Calls Try.prog 57 #[.agg #[.int .i64 k, .slice A m c, .int .i64 s]] w fun e w' => e = .returned (.tuple #[.int .i64 (countSafe k s ls), .bool (keepOk k s ls)]) ∧ Below w.heap.size w w' :=
  he ▸ implCountSafe_any k s A m c rs w hA hx hm
end Go.Proofs.Ytkdjdnknhbmliaa

namespace Go.Proofs.Ytkdjdnknhbmliaa
open Go.RowKit

theorem OwnGrid.set_out {w : World} {g hi b o : Nat} {u : Value} {rs : List RowV} (h : OwnGrid w g hi rs) (hb : b < g) : OwnGrid (w.setCell ⟨b, o, none⟩ u) g hi rs :=
  ⟨h.1.off (by omega), h.2.set_out (.inl (by omega))⟩

set_option maxHeartbeats 800000 in
theorem szKeep_any (k : Int) (A : Option Addr) (n c : Nat) (rs : List RowV) (s l : Int) (w : World) (hA : Grid w A rs) (hx : rs.length = n) (hn : n ≤ 9223372036854775807) (h0 : 0 ≤ l) (h1 : l ≤ 1048576) :
    Calls Try.prog 34 #[.agg #[.int .i64 k, .slice A n c, .int .i64 s], .int .i64 l] w fun e w' => e = .returned (.int .i64 (if l - (total rs : Int) < 0 then -1 else l - (total rs : Int))) ∧ Below w.heap.size w w' := by
  have HX := Lib.hid hx
  clear hx
  by_cases h : l - (total rs : Int) < 0
  · have hb1 := below1 w (.cells #[.int .i64 k, .slice A n c, .int .i64 s] 51)
    go_enter Try.func34, Try.ntmps34
    go_wp2_with fail
    refine (szIntSS_any A n c rs l _ (hA.below hb1) HX.out hn h0 h1).mono ?_
    rintro e w' ⟨rfl, rfl⟩
    rw [totalLeft, if_pos (by omega)]
    go_wp2
    go_ret
    exact ⟨rfl, hb1⟩
  · have hb1 := below1 w (.cells #[.int .i64 k, .slice A n c, .int .i64 s] 51)
    have h' : ¬ l - (total rs : Int) < 0 := h
    go_enter Try.func34, Try.ntmps34
    go_wp2_with fail
    refine (szIntSS_any A n c rs l _ (hA.below hb1) HX.out hn h0 h1).mono ?_
    rintro e w' ⟨rfl, rfl⟩
    rw [totalLeft, if_neg (by omega)]
    go_wp2
    go_ret
    exact ⟨rfl, hb1⟩

/-- What toKeep hands back. -/
def KeepTo (k : Int) (n : Nat) (s : Int) (rs : List RowV) (w : World) (e : Ending) (w' : World) : Prop :=
  ∃ (g : Nat) (ws : List RowV), e = .returned (.agg #[.int .i64 k, .slice (some ⟨g, 0, none⟩) n n, .int .i64 s]) ∧ w.heap.size ≤ g ∧ OwnGrid w' g w'.heap.size ws ∧ rowNums ws = rowNums rs ∧ ws.length = n ∧ Below w.heap.size w w'

set_option maxHeartbeats 800000 in
theorem toKeep_own (k : Int) (A : Option Addr) (n c : Nat) (rs : List RowV) (s : Int) (w : World) (hA : Grid w A rs) (hx : rs.length = n) (ht : total rs ≤ 1048576) :
    Calls Try.prog 36 #[.agg #[.int .i64 k, .slice A n c, .int .i64 s]] w (KeepTo k n s rs w) := by
  have HX := Lib.hid hx
  clear hx
  go_enter Try.func36, Try.ntmps36
  go_wp2_with fail
  refine (toIntSS_any A n c rs _ (by exact hA.below (below3 w _ _ _)) HX.out ht).mono ?_
  rintro e w1 ⟨g, ws, rfl, hg, hw, he, hl, hb⟩
  obtain ⟨hc, hf⟩ := kept hb
  have hg' : w.heap.size + 3 ≤ g := by simpa using hg
  have hz : w.heap.size + 3 ≤ w1.heap.size := by have := hb.size; simpa using this
  have HB := Lib.hid (below_then (below3 w _ _ _) hb (by simp; omega))
  have HG := Lib.hid hw
  have HE := Lib.hid he
  have HL := Lib.hid hl
  clear hw hg he hl hb
  go_wp2
  refine bodyPost_ret (v := .agg #[.int .i64 k, .slice (some ⟨g, 0, none⟩) n n, .int .i64 s]) (by simp [results, Try.results36, go_sem, hc]) rfl ⟨g, ws, rfl, by omega, ?_, HE.out, HL.out, ?_⟩
  · have h := (((((HG.out.set_out (b := w.heap.size + 1 + 1) (o := 1) (u := .slice (some ⟨g, 0, none⟩) n n) (by omega)).set_out (b := w.heap.size + 1 + 1) (o := 2) (u := .int .i64 s) (by omega)).set_out (b := w.heap.size + 1) (o := 0) (u := .int .i64 k) (by omega)).set_out (b := w.heap.size + 1) (o := 1) (u := .slice (some ⟨g, 0, none⟩) n n) (by omega)).set_out (b := w.heap.size + 1) (o := 2) (u := .int .i64 s) (by omega))
    simpa [World.setCell] using h
  · exact below_set (below_set (below_set (below_set (below_set HB.out (by omega)) (by omega)) (by omega)) (by omega)) (by omega)

set_option maxHeartbeats 800000 in
theorem eqKeep_yes (k : Int) (A B : Option Addr) (n m c d : Nat) (s : Int) (rs ss : List RowV) (w : World) (hA : Grid w A rs) (hB : Grid w B ss) (he : rowNums rs = rowNums ss) (hx : rs.length = n) (hy : ss.length = m) (hn : n ≤ 9223372036854775807) :
    Calls Try.prog 38 #[.agg #[.int .i64 k, .slice A n c, .int .i64 s], .agg #[.int .i64 k, .slice B m d, .int .i64 s]] w fun e w' => e = .returned (.bool true) ∧ Below w.heap.size w w' := by
  have HX := Lib.hid hx
  have HY := Lib.hid hy
  have HE := Lib.hid he
  clear hx hy he
  have hkk : (!(k == k)) = false := by simp
  have hss : (!(s == s)) = false := by simp
  have hb2 := below2 w (.cells #[.int .i64 k, .slice A n c, .int .i64 s] 54) (.cells #[.int .i64 k, .slice B m d, .int .i64 s] 54)
  have h0 := (Whole.fresh w 54 #[.int .i64 k, .slice A n c, .int .i64 s]).alloc (.cells #[.int .i64 k, .slice B m d, .int .i64 s] 54)
  have h1 := Whole.fresh (w.alloc (.cells #[.int .i64 k, .slice A n c, .int .i64 s] 54)) 54 #[.int .i64 k, .slice B m d, .int .i64 s]
  rw [World.size_alloc] at h1
  go_enter Try.func38, Try.ntmps38
  go_wp2_with fail
  refine (eqIntSS_yes A B n m c d rs ss _ (by exact hA.below hb2) (by exact hB.below hb2) HE.out HX.out HY.out hn).mono ?_
  rintro e w1 ⟨rfl, hb⟩
  have ht := below_then hb2 hb (by simp; omega)
  obtain ⟨a0, a1, a2⟩ := (h0.below hb).cells3
  obtain ⟨b0, b1, b2⟩ := (h1.below hb).cells3
  go_wp2
  go_ret
  exact ⟨rfl, ht⟩

set_option maxHeartbeats 800000 in
theorem markKeep_any (k s : Int) (A : Option Addr) (n c lo hi : Nat) (rs : List RowV) (q : Int) (w : World) (hf : FreeGrid w lo hi A rs) (hx : rs.length = n) (h0 : 0 ≤ q) (h1 : q ≤ 2305843009213693952) (hn : n ≤ 1048576) (hp : part rs rs.length ≤ 1048576) :
    Calls Try.prog 46 #[.agg #[.int .i64 k, .slice A n c, .int .i64 s], .int .i64 q] w fun e w' => e = .returned (.int .i64 (q + (part rs rs.length : Nat))) ∧ Span lo hi w w' ∧ FreeGrid w' lo hi A (markTo q rs rs.length) := by
  have HX := Lib.hid hx
  clear hx
  go_enter Try.func46, Try.ntmps46
  go_wp2_with fail
  refine (markIntSS_any A n c lo hi rs q _ (hf.alloc _) HX.out h0 h1 hn hp).mono ?_
  rintro e w1 ⟨rfl, hs, hf1⟩
  go_wp2
  go_ret
  exact ⟨rfl, (Span.of_below (below1 w _) lo hi).trans hs, hf1⟩

set_option maxHeartbeats 800000 in
theorem heldKeep_any (k s : Int) (A : Option Addr) (n c : Nat) (rs : List RowV) (q : Int) (w : World) (hA : Grid w A (markTo q rs rs.length)) (hx : rs.length = n) (h0 : 0 ≤ q) (h1 : q ≤ 2305843009213693952) (hn : n ≤ 1048576) (hp : part rs rs.length ≤ 1048576) :
    Calls Try.prog 60 #[.agg #[.int .i64 k, .slice A n c, .int .i64 s], .int .i64 q] w fun e w' => e = .returned (.int .i64 (q + (part rs rs.length : Nat))) ∧ Below w.heap.size w w' := by
  have HX := Lib.hid hx
  have hq0 : (0 : Int) ≤ q + (part rs rs.length : Nat) := by omega
  clear hx
  have hb1 := below1 w (.cells #[.int .i64 k, .slice A n c, .int .i64 s] 54)
  go_enter Try.func60, Try.ntmps60
  go_wp2_with fail
  refine (heldIntSS_any A n c rs q _ (hA.below hb1) HX.out h0 h1 hn hp).mono ?_
  rintro e w1 ⟨rfl, hb⟩
  have ht := below_then hb1 hb (by simp)
  go_wp2
  go_ret
  exact ⟨rfl, ht⟩
end Go.Proofs.Ytkdjdnknhbmliaa

namespace Go.Proofs.Ytkdjdnknhbmliaa
open Go.RowKit

set_option maxHeartbeats 800000 in
set_option linter.unusedVariables false in
theorem lawCountSafe_big0 (k0 : Int) (A0 : Option Addr) (n0 c0 : Nat) (x0 : List RowV) (k1 : Int) (w : World) (h0 : Grid w A0 x0) (hx0 : x0.length = n0) (hn0 : n0 ≤ 9223372036854775807)  (hbig : 1048576 - (total x0 : Int) < 0) :
    Calls Try.prog 12 #[.agg #[.int .i64 k0, .slice A0 n0 c0, .int .i64 k1]] w fun e w' => e = .returned (.bool true) ∧ Below w.heap.size w w' := by
  have hb0 := (Whole.fresh w 51 #[.int .i64 k0, .slice A0 n0 c0, .int .i64 k1])
  have ht := below1 w (.cells #[.int .i64 k0, .slice A0 n0 c0, .int .i64 k1] 51)
  have HX0 := Lib.hid hx0
  clear hx0
  obtain ⟨hb0_0, hb0_1, hb0_2⟩ := hb0.cells3
  have hb0_l := hb0.lt
  go_enter Try.func12, Try.ntmps12
  go_wp2_with fail
  refine (szKeep_any k0 A0 n0 c0 x0 k1 (1048576) _ (by exact h0.below ht) HX0.out (by omega) (by omega) (by omega)).mono ?_
  rintro e v1 ⟨rfl, hb⟩
  rw [if_pos (by omega)]
  have hz1 : w.heap.size + 1 ≤ v1.heap.size := by have := hb.size; simpa using this
  replace ht := below_then ht hb ht.size
  replace hb0 := hb0.below hb
  clear hb
  clear hb0_0 hb0_1 hb0_2 hb0_l
  go_wp2
  go_ret
  exact ⟨rfl, ht⟩

set_option maxHeartbeats 12800000 in
set_option maxRecDepth 100000 in
set_option linter.unusedSimpArgs false in
set_option linter.unusedVariables false in
theorem lawCountSafe_small (k0 : Int) (A0 : Option Addr) (n0 c0 : Nat) (x0 : List RowV) (k1 : Int) (w : World) (h0 : Grid w A0 x0) (hx0 : x0.length = n0) (hn0 : n0 ≤ 9223372036854775807) (g0 : 0 ≤ 1048576 - (total x0 : Int)) :
    Calls Try.prog 12 #[.agg #[.int .i64 k0, .slice A0 n0 c0, .int .i64 k1]] w fun e w' => e = .returned (.bool true) ∧ Below w.heap.size w w' := by
  have hb0 := (Whole.fresh w 51 #[.int .i64 k0, .slice A0 n0 c0, .int .i64 k1])
  have ht := below1 w (.cells #[.int .i64 k0, .slice A0 n0 c0, .int .i64 k1] 51)
  have HX0 := Lib.hid hx0
  clear hx0
  obtain ⟨hb0_0, hb0_1, hb0_2⟩ := hb0.cells3
  have hb0_l := hb0.lt
  go_enter Try.func12, Try.ntmps12
  -- region 2
  go_wp2_with fail
  refine (szKeep_any k0 A0 n0 c0 x0 k1 (1048576) _ (by exact h0.below ht) HX0.out (by omega) (by omega) (by omega)).mono ?_
  rintro e v1 ⟨rfl, hb⟩
  rw [if_neg (by omega)]
  have hz1 : w.heap.size + 1 ≤ v1.heap.size := by have := hb.size; simpa using this
  replace ht := below_then ht hb ht.size
  replace hb0 := hb0.below hb
  clear hb
  clear hb0_0 hb0_1 hb0_2 hb0_l
  obtain ⟨hb0_0, hb0_1, hb0_2⟩ := hb0.cells3
  have hb0_l := hb0.lt
  -- region 5
  go_wp2_with fail
  refine (toKeep_own k0 A0 n0 c0 x0 k1 _ (by exact h0.below ht) HX0.out (by omega)).mono ?_
  rintro e v2 ⟨gp0, wsp0, rfl, hgp0, hwp0, hep0, hlp0, hb⟩
  have hz2 : v1.heap.size ≤ v2.heap.size := by have := hb.size; simpa using this
  replace ht := below_then ht hb ht.size
  replace hb0 := hb0.below hb
  have HEp0 := Lib.hid hep0
  have HLp0 := Lib.hid hlp0
  clear hep0 hlp0
  have hp0 := hwp0.free.more (lo' := v1.heap.size) (hi' := v2.heap.size) (by simpa using hgp0) (Nat.le_refl _)
  have hcapp0 : n0 ≤ 1048576 := by have := total_len x0; have := HX0.out; omega
  clear hgp0 hwp0
  clear hb
  clear hb0_0 hb0_1 hb0_2 hb0_l
  obtain ⟨hb0_0, hb0_1, hb0_2⟩ := hb0.cells3
  have hb0_l := hb0.lt
  go_wp2_with fail
  refine (specCountSafe_on k0 k1 _ n0 _ wsp0 (rowNums x0) _ (by exact hp0.grid) HEp0.out HLp0.out (by omega)).mono ?_
  rintro e v3 ⟨rfl, hb⟩
  have hz3 : v2.heap.size ≤ v3.heap.size := by have := hb.size; simpa using this
  replace ht := below_then ht hb ht.size
  replace hb0 := hb0.below hb
  replace hp0 := hp0.below hb
  clear hb
  clear hp0
  clear hb0_0 hb0_1 hb0_2 hb0_l
  obtain ⟨hb0_0, hb0_1, hb0_2⟩ := hb0.cells3
  have hb0_l := hb0.lt
  -- region 6
  go_wp2_with fail
  refine (toKeep_own k0 A0 n0 c0 x0 k1 _ (by exact h0.below ht) HX0.out (by omega)).mono ?_
  rintro e v4 ⟨gx0, wsx0, rfl, hgx0, hwx0, hex0, hlx0, hb⟩
  have hz4 : v3.heap.size ≤ v4.heap.size := by have := hb.size; simpa using this
  replace ht := below_then ht hb ht.size
  replace hb0 := hb0.below hb
  have HEx0 := Lib.hid hex0
  have HLx0 := Lib.hid hlx0
  clear hex0 hlx0
  have hx0 := hwx0.free.more (lo' := v3.heap.size) (hi' := v4.heap.size) (by simpa using hgx0) (Nat.le_refl _)
  have hcapx0 : n0 ≤ 1048576 := by have := total_len x0; have := HX0.out; omega
  clear hgx0 hwx0
  clear hb
  have hx90 := Whole.fresh v4 54 #[.int .i64 k0, .slice (some ⟨gx0, 0, none⟩) n0 n0, .int .i64 k1]
  replace ht := ht.alloc ht.size (.cells #[.int .i64 k0, .slice (some ⟨gx0, 0, none⟩) n0 n0, .int .i64 k1] 54)
  replace hb0 := hb0.alloc (.cells #[.int .i64 k0, .slice (some ⟨gx0, 0, none⟩) n0 n0, .int .i64 k1] 54)
  replace hx0 := hx0.alloc (.cells #[.int .i64 k0, .slice (some ⟨gx0, 0, none⟩) n0 n0, .int .i64 k1] 54)
  clear hb0_0 hb0_1 hb0_2 hb0_l
  obtain ⟨hb0_0, hb0_1, hb0_2⟩ := hb0.cells3
  have hb0_l := hb0.lt
  obtain ⟨hx90_0, hx90_1, hx90_2⟩ := hx90.cells3
  have hx90_l := hx90.lt
  -- region 7
  go_wp2_with fail
  refine (implCountSafe_on k0 k1 _ n0 _ wsx0 (rowNums x0) _ (by exact hx0.grid) HEx0.out HLx0.out (by omega)).mono ?_
  rintro e v5 ⟨rfl, hb⟩
  have hz5 : v4.heap.size + 1 ≤ v5.heap.size := by have := hb.size; simpa using this
  replace ht := below_then ht hb ht.size
  replace hb0 := hb0.below hb
  replace hx0 := hx0.below hb
  replace hx90 := hx90.below hb
  clear hb
  clear hb0_0 hb0_1 hb0_2 hb0_l hx90_0 hx90_1 hx90_2 hx90_l
  obtain ⟨hb0_0, hb0_1, hb0_2⟩ := hb0.cells3
  have hb0_l := hb0.lt
  obtain ⟨hx90_0, hx90_1, hx90_2⟩ := hx90.cells3
  have hx90_l := hx90.lt
  -- region 10
  clear hb0_0 hb0_1 hb0_2 hb0_l hx90_0 hx90_1 hx90_2 hx90_l
  go_wp2_with fail
  refine wp_region_held_drew (S := (fun w' => w'.cell? ⟨w.heap.size, 0, none⟩ = some (.int .i64 k0) ∧ w'.cell? ⟨w.heap.size, 1, none⟩ = some (.slice A0 n0 c0) ∧ w'.cell? ⟨w.heap.size, 2, none⟩ = some (.int .i64 k1) ∧ w'.cell? ⟨v4.heap.size, 0, none⟩ = some (.int .i64 k0) ∧ w'.cell? ⟨v4.heap.size, 1, none⟩ = some (.slice (some ⟨gx0, 0, none⟩) n0 n0) ∧ w'.cell? ⟨v4.heap.size, 2, none⟩ = some (.int .i64 k1))) (by kernel_rfl) ⟨hb0.drew.cell 0, hb0.drew.cell 1, hb0.drew.cell 2, hx90.drew.cell 0, hx90.drew.cell 1, hx90.drew.cell 2⟩ (fun hHeld => ?_)
  replace ht := ht.drew
  replace hb0 := hb0.drew
  replace hx0 := hx0.drew
  replace hx90 := hx90.drew
  refine wpAnyH_take (i := 0) (v := ?_) rfl (by kernel_rfl) (by kernel_rfl) (by kernel_rfl) (fun _ _ _ h => h) (Or.inl ⟨rfl, ?_⟩) hHeld ?_
  rotate_left
  · intro w' hS; obtain ⟨s0, s1, s2, s3, s4, s5⟩ := hS; go_simp <;> with_reducible rfl
  simp only [Act.put, List.getElem_toArray, List.getElem_cons_succ, List.getElem_cons_zero, List.setIfInBounds_toArray, List.set_cons_succ, List.set_cons_zero]
  refine wpAnyH_take (i := 1) (v := ?_) rfl (by kernel_rfl) (by kernel_rfl) (by kernel_rfl) (fun _ _ _ h => h) (Or.inl ⟨rfl, ?_⟩) hHeld ?_
  rotate_left
  · intro w' hS; obtain ⟨s0, s1, s2, s3, s4, s5⟩ := hS; go_simp <;> with_reducible rfl
  simp only [Act.put, List.getElem_toArray, List.getElem_cons_succ, List.getElem_cons_zero, List.setIfInBounds_toArray, List.set_cons_succ, List.set_cons_zero]
  refine wpAnyH_ready (rs := [2]) (by kernel_rfl) (by simp) (AllReadyH.cons rfl (fun K hK => ?_) AllReadyH.nil)
  go_simp
  refine (toKeep_own k0 A0 n0 c0 x0 k1 _ (by exact h0.below ht) HX0.out (by omega)).mono ?_
  rintro e v6 ⟨gy0, wsy0, rfl, hgy0, hwy0, hey0, hly0, hb⟩
  have hz6 : v5.heap.size ≤ v6.heap.size := by have := hb.size; simpa using this
  replace ht := below_then ht hb ht.size
  replace hb0 := hb0.below hb
  replace hx0 := hx0.below hb
  replace hx90 := hx90.below hb
  have HEy0 := Lib.hid hey0
  have HLy0 := Lib.hid hly0
  clear hey0 hly0
  have hy0 := hwy0.free.more (lo' := v5.heap.size) (hi' := v6.heap.size) (by simpa using hgy0) (Nat.le_refl _)
  have hcapy0 : n0 ≤ 1048576 := by have := total_len x0; have := HX0.out; omega
  clear hgy0 hwy0
  clear hb
  refine hK.out _ _ ⟨hb0.cell 0, hb0.cell 1, hb0.cell 2, hx90.cell 0, hx90.cell 1, hx90.cell 2⟩ (fun hHeld => ?_)
  clear hK K
  try simp only [Act.put, List.getElem_toArray, List.getElem_cons_succ, List.getElem_cons_zero, List.setIfInBounds_toArray, List.set_cons_succ, List.set_cons_zero]
  refine wpAnyH_ready (rs := [3]) (by kernel_rfl) (by simp) (AllReadyH.cons rfl (fun K hK => ?_) AllReadyH.nil)
  go_simp
  refine (eqKeep_yes k0 _ _ n0 n0 _ _ k1 wsx0 wsy0 _ (by exact hx0.grid) (by exact hy0.grid) (by rw [HEx0.out, HEy0.out]) HLx0.out HLy0.out (by omega)).mono ?_
  rintro e v7 ⟨rfl, hb⟩
  have hz7 : v6.heap.size ≤ v7.heap.size := by have := hb.size; simpa using this
  replace ht := below_then ht hb ht.size
  replace hb0 := hb0.below hb
  replace hx0 := hx0.below hb
  replace hx90 := hx90.below hb
  replace hy0 := hy0.below hb
  clear hb
  clear hy0
  refine hK.out _ _ ⟨hb0.cell 0, hb0.cell 1, hb0.cell 2, hx90.cell 0, hx90.cell 1, hx90.cell 2⟩ (fun hHeld => ?_)
  clear hK K
  try simp only [Act.put, List.getElem_toArray, List.getElem_cons_succ, List.getElem_cons_zero, List.setIfInBounds_toArray, List.set_cons_succ, List.set_cons_zero]
  refine wpAnyH_take (i := 4) (v := ?_) rfl (by kernel_rfl) (by kernel_rfl) (by kernel_rfl) (fun _ _ _ h => h) (Or.inl ⟨rfl, ?_⟩) hHeld ?_
  rotate_left
  · intro w' hS; obtain ⟨s0, s1, s2, s3, s4, s5⟩ := hS; go_simp <;> with_reducible rfl
  simp only [Act.put, List.getElem_toArray, List.getElem_cons_succ, List.getElem_cons_zero, List.setIfInBounds_toArray, List.set_cons_succ, List.set_cons_zero]
  refine wpAnyH_done (by kernel_rfl) ?_ _
  clear hHeld
  obtain ⟨hb0_0, hb0_1, hb0_2⟩ := hb0.cells3
  have hb0_l := hb0.lt
  obtain ⟨hx90_0, hx90_1, hx90_2⟩ := hx90.cells3
  have hx90_l := hx90.lt
  go_wp2
  go_ret
  exact ⟨rfl, ht⟩

theorem lawCountSafe_all (k0 : Int) (A0 : Option Addr) (n0 c0 : Nat) (x0 : List RowV) (k1 : Int) (w : World) (h0 : Grid w A0 x0) (hx0 : x0.length = n0) (hn0 : n0 ≤ 9223372036854775807) :
    Calls Try.prog 12 #[.agg #[.int .i64 k0, .slice A0 n0 c0, .int .i64 k1]] w fun e w' => e = .returned (.bool true) ∧ Below w.heap.size w w' := by
  rcases (inferInstance : Decidable (0 ≤ 1048576 - (total x0 : Int))) with g0 | g0
  · exact lawCountSafe_big0 k0 A0 n0 c0 x0 k1 w h0 hx0 hn0  (by omega)
  exact lawCountSafe_small k0 A0 n0 c0 x0 k1 w h0 hx0 hn0 g0
end Go.Proofs.Ytkdjdnknhbmliaa
