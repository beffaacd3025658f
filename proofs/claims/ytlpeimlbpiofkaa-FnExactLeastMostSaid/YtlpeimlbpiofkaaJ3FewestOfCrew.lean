/-
  What is proved: the contract of the model's sorting (paSorted). Conditions: the list is read as it lies; at most 1,048,576 numbers.
  What is proved: the people who are where the torch is, as the program lists them. Conditions: at most eight people.
  What is proved: the crowds of so many people, as the program lists them. Conditions: at most eight people.
  What is proved: the contract of the program's CountCalm, that it is the model's, and the law on it. Conditions: none.
  What is proved: the contract of the program's calm groups of a company. Conditions: at most four couples and four seats.
  What is proved: the contract of the program's river of a company. Conditions: there is a company.
  What is proved: the contract of the program's closure that tells the rows in a place. Conditions: at most four couples.
  What is proved: contracts of slices.Equal of numbers and of the program's state behind a row. Conditions: lists are read as they lie; at most four couples.
  What is proved: contracts of the model's and the program's tests of a crew. Conditions: the crew's weights are read as they lie.
  What is proved: contracts of the loads of people: the model's, and the program's closure that tells them. Conditions: the people are among those whose weights are read; weights are up to 500.
  What is proved: contracts of the model's and the program's LoadOf. Conditions: the lists are read as they lie; the program's row of weights has no less room than weights.
  What is proved: two places compared by ==. Conditions: none.
  What is proved: rides of lists of people that are in a place, the cells of a list of legs. Conditions: none.
  What is proved: the contract of the program's crowd of those who can row. Conditions: the list is read as it lies; at most eight people.
  What is proved: rides of a crew as lists of people, the cells of a list of legs, and the comparison of crowds as arrays. Conditions: none.
  What is proved: the contract of the program's legs of a crew. Conditions: what is asked of a crew's people, but for what the boat carries, which may be any number.
  What is proved: the contract of the program's river of a crew. Conditions: what is asked of a crew's people, but for what the boat carries.
  What is proved: the contract of the program's closure that tells the rides in a place. Conditions: at most eight people; the lists are rising ones of people.
  What is proved: the contract of the program's state behind a ride of a crew. Conditions: lists are read as they lie; at most eight people; the lists are rising ones of people.
  What is proved: least times over a graph are one, are the same there and back where each trip leads back in its time, and a search that settles all places (or one) that wait for the least time finds them. Conditions: each trip takes a time of at least 1.
  What is proved: plain facts on a search that takes places from a queue and puts those behind them, not yet reached, at its end: at its end it has the least numbers of moves. Conditions: as each says.
-/
import Derived.Deep.DeepCutAuto
import Derived.Test.YtlpeimlbpiofkaaJ2FewestOfCrew
set_option linter.unusedSimpArgs false
set_option linter.unusedVariables false
namespace Go.Proofs.Ytlpeimlbpiofkaa
open Go.RowKit

/-- The place at which a number goes among the first k of a list: behind the last one that is not greater. -/
def spot (l : List Int) (x : Int) : Nat → Nat
  | 0 => 0
  | k + 1 => if x < l.getD k 0 then spot l x k else k + 1
theorem spot_le (l : List Int) (x : Int) : ∀ k, spot l x k ≤ k
  | 0 => Nat.le_refl _
  | k + 1 => by
    rw [spot]
    split
    · have := spot_le l x k; omega
    · omega
theorem spot_down {l : List Int} {x : Int} {k : Nat} (h : x < l.getD k 0) : spot l x (k + 1) = spot l x k := if_pos h
theorem spot_here {l : List Int} {x : Int} {k : Nat} (h : ¬ x < l.getD k 0) : spot l x (k + 1) = k + 1 := if_neg h
def ins (l : List Int) (x : Int) : List Int := (l.take (spot l x l.length) ++ [x]) ++ l.drop (spot l x l.length)
theorem ins_len (l : List Int) (x : Int) : (ins l x).length = l.length + 1 := by
  have := spot_le l x l.length
  simp [ins]
  omega
def insTo (xs : List Int) (j : Nat) : List Int := (xs.take j).foldl ins []
theorem insTo_next {xs : List Int} {j : Nat} (h : j < xs.length) : insTo xs (j + 1) = ins (insTo xs j) xs[j] := by
  rw [insTo, List.take_succ_eq_append_getElem h, List.foldl_append]
  rfl
theorem insTo_len (xs : List Int) : ∀ {j : Nat}, j ≤ xs.length → (insTo xs j).length = j
  | 0, _ => rfl
  | j + 1, h => by rw [insTo_next h, ins_len, insTo_len xs (by omega)]
theorem own_lower {w : World} {base base' size : Nat} {e : TypeId} {v : Value} {n : Nat} {xs : List Value} (h : w.ownsRow base e size v n xs) (hb : base' ≤ base) : w.ownsRow base' e size v n xs := by
  obtain ⟨hl, h | ⟨g, cap, cur, hv, hg, r⟩⟩ := h
  · exact ⟨hl, .inl h⟩
  · exact ⟨hl, .inr ⟨g, cap, cur, hv, Nat.le_trans hb hg, r⟩⟩
theorem own_cells {w : World} {base : Nat} {e : TypeId} {g n c : Nat} {xs : List Value} (h : w.ownsRow base e 1 (.slice (some ⟨g, 0, none⟩) n c) n xs) : g < w.heap.size ∧ base ≤ g ∧ ∀ j u, xs[j]? = some u → w.cell? ⟨g, j, none⟩ = some u := by
  obtain ⟨hl, ⟨hv, -⟩ | ⟨g', cap, cur, hv, hg, hh, h1, h2, h3, h4⟩⟩ := h
  · cases hv
  · obtain ⟨rfl, rfl⟩ : g = g' ∧ c = cap := by simpa using hv
    have hw : Whole w g e cur := hh
    refine ⟨hw.lt, hg, fun j u hu => ?_⟩
    have hj : j < xs.length := (List.getElem?_eq_some_iff.1 hu).1
    rw [hw.cell j, ← hu]
    rw [hl] at hj
    have hj' : j < n := by omega
    have := congrArg (fun l : List Value => l[j]?) h4
    simpa [List.getElem?_take, hj, hj'] using this
theorem own_below {w w' : World} {base : Nat} {e : TypeId} {size : Nat} {v : Value} {n : Nat} {xs : List Value} (h : w.ownsRow base e size v n xs) (hb : Below w.heap.size w w') : w'.ownsRow base e size v n xs := by
  obtain ⟨hl, h | ⟨g, cap, cur, hv, hg, hh, r⟩⟩ := h
  · exact ⟨hl, .inl h⟩
  · exact ⟨hl, .inr ⟨g, cap, cur, hv, hg, (hb.block g (Array.getElem?_eq_some_iff.1 hh).1).trans hh, r⟩⟩

theorem cell_grown {w w' : World} {row : Option Nat} {g i : Nat} (h : w.grownBy w' row) (hl : g < w.heap.size) (hn : row ≠ some g) : w'.cell? ⟨g, i, none⟩ = w.cell? ⟨g, i, none⟩ := by
  have h1 := h.block g hl (fun e => hn e.symm)
  simp only [World.cell?, h1]

end Go.Proofs.Ytlpeimlbpiofkaa

namespace Go.Proofs.Ytlpeimlbpiofkaa
open Go.RowKit

theorem own_room {w : World} {base n c : Nat} {e : TypeId} {A : Option Addr} {xs : List Value} (h : w.ownsRow base e 1 (.slice A n c) n xs) : n ≤ c := by
  rcases own_some h with ⟨-, rfl, rfl⟩ | ⟨g, -, h⟩
  · exact Nat.le_refl _
  · exact h

/-- The people before the k-th who are where the torch is. -/
def hereTo (bs : List Bool) (t : Bool) (k : Nat) : List Int := ((List.range k).filter (fun i => bs.getD i false == t)).map Int.ofNat
theorem here_yes {bs : List Bool} {t : Bool} {k : Nat} (h : (bs.getD k false == t) = true) : hereTo bs t (k + 1) = hereTo bs t k ++ [(k : Int)] := by
  simp only [hereTo, List.range_succ, List.filter_append, List.map_append, List.filter_cons, h]
  rfl
theorem here_no {bs : List Bool} {t : Bool} {k : Nat} (h : (bs.getD k false == t) = false) : hereTo bs t (k + 1) = hereTo bs t k := by
  simp only [hereTo, List.range_succ, List.filter_append, List.map_append, List.filter_cons, h]
  simp
theorem here_len (bs : List Bool) (t : Bool) (k : Nat) : (hereTo bs t k).length ≤ k := by
  have := List.length_filter_le (fun i => bs.getD i false == t) (List.range k)
  simpa [hereTo] using this

set_option maxHeartbeats 3200000 in
set_option maxRecDepth 100000 in
theorem atTorch_any (n : Nat) (bs : List Bool) (t : Bool) (w : World) (hn : n ≤ 8) :
    Calls Try.prog 152 #[.agg (placeCells bs t), .int .i64 n] w (OwnPost (hereTo bs t n) w) := by
  obtain ⟨i0, hi, hz0, hz1, hz2⟩ := info_parts info_int
  have HI := Lib.hid hi
  have HZ0 := Lib.hid hz0
  have HZ1 := Lib.hid hz1
  have HZ2 := Lib.hid hz2
  have h0 := Whole.fresh w 75 (placeCells bs t)
  have hbw := below1 w (.cells (placeCells bs t) 75)
  have HBW := Lib.hid hbw
  have HH0 := Lib.hid h0
  clear hi hz0 hz1 hz2 hbw h0
  go_enter Try.func152, Try.ntmps152
  go_wp2
  go_loopw [5, 8] (fun v i wr => ∃ (k : Nat) (E : Option Addr) (r : Nat), k ≤ n ∧ i = .int .i64 k ∧ v = .slice E (hereTo bs t k).length r ∧ wr.ownsRow (w.heap.size + 1) 3 1 (.slice E (hereTo bs t k).length r) (hereTo bs t k).length (nums (hereTo bs t k)) ∧ Below (w.heap.size + 1) (w.alloc (.cells (placeCells bs t) 75)) wr) (fun _ i _ => n - (intOf i).toNat)
  case atStart => exact ⟨0, none, 0, Nat.zero_le _, rfl, rfl, World.ownsRow_nil _ _ _ _, Below.refl _ _⟩
  case round =>
    obtain ⟨k, E, r, hk, rfl, rfl, hown, hb⟩ := hrel
    have hhl := here_len bs t k
    have h1 := HH0.out.below' hb (by omega)
    have ht8 := (h1.cell 8).trans (show (placeCells bs t)[8]? = some (.bool t) from rfl)
    have hs2 : w.heap.size + 1 ≤ wr.heap.size := by have := hb.size; simpa using this
    by_cases hlt : k < n
    · have hkc := (h1.cell k).trans (place_at bs t (by omega : k < 8))
      have hk8 : (k : Int) < 8 := by omega
      have hyes := here_yes (bs := bs) (t := t) (k := k)
      have hno := here_no (bs := bs) (t := t) (k := k)
      generalize bs.getD k false = x at hkc hyes hno
      have HOWN := Lib.hid hown
      have HB := Lib.hid hb
      clear hown hb h1
      by_cases hxt : x = t
      · subst hxt
        have HS := Lib.hid (hyes (by simp))
        have hxx : (x == x) = true := by simp
        have HLEN : Hid ((hereTo bs x (k + 1)).length = (hereTo bs x k).length + 1) := by show _ = _; rw [HS.out]; simp
        clear hyes hno
        go_wp2
        go_quiet (fail)
        rename_i nq
        have HOW := Lib.hid ((own_below HOWN.out (below_draws (Below.refl _ _) nq)).alloc (.cells #[.int .i64 k] 3))
        have HBB := Lib.hid ((below_draws HB.out nq).alloc (by simpa using hs2) (.cells #[.int .i64 k] 3))
        have HBASE := Lib.hid (show w.heap.size + 1 ≤ ((wr.drewN nq).alloc (.cells #[.int .i64 k] 3)).heap.size by simp; omega)
        have HMAX := Lib.hid (show (hereTo bs x k).length + 1 ≤ maxLen by unfold maxLen; omega)
        have HBYT := Lib.hid (show ((hereTo bs x k).length + 1) * 8 ≤ 140737488355328 by omega)
        go_wp2_with (at_builtin; refine wpList_append_own _ rfl (.tmp 19) (.tmp 21) 22 rfl (w.heap.size + 1) 3 i0 (.int .i64 0) 1 8 Try.underlying22 HI.out HZ0.out HZ1.out HZ2.out rfl (by decide) (.slice E (hereTo bs x k).length r) (hereTo bs x k).length (nums (hereTo bs x k)) rfl HOW.out ⟨wr.heap.size, 0, none⟩ 1 1 [.int .i64 k] rfl rfl (cell_one_new _ _ _) (by simp [Value.oneCell']) HMAX.out HBYT.out HBASE.out ?_; intro v' w2 hown1 hg1 _; obtain ⟨D', q', hv', -⟩ := Fresh.of_own hown1 (Nat.le_refl _); rw [hv'] at hown1 ⊢; clear hv')
        have HBN := Lib.hid (HBB.out.grown hg1 HBASE.out (fun kk e => (HOW.out.lt _ e).1))
        have HON := Lib.hid hown1
        clear hg1 hown1
        go_roundw
        case rel => exact ⟨k + 1, D', q', by omega, by go_num, by rw [HLEN.out], by rw [HLEN.out, HS.out, show nums (hereTo bs x k ++ [(k : Int)]) = nums (hereTo bs x k) ++ [.int .i64 k] by simp [nums]]; exact HON.out, HBN.out⟩
        case measure => simp [intOf]; omega
      · have HS := Lib.hid (hno (by simpa using hxt))
        have hxf : (x == t) = false := by simpa using hxt
        clear hyes hno
        go_wp2
        go_quiet (fail)
        rename_i nq
        have HOW := Lib.hid (own_below HOWN.out (below_draws (Below.refl _ _) nq))
        have HBB := Lib.hid (below_draws HB.out nq)
        go_wp2
        go_roundw
        case rel => exact ⟨k + 1, E, r, by omega, by go_num, by rw [HS.out], by rw [HS.out]; exact HOW.out, HBB.out⟩
        case measure => simp [intOf]; omega
    · obtain rfl : k = n := by omega
      have HO := Lib.hid (own_lower hown (base' := w.heap.size) (by omega))
      have HB := Lib.hid (HBW.out.trans (hb.mono (by omega)))
      clear hown hb
      go_wp2
      go_ret
      exact ⟨E, r, rfl, HO.out, HB.out⟩
end Go.Proofs.Ytlpeimlbpiofkaa

namespace Go.Proofs.Ytlpeimlbpiofkaa
open Go.RowKit

/-- The first n people. -/
def firsts (n : Nat) : List Int := (List.range n).map Int.ofNat
theorem firsts_len (n : Nat) : (firsts n).length = n := by simp [firsts]
theorem here_firsts (n : Nat) : hereTo [] false n = firsts n := by
  rw [hereTo, firsts]
  congr 1
  rw [List.filter_eq_self]
  intro x _
  rfl
/-- The lists of 1..m of the first n people, in order. -/
def upLists (n m : Nat) : List (List Int) := subs m (firsts n) []
theorem upLists_small {n m : Nat} (h : n ≤ 8) : (upLists n m).length ≤ 255 := subs_small (by rw [firsts_len]; exact h)
theorem steps_of {l : List Int} {hi : Int} (hp : l.Pairwise (· < ·)) (h0 : ∀ x ∈ l, 0 ≤ x ∧ x ≤ hi) : StepsTo l hi l.length := fun j hj => by
  have hm := h0 l[j] (List.getElem_mem hj)
  refine ⟨by rw [getD_at l hj]; exact hm.1, by rw [getD_at l hj]; exact hm.2, ?_⟩
  by_cases h : j = 0
  · exact .inl h
  · right
    rw [getD_at l hj, getD_at l (by omega)]
    exact List.pairwise_iff_getElem.1 hp (j - 1) j (by omega) hj (by omega)
theorem firsts_pair (n : Nat) : (firsts n).Pairwise (· < ·) := by
  rw [firsts, List.pairwise_map]
  exact List.pairwise_lt_range.imp (fun h => by simpa using h)
theorem firsts_mem {n : Nat} {x : Int} (h : x ∈ firsts n) : 0 ≤ x ∧ x ≤ (n : Int) - 1 := by
  obtain ⟨k, hk, rfl⟩ := List.mem_map.1 h
  have := List.mem_range.1 hk
  exact ⟨by simp, by simp; omega⟩
theorem up_steps {n m : Nat} {l : List Int} (h : l ∈ upLists n m) : StepsTo l ((n : Int) - 1) l.length ∧ 1 ≤ l.length ∧ l.length ≤ m := by
  obtain ⟨c, hc, hne, hs, hl⟩ := (subs_mem m (firsts n) [] l).1 h
  rw [List.nil_append] at hc
  subst hc
  exact ⟨steps_of ((firsts_pair n).sublist hs) (fun x hx => firsts_mem (hs.subset hx)), List.length_pos_iff.2 hne, hl⟩
theorem up_trip {n m : Nat} {l : List Int} (h : l ∈ upLists n m) : isTrip n m l = true := by
  obtain ⟨h1, h2, h3⟩ := up_steps h
  exact trip_yes (by omega) (by omega) h1

/-- What a call hands back that makes a list of crowds. -/
def CrowdsPost (ls : List (List Int)) (w : World) (e : Ending) (w' : World) : Prop :=
  ∃ (A : Option Addr) (c : Nat), e = .returned (.slice A ls.length c) ∧ w'.ownsRow w.heap.size 73 8 (.slice A ls.length c) ls.length (crowdsOf ls) ∧ Below w.heap.size w w'

set_option maxHeartbeats 3200000 in
set_option maxRecDepth 100000 in
theorem crowdsUpTo_any (n m : Nat) (w : World) (hn : n ≤ 8) (hm : m ≤ 8) :
    Calls Try.prog 143 #[.int .i64 n, .int .i64 m] w (CrowdsPost (upLists n m) w) := by
  obtain ⟨i0, hi, hz0, hz1, hz2⟩ := info_parts info_crowd
  have HI := Lib.hid hi
  have HZ0 := Lib.hid hz0
  have HZ1 := Lib.hid hz1
  have HZ2 := Lib.hid hz2
  have HF := Lib.hid (here_firsts n)
  have HLN := Lib.hid (firsts_len n)
  have HSM := Lib.hid (upLists_small (m := m) hn)
  have HTR : Hid (∀ l ∈ upLists n m, isTrip n m l = true) := fun l h => up_trip h
  clear hi hz0 hz1 hz2
  go_enter Try.func143, Try.ntmps143
  go_wp2_with fail
  refine (atTorch_any n [] false w hn).mono ?_
  rintro e w1 ⟨A1, c1, rfl, hown1, hb1⟩
  rw [HF.out, HLN.out] at hown1 ⊢
  go_wp2_with fail
  refine (listsFrom_any m hm 9 none A1 0 0 n c1 [] (firsts n) w1 (by rw [HLN.out]; omega) (Nat.le_refl _) (Holds.empty _ _) (holds_of_own hown1) rfl HLN.out (own_room hown1) (fun _ => ⟨rfl, rfl⟩)).mono ?_
  rintro e w2 ⟨A2, c2, rs, rfl, hr, hn2, hs2, hh, hb2⟩
  have hb0 : Below w.heap.size w w2 := below_then hb1 hb2 hb1.size
  have hG := hh.free.grid
  have HR : Hid (rowNums rs = upLists n m) := hr
  have HRL : Hid (rs.length = (upLists n m).length) := by show _ = _; rw [← HR.out, rowNums_len]
  have HB0 := Lib.hid hb0
  have hw12 : w1.heap.size ≤ w2.heap.size := hb2.size
  have hw01 : w.heap.size ≤ w1.heap.size := hb1.size
  clear hown1 hb1 hb2 hr hn2 hs2 hh hb0
  go_wp2
  go_loopw [5, 16] (fun v i wr => ∃ (k : Nat) (T : Option Addr) (r : Nat), k ≤ rs.length ∧ i = .int .i64 k ∧ v = .slice T k r ∧ wr.ownsRow w2.heap.size 73 8 (.slice T k r) k (crowdsOf ((rowNums rs).take k)) ∧ Below w2.heap.size w2 wr) (fun _ i _ => rs.length - (intOf i).toNat)
  case atStart => exact ⟨0, none, 0, Nat.zero_le _, rfl, rfl, World.ownsRow_nil _ _ _ _, Below.refl _ _⟩
  case round =>
    obtain ⟨k, T, r, hk, rfl, rfl, hown, hb⟩ := hrel
    have HOWN := Lib.hid hown
    clear hown
    by_cases hlt : k < rs.length
    · have hkl : k < (rowNums rs).length := by rw [rowNums_len]; exact hlt
      obtain ⟨b1, o1, rfl, hbl1, hc, hok⟩ := (hG.below hb).look hlt
      have hget := rowNums_get hlt
      have HTK : Hid (isTrip n m rs[k].xs = true) := HTR.out _ (by rw [← HR.out, ← hget]; exact List.getElem_mem hkl)
      have hcn := crowdsOf_next hkl
      rw [hget] at hcn
      have HCN := Lib.hid hcn
      have hk255 : k ≤ 255 := by have := HSM.out; have := HRL.out; omega
      clear hget hcn
      go_wp2_with fail
      refine (crowdOf_any _ n _ _ rs[k].xs m _ hok.1 hok.2.1 hok.2.2 hn).mono ?_
      rintro e1 w3 ⟨⟨ht, rfl⟩ | ⟨ht, rfl⟩, hb3⟩
      · have HBB := Lib.hid (((below_then hb hb3 hb.size).alloc (below_then hb hb3 hb.size).size (.cells (crowdCells rs[k].xs) 73)).alloc (Nat.le_trans (below_then hb hb3 hb.size).size (by simp)) (.cells (crowdCells rs[k].xs) 73))
        have HOW := Lib.hid (((ownsRow_below HOWN.out hb3).alloc (.cells (crowdCells rs[k].xs) 73)).alloc (.cells (crowdCells rs[k].xs) 73))
        have hnew := cells_new (w3.alloc (.cells (crowdCells rs[k].xs) 73)) 73 (crowdCells rs[k].xs)
        rw [World.size_alloc] at hnew
        have HNEW := Lib.hid hnew
        have HONE := Lib.hid (crowd_ones rs[k].xs)
        have HMAX := Lib.hid (show k + 1 ≤ maxLen by unfold maxLen; omega)
        have HBYT := Lib.hid (show (k + 1) * 8 ≤ 140737488355328 by omega)
        have HBASE := Lib.hid (show w2.heap.size ≤ ((w3.alloc (.cells (crowdCells rs[k].xs) 73)).alloc (.cells (crowdCells rs[k].xs) 73)).heap.size by have := (below_then hb hb3 hb.size).size; simp; omega)
        clear ht hb hb3 hok hc hnew
        unfold crowdCells at HNEW HONE HOW HBASE HBB
        unfold crowdCells
        go_wp2_with (at_builtin; refine wpList_append_own _ rfl (.tmp 28) (.tmp 30) 169 rfl w2.heap.size 73 i0 (.agg #[.bool false, .bool false, .bool false, .bool false, .bool false, .bool false, .bool false, .bool false]) 8 8 Try.underlying169 HI.out HZ0.out HZ1.out HZ2.out rfl (by decide) (.slice T k r) k (crowdsOf ((rowNums rs).take k)) rfl HOW.out ⟨w3.heap.size + 1, 0, none⟩ 1 1 [.bool (has rs[k].xs 0), .bool (has rs[k].xs 1), .bool (has rs[k].xs 2), .bool (has rs[k].xs 3), .bool (has rs[k].xs 4), .bool (has rs[k].xs 5), .bool (has rs[k].xs 6), .bool (has rs[k].xs 7)] rfl rfl HNEW.out HONE.out HMAX.out HBYT.out HBASE.out ?_; intro v' w4 hown1 hg1 _; obtain ⟨g2, e2, hv2⟩ := own_form hown1; subst hv2)
        have hbb2 := HBB.out.grown hg1 HBASE.out (fun kk x => by have := (HOW.out.lt _ x).1; omega)
        have hown2 : w4.ownsRow w2.heap.size 73 8 (.slice (some ⟨g2, 0, none⟩) (k + 1) e2) (k + 1) (crowdsOf ((rowNums rs).take (k + 1))) := by rw [← HCN.out]; exact hown1
        have HO2 := Lib.hid hown2
        clear hown1 hown2 hg1
        go_roundw
        case rel => exact ⟨k + 1, _, e2, by omega, by go_num, rfl, HO2.out, hbb2⟩
        case measure => simp [intOf]; omega
      · rw [HTK.out] at ht; cases ht
    · obtain rfl : k = rs.length := by omega
      have HO := Lib.hid (own_lower HOWN.out (base' := w.heap.size) (by omega))
      have HBB := Lib.hid (below_then HB0.out hb (by omega))
      go_wp2
      go_ret
      refine ⟨T, r, by rw [HRL.out]; rfl, ?_, HBB.out⟩
      have h := HO.out
      rw [List.take_of_length_le (by rw [rowNums_len]; exact Nat.le_refl _), HR.out, HRL.out] at h
      rw [← HRL.out] at h ⊢
      exact h
end Go.Proofs.Ytlpeimlbpiofkaa

namespace Go.Proofs.Ytlpeimlbpiofkaa
open Go.RowKit

theorem crowdsOf_get : ∀ (ls : List (List Int)) (i j : Nat) (hi : i < ls.length), j < 8 → (crowdsOf ls)[i * 8 + j]? = some (.bool (has ls[i] j))
  | [], i, j, hi, _ => by simp at hi
  | l :: r, 0, j, hi, hj => by
    rw [show crowdsOf (l :: r) = (crowdCells l).toList ++ crowdsOf r from rfl, Nat.zero_mul, Nat.zero_add, List.getElem?_append_left (by simp [crowdCells]; omega)]
    have := crowd_at l hj
    simpa using this
  | l :: r, i + 1, j, hi, hj => by
    have ih := crowdsOf_get r i j (by simpa using hi) hj
    rw [show crowdsOf (l :: r) = (crowdCells l).toList ++ crowdsOf r from rfl, List.getElem?_append_right (by simp [crowdCells]; omega)]
    rw [show (i + 1) * 8 + j - (crowdCells l).toList.length = i * 8 + j by simp [crowdCells]; omega]
    simpa using ih
/-- The cells of a crowd in a list of crowds. -/
theorem crowds_row {w : World} {lo n c : Nat} {A : Option Addr} {ls : List (List Int)} (h : w.ownsRow lo 73 8 (.slice A n c) n (crowdsOf ls)) (hl : ls.length = n) {i : Nat} (hi : i < ls.length) :
    ∃ g, A = some ⟨g, 0, none⟩ ∧ g < w.heap.size ∧ w.cell? ⟨g, i * 8, none⟩ = some (.bool (has ls[i] 0)) ∧ w.cell? ⟨g, i * 8 + 1, none⟩ = some (.bool (has ls[i] 1)) ∧ w.cell? ⟨g, i * 8 + 2, none⟩ = some (.bool (has ls[i] 2)) ∧ w.cell? ⟨g, i * 8 + 3, none⟩ = some (.bool (has ls[i] 3)) ∧
      w.cell? ⟨g, i * 8 + 4, none⟩ = some (.bool (has ls[i] 4)) ∧ w.cell? ⟨g, i * 8 + 5, none⟩ = some (.bool (has ls[i] 5)) ∧ w.cell? ⟨g, i * 8 + 6, none⟩ = some (.bool (has ls[i] 6)) ∧ w.cell? ⟨g, i * 8 + 7, none⟩ = some (.bool (has ls[i] 7)) := by
  have hx := h
  obtain ⟨-, ⟨-, h0⟩ | ⟨g, cap, cur, hv, -, hh, -⟩⟩ := hx
  · omega
  · obtain ⟨rfl, rfl⟩ : A = some ⟨g, 0, none⟩ ∧ c = cap := by simpa using hv
    have hg : g < w.heap.size := (Array.getElem?_eq_some_iff.1 hh).1
    have hc : ∀ j, j < 8 → w.cell? ⟨g, i * 8 + j, none⟩ = some (.bool (has ls[i] j)) := fun j hj => (h.cellAt (i * 8 + j) (by omega)).trans (crowdsOf_get ls i j hi hj)
    exact ⟨g, rfl, hg, hc 0 (by omega), hc 1 (by omega), hc 2 (by omega), hc 3 (by omega), hc 4 (by omega), hc 5 (by omega), hc 6 (by omega), hc 7 (by omega)⟩

/-- Twice how many crowds of a list are calm, and the rest too. -/
def twice (k : Nat) : List (List Int) → Nat
  | [] => 0
  | l :: r => (if quiet k (has l) then 2 else 0) + twice k r
theorem twice_snoc (k : Nat) (x : List Int) : ∀ ls, twice k (ls ++ [x]) = twice k ls + (if quiet k (has x) then 2 else 0)
  | [] => by simp [twice]
  | l :: r => by rw [List.cons_append, twice, twice, twice_snoc k x r]; omega
theorem twice_le (k : Nat) : ∀ ls, twice k ls ≤ 2 * ls.length
  | [] => by simp [twice]
  | l :: r => by have := twice_le k r; rw [twice, List.length_cons]; split <;> omega
theorem twice_no {k i : Nat} {ls : List (List Int)} (hi : i < ls.length) (h : quiet k (has ls[i]) = false) : (twice k (ls.take (i + 1)) : Int) = twice k (ls.take i) := by
  rw [List.take_succ_eq_append_getElem hi, twice_snoc, h]; simp
theorem twice_yes {k i : Nat} {ls : List (List Int)} (hi : i < ls.length) (h : quiet k (has ls[i]) = true) : (twice k (ls.take (i + 1)) : Int) = twice k (ls.take i) + 2 := by
  rw [List.take_succ_eq_append_getElem hi, twice_snoc, h]; simp
/-- Both counts are one. -/
theorem count_same (k : Nat) (h1 : 1 ≤ k) (h4 : k ≤ 4) : calmTo k (2 * 2 ^ (2 * k)) = twice k (upLists (2 * k) (2 * k)) := by
  have h : k = 1 ∨ k = 2 ∨ k = 3 ∨ k = 4 := by omega
  rcases h with rfl | rfl | rfl | rfl <;> decide +kernel

end Go.Proofs.Ytlpeimlbpiofkaa

namespace Go.Proofs.Ytlpeimlbpiofkaa
open Go.RowKit

theorem whole_grown {w w' : World} {lo q : Nat} {ty : TypeId} {cs : Array Value} {row : Option Nat} (h : Whole w q ty cs) (hg : w.grownBy w' row) (hr : ∀ x, row = some x → lo ≤ x) (hq : q < lo) : Whole w' q ty cs :=
  (hg.block q h.lt (fun e => absurd (hr q e.symm) (by omega))).trans h
/-- The calm groups among some lists. -/
def grpOf (k : Nat) (ls : List (List Int)) : List (List Int) := ls.filter (fun l => calm k (has l))
theorem grp_no {k j : Nat} {ls : List (List Int)} (hj : j < ls.length) (h : calm k (has ls[j]) = false) : grpOf k (ls.take (j + 1)) = grpOf k (ls.take j) := by
  rw [List.take_succ_eq_append_getElem hj, grpOf, List.filter_append, grpOf]; simp [h]
theorem grp_yes {k j : Nat} {ls : List (List Int)} (hj : j < ls.length) (h : calm k (has ls[j]) = true) : grpOf k (ls.take (j + 1)) = grpOf k (ls.take j) ++ [ls[j]] := by
  rw [List.take_succ_eq_append_getElem hj, grpOf, List.filter_append, grpOf]; simp [h]
theorem grp_len (k : Nat) (ls : List (List Int)) : (grpOf k ls).length ≤ ls.length := List.length_filter_le _ _
theorem crowdsOf_snoc (ls : List (List Int)) (x : List Int) : crowdsOf (ls ++ [x]) = crowdsOf ls ++ (crowdCells x).toList := by simp [crowdsOf]

/-- The groups of a company. -/
def groupsOf (k q : Nat) : List (List Int) := grpOf k (upLists (2 * k) q)
def CalmCrowdsPost (k q : Nat) (w : World) (e : Ending) (w' : World) : Prop :=
  ∃ (A : Option Addr) (c g : Nat), e = .returned (.slice A (groupsOf k q).length c) ∧ w'.ownsRow g 73 8 (.slice A (groupsOf k q).length c) (groupsOf k q).length (crowdsOf (groupsOf k q)) ∧ Below w.heap.size w w'

end Go.Proofs.Ytlpeimlbpiofkaa

namespace Go.Proofs.Ytlpeimlbpiofkaa
open Go.RowKit

theorem fresh_of {w : World} {g : Nat} {t : TypeId} {cs : Array Value} (_h : Whole w g t cs) (ty : TypeId) (c : Array Value) : Whole (w.alloc (.cells c ty)) w.heap.size ty c := Whole.fresh w ty c
/-- Two blocks of different element types are different. -/
theorem whole_ne {w : World} {g h : Nat} {t u : TypeId} {a b : Array Value} (h1 : Whole w g t a) (h2 : Whole w h u b) (hn : t ≠ u) : g ≠ h := by
  rintro rfl
  have e : some (Obj.cells a t (0, 0)) = some (Obj.cells b u (0, 0)) := h1.symm.trans h2
  simp at e
  exact hn e.2
/-- A river's cells before it is told. -/
def riverZero : Array Value := #[.bool false, .bool false, .bool false, .bool false, .bool false, .bool false, .bool false, .bool false, .bool false, .bool false, .bool false, .bool false, .bool false, .bool false, .bool false, .bool false, .bool false, .bool false, Value.nilFunc]
theorem own_off {w : World} {b o base size n : Nat} {t e : TypeId} {v u : Value} {cs : Array Value} {xs : List Value} (h : w.ownsRow base e size v n xs) (hb : Whole w b t cs) (hn : t ≠ e) : (w.setCell ⟨b, o, none⟩ u).ownsRow base e size v n xs := by
  obtain ⟨hl, h | ⟨q, cap, cur, hv, hq, hh, r⟩⟩ := h
  · exact ⟨hl, .inl h⟩
  · have hw : Whole w q e cur := hh
    exact ⟨hl, .inr ⟨q, cap, cur, hv, hq, (Below.heap_setCell w ⟨b, o, none⟩ u q (whole_ne hw hb (fun h => hn h.symm))).trans hh, r⟩⟩
theorem size_river : (Try.prog.info? 115).map (·.size) = some 19 := by kernel_rfl
theorem own_only {w w' : World} {b base size n : Nat} {t e : TypeId} {v : Value} {cs : Array Value} {xs : List Value} (h : w.ownsRow base e size v n xs) (ho : Only b w w') (hb : Whole w b t cs) (hn : t ≠ e) : w'.ownsRow base e size v n xs := by
  obtain ⟨hl, h | ⟨q, cap, cur, hv, hq, hh, r⟩⟩ := h
  · exact ⟨hl, .inl h⟩
  · have hw : Whole w q e cur := hh
    exact ⟨hl, .inr ⟨q, cap, cur, hv, hq, (ho.block q (whole_ne hw hb (fun h => hn h.symm))).trans hh, r⟩⟩

end Go.Proofs.Ytlpeimlbpiofkaa

namespace Go.Proofs.Ytlpeimlbpiofkaa
open Go.RowKit

/-- The rows in a place, of some groups. -/
def rowsAmong (k : Nat) (bs : List Bool) (t : Bool) (ls : List (List Int)) : List (List Int) := ls.filter (fun l => allAt bs t l && quiet k (fun i => (flipped bs l).getD i false))
theorem among_no {k j : Nat} {bs : List Bool} {t : Bool} {ls : List (List Int)} (hj : j < ls.length) (h : (allAt bs t ls[j] && quiet k (fun i => (flipped bs ls[j]).getD i false)) = false) : rowsAmong k bs t (ls.take (j + 1)) = rowsAmong k bs t (ls.take j) := by
  rw [List.take_succ_eq_append_getElem hj, rowsAmong, List.filter_append, rowsAmong]; simp only [List.filter_cons, h]; simp
theorem among_yes {k j : Nat} {bs : List Bool} {t : Bool} {ls : List (List Int)} (hj : j < ls.length) (h : (allAt bs t ls[j] && quiet k (fun i => (flipped bs ls[j]).getD i false)) = true) : rowsAmong k bs t (ls.take (j + 1)) = rowsAmong k bs t (ls.take j) ++ [ls[j]] := by
  rw [List.take_succ_eq_append_getElem hj, rowsAmong, List.filter_append, rowsAmong]; simp only [List.filter_cons, h]; simp
theorem among_len (k : Nat) (bs : List Bool) (t : Bool) (ls : List (List Int)) : (rowsAmong k bs t ls).length ≤ ls.length := List.length_filter_le _ _
/-- The rows of a company in a place. -/
def rowsIn (k q : Nat) (bs : List Bool) (t : Bool) : List (List Int) := rowsAmong k bs t (groupsOf k q)
theorem groups_up {k q : Nat} {l : List Int} (h : l ∈ groupsOf k q) : l ∈ upLists (2 * k) q := (List.mem_filter.1 h).1
theorem groups_small {k q : Nat} (hk : k ≤ 4) : (groupsOf k q).length ≤ 255 := Nat.le_trans (grp_len _ _) (upLists_small (by omega))

/-- What the closure's appending reads. -/
def MvS (g h : Nat) (f f' : Nat → Bool) (t : Bool) (w : World) : Prop := Row8 g f w ∧ Row8 h f' w ∧ w.cell? ⟨h, 8, none⟩ = some (.bool t)
theorem row8_cells {w : World} {g : Nat} {ty : TypeId} {f : Nat → Bool} (h : Whole w g ty (cells8 f)) : Row8 g f w := ⟨h.cell 0, h.cell 1, h.cell 2, h.cell 3, h.cell 4, h.cell 5, h.cell 6, h.cell 7⟩
theorem mv_of {w : World} {g h : Nat} {f f' : Nat → Bool} {t : Bool} {y z : TypeId} (h1 : Whole w g y (cells8 f)) (h2 : Whole w h z (place9 f' t)) : MvS g h f f' t w := ⟨row8_cells h1, row8_of h2, h2.cell 8⟩
theorem below_undrew {w w' : World} (h : Below (World.drew w).heap.size (World.drew w) w') : Below w.heap.size w w' := ⟨h.os, h.tape, h.output, h.size, h.block⟩
theorem fresh_undrew {w w' : World} {ty : TypeId} {A : Option Addr} {xs : List Value} (h : Fresh w' (World.drew w).heap.size w'.heap.size ty A xs) : Fresh w' w.heap.size w'.heap.size ty A xs := h
theorem Fresh.of_own' {w : World} {lo n c : Nat} {ty : TypeId} {A : Option Addr} {xs : List Value} (h : w.ownsRow lo ty 1 (.slice A n c) n xs) : Fresh w lo w.heap.size ty A xs := by
  obtain ⟨A', c', hv, hf⟩ := Fresh.of_own h (Nat.le_refl _)
  obtain ⟨rfl, -⟩ : A = A' ∧ c = c' := by simpa using hv
  exact hf

theorem whole_apart {w w' : World} {q : Nat} {ty : TypeId} {cs : Array Value} {row : Option Nat} (h : Whole w q ty cs) (hg : w.grownBy w' row) (hne : some q ≠ row) : Whole w' q ty cs := (hg.block q h.lt hne).trans h
theorem Spread.raise {w : World} {lo lo' : Nat} {A : Option Addr} {rs : List RowV} (h : Spread w lo A rs) (hl : lo' ≤ lo) : Spread w lo' A rs := by
  obtain ⟨ps, h2, h3, h4⟩ := h
  exact ⟨ps, h2, fun p hp => ⟨Nat.le_trans hl (h3 p hp).1, (h3 p hp).2⟩, h4⟩

def MovesPost (bs : List Bool) (t : Bool) (ls : List (List Int)) (w : World) (e : Ending) (w' : World) : Prop :=
  ∃ (A : Option Addr) (c : Nat) (rs : List RowV), e = .returned (.slice A rs.length c) ∧ rowNums rs = ls ∧ Moves w' w.heap.size A c bs t rs ∧ Below w.heap.size w w'

end Go.Proofs.Ytlpeimlbpiofkaa

namespace Go.Proofs.Ytlpeimlbpiofkaa
open Go.RowKit

theorem below_drewN {w : World} (k : Nat) : Below w.heap.size w (w.drewN k) := below_draws (Below.refl _ _) k

/-- The ten cells of a move in a list of moves. -/
theorem moves_row {w : World} {lo c : Nat} {A : Option Addr} {bs : List Bool} {t : Bool} {rs : List RowV} (h : Moves w lo A c bs t rs) {i : Nat} (hi : i < rs.length) :
    ∃ g, A = some ⟨g, 0, none⟩ ∧ g < w.heap.size ∧ w.cell? ⟨g, i * 10, none⟩ = some rs[i].val ∧ w.cell? ⟨g, i * 10 + 1, none⟩ = some (.bool ((flipped bs rs[i].xs).getD 0 false)) ∧ w.cell? ⟨g, i * 10 + 2, none⟩ = some (.bool ((flipped bs rs[i].xs).getD 1 false)) ∧ w.cell? ⟨g, i * 10 + 3, none⟩ = some (.bool ((flipped bs rs[i].xs).getD 2 false)) ∧ w.cell? ⟨g, i * 10 + 4, none⟩ = some (.bool ((flipped bs rs[i].xs).getD 3 false)) ∧ w.cell? ⟨g, i * 10 + 5, none⟩ = some (.bool ((flipped bs rs[i].xs).getD 4 false)) ∧ w.cell? ⟨g, i * 10 + 6, none⟩ = some (.bool ((flipped bs rs[i].xs).getD 5 false)) ∧ w.cell? ⟨g, i * 10 + 7, none⟩ = some (.bool ((flipped bs rs[i].xs).getD 6 false)) ∧ w.cell? ⟨g, i * 10 + 8, none⟩ = some (.bool ((flipped bs rs[i].xs).getD 7 false)) ∧ w.cell? ⟨g, i * 10 + 9, none⟩ = some (.bool (!t)) := by
  have hx := h.1
  obtain ⟨-, ⟨-, h0⟩ | ⟨g, cap, cur, hv, -, hh, -⟩⟩ := hx
  · omega
  · obtain ⟨rfl, rfl⟩ : A = some ⟨g, 0, none⟩ ∧ c = cap := by simpa using hv
    have hg : g < w.heap.size := (Array.getElem?_eq_some_iff.1 hh).1
    have hc : ∀ j, j < 10 → w.cell? ⟨g, i * 10 + j, none⟩ = (moveCells bs t rs[i])[j]? := fun j hj => (h.1.cellAt (i * 10 + j) (by omega)).trans (movesCells_get bs t rs i j hi hj)
    exact ⟨g, rfl, hg, hc 0 (by omega), hc 1 (by omega), hc 2 (by omega), hc 3 (by omega), hc 4 (by omega), hc 5 (by omega), hc 6 (by omega), hc 7 (by omega), hc 8 (by omega), hc 9 (by omega)⟩

/-- What stateBehind hands back. -/
def BehindPost (k q : Nat) (bs : List Bool) (t : Bool) (l : List Int) (w : World) (e : Ending) (w' : World) : Prop :=
  ((l ∈ rowsIn k q bs t ∧ e = .returned (.tuple #[.agg (placeCells (flipped bs l) (!t)), .bool true])) ∨ (l ∉ rowsIn k q bs t ∧ e = .returned (.tuple #[.agg (placeCells bs t), .bool false]))) ∧ Below w.heap.size w w'
end Go.Proofs.Ytlpeimlbpiofkaa

namespace Go.Proofs.Ytlpeimlbpiofkaa
open Go.RowKit

/-- A crew, told in plain words: up to seven people with weights up to 500, for each of them whether it rows, and a boat that carries up to 2000. -/
def isCrew (xs : List Int) (m : Nat) (s : Int) : Bool := within xs.length 1 7 && (decide (m = xs.length) && (allIn xs 1 500 && within s 0 2000))
theorem isCrew_len {xs : List Int} {m : Nat} {s : Int} (h : xs.length < 1 ∨ 7 < xs.length) : isCrew xs m s = false := by
  simp only [isCrew, within_no (show (xs.length : Int) < 1 ∨ (7 : Int) < xs.length by omega), Bool.false_and]
theorem isCrew_rows {xs : List Int} {m : Nat} {s : Int} (h : m ≠ xs.length) : isCrew xs m s = false := by
  simp only [isCrew, decide_eq_false h, Bool.false_and, Bool.and_false]
theorem isCrew_all {xs : List Int} {m : Nat} {s : Int} (h : allIn xs 1 500 = false) : isCrew xs m s = false := by
  simp only [isCrew, h, Bool.false_and, Bool.and_false]
theorem isCrew_most {xs : List Int} {m : Nat} {s : Int} (h : s < 0 ∨ 2000 < s) : isCrew xs m s = false := by
  simp only [isCrew, within_no h, Bool.and_false]
theorem isCrew_min {xs : List Int} {m : Nat} {s : Int} (h1 : 0 < xs.length) (h : leastOf xs < 1) : isCrew xs m s = false := by
  have hne : xs ≠ [] := by intro e; subst e; simp at h1
  refine isCrew_all ?_
  cases h3 : allIn xs 1 500
  · rfl
  · have h4 := (le_leastOf hne 1).2 fun y hy => ((allIn_iff _ _ _).1 h3 y hy).1
    omega
theorem isCrew_max {xs : List Int} {m : Nat} {s : Int} (h1 : 0 < xs.length) (h : 500 < mostOf xs) : isCrew xs m s = false := by
  have hne : xs ≠ [] := by intro e; subst e; simp at h1
  refine isCrew_all ?_
  cases h3 : allIn xs 1 500
  · rfl
  · have h4 := (mostOf_le hne 500).2 fun y hy => ((allIn_iff _ _ _).1 h3 y hy).2
    omega
theorem isCrew_yes {xs : List Int} {m : Nat} {s : Int} (h1 : 0 < xs.length) (h7 : xs.length ≤ 7) (hm : m = xs.length) (h : 1 ≤ leastOf xs) (h' : mostOf xs ≤ 500) (hs : 0 ≤ s) (hs' : s ≤ 2000) : isCrew xs m s = true := by
  have hne : xs ≠ [] := by intro e; subst e; simp at h1
  have h3 : allIn xs 1 500 = true := (allIn_iff _ _ _).2 fun y hy => ⟨(le_leastOf hne 1).1 h y hy, (mostOf_le hne 500).1 h' y hy⟩
  simp only [isCrew, h3, within_yes hs hs', within_yes (show (1 : Int) ≤ xs.length by omega) (show (xs.length : Int) ≤ 7 by omega), hm, decide_true, Bool.and_self]
/-- What a crew is. -/
structure CrewOk (xs : List Int) (m : Nat) (s : Int) : Prop where
  one : 1 ≤ xs.length
  seven : xs.length ≤ 7
  rows : m = xs.length
  weights : ∀ y ∈ xs, 1 ≤ y ∧ y ≤ 500
  most : 0 ≤ s ∧ s ≤ 4000
theorem isCrew_ok {xs : List Int} {m : Nat} {s : Int} (h : isCrew xs m s = true) : CrewOk xs m s := by
  simp only [isCrew, Bool.and_eq_true, within_iff, decide_eq_true_eq, allIn_iff] at h
  obtain ⟨⟨h1, h2⟩, h3, h4, h5⟩ := h
  exact ⟨by omega, by omega, h3, h4, by omega⟩

set_option maxHeartbeats 800000 in
theorem loGood_any (A : Option Addr) (n c : Nat) (B : Option Addr) (m d : Nat) (xs : List Int) (s : Int) (w : World) (hA : Holds w A (nums xs)) (hx : xs.length = n) (hn : n ≤ 9223372036854775807) :
    Calls Try.prog 92 #[.agg #[.slice A n c, .slice B m d, .int .i64 s]] w fun e w' => e = .returned (.bool (isCrew xs m s)) ∧ Below w.heap.size w w' := by
  subst hx
  have hB := hA.alloc (.cells #[.slice A xs.length c, .slice B m d, .int .i64 s] 57)
  cases h1 : within xs.length 1 7
  · have HP : Hid (isCrew xs m s = false) := by show _ = _; simp [isCrew, h1]
    have H1 := Lib.hid h1
    clear h1
    go_enter Try.func92, Try.ntmps92
    go_wp2_with fail
    refine (l1In_any _ _ _ _).mono ?_
    rintro e w' ⟨rfl, rfl⟩
    rw [H1.out]
    go_wp2
    go_ret
    exact ⟨ret_of (by rw [HP.out]; rfl), below1 w _⟩
  · by_cases hm : m = xs.length
    · have hm' : ((m : Int) == (xs.length : Int)) = true := by simp [hm]
      cases h2 : allIn xs 1 500
      · have HP : Hid (isCrew xs m s = false) := isCrew_all h2
        have H1 := Lib.hid h1
        have H2 := Lib.hid h2
        have HM := Lib.hid hm
        clear h1 h2 hm
        go_enter Try.func92, Try.ntmps92
        go_wp2_with fail
        refine (l1In_any _ _ _ _).mono ?_
        rintro e w' ⟨rfl, rfl⟩
        rw [H1.out]
        go_wp2_with fail
        refine (l1All_any _ _ _ xs _ _ _ hB rfl hn).mono ?_
        rintro e w' ⟨rfl, rfl⟩
        rw [H2.out]
        go_wp2
        go_ret
        exact ⟨ret_of (by rw [HP.out]; rfl), below1 w _⟩
      · have HP : Hid (isCrew xs m s = within s 0 2000) := by show _ = _; simp [isCrew, h1, h2, hm]
        have H1 := Lib.hid h1
        have H2 := Lib.hid h2
        have HM := Lib.hid hm
        clear h1 h2 hm
        go_enter Try.func92, Try.ntmps92
        go_wp2_with fail
        refine (l1In_any _ _ _ _).mono ?_
        rintro e w' ⟨rfl, rfl⟩
        rw [H1.out]
        go_wp2_with fail
        refine (l1All_any _ _ _ xs _ _ _ hB rfl hn).mono ?_
        rintro e w' ⟨rfl, rfl⟩
        rw [H2.out]
        go_wp2_with fail
        refine (l1In_any _ _ _ _).mono ?_
        rintro e w' ⟨rfl, rfl⟩
        go_wp2
        go_ret
        exact ⟨ret_of (by rw [HP.out]; rfl), below1 w _⟩
    · have hm' : ((m : Int) == (xs.length : Int)) = false := by simp; omega
      have HP : Hid (isCrew xs m s = false) := isCrew_rows hm
      have H1 := Lib.hid h1
      clear h1 hm
      go_enter Try.func92, Try.ntmps92
      go_wp2_with fail
      refine (l1In_any _ _ _ _).mono ?_
      rintro e w' ⟨rfl, rfl⟩
      rw [H1.out]
      go_wp2
      go_ret
      exact ⟨ret_of (by rw [HP.out]; rfl), below1 w _⟩

set_option maxHeartbeats 800000 in
theorem isCrew_any (A : Option Addr) (n c : Nat) (B : Option Addr) (m d : Nat) (xs : List Int) (s : Int) (w : World) (hA : Holds w A (nums xs)) (hx : xs.length = n) (hn : n ≤ 9223372036854775807) :
    Calls Try.prog 94 #[.agg #[.slice A n c, .slice B m d, .int .i64 s]] w fun e w' => e = .returned (.bool (isCrew xs m s)) ∧ Below w.heap.size w w' := by
  subst hx
  have hB := hA.alloc (.cells #[.slice A xs.length c, .slice B m d, .int .i64 s] 57)
  by_cases h1 : xs.length < 1
  · have HP := Lib.hid (isCrew_len (m := m) (s := s) (.inl h1))
    go_enter Try.func94, Try.ntmps94
    go_wp2
    go_ret
    exact ⟨ret_of (by rw [HP.out]; first | rfl | (simp; done) | (simp; omega)), below1 w _⟩
  by_cases h8 : 7 < xs.length
  · have HP := Lib.hid (isCrew_len (m := m) (s := s) (.inr h8))
    go_enter Try.func94, Try.ntmps94
    go_wp2
    go_ret
    exact ⟨ret_of (by rw [HP.out]; first | rfl | (simp; done) | (simp; omega)), below1 w _⟩
  by_cases hm : m ≠ xs.length
  · have HP := Lib.hid (isCrew_rows (s := s) hm)
    have hm' : ((m : Int) != (xs.length : Int)) = true := by simp; omega
    go_enter Try.func94, Try.ntmps94
    go_wp2
    go_ret
    exact ⟨ret_of (by rw [HP.out]; first | rfl | (simp; done) | (simp; omega)), below1 w _⟩
  have hm' : ((m : Int) != (xs.length : Int)) = false := by simp; omega
  have hme : m = xs.length := by omega
  have HM := Lib.hid hme
  clear hm hme
  have hp : 0 < xs.length := by omega
  by_cases hl : leastOf xs < 1
  · have HP := Lib.hid (isCrew_min (m := m) (s := s) hp hl)
    go_enter Try.func94, Try.ntmps94
    go_wp2_with fail
    refine (sliceMin_any A _ c xs _ hB rfl hp hn).mono ?_
    rintro e w' ⟨rfl, rfl⟩
    go_wp2
    go_ret
    exact ⟨ret_of (by rw [HP.out]; first | rfl | (simp; done) | (simp; omega)), below1 w _⟩
  by_cases hx5 : 500 < mostOf xs
  · have HP := Lib.hid (isCrew_max (m := m) (s := s) hp hx5)
    go_enter Try.func94, Try.ntmps94
    go_wp2_with fail
    refine (sliceMin_any A _ c xs _ hB rfl hp hn).mono ?_
    rintro e w' ⟨rfl, rfl⟩
    go_wp2_with fail
    refine (sliceMax_any A _ c xs _ hB rfl hp hn).mono ?_
    rintro e w' ⟨rfl, rfl⟩
    go_wp2
    go_ret
    exact ⟨ret_of (by rw [HP.out]; first | rfl | (simp; done) | (simp; omega)), below1 w _⟩
  by_cases hs0 : s < 0
  · have HP := Lib.hid (isCrew_most (xs := xs) (m := m) (.inl hs0))
    go_enter Try.func94, Try.ntmps94
    go_wp2_with fail
    refine (sliceMin_any A _ c xs _ hB rfl hp hn).mono ?_
    rintro e w' ⟨rfl, rfl⟩
    go_wp2_with fail
    refine (sliceMax_any A _ c xs _ hB rfl hp hn).mono ?_
    rintro e w' ⟨rfl, rfl⟩
    go_wp2
    go_ret
    exact ⟨ret_of (by rw [HP.out]; first | rfl | (simp; done) | (simp; omega)), below1 w _⟩
  by_cases hs2 : 2000 < s
  · have HP := Lib.hid (isCrew_most (xs := xs) (m := m) (.inr hs2))
    go_enter Try.func94, Try.ntmps94
    go_wp2_with fail
    refine (sliceMin_any A _ c xs _ hB rfl hp hn).mono ?_
    rintro e w' ⟨rfl, rfl⟩
    go_wp2_with fail
    refine (sliceMax_any A _ c xs _ hB rfl hp hn).mono ?_
    rintro e w' ⟨rfl, rfl⟩
    go_wp2
    go_ret
    exact ⟨ret_of (by rw [HP.out]; first | rfl | (simp; done) | (simp; omega)), below1 w _⟩
  · have HP := Lib.hid (isCrew_yes (s := s) hp (by omega) HM.out (by omega) (by omega) (by omega) (by omega))
    go_enter Try.func94, Try.ntmps94
    go_wp2_with fail
    refine (sliceMin_any A _ c xs _ hB rfl hp hn).mono ?_
    rintro e w' ⟨rfl, rfl⟩
    go_wp2_with fail
    refine (sliceMax_any A _ c xs _ hB rfl hp hn).mono ?_
    rintro e w' ⟨rfl, rfl⟩
    go_wp2
    go_ret
    exact ⟨ret_of (by rw [HP.out]; first | rfl | (simp; done) | (simp; omega)), below1 w _⟩
end Go.Proofs.Ytlpeimlbpiofkaa

namespace Go.Proofs.Ytlpeimlbpiofkaa
open Go.RowKit

/-- The load of a list of people. -/
def loadOf (xs l : List Int) : Int := (l.map fun x => xs.getD x.toNat 0).sum
theorem loadOf_next {xs l : List Int} {k : Nat} (hk : k < l.length) : loadOf xs (l.take (k + 1)) = loadOf xs (l.take k) + xs.getD (l[k]).toNat 0 := by
  rw [loadOf, List.take_succ_eq_append_getElem hk, List.map_append, List.sum_append]; simp [loadOf]
theorem loadOf_bound {xs : List Int} (hw : ∀ y ∈ xs, 1 ≤ y ∧ y ≤ 500) : ∀ (l : List Int), 0 ≤ loadOf xs l ∧ loadOf xs l ≤ 500 * l.length
  | [] => by simp [loadOf]
  | x :: l => by
    have h1 := loadOf_bound hw l
    have h2 : 0 ≤ xs.getD x.toNat 0 ∧ xs.getD x.toNat 0 ≤ 500 := by
      by_cases h : x.toNat < xs.length
      · rw [getD_at xs h]
        have := hw _ (List.getElem_mem h)
        omega
      · rw [show xs.getD x.toNat 0 = 0 by rw [List.getD_eq_getElem?_getD, List.getElem?_eq_none (by omega)]; rfl]
        omega
    have h3 : loadOf xs (x :: l) = xs.getD x.toNat 0 + loadOf xs l := by simp [loadOf]
    rw [h3, List.length_cons]
    omega

/-- The closure that tells loads, and what it keeps. -/
def loadFn (g : Nat) : Value := .func (.func 137) #[] #[.pointer (some ⟨g, 0, none⟩)]

set_option maxHeartbeats 800000 in
theorem loLoad_any (A : Option Addr) (n c : Nat) (B : Option Addr) (m d : Nat) (xs : List Int) (s : Int) (D : Option Addr) (q z : Nat) (l : List Int) (w : World) (hA : Holds w A (nums xs)) (hD : Holds w D (nums l)) (hx : xs.length = n) (hz : l.length = q) (hn : n ≤ 7) (hq : q ≤ 9223372036854775807) (hw : ∀ y ∈ xs, 1 ≤ y ∧ y ≤ 500) (hl : ∀ y ∈ l, 0 ≤ y ∧ y < n) (hq8 : q ≤ 8) :
    Calls Try.prog 149 #[.agg #[.slice A n c, .slice B m d, .int .i64 s], .slice D q z] w fun e w' => e = .returned (.int .i64 (loadOf xs l)) ∧ Below w.heap.size w w' := by
  subst hx hz
  have hA2 := hA.alloc (.cells #[.slice A xs.length c, .slice B m d, .int .i64 s] 57)
  have hD2 := hD.alloc (.cells #[.slice A xs.length c, .slice B m d, .int .i64 s] 57)
  go_enter Try.func149, Try.ntmps149
  go_wp2
  go_loop [5, 10] (fun v i => ∃ k : Nat, k ≤ l.length ∧ i = .int .i64 k ∧ v = .int .i64 (loadOf xs (l.take k))) (fun _ i => l.length - (intOf i).toNat)
  case atStart => exact ⟨0, Nat.zero_le _, rfl, rfl⟩
  case round =>
    obtain ⟨k, hk, rfl, rfl⟩ := hrel
    by_cases hlt : k < l.length
    · obtain ⟨b, o, rfl, hb, hc⟩ := hD2.look (k := k) (by simpa [nums] using hlt)
      simp only [nums, List.getElem_map] at hc
      have hlk := hl _ (List.getElem_mem hlt)
      obtain ⟨x, hx⟩ := Int.eq_ofNat_of_zero_le hlk.1
      have hxl : x < xs.length := by omega
      obtain ⟨b', o', rfl, hb', hc'⟩ := hA2.look (k := x) (by simpa [nums] using hxl)
      simp only [nums, List.getElem_map] at hc'
      have hnx := loadOf_next (xs := xs) hlt
      rw [hx] at hc hnx
      have hbd := loadOf_bound hw (l.take k)
      have hbe := loadOf_bound hw (l.take (k + 1))
      rw [List.length_take] at hbd hbe
      rw [Int.toNat_natCast, getD_at xs hxl] at hnx
      rw [hnx] at hbe
      have HN := Lib.hid hnx
      clear hnx hx hlk
      obtain ⟨L, hL⟩ : ∃ L, L = loadOf xs (l.take k) := ⟨_, rfl⟩
      rw [← hL] at hbd hbe ⊢
      have HL := Lib.hid hL
      clear hL
      go_wp2
      go_round
      case rel => exact ⟨k + 1, by omega, by go_num, by rw [HN.out, ← HL.out]⟩
      case measure => simp [intOf]; omega
    · have hkn : k = l.length := by omega
      subst hkn
      rw [List.take_length]
      go_wp2
      go_ret
      exact ⟨rfl, below1 w _⟩
set_option maxHeartbeats 800000 in
theorem loadFn_any (A : Option Addr) (n c g : Nat) (xs : List Int) (D : Option Addr) (q z : Nat) (l : List Int) (w : World) (hg : Whole w g 22 #[.slice A n c]) (hA : Holds w A (nums xs)) (hD : Holds w D (nums l)) (hx : xs.length = n) (hz : l.length = q) (hn : n ≤ 7) (hq : q ≤ 9223372036854775807) (hw : ∀ y ∈ xs, 1 ≤ y ∧ y ≤ 500) (hl : ∀ y ∈ l, 0 ≤ y ∧ y < n) (hq8 : q ≤ 8) :
    Calls Try.prog 137 #[.slice D q z, .pointer (some ⟨g, 0, none⟩)] w fun e w' => e = .returned (.int .i64 (loadOf xs l)) ∧ Below w.heap.size w w' := by
  subst hx hz
  have hg0 := hg.cells1
  have hgl := hg.lt
  go_enter Try.func137, Try.ntmps137
  go_wp2
  go_loop [4, 9] (fun v i => ∃ k : Nat, k ≤ l.length ∧ i = .int .i64 k ∧ v = .int .i64 (loadOf xs (l.take k))) (fun _ i => l.length - (intOf i).toNat)
  case atStart => exact ⟨0, Nat.zero_le _, rfl, rfl⟩
  case round =>
    obtain ⟨k, hk, rfl, rfl⟩ := hrel
    by_cases hlt : k < l.length
    · obtain ⟨b, o, rfl, hb, hc⟩ := hD.look (k := k) (by simpa [nums] using hlt)
      simp only [nums, List.getElem_map] at hc
      have hlk := hl _ (List.getElem_mem hlt)
      obtain ⟨x, hx⟩ := Int.eq_ofNat_of_zero_le hlk.1
      have hxl : x < xs.length := by omega
      obtain ⟨b', o', rfl, hb', hc'⟩ := hA.look (k := x) (by simpa [nums] using hxl)
      simp only [nums, List.getElem_map] at hc'
      have hnx := loadOf_next (xs := xs) hlt
      rw [hx] at hc hnx
      have hbd := loadOf_bound hw (l.take k)
      have hbe := loadOf_bound hw (l.take (k + 1))
      rw [List.length_take] at hbd hbe
      rw [Int.toNat_natCast, getD_at xs hxl] at hnx
      rw [hnx] at hbe
      have HN := Lib.hid hnx
      clear hnx hx hlk
      obtain ⟨L, hL⟩ : ∃ L, L = loadOf xs (l.take k) := ⟨_, rfl⟩
      rw [← hL] at hbd hbe ⊢
      have HL := Lib.hid hL
      clear hL
      go_wp2
      go_round
      case rel => exact ⟨k + 1, by omega, by go_num, by rw [HN.out, ← HL.out]⟩
      case measure => simp [intOf]; omega
    · have hkn : k = l.length := by omega
      subst hkn
      rw [List.take_length]
      go_wp2
      go_ret
      exact ⟨rfl, Below.refl _ _⟩

set_option maxHeartbeats 800000 in
theorem loader_any (A : Option Addr) (n c : Nat) (B : Option Addr) (m d : Nat) (s : Int) (w : World) (hn : n ≤ 7) (hc : n ≤ c) (hcc : c ≤ 9223372036854775807) :
    Calls Try.prog 100 #[.agg #[.slice A n c, .slice B m d, .int .i64 s]] w fun e w' => ∃ g, e = .returned (loadFn g) ∧ w.heap.size ≤ g ∧ Whole w' g 22 #[.slice A n n] ∧ Below w.heap.size w w' := by
  go_enter Try.func100, Try.ntmps100
  go_wp2
  go_ret
  have hW := Whole.fresh (w.alloc (.cells #[.slice A n c, .slice B m d, .int .i64 s] 57)) 22 #[.slice A n n]
  simp only [World.size_alloc] at hW
  first
    | exact ⟨_, rfl, by omega, hW, below2 w _ _⟩
end Go.Proofs.Ytlpeimlbpiofkaa

namespace Go.Proofs.Ytlpeimlbpiofkaa
open Go.RowKit

theorem stepsUp_ge {l : List Int} {hi : Int} (hs : StepsTo l hi l.length) : ∀ k, k < l.length → (k : Int) ≤ l.getD k 0
  | 0, h => (hs 0 h).1
  | k + 1, h => by
    have h1 := stepsUp_ge hs k (by omega)
    rcases (hs (k + 1) h).2.2 with h2 | h2
    · omega
    · rw [Nat.add_sub_cancel] at h2; omega
theorem stepsUp_short {l : List Int} {n : Nat} (hs : StepsTo l ((n : Int) - 1) l.length) : l.length ≤ n := by
  by_cases h0 : l.length = 0
  · omega
  · have h1 := stepsUp_ge hs (l.length - 1) (by omega)
    have h2 := (hs (l.length - 1) (by omega)).2.1
    omega
theorem rising_short {l : List Int} {n : Nat} (h : rising l ((n : Int) - 1) = true) : l.length ≤ n := stepsUp_short (rising_steps h)
theorem rising_in {l : List Int} {n : Nat} (h : rising l ((n : Int) - 1) = true) : ∀ y ∈ l, 0 ≤ y ∧ y < n := fun y hy => by
  have := mem_steps (rising_steps h) hy; omega
theorem rising_nil (hi : Int) : rising [] hi = true := rising_yes (StepsTo.start _ _) (by simp)

/-- Can a load be told? -/
noncomputable def loadOk (xs : List Int) (m : Nat) (s : Int) (l : List Int) : Bool := isCrew xs m s && rising l ((xs.length : Int) - 1)
noncomputable def loadRes (xs : List Int) (m : Nat) (s : Int) (l : List Int) : Int := if loadOk xs m s l then loadOf xs l else 0
theorem loadOk_no {xs : List Int} {m : Nat} {s : Int} {l : List Int} (h : isCrew xs m s = false) : loadOk xs m s l = false := by simp [loadOk, h]
theorem loadOk_fall {xs : List Int} {m : Nat} {s : Int} {l : List Int} (h : rising l ((xs.length : Int) - 1) = false) : loadOk xs m s l = false := by simp [loadOk, h]
theorem loadOk_yes {xs : List Int} {m : Nat} {s : Int} {l : List Int} (h : isCrew xs m s = true) (h2 : rising l ((xs.length : Int) - 1) = true) : loadOk xs m s l = true := by simp [loadOk, h, h2]
theorem loadRes_no {xs : List Int} {m : Nat} {s : Int} {l : List Int} (h : loadOk xs m s l = false) : loadRes xs m s l = 0 := by simp [loadRes, h]
theorem loadRes_yes {xs : List Int} {m : Nat} {s : Int} {l : List Int} (h : loadOk xs m s l = true) : loadRes xs m s l = loadOf xs l := by simp [loadRes, h]

end Go.Proofs.Ytlpeimlbpiofkaa

namespace Go.Proofs.Ytlpeimlbpiofkaa
open Go.RowKit

/-- Two places compared. -/
def sameEight (v0 v1 v2 v3 v4 v5 v6 v7 u0 u1 u2 u3 u4 u5 u6 u7 : Bool) : Bool := v0 == u0 && v1 == u1 && v2 == u2 && v3 == u3 && v4 == u4 && v5 == u5 && v6 == u6 && v7 == u7
def samePlace (v0 v1 v2 v3 v4 v5 v6 v7 v8 u0 u1 u2 u3 u4 u5 u6 u7 u8 : Bool) : Bool := sameEight v0 v1 v2 v3 v4 v5 v6 v7 u0 u1 u2 u3 u4 u5 u6 u7 && v8 == u8
set_option maxHeartbeats 1600000 in
theorem eight_eq (v0 v1 v2 v3 v4 v5 v6 v7 u0 u1 u2 u3 u4 u5 u6 u7 : Bool) (w : World) : (Op.equalIn 9998 71 (.agg #[.bool v0, .bool v1, .bool v2, .bool v3, .bool v4, .bool v5, .bool v6, .bool v7]) (.agg #[.bool u0, .bool u1, .bool u2, .bool u3, .bool u4, .bool u5, .bool u6, .bool u7])).run Try.prog w = .ok (sameEight v0 v1 v2 v3 v4 v5 v6 v7 u0 u1 u2 u3 u4 u5 u6 u7) w := by
  unfold sameEight
  have uB := Try.underlying4
  have aB := Try.isAgg4
  have zB := Try.sizeOf4
  rw [show (9998 : Nat) = 9997 + 1 from rfl, Op.equalIn]
  simp only [Sem.run_bind, run_underlying Try.underlying71, Result.andThen_ok]
  simp only [Std.Legacy.Range.forIn_eq_forIn_range', Std.Legacy.Range.size, Nat.sub_zero, Nat.add_sub_cancel, Nat.div_one, List.range'_succ, List.range'_zero, List.forIn_cons, List.forIn_nil]
  go_simp
  by_cases h0 : v0 = u0
  case neg => simp [h0]
  case pos =>
    subst h0
    by_cases h1 : v1 = u1
    case neg => simp [h1]
    case pos =>
      subst h1
      by_cases h2 : v2 = u2
      case neg => simp [h2]
      case pos =>
        subst h2
        by_cases h3 : v3 = u3
        case neg => simp [h3]
        case pos =>
          subst h3
          by_cases h4 : v4 = u4
          case neg => simp [h4]
          case pos =>
            subst h4
            by_cases h5 : v5 = u5
            case neg => simp [h5]
            case pos =>
              subst h5
              by_cases h6 : v6 = u6
              case neg => simp [h6]
              case pos =>
                subst h6
                by_cases h7 : v7 = u7
                case neg => simp [h7]
                case pos =>
                  subst h7
                  simp
set_option maxHeartbeats 1600000 in
@[go_sem high] theorem place_eq (v0 v1 v2 v3 v4 v5 v6 v7 v8 u0 u1 u2 u3 u4 u5 u6 u7 u8 : Bool) (w : World) : (Op.equalIn 10000 75 (.agg #[.bool v0, .bool v1, .bool v2, .bool v3, .bool v4, .bool v5, .bool v6, .bool v7, .bool v8]) (.agg #[.bool u0, .bool u1, .bool u2, .bool u3, .bool u4, .bool u5, .bool u6, .bool u7, .bool u8])).run Try.prog w = .ok (samePlace v0 v1 v2 v3 v4 v5 v6 v7 v8 u0 u1 u2 u3 u4 u5 u6 u7 u8) w := by
  have h := eight_eq v0 v1 v2 v3 v4 v5 v6 v7 u0 u1 u2 u3 u4 u5 u6 u7
  unfold samePlace
  generalize sameEight v0 v1 v2 v3 v4 v5 v6 v7 u0 u1 u2 u3 u4 u5 u6 u7 = b at h ⊢
  go_simp
  by_cases h8 : v8 = u8 <;> cases b <;> simp [h8]

theorem sameBits_ext {bs cs : List Bool} (hl : bs.length = cs.length) (h8 : bs.length ≤ 8) : sameEight (bs.getD 0 false) (bs.getD 1 false) (bs.getD 2 false) (bs.getD 3 false) (bs.getD 4 false) (bs.getD 5 false) (bs.getD 6 false) (bs.getD 7 false) (cs.getD 0 false) (cs.getD 1 false) (cs.getD 2 false) (cs.getD 3 false) (cs.getD 4 false) (cs.getD 5 false) (cs.getD 6 false) (cs.getD 7 false) = sameBits bs cs := by
  by_cases h : bs = cs
  · subst h
    rw [sameBits_yes rfl]
    simp [sameEight]
  · rw [sameBits_no h]
    cases hs : sameEight (bs.getD 0 false) (bs.getD 1 false) (bs.getD 2 false) (bs.getD 3 false) (bs.getD 4 false) (bs.getD 5 false) (bs.getD 6 false) (bs.getD 7 false) (cs.getD 0 false) (cs.getD 1 false) (cs.getD 2 false) (cs.getD 3 false) (cs.getD 4 false) (cs.getD 5 false) (cs.getD 6 false) (cs.getD 7 false)
    · rfl
    · exfalso
      apply h
      simp only [sameEight, Bool.and_eq_true, beq_iff_eq] at hs
      obtain ⟨⟨⟨⟨⟨⟨⟨e0, e1⟩, e2⟩, e3⟩, e4⟩, e5⟩, e6⟩, e7⟩ := hs
      apply List.ext_getElem hl
      intro i h1 h2
      have g : ∀ (l : List Bool) (h : i < l.length), l[i] = l.getD i false := fun l h => by simp [h]
      rw [g bs h1, g cs h2]
      match i, h1 with
      | 0, _ => exact e0
      | 1, _ => exact e1
      | 2, _ => exact e2
      | 3, _ => exact e3
      | 4, _ => exact e4
      | 5, _ => exact e5
      | 6, _ => exact e6
      | 7, _ => exact e7
      | k + 8, h => omega
end Go.Proofs.Ytlpeimlbpiofkaa

namespace Go.Proofs.Ytlpeimlbpiofkaa
open Go.RowKit

/-- The rides in a place, of some lists. -/
def ridesAt (bs : List Bool) (t : Bool) (ls : List (List Int)) : List (List Int) := ls.filter (fun l => allAt bs t l)
theorem rides_no {j : Nat} {bs : List Bool} {t : Bool} {ls : List (List Int)} (hj : j < ls.length) (h : allAt bs t ls[j] = false) : ridesAt bs t (ls.take (j + 1)) = ridesAt bs t (ls.take j) := by
  rw [List.take_succ_eq_append_getElem hj, ridesAt, List.filter_append, ridesAt]; simp [h]
theorem rides_yes {j : Nat} {bs : List Bool} {t : Bool} {ls : List (List Int)} (hj : j < ls.length) (h : allAt bs t ls[j] = true) : ridesAt bs t (ls.take (j + 1)) = ridesAt bs t (ls.take j) ++ [ls[j]] := by
  rw [List.take_succ_eq_append_getElem hj, ridesAt, List.filter_append, ridesAt]; simp [h]
theorem rides_len (bs : List Bool) (t : Bool) (ls : List (List Int)) : (ridesAt bs t ls).length ≤ ls.length := List.length_filter_le _ _
theorem info_leg : (Try.prog.info? 89).map (fun i => (i.zero, i.size, i.bytes)) = some (some (.agg #[.bool false, .bool false, .bool false, .bool false, .bool false, .bool false, .bool false, .bool false, .int .i64 0]), 9, 16) := by kernel_rfl
/-- The nine cells of a leg. -/
def legCells (T : List Int → Int) (l : List Int) : Array Value := #[.bool (has l 0), .bool (has l 1), .bool (has l 2), .bool (has l 3), .bool (has l 4), .bool (has l 5), .bool (has l 6), .bool (has l 7), .int .i64 (T l)]
def legsCells (T : List Int → Int) (ls : List (List Int)) : List Value := ls.flatMap fun l => (legCells T l).toList
theorem legsCells_snoc (T : List Int → Int) (ls : List (List Int)) (l : List Int) : legsCells T (ls ++ [l]) = legsCells T ls ++ (legCells T l).toList := by simp [legsCells]
theorem legsCells_get (T : List Int → Int) : ∀ (ls : List (List Int)) (i j : Nat) (hi : i < ls.length), j < 9 → (legsCells T ls)[i * 9 + j]? = (legCells T ls[i])[j]?
  | [], i, j, hi, _ => by simp at hi
  | l :: r, 0, j, hi, hj => by
    rw [show legsCells T (l :: r) = (legCells T l).toList ++ legsCells T r from rfl, Nat.zero_mul, Nat.zero_add, List.getElem?_append_left (by simpa [legCells] using hj)]
    simp
  | l :: r, i + 1, j, hi, hj => by
    have ih := legsCells_get T r i j (by simpa using hi) hj
    rw [show legsCells T (l :: r) = (legCells T l).toList ++ legsCells T r from rfl, List.getElem?_append_right (by simp [legCells]; omega)]
    rw [show (i + 1) * 9 + j - (legCells T l).toList.length = i * 9 + j by simp [legCells]; omega]
    simpa using ih
theorem leg_ones (T : List Int → Int) (l : List Int) : ∀ u ∈ (legCells T l).toList, u.oneCell' = true := by
  intro u hu
  simp only [legCells, List.mem_cons, List.not_mem_nil, or_false] at hu
  rcases hu with rfl | rfl | rfl | rfl | rfl | rfl | rfl | rfl | rfl <;> rfl
def Box3 (g : Nat) (x y z : Value) (w : World) : Prop := w.cell? ⟨g, 0, none⟩ = some x ∧ w.cell? ⟨g, 1, none⟩ = some y ∧ w.cell? ⟨g, 2, none⟩ = some z
theorem box3_of {g : Nat} {t : TypeId} {x y z : Value} {w : World} (h1 : Whole w g t #[x, y, z]) : Box3 g x y z w := ⟨h1.cell 0, h1.cell 1, h1.cell 2⟩
/-- What a call hands back that makes a list of legs. -/
def LegsPost (T : List Int → Int) (ls : List (List Int)) (w : World) (e : Ending) (w' : World) : Prop :=
  ∃ (A : Option Addr) (c : Nat), e = .returned (.slice A ls.length c) ∧ w'.ownsRow w.heap.size 89 9 (.slice A ls.length c) ls.length (legsCells T ls) ∧ Below w.heap.size w w'
theorem legs_row {w : World} {lo c : Nat} {A : Option Addr} {T : List Int → Int} {ls : List (List Int)} (h : w.ownsRow lo 89 9 (.slice A ls.length c) ls.length (legsCells T ls)) {i : Nat} (hi : i < ls.length) :
    ∃ g, A = some ⟨g, 0, none⟩ ∧ g < w.heap.size ∧ w.cell? ⟨g, i * 9, none⟩ = some (.bool (has ls[i] 0)) ∧ w.cell? ⟨g, i * 9 + 1, none⟩ = some (.bool (has ls[i] 1)) ∧ w.cell? ⟨g, i * 9 + 2, none⟩ = some (.bool (has ls[i] 2)) ∧ w.cell? ⟨g, i * 9 + 3, none⟩ = some (.bool (has ls[i] 3)) ∧ w.cell? ⟨g, i * 9 + 4, none⟩ = some (.bool (has ls[i] 4)) ∧ w.cell? ⟨g, i * 9 + 5, none⟩ = some (.bool (has ls[i] 5)) ∧ w.cell? ⟨g, i * 9 + 6, none⟩ = some (.bool (has ls[i] 6)) ∧ w.cell? ⟨g, i * 9 + 7, none⟩ = some (.bool (has ls[i] 7)) ∧ w.cell? ⟨g, i * 9 + 8, none⟩ = some (.int .i64 (T ls[i])) := by
  have hx := h
  obtain ⟨-, ⟨-, h0⟩ | ⟨g, cap, cur, hv, -, hh, -⟩⟩ := hx
  · omega
  · obtain ⟨rfl, rfl⟩ : A = some ⟨g, 0, none⟩ ∧ c = cap := by simpa using hv
    have hg : g < w.heap.size := (Array.getElem?_eq_some_iff.1 hh).1
    have hc : ∀ j, j < 9 → w.cell? ⟨g, i * 9 + j, none⟩ = (legCells T ls[i])[j]? := fun j hj => (h.cellAt (i * 9 + j) (by omega)).trans (legsCells_get T ls i j hi hj)
    exact ⟨g, rfl, hg, hc 0 (by omega), hc 1 (by omega), hc 2 (by omega), hc 3 (by omega), hc 4 (by omega), hc 5 (by omega), hc 6 (by omega), hc 7 (by omega), hc 8 (by omega)⟩

end Go.Proofs.Ytlpeimlbpiofkaa

namespace Go.Proofs.Ytlpeimlbpiofkaa
open Go.RowKit

/-- A list of truth values as eight cells. -/
def rowsFn (bs : List Bool) : Nat → Bool := fun i => bs.getD i false
theorem splice_crowd (bs : List Bool) (h : bs.length ≤ 8) : splice (cells8 (fun _ => false)).toList 0 (bits bs) = (cells8 (rowsFn bs)).toList := by
  match bs, h with
  | [], _ => rfl
  | [_], _ => rfl
  | [_, _], _ => rfl
  | [_, _, _], _ => rfl
  | [_, _, _, _], _ => rfl
  | [_, _, _, _, _], _ => rfl
  | [_, _, _, _, _, _], _ => rfl
  | [_, _, _, _, _, _, _], _ => rfl
  | [_, _, _, _, _, _, _, _], _ => rfl
  | _ :: _ :: _ :: _ :: _ :: _ :: _ :: _ :: _ :: _, h => simp at h

set_option maxHeartbeats 1600000 in
theorem rowersOf_any (A : Option Addr) (n c : Nat) (B : Option Addr) (m d : Nat) (bs : List Bool) (s : Int) (w : World) (hB : Holds w B (bits bs)) (hy : bs.length = m) (hm : m ≤ 8) :
    Calls Try.prog 105 #[.agg #[.slice A n c, .slice B m d, .int .i64 s]] w fun e w' => e = .returned (.agg (cells8 (rowsFn bs))) ∧ Below w.heap.size w w' := by
  subst hy
  have HB := hB.alloc (.cells #[.slice A n c, .slice B bs.length d, .int .i64 s] 57)
  go_enter Try.func105, Try.ntmps105
  go_upto_region 2 with fail
  have hres := Whole.fresh (w.alloc (.cells #[.slice A n c, .slice B bs.length d, .int .i64 s] 57)) 73 (cells8 (fun _ => false))
  have hblk := Whole.fresh ((w.alloc (.cells #[.slice A n c, .slice B bs.length d, .int .i64 s] 57)).alloc (.cells (cells8 (fun _ => false)) 73)) 73 (cells8 (fun _ => false))
  simp only [World.size_alloc] at hblk hres
  have hfar := (HB.alloc (.cells (cells8 (fun _ => false)) 73)).alloc (.cells (cells8 (fun _ => false)) 73)
  have hb2 := below2 w (.cells #[.slice A n c, .slice B bs.length d, .int .i64 s] 57) (.cells (cells8 (fun _ => false)) 73)
  have hb3 := below1 ((w.alloc (.cells #[.slice A n c, .slice B bs.length d, .int .i64 s] 57)).alloc (.cells (cells8 (fun _ => false)) 73)) (.cells (cells8 (fun _ => false)) 73)
  simp only [World.size_alloc] at hb3
  have hsrc : 0 < (bits bs).length → (some ⟨w.heap.size + 1 + 1, 0, none⟩ : Option Addr) = some ⟨w.heap.size + 1 + 1, 0, none⟩ ∧ ∃ ad : Addr, B = some ad ∧ ∀ j v, (bits bs)[j]? = some v → (((w.alloc (.cells #[.slice A n c, .slice B bs.length d, .int .i64 s] 57)).alloc (.cells (cells8 (fun _ => false)) 73)).alloc (.cells (cells8 (fun _ => false)) 73)).cell? (ad.add j) = some v := by
    intro h0
    refine ⟨rfl, ?_⟩
    rcases hfar with h | ⟨b, o, hA, hb, hc⟩
    · rw [h] at h0; simp at h0
    · exact ⟨_, hA, fun j v hv => by rw [show (⟨b, o, none⟩ : Addr).add j = ⟨b, o + j, none⟩ from by unfold Addr.add; split <;> simp_all]; exact hc j v hv⟩
  have HSRC := Lib.hid hsrc
  have hbl : (bits bs).length = Nat.min 8 bs.length := by rw [bits_len]; exact (Nat.min_eq_right hm).symm
  have hbl2 : (bits bs).length = Nat.min bs.length 8 := by rw [bits_len]; exact (Nat.min_eq_left hm).symm
  have HBL := Lib.hid hbl2
  have hone : ∀ v ∈ bits bs, v.oneCell' = true := by
    intro v hv
    simp only [bits, List.mem_map] at hv
    obtain ⟨x, -, rfl⟩ := hv
    rfl
  have HONE := Lib.hid hone
  have hfit : 0 + (bits bs).length ≤ (cells8 (fun _ => false)).toList.length := by rw [bits_len]; show 0 + bs.length ≤ 8; omega
  have HFIT := Lib.hid hfit
  clear hsrc hbl hbl2 hone hfit hfar HB
  unfold cells8 at hblk hb3 hres HSRC HFIT
  go_region_law (refine step_copy_splice rfl (.tmp 5) (.tmp 7) 38 38 rfl 4 Try.underlying38 size_bool (some ⟨w.heap.size + 1 + 1, 0, none⟩) B 8 8 bs.length d (by simp [Act.eval]) (by simp [Act.eval]) (w.heap.size + 1 + 1) 0 _ 73 (by exact hblk.drew) (bits bs) HBL.out (by exact HSRC.out) HFIT.out HONE.out (w.heap.size + 1 + 1) _ (by exact hb3.drew) (Nat.le_refl _) ?_; intro w' hw' hb')
  have hq : Whole w' (w.heap.size + 1 + 1) 73 (cells8 (rowsFn bs)) := by
    have h := hw'.out
    have h2 := splice_crowd bs hm
    unfold cells8 at h2
    rw [h2] at h
    exact h
  have hr := hres.below' hb' (by omega)
  obtain ⟨a0, a1, a2, a3, a4, a5, a6, a7⟩ := cells8_cells hq
  have hr2 : Whole w' (w.heap.size + 1) 73 (cells8 (fun _ => false)) := hr
  obtain ⟨r0, r1, r2, r3, r4, r5, r6, r7⟩ := cells8_cells hr2
  obtain ⟨f0, f1, f2, f3, f4, f5, f6, f7, f8⟩ := place_open hr
  have hlt1 := hr.lt
  have hbw : Below w.heap.size w w' := below_then hb2 (by simpa [cells8] using hb') (by simp; omega)
  clear hw' hblk hres hb3 HSRC HBL HONE HFIT hq hr2
  go_wp2
  refine bodyPost_ret (v := .agg (cells8 (rowsFn bs))) (by simp [results, Try.results105, go_sem, r0, r1, r2, r3, r4, r5, r6, r7, cells8]) rfl ⟨rfl, ?_⟩
  exact below_set (below_set (below_set (below_set (below_set (below_set (below_set (below_set hbw (by omega)) (by omega)) (by omega)) (by omega)) (by omega)) (by omega)) (by omega)) (by omega)
end Go.Proofs.Ytlpeimlbpiofkaa

namespace Go.Proofs.Ytlpeimlbpiofkaa
open Go.RowKit

set_option maxHeartbeats 1600000 in
@[go_sem high] theorem eight_eq_top (v0 v1 v2 v3 v4 v5 v6 v7 u0 u1 u2 u3 u4 u5 u6 u7 : Bool) (w : World) : (Op.equalIn 10000 71 (.agg #[.bool v0, .bool v1, .bool v2, .bool v3, .bool v4, .bool v5, .bool v6, .bool v7]) (.agg #[.bool u0, .bool u1, .bool u2, .bool u3, .bool u4, .bool u5, .bool u6, .bool u7])).run Try.prog w = .ok (sameEight v0 v1 v2 v3 v4 v5 v6 v7 u0 u1 u2 u3 u4 u5 u6 u7) w := by
  unfold sameEight
  have uB := Try.underlying4
  have aB := Try.isAgg4
  have zB := Try.sizeOf4
  rw [show (10000 : Nat) = 9999 + 1 from rfl, Op.equalIn]
  simp only [Sem.run_bind, run_underlying Try.underlying71, Result.andThen_ok]
  simp only [Std.Legacy.Range.forIn_eq_forIn_range', Std.Legacy.Range.size, Nat.sub_zero, Nat.add_sub_cancel, Nat.div_one, List.range'_succ, List.range'_zero, List.forIn_cons, List.forIn_nil]
  go_simp
  by_cases h0 : v0 = u0
  case neg => simp [h0]
  by_cases h1 : v1 = u1
  case neg => simp [h0, h1]
  by_cases h2 : v2 = u2
  case neg => simp [h0, h1, h2]
  by_cases h3 : v3 = u3
  case neg => simp [h0, h1, h2, h3]
  by_cases h4 : v4 = u4
  case neg => simp [h0, h1, h2, h3, h4]
  by_cases h5 : v5 = u5
  case neg => simp [h0, h1, h2, h3, h4, h5]
  by_cases h6 : v6 = u6
  case neg => simp [h0, h1, h2, h3, h4, h5, h6]
  by_cases h7 : v7 = u7
  case neg => simp [h0, h1, h2, h3, h4, h5, h6, h7]
  simp [h0, h1, h2, h3, h4, h5, h6, h7]

/-- Can one of these people row? -/
def canRow (bs : List Bool) (l : List Int) : Bool := l.any fun k => bs.getD k.toNat false
/-- Is a list of people a ride somewhere? -/
def legOk (xs : List Int) (bs : List Bool) (s : Int) (l : List Int) : Bool := canRow bs l && decide (loadOf xs l ≤ s)
/-- All rides of a crew among some lists. -/
def legsIn (xs : List Int) (bs : List Bool) (s : Int) (ls : List (List Int)) : List (List Int) := ls.filter (legOk xs bs s)
def crewLists (xs : List Int) (bs : List Bool) (s : Int) : List (List Int) := legsIn xs bs s (upLists xs.length xs.length)
theorem legs_no {xs : List Int} {bs : List Bool} {s : Int} {ls : List (List Int)} {j : Nat} (hj : j < ls.length) (h : legOk xs bs s ls[j] = false) : legsIn xs bs s (ls.take (j + 1)) = legsIn xs bs s (ls.take j) := by
  rw [List.take_succ_eq_append_getElem hj, legsIn, List.filter_append, legsIn]; simp [h]
theorem legs_yes {xs : List Int} {bs : List Bool} {s : Int} {ls : List (List Int)} {j : Nat} (hj : j < ls.length) (h : legOk xs bs s ls[j] = true) : legsIn xs bs s (ls.take (j + 1)) = legsIn xs bs s (ls.take j) ++ [ls[j]] := by
  rw [List.take_succ_eq_append_getElem hj, legsIn, List.filter_append, legsIn]; simp [h]
theorem legs_len (xs : List Int) (bs : List Bool) (s : Int) (ls : List (List Int)) : (legsIn xs bs s ls).length ≤ ls.length := List.length_filter_le _ _
/-- Nobody goes ashore with the rowers where nobody can row. -/
theorem ashore {bs : List Bool} {l : List Int} (hl : ∀ x ∈ l, 0 ≤ x ∧ x < 8) :
    sameEight (has l 0 && !rowsFn bs 0) (has l 1 && !rowsFn bs 1) (has l 2 && !rowsFn bs 2) (has l 3 && !rowsFn bs 3) (has l 4 && !rowsFn bs 4) (has l 5 && !rowsFn bs 5) (has l 6 && !rowsFn bs 6) (has l 7 && !rowsFn bs 7) (has l 0) (has l 1) (has l 2) (has l 3) (has l 4) (has l 5) (has l 6) (has l 7) = !canRow bs l := by
  have key : ∀ a b : Bool, ((a && !b) == a) = !(a && b) := by decide
  simp only [sameEight, key]
  cases hc : canRow bs l
  · have h0 : ∀ i, i < 8 → (has l i && rowsFn bs i) = false := fun i _ => by
      cases hh : has l i
      · rfl
      · have h1 := has_iff.1 hh
        rw [canRow, List.any_eq_false] at hc
        have h2 := hc _ h1
        simpa [rowsFn] using h2
    rw [h0 0 (by omega), h0 1 (by omega), h0 2 (by omega), h0 3 (by omega), h0 4 (by omega), h0 5 (by omega), h0 6 (by omega), h0 7 (by omega)]
    rfl
  · rw [canRow, List.any_eq_true] at hc
    obtain ⟨x, hx, hr⟩ := hc
    obtain ⟨h0, h8⟩ := hl x hx
    obtain ⟨i, rfl⟩ := Int.eq_ofNat_of_zero_le h0
    have h1 : (has l i && rowsFn bs i) = true := by rw [has_iff.2 hx, rowsFn]; simpa using hr
    have h9 : i = 0 ∨ i = 1 ∨ i = 2 ∨ i = 3 ∨ i = 4 ∨ i = 5 ∨ i = 6 ∨ i = 7 := by omega
    rcases h9 with rfl | rfl | rfl | rfl | rfl | rfl | rfl | rfl <;> rw [h1] <;> simp

end Go.Proofs.Ytlpeimlbpiofkaa

namespace Go.Proofs.Ytlpeimlbpiofkaa
open Go.RowKit

/-- What stands behind the first statement. -/
def LegsCut (w : World) (A B : Option Addr) (n kA m d : Nat) (s : Int) (bs : List Bool) (s3 s4 : Value) (wx : World) : Prop :=
  ∃ gl h : Nat, s3 = loadFn gl ∧ s4 = .pointer (some ⟨h, 0, none⟩) ∧ Whole wx gl 22 #[.slice A n n] ∧ Whole wx h 73 (cells8 (rowsFn bs)) ∧ Whole wx w.heap.size 57 #[.slice A n kA, .slice B m d, .int .i64 s] ∧ Below w.heap.size w wx

set_option maxHeartbeats 12800000 in
set_option maxRecDepth 100000 in
set_option linter.unusedSimpArgs false in
set_option linter.unusedVariables false in
theorem crewLegsC_any (A : Option Addr) (n kA : Nat) (B : Option Addr) (m d : Nat) (xs : List Int) (bs : List Bool) (s : Int) (w : World) (hA : Holds w A (nums xs)) (hB : Holds w B (bits bs)) (hx : xs.length = n) (hy : bs.length = m) (h1 : 1 ≤ n) (hn7 : n ≤ 7) (hm8 : m ≤ 8) (hw : ∀ y ∈ xs, 1 ≤ y ∧ y ≤ 500) (hkA : n ≤ kA) (hkB : kA ≤ 9223372036854775807) :
    Calls Try.prog 130 #[.agg #[.slice A n kA, .slice B m d, .int .i64 s]] w (LegsPost (loadOf xs) (crewLists xs bs s) w) := by
  obtain ⟨i0, hi, hz0, hz1, hz2⟩ := info_parts info_leg
  have HI := Lib.hid hi
  have HZ0 := Lib.hid hz0
  have HZ1 := Lib.hid hz1
  have HZ2 := Lib.hid hz2
  have HX := Lib.hid hx
  have HY := Lib.hid hy
  have HW := Lib.hid hw
  have HSM := Lib.hid (upLists_small (n := n) (m := n) (by omega))
  have HUP : Hid (∀ l ∈ upLists n n, StepsTo l ((n : Int) - 1) l.length ∧ 1 ≤ l.length ∧ l.length ≤ n) := fun l h => up_steps h
  have HCL : Hid (crewLists xs bs s = legsIn xs bs s (upLists n n)) := by show _ = _; rw [crewLists, hx]
  clear hi hz0 hz1 hz2 hx hy hw
  have hcur := Whole.fresh w 57 #[.slice A n kA, .slice B m d, .int .i64 s]
  have ht := below1 w (.cells #[.slice A n kA, .slice B m d, .int .i64 s] 57)
  go_enter Try.func130, Try.ntmps130
  go_upto_region 1 with fail
  go_cut [3, 4] (fun s3 s4 wx => LegsCut w A B n kA m d s bs s3 s4 wx)
  case first =>
    go_wp2_with fail
    refine wp_region_held_drew (S := (Box3 w.heap.size (.slice A n kA) (.slice B m d) (.int .i64 s))) (by kernel_rfl) (box3_of hcur.drew) (fun hHeld => ?_)
    replace hcur := hcur.drew
    replace ht := ht.drew
    generalize World.drew (World.alloc w (.cells #[.slice A n kA, .slice B m d, .int .i64 s] 57)) = w0 at hcur ht hHeld ⊢
    refine wpAnyH_take (i := 0) (v := ?_) rfl (by kernel_rfl) (by kernel_rfl) (by kernel_rfl) (fun _ _ _ h => h) (Or.inl ⟨rfl, ?_⟩) hHeld ?_
    rotate_left
    · intro w' hS; obtain ⟨s0, s1, s2⟩ := hS; go_simp <;> with_reducible rfl
    simp only [Act.put, List.getElem_toArray, List.getElem_cons_succ, List.getElem_cons_zero, List.setIfInBounds_toArray, List.set_cons_succ, List.set_cons_zero]
    refine wpAnyH_take (i := 2) (v := ?_) rfl (by kernel_rfl) (by kernel_rfl) (by kernel_rfl) (fun _ _ _ h => h) (Or.inl ⟨rfl, ?_⟩) hHeld ?_
    rotate_left
    · intro w' hS; obtain ⟨s0, s1, s2⟩ := hS; go_simp <;> with_reducible rfl
    simp only [Act.put, List.getElem_toArray, List.getElem_cons_succ, List.getElem_cons_zero, List.setIfInBounds_toArray, List.set_cons_succ, List.set_cons_zero]
    refine wpAnyH_ready (rs := [1, 4]) (by kernel_rfl) (by simp) (AllReadyH.cons rfl (fun K hK => ?_) (AllReadyH.cons rfl (fun K hK => ?_) AllReadyH.nil))
    · go_simp
      refine (loader_any A n kA B m d s _ hn7 hkA hkB).mono ?_
      rintro e wzl ⟨gl, rfl, hgl, hld, hb⟩
      have hgl0 := hgl
      replace hcur := hcur.below hb
      replace ht := below_then ht hb ht.size
      clear hb hgl
      refine hK.out _ _ (box3_of hcur) (fun hHeld => ?_)
      clear hK K
      try simp only [Act.put, List.getElem_toArray, List.getElem_cons_succ, List.getElem_cons_zero, List.setIfInBounds_toArray, List.set_cons_succ, List.set_cons_zero]
      refine wpAnyH_ready (rs := [3, 4]) (by kernel_rfl) (by simp) (AllReadyH.cons rfl (fun K hK => ?_) (AllReadyH.cons rfl (fun K hK => ?_) AllReadyH.nil))
      · go_simp
        refine (rowersOf_any A n kA B m d bs s _ (by exact hB.below ht) HY.out hm8).mono ?_
        rintro e wzlr ⟨rfl, hb⟩
        replace hcur := hcur.below hb
        replace hld := hld.below hb
        replace ht := below_then ht hb ht.size
        clear hb
        refine hK.out _ _ (box3_of hcur) (fun hHeld => ?_)
        clear hK K
        try simp only [Act.put, List.getElem_toArray, List.getElem_cons_succ, List.getElem_cons_zero, List.setIfInBounds_toArray, List.set_cons_succ, List.set_cons_zero]
        refine wpAnyH_ready (rs := [4]) (by kernel_rfl) (by simp) (AllReadyH.cons rfl (fun K hK => ?_) AllReadyH.nil)
        go_simp
        have HLA := Lib.hid ht.size
        have hro := Whole.fresh wzlr 73 #[.bool false, .bool false, .bool false, .bool false, .bool false, .bool false, .bool false, .bool false]
        have hnehcur := hcur.lt
        have hnehld := hld.lt
        replace hcur := hcur.alloc (.cells #[.bool false, .bool false, .bool false, .bool false, .bool false, .bool false, .bool false, .bool false] 73)
        replace hld := hld.alloc (.cells #[.bool false, .bool false, .bool false, .bool false, .bool false, .bool false, .bool false, .bool false] 73)
        replace ht := ht.alloc ht.size (.cells #[.bool false, .bool false, .bool false, .bool false, .bool false, .bool false, .bool false, .bool false] 73)
        have hnsz := World.size_alloc wzlr (.cells #[.bool false, .bool false, .bool false, .bool false, .bool false, .bool false, .bool false, .bool false] 73)
        generalize World.alloc wzlr (.cells #[.bool false, .bool false, .bool false, .bool false, .bool false, .bool false, .bool false, .bool false] 73) = wzlra at hcur hld ht hro hnsz ⊢
        refine hK.out _ _ (box3_of hcur) (fun hHeld => ?_)
        clear hK K
        try simp only [Act.put, List.getElem_toArray, List.getElem_cons_succ, List.getElem_cons_zero, List.setIfInBounds_toArray, List.set_cons_succ, List.set_cons_zero]
        refine wpAnyH_take (i := 5) (v := ?_) rfl (by kernel_rfl) (by kernel_rfl) (by kernel_rfl) (fun _ _ _ h => h) (Or.inl ⟨rfl, ?_⟩) hHeld ?_
        rotate_left
        · intro w' hS; obtain ⟨s0, s1, s2⟩ := hS; go_simp <;> with_reducible rfl
        simp only [Act.put, List.getElem_toArray, List.getElem_cons_succ, List.getElem_cons_zero, List.setIfInBounds_toArray, List.set_cons_succ, List.set_cons_zero]
        refine wpAnyH_ready (rs := [6]) (by kernel_rfl) (by simp) (AllReadyH.cons rfl (fun K hK => ?_) AllReadyH.nil)
        refine wp_store_row 73 (.tmp 4) (.tmp 12) rfl wzlr.heap.size (cells8 (rowsFn bs)) rfl rfl 73 #[.bool false, .bool false, .bool false, .bool false, .bool false, .bool false, .bool false, .bool false] hro size_crowd8 rfl (by simp [cells8, Value.oneCell']) ?_
        have ho := only_setRow wzlra wzlr.heap.size (cells8 (rowsFn bs))
        replace hro := whole_setRow (cells8 (rowsFn bs)) hro
        replace hcur := ho.whole hcur (by first | omega | exact whole_ne hcur (by assumption) (by decide))
        replace hld := ho.whole hld (by first | omega | exact whole_ne hld (by assumption) (by decide))
        replace ht := ho.below ht (by have := HLA.out; omega)
        generalize World.setRow wzlra wzlr.heap.size (cells8 (rowsFn bs)) = wzlras at hro ht hcur hld ho ⊢
        clear ho
        refine hK.out _ _ (box3_of hcur) (fun hHeld => ?_)
        clear hK K
        try simp only [Act.put, List.getElem_toArray, List.getElem_cons_succ, List.getElem_cons_zero, List.setIfInBounds_toArray, List.set_cons_succ, List.set_cons_zero]
        refine wpAnyH_done (by kernel_rfl) ?_ _
        clear hHeld
        go_wp2_with fail
        go_meet
        exact ⟨gl, wzlr.heap.size, rfl, rfl, hld, hro, hcur, ht⟩
      · go_simp
        have HLA := Lib.hid ht.size
        have hro := Whole.fresh wzl 73 #[.bool false, .bool false, .bool false, .bool false, .bool false, .bool false, .bool false, .bool false]
        have hnehcur := hcur.lt
        have hnehld := hld.lt
        replace hcur := hcur.alloc (.cells #[.bool false, .bool false, .bool false, .bool false, .bool false, .bool false, .bool false, .bool false] 73)
        replace hld := hld.alloc (.cells #[.bool false, .bool false, .bool false, .bool false, .bool false, .bool false, .bool false, .bool false] 73)
        replace ht := ht.alloc ht.size (.cells #[.bool false, .bool false, .bool false, .bool false, .bool false, .bool false, .bool false, .bool false] 73)
        have hnsz := World.size_alloc wzl (.cells #[.bool false, .bool false, .bool false, .bool false, .bool false, .bool false, .bool false, .bool false] 73)
        generalize World.alloc wzl (.cells #[.bool false, .bool false, .bool false, .bool false, .bool false, .bool false, .bool false, .bool false] 73) = wzla at hcur hld ht hro hnsz ⊢
        refine hK.out _ _ (box3_of hcur) (fun hHeld => ?_)
        clear hK K
        try simp only [Act.put, List.getElem_toArray, List.getElem_cons_succ, List.getElem_cons_zero, List.setIfInBounds_toArray, List.set_cons_succ, List.set_cons_zero]
        refine wpAnyH_ready (rs := [3]) (by kernel_rfl) (by simp) (AllReadyH.cons rfl (fun K hK => ?_) AllReadyH.nil)
        go_simp
        refine (rowersOf_any A n kA B m d bs s _ (by exact hB.below ht) HY.out hm8).mono ?_
        rintro e wzlar ⟨rfl, hb⟩
        replace hcur := hcur.below hb
        replace hld := hld.below hb
        replace hro := hro.below hb
        replace ht := below_then ht hb ht.size
        clear hb
        refine hK.out _ _ (box3_of hcur) (fun hHeld => ?_)
        clear hK K
        try simp only [Act.put, List.getElem_toArray, List.getElem_cons_succ, List.getElem_cons_zero, List.setIfInBounds_toArray, List.set_cons_succ, List.set_cons_zero]
        refine wpAnyH_take (i := 5) (v := ?_) rfl (by kernel_rfl) (by kernel_rfl) (by kernel_rfl) (fun _ _ _ h => h) (Or.inl ⟨rfl, ?_⟩) hHeld ?_
        rotate_left
        · intro w' hS; obtain ⟨s0, s1, s2⟩ := hS; go_simp <;> with_reducible rfl
        simp only [Act.put, List.getElem_toArray, List.getElem_cons_succ, List.getElem_cons_zero, List.setIfInBounds_toArray, List.set_cons_succ, List.set_cons_zero]
        refine wpAnyH_ready (rs := [6]) (by kernel_rfl) (by simp) (AllReadyH.cons rfl (fun K hK => ?_) AllReadyH.nil)
        refine wp_store_row 73 (.tmp 4) (.tmp 12) rfl wzl.heap.size (cells8 (rowsFn bs)) rfl rfl 73 #[.bool false, .bool false, .bool false, .bool false, .bool false, .bool false, .bool false, .bool false] hro size_crowd8 rfl (by simp [cells8, Value.oneCell']) ?_
        have ho := only_setRow wzlar wzl.heap.size (cells8 (rowsFn bs))
        replace hro := whole_setRow (cells8 (rowsFn bs)) hro
        replace hcur := ho.whole hcur (by first | omega | exact whole_ne hcur (by assumption) (by decide))
        replace hld := ho.whole hld (by first | omega | exact whole_ne hld (by assumption) (by decide))
        replace ht := ho.below ht (by have := HLA.out; omega)
        generalize World.setRow wzlar wzl.heap.size (cells8 (rowsFn bs)) = wzlars at hro ht hcur hld ho ⊢
        clear ho
        refine hK.out _ _ (box3_of hcur) (fun hHeld => ?_)
        clear hK K
        try simp only [Act.put, List.getElem_toArray, List.getElem_cons_succ, List.getElem_cons_zero, List.setIfInBounds_toArray, List.set_cons_succ, List.set_cons_zero]
        refine wpAnyH_done (by kernel_rfl) ?_ _
        clear hHeld
        go_wp2_with fail
        go_meet
        exact ⟨gl, wzl.heap.size, rfl, rfl, hld, hro, hcur, ht⟩
    · go_simp
      have HLA := Lib.hid ht.size
      have hro := Whole.fresh w0 73 #[.bool false, .bool false, .bool false, .bool false, .bool false, .bool false, .bool false, .bool false]
      have hnehcur := hcur.lt
      replace hcur := hcur.alloc (.cells #[.bool false, .bool false, .bool false, .bool false, .bool false, .bool false, .bool false, .bool false] 73)
      replace ht := ht.alloc ht.size (.cells #[.bool false, .bool false, .bool false, .bool false, .bool false, .bool false, .bool false, .bool false] 73)
      have hnsz := World.size_alloc w0 (.cells #[.bool false, .bool false, .bool false, .bool false, .bool false, .bool false, .bool false, .bool false] 73)
      generalize World.alloc w0 (.cells #[.bool false, .bool false, .bool false, .bool false, .bool false, .bool false, .bool false, .bool false] 73) = wza at hcur ht hro hnsz ⊢
      refine hK.out _ _ (box3_of hcur) (fun hHeld => ?_)
      clear hK K
      try simp only [Act.put, List.getElem_toArray, List.getElem_cons_succ, List.getElem_cons_zero, List.setIfInBounds_toArray, List.set_cons_succ, List.set_cons_zero]
      refine wpAnyH_ready (rs := [1]) (by kernel_rfl) (by simp) (AllReadyH.cons rfl (fun K hK => ?_) AllReadyH.nil)
      go_simp
      refine (loader_any A n kA B m d s _ hn7 hkA hkB).mono ?_
      rintro e wzal ⟨gl, rfl, hgl, hld, hb⟩
      have hgl0 := hgl
      replace hcur := hcur.below hb
      replace hro := hro.below hb
      replace ht := below_then ht hb ht.size
      clear hb hgl
      refine hK.out _ _ (box3_of hcur) (fun hHeld => ?_)
      clear hK K
      try simp only [Act.put, List.getElem_toArray, List.getElem_cons_succ, List.getElem_cons_zero, List.setIfInBounds_toArray, List.set_cons_succ, List.set_cons_zero]
      refine wpAnyH_ready (rs := [3]) (by kernel_rfl) (by simp) (AllReadyH.cons rfl (fun K hK => ?_) AllReadyH.nil)
      go_simp
      refine (rowersOf_any A n kA B m d bs s _ (by exact hB.below ht) HY.out hm8).mono ?_
      rintro e wzalr ⟨rfl, hb⟩
      replace hcur := hcur.below hb
      replace hld := hld.below hb
      replace hro := hro.below hb
      replace ht := below_then ht hb ht.size
      clear hb
      refine hK.out _ _ (box3_of hcur) (fun hHeld => ?_)
      clear hK K
      try simp only [Act.put, List.getElem_toArray, List.getElem_cons_succ, List.getElem_cons_zero, List.setIfInBounds_toArray, List.set_cons_succ, List.set_cons_zero]
      refine wpAnyH_take (i := 5) (v := ?_) rfl (by kernel_rfl) (by kernel_rfl) (by kernel_rfl) (fun _ _ _ h => h) (Or.inl ⟨rfl, ?_⟩) hHeld ?_
      rotate_left
      · intro w' hS; obtain ⟨s0, s1, s2⟩ := hS; go_simp <;> with_reducible rfl
      simp only [Act.put, List.getElem_toArray, List.getElem_cons_succ, List.getElem_cons_zero, List.setIfInBounds_toArray, List.set_cons_succ, List.set_cons_zero]
      refine wpAnyH_ready (rs := [6]) (by kernel_rfl) (by simp) (AllReadyH.cons rfl (fun K hK => ?_) AllReadyH.nil)
      refine wp_store_row 73 (.tmp 4) (.tmp 12) rfl w0.heap.size (cells8 (rowsFn bs)) rfl rfl 73 #[.bool false, .bool false, .bool false, .bool false, .bool false, .bool false, .bool false, .bool false] hro size_crowd8 rfl (by simp [cells8, Value.oneCell']) ?_
      have ho := only_setRow wzalr w0.heap.size (cells8 (rowsFn bs))
      replace hro := whole_setRow (cells8 (rowsFn bs)) hro
      replace hcur := ho.whole hcur (by first | omega | exact whole_ne hcur (by assumption) (by decide))
      replace hld := ho.whole hld (by first | omega | exact whole_ne hld (by assumption) (by decide))
      replace ht := ho.below ht (by have := HLA.out; omega)
      generalize World.setRow wzalr w0.heap.size (cells8 (rowsFn bs)) = wzalrs at hro ht hcur hld ho ⊢
      clear ho
      refine hK.out _ _ (box3_of hcur) (fun hHeld => ?_)
      clear hK K
      try simp only [Act.put, List.getElem_toArray, List.getElem_cons_succ, List.getElem_cons_zero, List.setIfInBounds_toArray, List.set_cons_succ, List.set_cons_zero]
      refine wpAnyH_done (by kernel_rfl) ?_ _
      clear hHeld
      go_wp2_with fail
      go_meet
      exact ⟨gl, w0.heap.size, rfl, rfl, hld, hro, hcur, ht⟩
  obtain ⟨w1, rfl⟩ : ∃ W : World, W = wc := ⟨_, rfl⟩
  obtain ⟨gl, h, rfl, rfl, hld, hro, hcu, hbc⟩ := hcut
  clear hcur ht
  unfold loadFn
  obtain ⟨c0, c1, c2⟩ := hcu.cells3
  have hlw := hcu.lt
  go_wp2_with fail
  refine (crowdsUpTo_any n n w1 (by omega) (by omega)).mono ?_
  rintro e w3 ⟨E, c, rfl, hown, hb⟩
  generalize hls : upLists n n = ls at HSM HUP HCL hown
  have HC1 := Lib.hid (hcu.below hb)
  have HL1 := Lib.hid (hld.below hb)
  have HR1 := Lib.hid (hro.below hb)
  have HT1 := Lib.hid (below_then hbc hb hbc.size)
  have HS0 := Lib.hid hown
  have HW03 : Hid (w.heap.size ≤ w3.heap.size) := HT1.out.size
  have hhl := (hro.below hb).lt
  have hgll := (hld.below hb).lt
  have hwl := (hcu.below hb).lt
  have hl := HSM.out
  clear hb hown hld hro hcu hbc c0 c1 c2 hls hlw
  go_wp2_with fail
  go_loopw [5, 21] (fun v i wr => ∃ (j : Nat) (T : Option Addr) (r : Nat), j ≤ ls.length ∧ i = .int .i64 j ∧ v = .slice T (legsIn xs bs s (ls.take j)).length r ∧ Whole wr w.heap.size 57 #[.slice A n kA, .slice B m d, .int .i64 s] ∧ Whole wr gl 22 #[.slice A n n] ∧ Whole wr h 73 (cells8 (rowsFn bs)) ∧ wr.ownsRow w1.heap.size 73 8 (.slice E ls.length c) ls.length (crowdsOf ls) ∧ wr.ownsRow w3.heap.size 89 9 (.slice T (legsIn xs bs s (ls.take j)).length r) (legsIn xs bs s (ls.take j)).length (legsCells (loadOf xs) (legsIn xs bs s (ls.take j))) ∧ Below w.heap.size w wr ∧ w3.heap.size ≤ wr.heap.size) (fun _ i _ => ls.length - (intOf i).toNat)
  case atStart => exact ⟨0, none, 0, Nat.zero_le _, rfl, rfl, HC1.out, HL1.out, HR1.out, HS0.out, World.ownsRow_nil _ _ _ _, HT1.out, Nat.le_refl _⟩
  case round =>
    clear HC1 HL1 HR1 HT1
    obtain ⟨j, T, r, hj, rfl, rfl, hC, hL, hR, hS, hO, ht, hws⟩ := hrel
    have hgl := legs_len xs bs s (ls.take j)
    have htk : (ls.take j).length ≤ 255 := by rw [List.length_take]; omega
    by_cases hlt : j < ls.length
    · obtain ⟨gs, rfl, hgsl, a0, a1, a2, a3, a4, a5, a6, a7⟩ := crowds_row hS rfl hlt
      have hgs3 := (HS0.out.lt gs rfl).2
      have hd : decide ((j : Int) < (ls.length : Int)) = true := by simp; omega
      have hst := HUP.out _ (List.getElem_mem hlt)
      have HST := Lib.hid hst.1
      have HLN := Lib.hid hst.2
      have HNO := fun h => Lib.hid (legs_no (xs := xs) (bs := bs) (s := s) hlt h)
      have HYES := fun h => Lib.hid (legs_yes (xs := xs) (bs := bs) (s := s) hlt h)
      have HASH := Lib.hid (ashore (bs := bs) (l := ls[j]) (fun x hx => by have := mem_steps hst.1 hx; omega))
      have HIN : Hid (∀ y ∈ ls[j], 0 ≤ y ∧ y < n) := fun y hy => by have := mem_steps hst.1 hy; omega
      have hbd := loadOf_bound HW.out ls[j]
      have HBD := Lib.hid hbd
      clear hst hbd
      have HOB : Hid (∀ q, (Value.slice T (legsIn xs bs s (ls.take j)).length r).ownBlock = some q → w3.heap.size ≤ q ∧ q < wr.heap.size) := fun q hq => hO.lt q hq
      generalize legsIn xs bs s (ls.take j) = gr at hgl hO HNO HYES HOB ⊢
      generalize hlj : ls[j] = l at a0 a1 a2 a3 a4 a5 a6 a7 HST HLN HNO HYES HASH HIN HBD
      clear hlj
      have hC1 := hC.alloc (.cells (cells8 (has l)) 73)
      have hL1 := hL.alloc (.cells (cells8 (has l)) 73)
      have hR1 := hR.alloc (.cells (cells8 (has l)) 73)
      have hS1 := hS.alloc (.cells (cells8 (has l)) 73)
      have hO1 := hO.alloc (.cells (cells8 (has l)) 73)
      have ht1 := ht.alloc ht.size (.cells (cells8 (has l)) 73)
      have hx1 := Whole.fresh wr 73 (cells8 (has l))
      have hw1 := World.size_alloc wr (.cells (cells8 (has l)) 73)
      clear hC hL hR hS hO ht
      unfold cells8 at hC1 hL1 hR1 hS1 hO1 ht1 hx1 hw1
      have hfd : ∀ W, (Instr.field 73 (.agg #[.bool (has l 0 && !rowsFn bs 0), .bool (has l 1 && !rowsFn bs 1), .bool (has l 2 && !rowsFn bs 2), .bool (has l 3 && !rowsFn bs 3), .bool (has l 4 && !rowsFn bs 4), .bool (has l 5 && !rowsFn bs 5), .bool (has l 6 && !rowsFn bs 6), .bool (has l 7 && !rowsFn bs 7)]) 0).run Try.prog W = .ok (.agg #[.bool (has l 0 && !rowsFn bs 0), .bool (has l 1 && !rowsFn bs 1), .bool (has l 2 && !rowsFn bs 2), .bool (has l 3 && !rowsFn bs 3), .bool (has l 4 && !rowsFn bs 4), .bool (has l 5 && !rowsFn bs 5), .bool (has l 6 && !rowsFn bs 6), .bool (has l 7 && !rowsFn bs 7)]) W := fun _ => by kernel_rfl
      go_wp2_with fail
      refine wp_region_held_drew (S := (fun w' => Row8 wr.heap.size (has l) w' ∧ Row8 h (rowsFn bs) w')) (by kernel_rfl) ⟨row8_cells hx1.drew, row8_cells hR1.drew⟩ (fun hHeld => ?_)
      replace hC1 := hC1.drew
      replace hL1 := hL1.drew
      replace hR1 := hR1.drew
      replace hx1 := hx1.drew
      replace hS1 := hS1.drew
      replace hO1 := hO1.drew
      replace ht1 := ht1.drew
      replace hw1 : (World.drew (World.alloc wr (.cells #[.bool (has l 0), .bool (has l 1), .bool (has l 2), .bool (has l 3), .bool (has l 4), .bool (has l 5), .bool (has l 6), .bool (has l 7)] 73))).heap.size = wr.heap.size + 1 := hw1
      generalize World.drew (World.alloc wr (.cells #[.bool (has l 0), .bool (has l 1), .bool (has l 2), .bool (has l 3), .bool (has l 4), .bool (has l 5), .bool (has l 6), .bool (has l 7)] 73)) = wd at hC1 hL1 hR1 hx1 hS1 hO1 ht1 hw1 hHeld ⊢
      refine wpAnyH_take (i := 0) (v := ?_) rfl (by kernel_rfl) (by kernel_rfl) (by kernel_rfl) (fun _ _ _ h => h) (Or.inl ⟨rfl, ?_⟩) hHeld ?_
      rotate_left
      · intro w' hS; obtain ⟨⟨s0, s1, s2, s3, s4, s5, s6, s7⟩, ⟨q0, q1, q2, q3, q4, q5, q6, q7⟩⟩ := hS; go_simp <;> with_reducible rfl
      simp only [Act.put, List.getElem_toArray, List.getElem_cons_succ, List.getElem_cons_zero, List.setIfInBounds_toArray, List.set_cons_succ, List.set_cons_zero]
      refine wpAnyH_take (i := 1) (v := ?_) rfl (by kernel_rfl) (by kernel_rfl) (by kernel_rfl) (fun _ _ _ h => h) (Or.inl ⟨rfl, ?_⟩) hHeld ?_
      rotate_left
      · intro w' hS; obtain ⟨⟨s0, s1, s2, s3, s4, s5, s6, s7⟩, ⟨q0, q1, q2, q3, q4, q5, q6, q7⟩⟩ := hS; go_simp <;> with_reducible rfl
      simp only [Act.put, List.getElem_toArray, List.getElem_cons_succ, List.getElem_cons_zero, List.setIfInBounds_toArray, List.set_cons_succ, List.set_cons_zero]
      refine wpAnyH_take (i := 4) (v := ?_) rfl (by kernel_rfl) (by kernel_rfl) (by kernel_rfl) (fun _ _ _ h => h) (Or.inl ⟨rfl, ?_⟩) hHeld ?_
      rotate_left
      · intro w' hS; obtain ⟨⟨s0, s1, s2, s3, s4, s5, s6, s7⟩, ⟨q0, q1, q2, q3, q4, q5, q6, q7⟩⟩ := hS; go_simp <;> with_reducible rfl
      simp only [Act.put, List.getElem_toArray, List.getElem_cons_succ, List.getElem_cons_zero, List.setIfInBounds_toArray, List.set_cons_succ, List.set_cons_zero]
      refine wpAnyH_take (i := 5) (v := ?_) rfl (by kernel_rfl) (by kernel_rfl) (by kernel_rfl) (fun _ _ _ h => h) (Or.inl ⟨rfl, ?_⟩) hHeld ?_
      rotate_left
      · intro w' hS; obtain ⟨⟨s0, s1, s2, s3, s4, s5, s6, s7⟩, ⟨q0, q1, q2, q3, q4, q5, q6, q7⟩⟩ := hS; go_simp <;> with_reducible rfl
      simp only [Act.put, List.getElem_toArray, List.getElem_cons_succ, List.getElem_cons_zero, List.setIfInBounds_toArray, List.set_cons_succ, List.set_cons_zero]
      refine wpAnyH_ready (rs := [2]) (by kernel_rfl) (by simp) (AllReadyH.cons rfl (fun K hK => ?_) AllReadyH.nil)
      go_simp
      have hwo := without_any (has l) (rowsFn bs) wd
      unfold cells8 at hwo
      refine hwo.mono ?_
      clear hwo
      rintro e w5 ⟨rfl, hb⟩
      replace hC1 := hC1.below hb
      replace hL1 := hL1.below hb
      replace hR1 := hR1.below hb
      replace hx1 := hx1.below hb
      replace hS1 := ownsRow_below hS1 hb
      replace hO1 := ownsRow_below hO1 hb
      have hz5 := hb.size
      replace ht1 := below_then ht1 hb ht1.size
      clear hb
      refine hK.out _ _ ⟨row8_cells hx1, row8_cells hR1⟩ (fun hHeld => ?_)
      clear hK K
      try simp only [Act.put, List.getElem_toArray, List.getElem_cons_succ, List.getElem_cons_zero, List.setIfInBounds_toArray, List.set_cons_succ, List.set_cons_zero]
      refine wpAnyH_take (i := 3) (v := ?_) rfl (by kernel_rfl) (by kernel_rfl) (by kernel_rfl) (fun _ _ _ h => h) (Or.inl ⟨rfl, ?_⟩) hHeld ?_
      rotate_left
      · intro w' hS; obtain ⟨⟨s0, s1, s2, s3, s4, s5, s6, s7⟩, ⟨q0, q1, q2, q3, q4, q5, q6, q7⟩⟩ := hS; go_simp <;> with_reducible rfl
      simp only [Act.put, List.getElem_toArray, List.getElem_cons_succ, List.getElem_cons_zero, List.setIfInBounds_toArray, List.set_cons_succ, List.set_cons_zero]
      refine wpAnyH_take (i := 6) (v := ?_) rfl (by kernel_rfl) (by kernel_rfl) (by kernel_rfl) (fun _ _ _ h => h) (Or.inl ⟨rfl, ?_⟩) hHeld ?_
      rotate_left
      · intro w' hS; obtain ⟨⟨s0, s1, s2, s3, s4, s5, s6, s7⟩, ⟨q0, q1, q2, q3, q4, q5, q6, q7⟩⟩ := hS; go_simp <;> with_reducible rfl
      simp only [Act.put, List.getElem_toArray, List.getElem_cons_succ, List.getElem_cons_zero, List.setIfInBounds_toArray, List.set_cons_succ, List.set_cons_zero]
      refine wpAnyH_done (by kernel_rfl) ?_ _
      clear hHeld
      cases hcr : canRow bs l
      · have HN := HNO (by rw [legOk, hcr]; rfl)
        rw [HASH.out, hcr]
        clear HNO HYES hcr a0 a1 a2 a3 a4 a5 a6 a7
        have HP := Lib.hid (show _ ∧ _ ∧ _ ∧ _ ∧ _ ∧ _ from ⟨hC1, hL1, hR1, hS1, hO1, ht1⟩)
        clear hC1 hL1 hR1 hS1 hO1 ht1 hx1
        go_wp2
        go_roundw
        case rel => exact ⟨j + 1, T, r, by omega, by go_num, by rw [HN.out], HP.out.1, HP.out.2.1, HP.out.2.2.1, HP.out.2.2.2.1, by rw [HN.out]; exact HP.out.2.2.2.2.1, HP.out.2.2.2.2.2, by omega⟩
        case measure => simp [intOf]; omega
      · rw [HASH.out, hcr]
        clear a0 a1 a2 a3 a4 a5 a6 a7
        have HCR := Lib.hid hcr
        clear hcr
        have hx1' : Whole w5 wr.heap.size 73 (cells8 (has l)) := hx1
        obtain ⟨x0, x1, x2, x3, x4, x5, x6, x7⟩ := cells8_cells hx1'
        have hxl := hx1.lt
        go_wp2_with fail
        have hli := list_any l ((n : Int) - 1) w5 HST.out (by omega)
        unfold crowdCells at hli
        refine hli.mono ?_
        clear hli
        rintro e w6 ⟨D, c2, rfl, hD, hb⟩
        have hD6 := (Fresh.of_own' hD).holds
        replace hC1 := hC1.below hb
        replace hL1 := hL1.below hb
        replace hR1 := hR1.below hb
        replace hx1' := hx1'.below hb
        replace hS1 := ownsRow_below hS1 hb
        replace hO1 := ownsRow_below hO1 hb
        have hz6 := hb.size
        replace ht1 := below_then ht1 hb ht1.size
        clear hb x0 x1 x2 x3 x4 x5 x6 x7 hD hxl hx1
        go_wp2_with fail
        refine (loadFn_any A n n gl xs D l.length c2 l w6 hL1 (by exact hA.below ht1) hD6 HX.out rfl hn7 (by have := HLN.out.2; omega) HW.out HIN.out (by have := HLN.out.2; omega)).mono ?_
        rintro e w7 ⟨rfl, hb⟩
        replace hC1 := hC1.below hb
        replace hL1 := hL1.below hb
        replace hR1 := hR1.below hb
        replace hx1' := hx1'.below hb
        replace hS1 := ownsRow_below hS1 hb
        replace hO1 := ownsRow_below hO1 hb
        have hz7 := hb.size
        replace ht1 := below_then ht1 hb ht1.size
        clear hb hD6
        obtain ⟨c0, c1, c3⟩ := hC1.cells3
        obtain ⟨x0, x1, x2, x3, x4, x5, x6, x7⟩ := cells8_cells hx1'
        have hxl := hx1'.lt
        have hcl := hC1.lt
        have HBD1 := HBD.out.1
        have HBD2 := HBD.out.2
        have HLN2 := HLN.out.2
        obtain ⟨Wt, hWt⟩ : ∃ Wt, Wt = loadOf xs l := ⟨_, rfl⟩
        rw [← hWt] at HBD1 HBD2 ⊢
        have HWT := Lib.hid hWt
        by_cases hle : Wt ≤ s
        · have hd8 : decide (Wt ≤ s) = true := by simpa using hle
          have HN := HYES (by rw [legOk, HCR.out, ← hWt, hd8]; rfl)
          have K1 := Lib.hid (hC1.alloc (.cells (legCells (loadOf xs) l) 89))
          have K2 := Lib.hid (hL1.alloc (.cells (legCells (loadOf xs) l) 89))
          have K3 := Lib.hid (hR1.alloc (.cells (legCells (loadOf xs) l) 89))
          have K4 := Lib.hid (hS1.alloc (.cells (legCells (loadOf xs) l) 89))
          have K5 := Lib.hid (hO1.alloc (.cells (legCells (loadOf xs) l) 89))
          have K6 := Lib.hid (ht1.alloc ht1.size (.cells (legCells (loadOf xs) l) 89))
          have HNEW := Lib.hid (cells_new w7 89 (legCells (loadOf xs) l))
          have HONE := Lib.hid (leg_ones (loadOf xs) l)
          have HMAX := Lib.hid (show gr.length + 1 ≤ maxLen by unfold maxLen; omega)
          have HBYT := Lib.hid (show (gr.length + 1) * 16 ≤ 140737488355328 by omega)
          have HBASE := Lib.hid (show w3.heap.size ≤ (w7.alloc (.cells (legCells (loadOf xs) l) 89)).heap.size by simp; omega)
          have HLEN := Lib.hid (show (gr ++ [l]).length = gr.length + 1 by simp)
          have HCL1 := Lib.hid (show w.heap.size < w3.heap.size by omega)
          have HGL1 := Lib.hid (show gl < w3.heap.size by omega)
          have HHL1 := Lib.hid (show h < w3.heap.size by omega)
          clear HNO HYES hC1 hL1 hR1 hS1 hO1 ht1
          unfold legCells at HNEW HONE HBASE K1 K2 K3 K4 K5 K6
          rw [← hWt] at HNEW HONE HBASE K1 K2 K3 K4 K5 K6
          clear hWt hle
          go_wp2_with (at_builtin; refine wpList_append_own _ rfl (.tmp 40) (.tmp 44) 70 rfl w3.heap.size 89 i0 (.agg #[.bool false, .bool false, .bool false, .bool false, .bool false, .bool false, .bool false, .bool false, .int .i64 0]) 9 16 Try.underlying70 HI.out HZ0.out HZ1.out HZ2.out rfl (by decide) (.slice T gr.length r) gr.length (legsCells (loadOf xs) gr) rfl K5.out ⟨w7.heap.size, 0, none⟩ 1 1 [.bool (has l 0), .bool (has l 1), .bool (has l 2), .bool (has l 3), .bool (has l 4), .bool (has l 5), .bool (has l 6), .bool (has l 7), .int .i64 Wt] rfl rfl HNEW.out HONE.out HMAX.out HBYT.out HBASE.out ?_; intro v' w8 hown1 hg1 _; obtain ⟨g2, e2, hv2⟩ := own_form hown1; subst hv2; have hrr : ∀ x, (Value.slice T gr.length r).ownBlock = some x → w3.heap.size ≤ x := fun x hx => (K5.out.lt x hx).1; have L1 := Lib.hid (whole_grown K1.out hg1 hrr HCL1.out); have L2 := Lib.hid (whole_grown K2.out hg1 hrr HGL1.out); have L3 := Lib.hid (whole_grown K3.out hg1 hrr HHL1.out); have L4 := Lib.hid (K4.out.kept hg1 (.inr (fun e => by have := hrr gs (e ▸ rfl); omega))); have L6 := Lib.hid (K6.out.grown hg1 (by have := K6.out.size; omega) (fun x hx => by have := hrr x hx; omega)))
          have hs8 := hg1.size
          have L5 := Lib.hid hown1
          have hs9 : w3.heap.size ≤ w8.heap.size := by simp at hs8; omega
          clear hown1 hg1 hs8 hrr
          go_roundw
          case rel => exact ⟨j + 1, some ⟨g2, 0, none⟩, e2, by omega, by go_num, by rw [HN.out, HLEN.out], L1.out, L2.out, L3.out, L4.out, by rw [HN.out, HLEN.out, legsCells_snoc, legCells, ← HWT.out]; exact L5.out, L6.out, hs9⟩
          case measure => simp [intOf]; omega
        · have hd8 : decide (Wt ≤ s) = false := by simpa using hle
          have HN := HNO (by rw [legOk, HCR.out, ← hWt, hd8]; rfl)
          have HP := Lib.hid (show _ ∧ _ ∧ _ ∧ _ ∧ _ ∧ _ from ⟨hC1, hL1, hR1, hS1, hO1, ht1⟩)
          clear HNO HYES hC1 hL1 hR1 hS1 hO1 ht1 hWt hle
          go_wp2
          go_roundw
          case rel => exact ⟨j + 1, T, r, by omega, by go_num, by rw [HN.out], HP.out.1, HP.out.2.1, HP.out.2.2.1, HP.out.2.2.2.1, by rw [HN.out]; exact HP.out.2.2.2.2.1, HP.out.2.2.2.2.2, by omega⟩
          case measure => simp [intOf]; omega
    · obtain rfl : j = ls.length := by omega
      have hd : decide ((ls.length : Int) < (ls.length : Int)) = false := by simp
      rw [List.take_length] at hO hgl ⊢
      have HO := Lib.hid (hO)
      have HT := Lib.hid ht
      clear hC hL hR hS hO ht
      go_wp2
      go_ret
      refine ⟨T, r, ?_, ?_, HT.out⟩
      · rw [HCL.out]; rfl
      · rw [HCL.out]; exact own_lower HO.out HW03.out
theorem crewLegs_any (A : Option Addr) (n : Nat) (B : Option Addr) (m d : Nat) (xs : List Int) (bs : List Bool) (s : Int) (w : World) (hA : Holds w A (nums xs)) (hB : Holds w B (bits bs)) (hx : xs.length = n) (hy : bs.length = m) (h1 : 1 ≤ n) (hn7 : n ≤ 7) (hm8 : m ≤ 8) (hw : ∀ y ∈ xs, 1 ≤ y ∧ y ≤ 500) :
    Calls Try.prog 130 #[.agg #[.slice A n n, .slice B m d, .int .i64 s]] w (LegsPost (loadOf xs) (crewLists xs bs s) w) := crewLegsC_any A n n B m d xs bs s w hA hB hx hy h1 hn7 hm8 hw (Nat.le_refl _) (by omega)
end Go.Proofs.Ytlpeimlbpiofkaa

namespace Go.Proofs.Ytlpeimlbpiofkaa
open Go.RowKit

/-- The closure that tells a crew's rides. -/
def ridesFnV (gL : Nat) : Value := .func (.func 131) #[] #[.pointer (some ⟨gL, 0, none⟩)]
/-- The cells of a crew's river. -/
def crewCells (p gL : Nat) : Array Value := #[.bool false, .bool false, .bool false, .bool false, .bool false, .bool false, .bool false, .bool false, .bool false, .bool (firstN p 0), .bool (firstN p 1), .bool (firstN p 2), .bool (firstN p 3), .bool (firstN p 4), .bool (firstN p 5), .bool (firstN p 6), .bool (firstN p 7), .bool true, ridesFnV gL]
theorem crew_one (p gL : Nat) : (crewCells p gL).all (·.oneCell') = true := by simp [crewCells, ridesFnV, Value.oneCell']
theorem crew_ret {w : World} {tmps : Array Value} {g p gL : Nat} (h2 : tmps.getD 2 undef = .pointer (some ⟨g, 0, none⟩)) (hw : Whole w g 115 (crewCells p gL)) :
    (results Try.f96 tmps).run Try.prog w = .ok (.agg (crewCells p gL)) w := by
  have hl := run_loadVar_row (P := Try.prog) w g 115 115 (crewCells p gL) (0, 0) _ hw Try.underlying115 rfl size_river
  have h2' : tmps[2]?.getD undef = .pointer (some ⟨g, 0, none⟩) := by simpa using h2
  simp [results, Try.results96, h2', asAddr, hl]
/-- What the closure keeps. -/
structure RidesFn (w : World) (T : List Int → Int) (gL g : Nat) (E : Option Addr) (c : Nat) (ls : List (List Int)) : Prop where
  gr : Whole w gL 70 #[.slice E ls.length c]
  own : w.ownsRow g 89 9 (.slice E ls.length c) ls.length (legsCells T ls)
theorem RidesFn.below {w w' : World} {T : List Int → Int} {gL g : Nat} {E : Option Addr} {c : Nat} {ls : List (List Int)} (h : RidesFn w T gL g E c ls) (hb : Below w.heap.size w w') : RidesFn w' T gL g E c ls := ⟨h.gr.below hb, ownsRow_below h.own hb⟩
theorem RidesFn.alloc {w : World} {T : List Int → Int} {gL g : Nat} {E : Option Addr} {c : Nat} {ls : List (List Int)} (h : RidesFn w T gL g E c ls) (o : Obj) : RidesFn (w.alloc o) T gL g E c ls := h.below (below1 w o)
theorem RidesFn.drew {w : World} {T : List Int → Int} {gL g : Nat} {E : Option Addr} {c : Nat} {ls : List (List Int)} (h : RidesFn w T gL g E c ls) : RidesFn w.drew T gL g E c ls := ⟨h.gr.drew, h.own⟩
def CrewPost (T : List Int → Int) (n : Nat) (ls : List (List Int)) (w : World) (e : Ending) (w' : World) : Prop :=
  ∃ (gL g : Nat) (E : Option Addr) (c : Nat), e = .returned (.agg (crewCells n gL)) ∧ RidesFn w' T gL g E c ls ∧ Below w.heap.size w w'

set_option maxHeartbeats 12800000 in
set_option maxRecDepth 100000 in
set_option linter.unusedSimpArgs false in
set_option linter.unusedVariables false in
theorem crewRiverC_any (A : Option Addr) (n kA : Nat) (B : Option Addr) (m d : Nat) (xs : List Int) (bs : List Bool) (s : Int) (w : World) (hA : Holds w A (nums xs)) (hB : Holds w B (bits bs)) (hx : xs.length = n) (hy : bs.length = m) (h1 : 1 ≤ n) (hn7 : n ≤ 7) (hm8 : m ≤ 8) (hw : ∀ y ∈ xs, 1 ≤ y ∧ y ≤ 500) (hkA : n ≤ kA) (hkB : kA ≤ 9223372036854775807) :
    Calls Try.prog 96 #[.agg #[.slice A n kA, .slice B m d, .int .i64 s]] w (CrewPost (loadOf xs) n (crewLists xs bs s) w) := by
  have HX := Lib.hid hx
  have HY := Lib.hid hy
  have HW := Lib.hid hw
  clear hx hy hw
  obtain ⟨ls, hls⟩ : ∃ ls, ls = crewLists xs bs s := ⟨_, rfl⟩
  rw [← hls]
  have HLS := Lib.hid hls
  clear hls
  have hmf : ∀ (fn : Fn) (first cap : Array Value) (w : World), (Instr.makeFunc fn first cap).run Try.prog w = .ok (.func fn first cap) w := fun _ _ _ _ => rfl
  have HPT := Lib.hid (place_trues n true)
  have hcur := (Whole.fresh w 57 #[.slice A n kA, .slice B m d, .int .i64 s]).alloc (.cells riverZero 115)
  have hrz := Whole.fresh (w.alloc (.cells #[.slice A n kA, .slice B m d, .int .i64 s] 57)) 115 riverZero
  rw [World.size_alloc] at hrz
  have ht := below2 w (.cells #[.slice A n kA, .slice B m d, .int .i64 s] 57) (.cells riverZero 115)
  unfold riverZero at hcur hrz ht
  go_enter Try.func96, Try.ntmps96
  go_upto_region 1 with fail
  generalize World.alloc (World.alloc w (.cells #[.slice A n kA, .slice B m d, .int .i64 s] 57)) (.cells #[.bool false, .bool false, .bool false, .bool false, .bool false, .bool false, .bool false, .bool false, .bool false, .bool false, .bool false, .bool false, .bool false, .bool false, .bool false, .bool false, .bool false, .bool false, Value.nilFunc] 115) = w0 at hcur hrz ht ⊢
  obtain ⟨c0, c1, c2⟩ := hcur.cells3
  have hlw := hcur.lt
  go_wp2_with fail
  have hcl := crewLegsC_any A n kA B m d xs bs s w0 (by exact hA.below ht) (by exact hB.below ht) HX.out HY.out h1 hn7 hm8 HW.out hkA hkB
  rw [← HLS.out] at hcl
  refine hcl.mono ?_
  clear hcl
  rintro e w1 ⟨E, c, rfl, hown, hb⟩
  replace hcur := hcur.below hb
  replace hrz := hrz.below hb
  replace ht := below_then ht hb ht.size
  clear hb c0 c1 c2 hlw
  have hG := Whole.fresh w1 70 #[.slice E ls.length c]
  replace hcur := hcur.alloc (.cells #[.slice E ls.length c] 70)
  replace hrz := hrz.alloc (.cells #[.slice E ls.length c] 70)
  replace hown := hown.alloc (.cells #[.slice E ls.length c] 70)
  have HT1 := Lib.hid ht.size
  replace ht := ht.alloc ht.size (.cells #[.slice E ls.length c] 70)
  obtain ⟨c0, c1, c2⟩ := hcur.cells3
  have hlw := hcur.lt
  have HC := Lib.hid hcur
  have HZ := Lib.hid hrz
  have HO := Lib.hid hown
  have HT := Lib.hid ht
  have HG := Lib.hid hG
  have HGS := Lib.hid (show w.heap.size ≤ w1.heap.size from HT1.out)
  clear hcur hrz hown ht hG
  go_wp2_with fail
  refine (everybodyOver_any n _ (by omega)).mono ?_
  rintro e w5 ⟨rfl, hb⟩
  rw [HPT.out]
  have N1 := Lib.hid (show RidesFn w5 (loadOf xs) w1.heap.size w0.heap.size E c ls from ⟨HG.out.below hb, ownsRow_below HO.out hb⟩)
  have N2 := Lib.hid (HZ.out.below hb)
  have N4 := Lib.hid (below_then HT.out hb HT.out.size)
  clear hb c0 c1 c2
  unfold place9
  go_wp2_with (refine wpList_store_whole rfl 115 (.tmp 2) (.tmp 14) rfl (w.heap.size + 1) (crewCells n w1.heap.size) rfl rfl 115 riverZero N2.out size_river rfl (crew_one _ _) ?_; intro w7 hw7 ho7)
  refine bodyPost_ret (v := .agg (crewCells n w1.heap.size)) (crew_ret rfl hw7) rfl ?_
  exact ⟨w1.heap.size, w0.heap.size, E, c, rfl, ⟨ho7.whole N1.out.gr (whole_ne N1.out.gr N2.out (by decide)), own_only N1.out.own ho7 N2.out (by decide)⟩, ho7.below N4.out (by omega)⟩
theorem crewRiver_any (A : Option Addr) (n : Nat) (B : Option Addr) (m d : Nat) (xs : List Int) (bs : List Bool) (s : Int) (w : World) (hA : Holds w A (nums xs)) (hB : Holds w B (bits bs)) (hx : xs.length = n) (hy : bs.length = m) (h1 : 1 ≤ n) (hn7 : n ≤ 7) (hm8 : m ≤ 8) (hw : ∀ y ∈ xs, 1 ≤ y ∧ y ≤ 500) :
    Calls Try.prog 96 #[.agg #[.slice A n n, .slice B m d, .int .i64 s]] w (CrewPost (loadOf xs) n (crewLists xs bs s) w) := crewRiverC_any A n n B m d xs bs s w hA hB hx hy h1 hn7 hm8 hw (Nat.le_refl _) (by omega)
end Go.Proofs.Ytlpeimlbpiofkaa

namespace Go.Proofs.Ytlpeimlbpiofkaa
open Go.RowKit

/-- What the closure's appending reads. -/
def MdS (g : Nat) (f : Nat → Bool) (h : Nat) (f' : Nat → Bool) (t : Bool) (w : World) : Prop := Row8 g f w ∧ Row8 h f' w ∧ w.cell? ⟨h, 8, none⟩ = some (.bool t)
theorem row8_leg {w : World} {g : Nat} {ty : TypeId} {T : List Int → Int} {l : List Int} (h : Whole w g ty (legCells T l)) : Row8 g (has l) w := ⟨h.cell 0, h.cell 1, h.cell 2, h.cell 3, h.cell 4, h.cell 5, h.cell 6, h.cell 7⟩
theorem md_of {w : World} {g h : Nat} {T : List Int → Int} {l : List Int} {f' : Nat → Bool} {t : Bool} {y z : TypeId} (h1 : Whole w g y (legCells T l)) (h2 : Whole w h z (place9 f' t)) : MdS g (has l) h f' t w := ⟨row8_leg h1, row8_of h2, h2.cell 8⟩
theorem fresh_up {w' : World} {lo hi : Nat} {ty : TypeId} {A : Option Addr} {xs : List Value} (h : Fresh w' lo hi ty A xs) (hh : hi ≤ w'.heap.size) : Fresh w' lo w'.heap.size ty A xs := h.more (Nat.le_refl _) hh

set_option maxHeartbeats 12800000 in
set_option maxRecDepth 100000 in
set_option linter.unusedSimpArgs false in
set_option linter.unusedVariables false in
theorem ridesFn_any (T : List Int → Int) (p gL g : Nat) (E0 : Option Addr) (c : Nat) (ls : List (List Int)) (bs : List Bool) (t : Bool) (w : World) (hp : p ≤ 8) (hbs : bs.length = p) (hls : ls.length ≤ 255) (hup : ∀ l ∈ ls, l ∈ upLists p p) (hF : RidesFn w T gL g E0 c ls) :
    Calls Try.prog 131 #[.agg (placeCells bs t), .pointer (some ⟨gL, 0, none⟩)] w (MovesPost bs t (ridesAt bs t ls) w) := by
  obtain ⟨i0, hi, hz0, hz1, hz2⟩ := info_parts info_move
  have HI := Lib.hid hi
  have HZ0 := Lib.hid hz0
  have HZ1 := Lib.hid hz1
  have HZ2 := Lib.hid hz2
  have HBS := Lib.hid hbs
  have HUP := Lib.hid hup
  obtain ⟨f, hf⟩ : ∃ f : Nat → Bool, f = fun i => bs.getD i false := ⟨_, rfl⟩
  have HPL : Hid (placeCells bs t = place9 f t) := by show _ = _; rw [place_nine9, hf]
  rw [HPL.out]
  have H3 := Lib.hid (Whole.fresh w 75 (place9 f t))
  have HB := Lib.hid (below1 w (.cells (place9 f t) 75))
  have HF := Lib.hid hF
  have hF1 := hF.alloc (.cells (place9 f t) 75)
  have e0 := hF1.gr.cells1
  clear hi hz0 hz1 hz2 hbs hF hF1 hf hup
  unfold place9 at e0
  unfold place9
  go_enter Try.func131, Try.ntmps131
  go_wp2
  go_loopw [4, 9] (fun v i wr => ∃ (j : Nat) (Q : Option Addr) (r : Nat) (rs : List RowV), j ≤ ls.length ∧ i = .int .i64 j ∧ v = .slice Q rs.length r ∧ rowNums rs = ridesAt bs t (ls.take j) ∧ Moves wr (w.heap.size + 1) Q r bs t rs ∧ Whole wr w.heap.size 75 (place9 f t) ∧ Below w.heap.size w wr) (fun _ i _ => ls.length - (intOf i).toNat)
  case atStart => exact ⟨0, none, 0, [], Nat.zero_le _, rfl, rfl, rfl, Moves.nil _ _ _ _, H3.out, HB.out⟩
  case round =>
    clear H3 HB e0
    obtain ⟨j, Q, r, rs, hj, rfl, rfl, hrn, hM, h3, ht⟩ := hrel
    have HOL : Hid (∀ x, (Value.slice Q rs.length r).ownBlock = some x → w.heap.size + 1 ≤ x ∧ x < wr.heap.size) := fun x hx => hM.1.lt x hx
    have hrl : rs.length ≤ 255 := by have h1 := congrArg List.length hrn; have h2 := rides_len bs t (ls.take j); rw [rowNums_len] at h1; rw [List.length_take] at h2; omega
    by_cases hlt : j < ls.length
    · have hd : decide ((j : Int) < (ls.length : Int)) = true := by simp; omega
      have hFr := HF.out.below ht
      obtain ⟨gs, rfl, hgl, a0, a1, a2, a3, a4, a5, a6, a7, a8⟩ := legs_row hFr.own hlt
      have hst := up_steps (HUP.out _ (List.getElem_mem hlt))
      have hl8 : ls[j].length ≤ 8 := Nat.le_trans hst.2.2 hp
      have HST := Lib.hid hst.1
      have HOUT : Hid (∀ i, bs.length ≤ i → has ls[j] i = false) := fun i hi => has_out hst.1 (by have := HBS.out; omega)
      have HNO := fun h => Lib.hid (rides_no (bs := bs) (t := t) hlt h)
      have HYES := fun h => Lib.hid (rides_yes (bs := bs) (t := t) hlt h)
      have HRS := Lib.hid hrn
      have hwl := h3.lt
      have hw0 : w.heap.size + 1 ≤ wr.heap.size := hwl
      obtain ⟨p0, p1, p2, p3, p4, p5, p6, p7⟩ := row8_of h3
      have p8 : wr.cell? ⟨w.heap.size, 8, none⟩ = some (.bool t) := h3.cell 8
      obtain ⟨f', hf'⟩ : ∃ f' : Nat → Bool, f' = fun i => (flipped bs ls[j]).getD i false := ⟨_, rfl⟩
      have HPF : Hid (placeCells (flipped bs ls[j]) (!t) = place9 f' (!t)) := by show _ = _; rw [place_nine9, hf']
      have HMC : Hid (∀ E n c2, moveCells bs t ⟨E, n, c2, ls[j]⟩ = [.slice E n c2, .bool (f' 0), .bool (f' 1), .bool (f' 2), .bool (f' 3), .bool (f' 4), .bool (f' 5), .bool (f' 6), .bool (f' 7), .bool (!t)]) := fun E n c2 => by rw [moveCells_at, hf']; rfl
      have HLEN : Hid (∀ x : RowV, (rs ++ [x]).length = rs.length + 1) := fun x => by simp
      have hO1 := hM.1
      have HSPR := Lib.hid hM.2
      clear hrn hst hf' hFr
      cases ha : allAt bs t ls[j]
      · have HN := HNO ha
        have HA := Lib.hid ha
        have HM0 := Lib.hid hM
        have HT0 := Lib.hid ht
        have H30 := Lib.hid h3
        clear HNO HYES ha hM ht h3 hO1
        generalize ls[j] = l at a0 a1 a2 a3 a4 a5 a6 a7 a8 HPF HOUT HST HA HMC hl8
        go_wp2_with fail
        have hh := holds_any p bs l t (wr.alloc (.cells (legCells T l) 89)) HST.out hp
        rw [HPL.out, crowd8] at hh
        refine hh.mono ?_
        clear hh
        rintro e w5 ⟨rfl, hb⟩
        rw [HA.out]
        have hba := below_then (below1 wr (.cells (legCells T l) 89)) hb (by simp)
        have HM := Lib.hid (HM0.out.below hba)
        have ht := Lib.hid (below_then HT0.out hba HT0.out.size)
        have H3 := Lib.hid (H30.out.below hba)
        clear hb hba a0 a1 a2 a3 a4 a5 a6 a7 a8 p0 p1 p2 p3 p4 p5 p6 p7 p8 hwl hgl
        go_wp2
        go_roundw
        case rel => exact ⟨j + 1, Q, r, rs, by omega, by go_num, rfl, by rw [HN.out]; exact HRS.out, HM.out, H3.out, ht.out⟩
        case measure => simp [intOf]; omega
      · have HN := HYES ha
        have HA := Lib.hid ha
        have HRN : Hid (∀ E n c2, rowNums (rs ++ [⟨E, n, c2, ls[j]⟩]) = ridesAt bs t (ls.take (j + 1))) := fun E n c2 => by rw [HN.out, ← HRS.out]; simp [rowNums]
        clear HNO HYES ha HN hM
        generalize ls[j] = l at a0 a1 a2 a3 a4 a5 a6 a7 a8 HPF HOUT HST HA HMC hl8 HRN
        have hx1 := Whole.fresh wr 89 (legCells T l)
        have hp1 := h3.alloc (.cells (legCells T l) 89)
        have ht1 := ht.alloc ht.size (.cells (legCells T l) 89)
        replace hO1 := hO1.alloc (.cells (legCells T l) 89)
        go_wp2_with fail
        have hh := holds_any p bs l t (wr.alloc (.cells (legCells T l) 89)) HST.out hp
        rw [HPL.out, crowd8] at hh
        refine hh.mono ?_
        clear hh
        rintro e w5 ⟨rfl, hb⟩
        rw [HA.out]
        have hz5 : wr.heap.size + 1 ≤ w5.heap.size := by have := hb.size; simpa using this
        replace hx1 := hx1.below hb
        replace hp1 := hp1.below hb
        replace ht1 := below_then ht1 hb ht1.size
        replace hO1 := ownsRow_below hO1 hb
        have hba : Below wr.heap.size wr w5 := below_then (below1 wr (.cells (legCells T l) 89)) hb (by simp)
        replace HSPR := Lib.hid (HSPR.out.below hba)
        clear hb hba a0 a1 a2 a3 a4 a5 a6 a7 a8 p0 p1 p2 p3 p4 p5 p6 p7 p8 hwl hgl ht h3
        have HMAX := Lib.hid (show rs.length + 1 ≤ maxLen by unfold maxLen; omega)
        have HBYT := Lib.hid (show (rs.length + 1) * 40 ≤ 140737488355328 by omega)
        go_wp2_with fail
        refine wp_region_held_drew (S := (MdS wr.heap.size (has l) w.heap.size f t)) (by kernel_rfl) (md_of hx1.drew hp1.drew) (fun hHeld => ?_)
        replace hx1 := hx1.drew
        replace hp1 := hp1.drew
        replace ht1 := ht1.drew
        have hzd : (World.drew w5).heap.size = w5.heap.size := rfl
        replace hO1 : (World.drew w5).ownsRow (w.heap.size + 1) 155 10 (.slice Q rs.length r) rs.length (movesCells bs t rs) := hO1
        replace HSPR : Hid (Spread (World.drew w5) (w.heap.size + 1) Q rs) := Lib.hid (HSPR.out.below (Below.refl _ _).drew)
        generalize World.drew w5 = wd at hx1 hp1 ht1 hO1 HSPR hzd hHeld ⊢
        refine wpAnyH_take (i := 0) (v := ?_) rfl (by kernel_rfl) (by kernel_rfl) (by kernel_rfl) (fun _ _ _ h => h) (Or.inl ⟨rfl, ?_⟩) hHeld ?_
        rotate_left
        · intro w' hS; obtain ⟨⟨a0, a1, a2, a3, a4, a5, a6, a7⟩, ⟨b0, b1, b2, b3, b4, b5, b6, b7⟩, b8⟩ := hS; go_simp <;> with_reducible rfl
        simp only [Act.put, List.getElem_toArray, List.getElem_cons_succ, List.getElem_cons_zero, List.setIfInBounds_toArray, List.set_cons_succ, List.set_cons_zero]
        refine wpAnyH_take (i := 1) (v := ?_) rfl (by kernel_rfl) (by kernel_rfl) (by kernel_rfl) (fun _ _ _ h => h) (Or.inl ⟨rfl, ?_⟩) hHeld ?_
        rotate_left
        · intro w' hS; obtain ⟨⟨a0, a1, a2, a3, a4, a5, a6, a7⟩, ⟨b0, b1, b2, b3, b4, b5, b6, b7⟩, b8⟩ := hS; go_simp <;> with_reducible rfl
        simp only [Act.put, List.getElem_toArray, List.getElem_cons_succ, List.getElem_cons_zero, List.setIfInBounds_toArray, List.set_cons_succ, List.set_cons_zero]
        refine wpAnyH_take (i := 2) (v := ?_) rfl (by kernel_rfl) (by kernel_rfl) (by kernel_rfl) (fun _ _ _ h => h) (Or.inl ⟨rfl, ?_⟩) hHeld ?_
        rotate_left
        · intro w' hS; obtain ⟨⟨a0, a1, a2, a3, a4, a5, a6, a7⟩, ⟨b0, b1, b2, b3, b4, b5, b6, b7⟩, b8⟩ := hS; go_simp <;> with_reducible rfl
        simp only [Act.put, List.getElem_toArray, List.getElem_cons_succ, List.getElem_cons_zero, List.setIfInBounds_toArray, List.set_cons_succ, List.set_cons_zero]
        refine wpAnyH_take (i := 4) (v := ?_) rfl (by kernel_rfl) (by kernel_rfl) (by kernel_rfl) (fun _ _ _ h => h) (Or.inl ⟨rfl, ?_⟩) hHeld ?_
        rotate_left
        · intro w' hS; obtain ⟨⟨a0, a1, a2, a3, a4, a5, a6, a7⟩, ⟨b0, b1, b2, b3, b4, b5, b6, b7⟩, b8⟩ := hS; go_simp <;> with_reducible rfl
        simp only [Act.put, List.getElem_toArray, List.getElem_cons_succ, List.getElem_cons_zero, List.setIfInBounds_toArray, List.set_cons_succ, List.set_cons_zero]
        refine wpAnyH_take (i := 5) (v := ?_) rfl (by kernel_rfl) (by kernel_rfl) (by kernel_rfl) (fun _ _ _ h => h) (Or.inl ⟨rfl, ?_⟩) hHeld ?_
        rotate_left
        · intro w' hS; obtain ⟨⟨a0, a1, a2, a3, a4, a5, a6, a7⟩, ⟨b0, b1, b2, b3, b4, b5, b6, b7⟩, b8⟩ := hS; go_simp <;> with_reducible rfl
        simp only [Act.put, List.getElem_toArray, List.getElem_cons_succ, List.getElem_cons_zero, List.setIfInBounds_toArray, List.set_cons_succ, List.set_cons_zero]
        refine wpAnyH_take (i := 6) (v := ?_) rfl (by kernel_rfl) (by kernel_rfl) (by kernel_rfl) (fun _ _ _ h => h) (Or.inl ⟨rfl, ?_⟩) hHeld ?_
        rotate_left
        · intro w' hS; obtain ⟨⟨a0, a1, a2, a3, a4, a5, a6, a7⟩, ⟨b0, b1, b2, b3, b4, b5, b6, b7⟩, b8⟩ := hS; go_simp <;> with_reducible rfl
        simp only [Act.put, List.getElem_toArray, List.getElem_cons_succ, List.getElem_cons_zero, List.setIfInBounds_toArray, List.set_cons_succ, List.set_cons_zero]
        refine wpAnyH_ready (rs := [3]) (by kernel_rfl) (by simp) (AllReadyH.cons rfl (fun K hK => ?_) AllReadyH.nil)
        go_simp
        have hls := list_any l ((p : Int) - 1) wd HST.out (by omega)
        rw [crowd8] at hls
        refine hls.mono ?_
        clear hls
        rintro e w6 ⟨E, c2, rfl, hown, hb⟩
        have hz6 := hb.size
        have KB := Lib.hid hb
        have hE := Fresh.of_own' hown
        replace hp1 := hp1.below hb
        replace hx1 := hx1.below hb
        replace ht1 := below_then ht1 hb ht1.size
        replace hO1 := ownsRow_below hO1 hb
        clear hb hown
        refine hK.out _ _ (md_of hx1 hp1) (fun hHeld => ?_)
        clear hK K
        try simp only [Act.put, List.getElem_toArray, List.getElem_cons_succ, List.getElem_cons_zero, List.setIfInBounds_toArray, List.set_cons_succ, List.set_cons_zero]
        refine wpAnyH_ready (rs := [7]) (by kernel_rfl) (by simp) (AllReadyH.cons rfl (fun K hK => ?_) AllReadyH.nil)
        go_simp
        have hx := cross_any bs l t w6 HOUT.out
        rw [HPL.out, HPF.out, crowd8] at hx
        refine hx.mono ?_
        clear hx
        rintro e w7 ⟨rfl, hb⟩
        have hz7 := hb.size
        replace hp1 := hp1.below hb
        replace hx1 := hx1.below hb
        replace ht1 := below_then ht1 hb ht1.size
        replace hO1 := ownsRow_below hO1 hb
        have hE7 := hE.below hb
        have KB7 := Lib.hid (below_then KB.out hb KB.out.size)
        clear hb hE
        unfold place9
        refine hK.out _ _ (md_of hx1 hp1) (fun hHeld => ?_)
        clear hK K
        try simp only [Act.put, List.getElem_toArray, List.getElem_cons_succ, List.getElem_cons_zero, List.setIfInBounds_toArray, List.set_cons_succ, List.set_cons_zero]
        refine wpAnyH_take (i := 8) (v := ?_) rfl (by kernel_rfl) (by kernel_rfl) (by kernel_rfl) (fun _ _ _ h => h) (Or.inl ⟨rfl, ?_⟩) hHeld ?_
        rotate_left
        · intro w' hS; obtain ⟨⟨a0, a1, a2, a3, a4, a5, a6, a7⟩, ⟨b0, b1, b2, b3, b4, b5, b6, b7⟩, b8⟩ := hS; go_simp <;> with_reducible rfl
        simp only [Act.put, List.getElem_toArray, List.getElem_cons_succ, List.getElem_cons_zero, List.setIfInBounds_toArray, List.set_cons_succ, List.set_cons_zero]
        refine wpAnyH_ready (rs := [9]) (by kernel_rfl) (by simp) (AllReadyH.cons rfl (fun K hK => ?_) AllReadyH.nil)
        go_simp
        have hE8 := hE7.alloc (.cells #[.slice E l.length c2, .bool (f' 0), .bool (f' 1), .bool (f' 2), .bool (f' 3), .bool (f' 4), .bool (f' 5), .bool (f' 6), .bool (f' 7), .bool (!t)] 155)
        have HO6 := Lib.hid (hO1.alloc (.cells #[.slice E l.length c2, .bool (f' 0), .bool (f' 1), .bool (f' 2), .bool (f' 3), .bool (f' 4), .bool (f' 5), .bool (f' 6), .bool (f' 7), .bool (!t)] 155))
        have hx2 := hx1.alloc (.cells #[.slice E l.length c2, .bool (f' 0), .bool (f' 1), .bool (f' 2), .bool (f' 3), .bool (f' 4), .bool (f' 5), .bool (f' 6), .bool (f' 7), .bool (!t)] 155)
        have hp2 := hp1.alloc (.cells #[.slice E l.length c2, .bool (f' 0), .bool (f' 1), .bool (f' 2), .bool (f' 3), .bool (f' 4), .bool (f' 5), .bool (f' 6), .bool (f' 7), .bool (!t)] 155)
        have ht2 := ht1.alloc ht1.size (.cells #[.slice E l.length c2, .bool (f' 0), .bool (f' 1), .bool (f' 2), .bool (f' 3), .bool (f' 4), .bool (f' 5), .bool (f' 6), .bool (f' 7), .bool (!t)] 155)
        refine hK.out _ _ (md_of hx2 hp2) (fun hHeld => ?_)
        clear hK K
        try simp only [Act.put, List.getElem_toArray, List.getElem_cons_succ, List.getElem_cons_zero, List.setIfInBounds_toArray, List.set_cons_succ, List.set_cons_zero]
        refine wpAnyH_ready (rs := [10]) (by kernel_rfl) (by simp) (AllReadyH.cons rfl (fun K hK => ?_) AllReadyH.nil)
        have HNEW := Lib.hid (cells_new w7 155 #[.slice E l.length c2, .bool (f' 0), .bool (f' 1), .bool (f' 2), .bool (f' 3), .bool (f' 4), .bool (f' 5), .bool (f' 6), .bool (f' 7), .bool (!t)])
        have HBASE := Lib.hid (show w.heap.size + 1 ≤ (w7.alloc (.cells #[.slice E l.length c2, .bool (f' 0), .bool (f' 1), .bool (f' 2), .bool (f' 3), .bool (f' 4), .bool (f' 5), .bool (f' 6), .bool (f' 7), .bool (!t)] 155)).heap.size by simp; omega)
        refine step_append_lies _ rfl (.tmp 17) (.tmp 26) 153 rfl (w.heap.size + 1) 155 i0 (.agg #[.slice none 0 0, .bool false, .bool false, .bool false, .bool false, .bool false, .bool false, .bool false, .bool false, .bool false]) 10 40 Try.underlying153 HI.out HZ0.out HZ1.out HZ2.out rfl (by decide) (.slice Q rs.length r) rs.length (movesCells bs t rs) (by simp [Act.eval]) HO6.out ⟨w7.heap.size, 0, none⟩ 1 1 [.slice E l.length c2, .bool (f' 0), .bool (f' 1), .bool (f' 2), .bool (f' 3), .bool (f' 4), .bool (f' 5), .bool (f' 6), .bool (f' 7), .bool (!t)] (by simp [Act.eval]) rfl HNEW.out (by simp [Value.oneCell']) (by decide) HMAX.out HBYT.out HBASE.out (w7.heap.size + 1) (by simp) ?_
        intro g3 c3 w8 hown3 hg3 hat3 hlt3
        have hrr : ∀ x, (Value.slice Q rs.length r).ownBlock = some x → w.heap.size + 1 ≤ x ∧ x < wr.heap.size := HOL.out
        have q7 := whole_apart hx2 hg3 (fun e => absurd (hrr _ e.symm).2 (by omega))
        have q3 := whole_grown (lo := w.heap.size + 1) hp2 hg3 (fun x hx => (hrr x hx).1) (by omega)
        have hsp := Spread.push (r := ⟨E, l.length, c2, l⟩) HSPR.out (fun q hq => by obtain ⟨a, ha, hb⟩ := slice_own hq; exact ⟨a, ha, hb, by have := (hrr q hq).2; omega⟩) (by omega) (KB7.out) (fresh_up hE7 hz7) rfl (by show l.length ≤ _; omega) hg3 hat3
        have hbt := Below.grown ht2 hg3 (by have := ht1.size; simp; omega) (fun x hx => by have := (hrr x hx).1; omega)
        have P1 := Lib.hid hsp
        have P2 := Lib.hid hown3
        have P3 := Lib.hid q3
        have P4 := Lib.hid hbt
        clear hsp hown3 hg3 hat3 hlt3 hbt hrr
        refine hK.out _ _ (md_of q7 q3) (fun hHeld => ?_)
        clear hK K
        try simp only [Act.put, List.getElem_toArray, List.getElem_cons_succ, List.getElem_cons_zero, List.setIfInBounds_toArray, List.set_cons_succ, List.set_cons_zero]
        refine wpAnyH_take (i := 11) (v := ?_) rfl (by kernel_rfl) (by kernel_rfl) (by kernel_rfl) (fun _ _ _ h => h) (Or.inl ⟨rfl, ?_⟩) hHeld ?_
        rotate_left
        · intro w' hS; obtain ⟨⟨a0, a1, a2, a3, a4, a5, a6, a7⟩, ⟨b0, b1, b2, b3, b4, b5, b6, b7⟩, b8⟩ := hS; go_simp <;> with_reducible rfl
        simp only [Act.put, List.getElem_toArray, List.getElem_cons_succ, List.getElem_cons_zero, List.setIfInBounds_toArray, List.set_cons_succ, List.set_cons_zero]
        refine wpAnyH_done (by kernel_rfl) ?_ _
        clear hHeld
        go_wp2
        go_roundw
        case rel => exact ⟨j + 1, some ⟨g3, 0, none⟩, c3, rs ++ [⟨E, l.length, c2, l⟩], by omega, by go_num, by rw [HLEN.out], by rw [HRN.out], ⟨by rw [HLEN.out, movesCells_snoc, HMC.out]; exact P2.out, P1.out⟩, P3.out, P4.out⟩
        case measure => simp [intOf]; omega
    · obtain rfl : j = ls.length := by omega
      have hd : decide ((ls.length : Int) < (ls.length : Int)) = false := by simp
      rw [List.take_length] at hrn
      have HR := Lib.hid hrn
      have HM := Lib.hid hM
      have HT := Lib.hid ht
      clear hrn hM ht
      go_wp2
      go_ret
      exact ⟨Q, r, rs, rfl, HR.out, ⟨own_lower HM.out.1 (by omega), Spread.raise HM.out.2 (by omega)⟩, HT.out⟩
end Go.Proofs.Ytlpeimlbpiofkaa

namespace Go.Proofs.Ytlpeimlbpiofkaa
open Go.RowKit

/-- What stateBehind hands back. -/
def BehindW (ls : List (List Int)) (bs : List Bool) (t : Bool) (l : List Int) (w : World) (e : Ending) (w' : World) : Prop :=
  ((l ∈ ridesAt bs t ls ∧ e = .returned (.tuple #[.agg (placeCells (flipped bs l) (!t)), .bool true])) ∨ (l ∉ ridesAt bs t ls ∧ e = .returned (.tuple #[.agg (placeCells bs t), .bool false]))) ∧ Below w.heap.size w w'
theorem crew_cell {w : World} {g p gL : Nat} {ty : TypeId} (h : Whole w g ty (crewCells p gL)) : w.cell? ⟨g, 18, none⟩ = some (.func (.func 131) #[] #[.pointer (some ⟨gL, 0, none⟩)]) := h.cell 18

end Go.Proofs.Ytlpeimlbpiofkaa

namespace Go.Proofs.Ytlpeimlbpiofkaa

/-- Least times from a place: the place itself needs 0, no trip leads on sooner, and each other place that is reached has one before it. -/
structure Least {α : Type} (E : α → Int → α → Prop) (src : α) (d : α → Option Int) : Prop where
  start : d src = some 0
  edge : ∀ x t y a, d x = some a → E x t y → ∃ b, d y = some b ∧ b ≤ a + t
  pred : ∀ y b, d y = some b → (y = src ∧ b = 0) ∨ ∃ x t a, d x = some a ∧ E x t y ∧ b = a + t
  low : ∀ y b, d y = some b → 0 ≤ b

theorem least_le {α : Type} {E : α → Int → α → Prop} {src : α} {d1 d2 : α → Option Int} (hE : ∀ x t y, E x t y → 1 ≤ t) (h1 : Least E src d1) (h2 : Least E src d2) :
    ∀ (n : Nat) (y : α) (b : Int), b ≤ n → d1 y = some b → ∃ c, d2 y = some c ∧ c ≤ b := by
  intro n
  induction n with
  | zero =>
    intro y b hb hy
    rcases h1.pred y b hy with ⟨rfl, rfl⟩ | ⟨x, t, a, hx, he, rfl⟩
    · exact ⟨0, h2.start, Int.le_refl _⟩
    · have := h1.low x a hx
      have := hE _ _ _ he
      omega
  | succ n ih =>
    intro y b hb hy
    rcases h1.pred y b hy with ⟨rfl, rfl⟩ | ⟨x, t, a, hx, he, rfl⟩
    · exact ⟨0, h2.start, Int.le_refl _⟩
    · have := hE _ _ _ he
      obtain ⟨a', ha', hle⟩ := ih x a (by omega) hx
      obtain ⟨c, hc, hle2⟩ := h2.edge x t y a' ha' he
      exact ⟨c, hc, by omega⟩
theorem least_one {α : Type} {E : α → Int → α → Prop} {src : α} {d1 d2 : α → Option Int} (hE : ∀ x t y, E x t y → 1 ≤ t) (h1 : Least E src d1) (h2 : Least E src d2) : d1 = d2 := by
  funext y
  cases e1 : d1 y with
  | some b =>
    obtain ⟨c, hc, hle⟩ := least_le hE h1 h2 b.toNat y b (by omega) e1
    obtain ⟨b', hb', hle'⟩ := least_le hE h2 h1 c.toNat y c (by omega) hc
    rw [e1] at hb'
    obtain rfl : b = b' := by simpa using hb'
    rw [hc, show c = b by omega]
  | none =>
    cases e2 : d2 y with
    | none => rfl
    | some c =>
      obtain ⟨b, hb, -⟩ := least_le hE h2 h1 c.toNat y c (by omega) e2
      rw [e1] at hb
      cases hb
/-- Where each trip leads back in the same time: from one place to another it takes as long as back. -/
theorem least_via {α : Type} {E : α → Int → α → Prop} {s e : α} {ds de : α → Option Int} (hE : ∀ x t y, E x t y → 1 ≤ t) (hback : ∀ x t y, E x t y → E y t x) (hs : Least E s ds) (he : Least E e de) :
    ∀ (n : Nat) (y : α) (a b : Int), b ≤ n → ds y = some b → de y = some a → ∃ c, de s = some c ∧ c ≤ a + b := by
  intro n
  induction n with
  | zero =>
    intro y a b hb hy hya
    rcases hs.pred y b hy with ⟨rfl, rfl⟩ | ⟨x, t, a', hx, hed, rfl⟩
    · exact ⟨a, hya, by omega⟩
    · have := hs.low x a' hx
      have := hE _ _ _ hed
      omega
  | succ n ih =>
    intro y a b hb hy hya
    rcases hs.pred y b hy with ⟨rfl, rfl⟩ | ⟨x, t, a', hx, hed, rfl⟩
    · exact ⟨a, hya, by omega⟩
    · have := hE _ _ _ hed
      obtain ⟨c', hc', hle⟩ := he.edge y t x a hya (hback _ _ _ hed)
      obtain ⟨c, hc, hle2⟩ := ih x c' a' (by omega) hx hc'
      exact ⟨c, hc, by omega⟩
theorem least_turn {α : Type} {E : α → Int → α → Prop} {s e : α} {ds de : α → Option Int} (hE : ∀ x t y, E x t y → 1 ≤ t) (hback : ∀ x t y, E x t y → E y t x) (hs : Least E s ds) (he : Least E e de) : ds e = de s := by
  cases e1 : ds e with
  | some b =>
    obtain ⟨c, hc, hle⟩ := least_via hE hback hs he b.toNat e 0 b (by omega) e1 he.start
    obtain ⟨b', hb', hle'⟩ := least_via hE hback he hs c.toNat s 0 c (by omega) hc hs.start
    rw [e1] at hb'
    obtain rfl : b = b' := by simpa using hb'
    rw [hc, show c = b by omega]
  | none =>
    cases e2 : de s with
    | none => rfl
    | some c =>
      obtain ⟨b, hb, -⟩ := least_via hE hback he hs c.toNat s 0 c (by omega) e2 hs.start
      rw [e1] at hb
      cases hb

/-- A search under way: R holds what is settled, each trip from there told of; W what waits. -/
structure Seek {α : Type} (E : α → Int → α → Prop) (src : α) (R W : α → Option Int) : Prop where
  start : R src = some 0 ∨ (W src = some 0 ∧ ∀ x, R x = none)
  edge : ∀ x t y a, R x = some a → E x t y → ∃ b, (R y = some b ∨ W y = some b) ∧ b ≤ a + t
  pred : ∀ y b, R y = some b ∨ W y = some b → (y = src ∧ b = 0) ∨ ∃ x t a, R x = some a ∧ E x t y ∧ b = a + t
  low : ∀ y b, R y = some b ∨ W y = some b → 0 ≤ b
  far : ∀ x a y b, R x = some a → W y = some b → a ≤ b
  apart : ∀ x a, R x = some a → W x = none

/-- Before the first round. -/
theorem seek_start {α : Type} [DecidableEq α] (E : α → Int → α → Prop) (src : α) : Seek E src (fun _ => none) (fun x => if x = src then some 0 else none) where
  start := .inr ⟨by simp, fun _ => rfl⟩
  edge := fun _ _ _ _ h => by cases h
  pred := fun y b h => by
    rcases h with h | h
    · cases h
    · by_cases e : y = src
      · simp [e] at h
        exact .inl ⟨e, h.symm⟩
      · simp [e] at h
  low := fun y b h => by
    rcases h with h | h
    · cases h
    · by_cases e : y = src
      · simp [e] at h
        omega
      · simp [e] at h
  far := fun _ _ _ _ h => by cases h
  apart := fun _ _ h => by cases h
/-- When nothing waits any more, the least times are found. -/
theorem seek_end {α : Type} {E : α → Int → α → Prop} {src : α} {R W : α → Option Int} (h : Seek E src R W) (h0 : ∀ x, W x = none) : Least E src R where
  start := by
    rcases h.start with h1 | ⟨h1, -⟩
    · exact h1
    · rw [h0] at h1
      cases h1
  edge := fun x t y a hx he => by
    obtain ⟨b, hb | hb, hle⟩ := h.edge x t y a hx he
    · exact ⟨b, hb, hle⟩
    · rw [h0] at hb
      cases hb
  pred := fun y b hy => h.pred y b (.inl hy)
  low := fun y b hy => h.low y b (.inl hy)

/-- What waits behind a round that settles S at the time m: for each place that is not settled the least of what it waited for and of the trips from S. -/
structure SeekRound {α : Type} (E : α → Int → α → Prop) (R W : α → Option Int) (S : α → Prop) (m : Int) (R' W' : α → Option Int) : Prop where
  least : ∀ y b, W y = some b → m ≤ b
  took : ∀ x, S x → W x = some m
  some_ : ∃ x, S x
  settled : ∀ x, S x → R' x = some m
  kept : ∀ x, ¬ S x → R' x = R x
  gone : ∀ x a, R' x = some a → W' x = none
  relaxed : ∀ x t y, S x → E x t y → R' y = none → ∃ b, W' y = some b ∧ b ≤ m + t
  still : ∀ y b, W y = some b → R' y = none → ∃ c, W' y = some c ∧ c ≤ b
  from_ : ∀ y b, W' y = some b → (W y = some b ∧ R' y = none) ∨ ∃ x t, S x ∧ E x t y ∧ b = m + t
theorem seek_round {α : Type} {E : α → Int → α → Prop} {src : α} {R W R' W' : α → Option Int} {S : α → Prop} {m : Int} (hE : ∀ x t y, E x t y → 1 ≤ t) (h : Seek E src R W) (hr : SeekRound E R W S m R' W') : Seek E src R' W' := by
  have hup : ∀ x a, R x = some a → R' x = some a := fun x a hx => by
    have hn : ¬ S x := fun hs => by
      have h1 := hr.took x hs
      rw [h.apart x a hx] at h1
      cases h1
    rw [hr.kept x hn]
    exact hx
  have hback : ∀ x a, R' x = some a → (S x ∧ a = m) ∨ (¬ S x ∧ R x = some a) := fun x a hx => by
    by_cases hs : S x
    · have h1 := hr.settled x hs
      rw [hx] at h1
      exact .inl ⟨hs, by simpa using h1⟩
    · exact .inr ⟨hs, by rw [← hr.kept x hs]; exact hx⟩
  obtain ⟨x0, hx0⟩ := hr.some_
  have hw0 := hr.took x0 hx0
  have hm : ∀ x a, R' x = some a → a ≤ m := fun x a hx => by
    rcases hback x a hx with ⟨-, rfl⟩ | ⟨-, hx'⟩
    · exact Int.le_refl _
    · exact h.far x a x0 m hx' hw0
  have hm0 : 0 ≤ m := h.low x0 m (.inr hw0)
  have hlow : ∀ x a, R' x = some a → 0 ≤ a := fun x a hx => by
    rcases hback x a hx with ⟨-, rfl⟩ | ⟨-, hx'⟩
    · exact hm0
    · exact h.low x a (.inl hx')
  refine ⟨?_, fun x t y a hx he => ?_, fun y b hy => ?_, fun y b hy => ?_, fun x a y b hx hy => ?_, hr.gone⟩
  · rcases h.start with h1 | ⟨h1, h2⟩
    · exact .inl (hup _ _ h1)
    · left
      by_cases hs : S src
      · have h3 := hr.took src hs
        rw [h1] at h3
        obtain rfl : (0 : Int) = m := by simpa using h3
        exact hr.settled src hs
      · exfalso
        rcases h.pred x0 m (.inr hw0) with ⟨rfl, -⟩ | ⟨x, t, a, hx, -, -⟩
        · exact hs hx0
        · rw [h2] at hx
          cases hx
  · have ht := hE _ _ _ he
    rcases hback x a hx with ⟨hs, rfl⟩ | ⟨hs, hx'⟩
    · cases hy : R' y with
      | some b => exact ⟨b, .inl rfl, by have := hm y b hy; omega⟩
      | none =>
        obtain ⟨b, hb, hle⟩ := hr.relaxed x t y hs he hy
        exact ⟨b, .inr hb, hle⟩
    · obtain ⟨b, hb, hle⟩ := h.edge x t y a hx' he
      rcases hb with hb | hb
      · exact ⟨b, .inl (hup _ _ hb), hle⟩
      · cases hy : R' y with
        | some c =>
          rcases hback y c hy with ⟨hs', rfl⟩ | ⟨-, hy'⟩
          · have := hr.least y b hb
            exact ⟨_, .inl rfl, by omega⟩
          · rw [h.apart y c hy'] at hb
            cases hb
        | none =>
          obtain ⟨c, hc, hle'⟩ := hr.still y b hb hy
          exact ⟨c, .inr hc, by omega⟩
  · rcases hy with hy | hy
    · rcases hback y b hy with ⟨hs, rfl⟩ | ⟨-, hy'⟩
      · rcases h.pred y b (.inr (hr.took y hs)) with h1 | ⟨x, t, a, hx, he, h3⟩
        · exact .inl h1
        · exact .inr ⟨x, t, a, hup _ _ hx, he, h3⟩
      · rcases h.pred y b (.inl hy') with h1 | ⟨x, t, a, hx, he, h3⟩
        · exact .inl h1
        · exact .inr ⟨x, t, a, hup _ _ hx, he, h3⟩
    · rcases hr.from_ y b hy with ⟨hy', -⟩ | ⟨x, t, hs, he, rfl⟩
      · rcases h.pred y b (.inr hy') with h1 | ⟨x, t, a, hx, he, h3⟩
        · exact .inl h1
        · exact .inr ⟨x, t, a, hup _ _ hx, he, h3⟩
      · exact .inr ⟨x, t, m, hr.settled x hs, he, rfl⟩
  · rcases hy with hy | hy
    · exact hlow y b hy
    · rcases hr.from_ y b hy with ⟨hy', -⟩ | ⟨x, t, hs, he, rfl⟩
      · exact h.low y b (.inr hy')
      · have := hE _ _ _ he
        omega
  · have h1 := hm x a hx
    rcases hr.from_ y b hy with ⟨hy', -⟩ | ⟨x', t, hs, he, rfl⟩
    · have := hr.least y b hy'
      omega
    · have := hE _ _ _ he
      omega
end Go.Proofs.Ytlpeimlbpiofkaa

namespace Go.Proofs.Ytlpeimlbpiofkaa

/-- Each move counts one. -/
def One {α : Type} (E : α → α → Prop) : α → Int → α → Prop := fun x t y => t = 1 ∧ E x y
def put {α : Type} [DecidableEq α] (d : α → Option Int) (y : α) (v : Int) : α → Option Int := fun z => if z = y then some v else d z
theorem put_at {α : Type} [DecidableEq α] (d : α → Option Int) (y : α) (v : Int) : put d y v y = some v := by simp [put]
theorem put_off {α : Type} [DecidableEq α] {d : α → Option Int} {y z : α} {v : Int} (h : z ≠ y) : put d y v z = d z := by simp [put, h]

/-- Between two places: what is reached, what is done with, what waits. -/
structure Wave {α : Type} (E : α → α → Prop) (src : α) (d : α → Option Int) (dn : α → Prop) (queue : List α) : Prop where
  start : d src = some 0
  pred : ∀ y b, d y = some b → (y = src ∧ b = 0) ∨ ∃ x a, d x = some a ∧ E x y ∧ b = a + 1
  low : ∀ y b, d y = some b → 0 ≤ b
  done : ∀ x, dn x → ∀ y, E x y → ∃ a b, d x = some a ∧ d y = some b ∧ b ≤ a + 1
  cover : ∀ y b, d y = some b → dn y ∨ y ∈ queue
  known : ∀ y ∈ queue, ∃ b, d y = some b
  sorted : queue.Pairwise (fun x y => ∀ a b, d x = some a → d y = some b → a ≤ b)
  top : ∀ x rest, queue = x :: rest → ∀ a, d x = some a → ∀ y b, d y = some b → b ≤ a + 1
/-- In the midst of the moves from x. -/
structure Amid {α : Type} (E : α → α → Prop) (src : α) (d : α → Option Int) (dn : α → Prop) (x : α) (a : Int) (tried rest : List α) : Prop where
  start : d src = some 0
  pred : ∀ y b, d y = some b → (y = src ∧ b = 0) ∨ ∃ x a, d x = some a ∧ E x y ∧ b = a + 1
  low : ∀ y b, d y = some b → 0 ≤ b
  done : ∀ x, dn x → ∀ y, E x y → ∃ a b, d x = some a ∧ d y = some b ∧ b ≤ a + 1
  at_ : d x = some a
  tried : ∀ y ∈ tried, ∃ b, d y = some b ∧ b ≤ a + 1
  cover : ∀ y b, d y = some b → dn y ∨ y = x ∨ y ∈ rest
  known : ∀ y ∈ rest, ∃ b, d y = some b ∧ a ≤ b
  sorted : rest.Pairwise (fun x y => ∀ a b, d x = some a → d y = some b → a ≤ b)
  top : ∀ y b, d y = some b → b ≤ a + 1

section
variable {α : Type} {E : α → α → Prop} {src : α} {d : α → Option Int} {dn : α → Prop}
theorem wave_start [DecidableEq α] : Wave E src (put (fun _ => none) src 0) (fun _ => False) [src] where
  start := put_at _ _ _
  pred := fun y b h => by
    by_cases hy : y = src
    · subst hy; rw [put_at] at h; exact .inl ⟨rfl, by simpa using h.symm⟩
    · rw [put_off hy] at h; cases h
  low := fun y b h => by
    by_cases hy : y = src
    · subst hy; rw [put_at] at h; have : (0 : Int) = b := by simpa using h
      omega
    · rw [put_off hy] at h; cases h
  done := fun x h => absurd h (by simp)
  cover := fun y b h => by
    by_cases hy : y = src
    · exact .inr (by simp [hy])
    · rw [put_off hy] at h; cases h
  known := fun y h => by
    obtain rfl : y = src := by simpa using h
    exact ⟨0, put_at _ _ _⟩
  sorted := by simp
  top := fun x rest h a ha y b hb => by
    obtain ⟨rfl, -⟩ : src = x ∧ [] = rest := by simpa using h
    rw [put_at] at ha
    by_cases hy : y = src
    · subst hy; rw [put_at] at hb; have h1 : (0 : Int) = a := by simpa using ha
      have h2 : (0 : Int) = b := by simpa using hb
      omega
    · rw [put_off hy] at hb; cases hb
theorem wave_end (h : Wave E src d dn []) : Least (One E) src d where
  start := h.start
  edge := fun x t y a ha ⟨ht, he⟩ => by
    rcases h.cover x a ha with hd | hd
    · obtain ⟨a', b, h1, h2, h3⟩ := h.done x hd y he
      rw [ha] at h1
      obtain rfl : a = a' := by simpa using h1
      exact ⟨b, h2, by omega⟩
    · cases hd
  pred := fun y b hb => by
    rcases h.pred y b hb with h1 | ⟨x, a, h1, h2, h3⟩
    · exact .inl h1
    · exact .inr ⟨x, 1, a, h1, ⟨rfl, h2⟩, h3⟩
  low := h.low
theorem wave_amid {x : α} {rest : List α} (h : Wave E src d dn (x :: rest)) : ∃ a, Amid E src d dn x a [] rest := by
  obtain ⟨a, ha⟩ := h.known x (by simp)
  obtain ⟨s1, s2⟩ := List.pairwise_cons.1 h.sorted
  refine ⟨a, h.start, h.pred, h.low, h.done, ha, (fun y hy => by cases hy), fun y b hb => ?_, fun y hy => ?_, s2, fun y b hb => h.top x rest rfl a ha y b hb⟩
  · rcases h.cover y b hb with h1 | h1
    · exact .inl h1
    · rcases List.mem_cons.1 h1 with h2 | h2
      · exact .inr (.inl h2)
      · exact .inr (.inr h2)
  · obtain ⟨b, hb⟩ := h.known y (List.mem_cons_of_mem _ hy)
    exact ⟨b, hb, s1 y hy a b ha hb⟩
theorem amid_old {x y : α} {a b : Int} {tried rest : List α} (h : Amid E src d dn x a tried rest) (hy : d y = some b) : Amid E src d dn x a (tried ++ [y]) rest := by
  refine ⟨h.start, h.pred, h.low, h.done, h.at_, fun z hz => ?_, h.cover, h.known, h.sorted, h.top⟩
  rcases List.mem_append.1 hz with h1 | h1
  · exact h.tried z h1
  · obtain rfl : z = y := by simpa using h1
    exact ⟨b, hy, h.top _ _ hy⟩
theorem amid_new [DecidableEq α] {x y : α} {a : Int} {tried rest : List α} (h : Amid E src d dn x a tried rest) (he : E x y) (hy : d y = none) : Amid E src (put d y (a + 1)) dn x a (tried ++ [y]) (rest ++ [y]) := by
  have hk : ∀ {z : α} {b : Int}, d z = some b → put d y (a + 1) z = some b := fun {z b} hz => by
    rw [put_off, hz]
    intro hzy
    rw [hzy, hy] at hz
    cases hz
  have ho : ∀ {z : α} {b : Int}, put d y (a + 1) z = some b → (z = y ∧ b = a + 1) ∨ d z = some b := fun {z b} hz => by
    by_cases hzy : z = y
    · subst hzy
      rw [put_at] at hz
      exact .inl ⟨rfl, by simpa using hz.symm⟩
    · rw [put_off hzy] at hz
      exact .inr hz
  have ha0 := h.low x a h.at_
  refine ⟨hk h.start, fun z b hz => ?_, fun z b hz => ?_, fun z hz w hw => ?_, hk h.at_, fun z hz => ?_, fun z b hz => ?_, fun z hz => ?_, ?_, fun z b hz => ?_⟩
  · rcases ho hz with ⟨rfl, rfl⟩ | h1
    · exact .inr ⟨x, a, hk h.at_, he, rfl⟩
    · rcases h.pred z b h1 with h2 | ⟨w, c, h2, h3, h4⟩
      · exact .inl h2
      · exact .inr ⟨w, c, hk h2, h3, h4⟩
  · rcases ho hz with ⟨rfl, rfl⟩ | h1
    · omega
    · exact h.low z b h1
  · obtain ⟨p, q, h1, h2, h3⟩ := h.done z hz w hw
    exact ⟨p, q, hk h1, hk h2, h3⟩
  · rcases List.mem_append.1 hz with h1 | h1
    · obtain ⟨b, h2, h3⟩ := h.tried z h1
      exact ⟨b, hk h2, h3⟩
    · obtain rfl : z = y := by simpa using h1
      exact ⟨a + 1, put_at _ _ _, Int.le_refl _⟩
  · rcases ho hz with ⟨rfl, rfl⟩ | h1
    · exact .inr (.inr (by simp))
    · rcases h.cover z b h1 with h2 | h2 | h2
      · exact .inl h2
      · exact .inr (.inl h2)
      · exact .inr (.inr (List.mem_append_left _ h2))
  · rcases List.mem_append.1 hz with h1 | h1
    · obtain ⟨b, h2, h3⟩ := h.known z h1
      exact ⟨b, hk h2, h3⟩
    · obtain rfl : z = y := by simpa using h1
      exact ⟨a + 1, put_at _ _ _, by omega⟩
  · rw [List.pairwise_append]
    refine ⟨?_, by simp, fun z hz w hw p q hp hq => ?_⟩
    · refine h.sorted.imp_of_mem fun {z w} hz hw hs p q hp hq => ?_
      obtain ⟨p', h1, -⟩ := h.known z hz
      obtain ⟨q', h2, -⟩ := h.known w hw
      rw [hk h1] at hp
      rw [hk h2] at hq
      obtain rfl : p' = p := by simpa using hp
      obtain rfl : q' = q := by simpa using hq
      exact hs _ _ h1 h2
    · obtain rfl : w = y := by simpa using hw
      rw [put_at] at hq
      have hq' : a + 1 = q := by simpa using hq
      obtain ⟨p', h1, -⟩ := h.known z hz
      rw [hk h1] at hp
      obtain rfl : p' = p := by simpa using hp
      have := h.top z p' h1
      omega
  · rcases ho hz with ⟨rfl, rfl⟩ | h1
    · omega
    · exact h.top z b h1
theorem amid_end {x : α} {a : Int} {tried rest : List α} (h : Amid E src d dn x a tried rest) (hall : ∀ y, E x y → y ∈ tried) : Wave E src d (fun z => dn z ∨ z = x) rest where
  start := h.start
  pred := h.pred
  low := h.low
  done := fun z hz y he => by
    rcases hz with hz | rfl
    · exact h.done z hz y he
    · obtain ⟨b, h1, h2⟩ := h.tried y (hall y he)
      exact ⟨a, b, h.at_, h1, h2⟩
  cover := fun y b hb => by
    rcases h.cover y b hb with h1 | h1 | h1
    · exact .inl (.inl h1)
    · exact .inl (.inr h1)
    · exact .inr h1
  known := fun y hy => by
    obtain ⟨b, h1, -⟩ := h.known y hy
    exact ⟨b, h1⟩
  sorted := h.sorted
  top := fun z rest' hr c hc y b hb => by
    subst hr
    obtain ⟨c', h1, h2⟩ := h.known z (by simp)
    rw [hc] at h1
    obtain rfl : c = c' := by simpa using h1
    have := h.top y b hb
    omega

/-- How many of some places are not reached. -/
def unmet (U : List α) (d : α → Option Int) : Nat := (U.filter (fun z => (d z).isNone)).length
theorem unmet_put [DecidableEq α] {y : α} {v : Int} : ∀ {U : List α}, U.Nodup → y ∈ U → d y = none → unmet U (put d y v) + 1 = unmet U d
  | [], _, h, _ => by cases h
  | u :: U, hn, hm, hy => by
    obtain ⟨hu, hn'⟩ := List.nodup_cons.1 hn
    unfold unmet
    by_cases huy : u = y
    · subst huy
      have hsame : U.filter (fun z => (put d u v z).isNone) = U.filter (fun z => (d z).isNone) := List.filter_congr fun z hz => by
        rw [put_off (fun e => hu (by rw [← e]; exact hz))]
      rw [List.filter_cons_of_neg (by rw [put_at]; simp), List.filter_cons_of_pos (by rw [hy]; rfl), hsame]
      rfl
    · have hm' : y ∈ U := by
        rcases List.mem_cons.1 hm with e | e
        · exact absurd e.symm huy
        · exact e
      have ih := unmet_put (v := v) hn' hm' hy
      unfold unmet at ih
      cases hdu : d u with
      | none =>
        rw [List.filter_cons_of_pos (by rw [put_off huy, hdu]; rfl), List.filter_cons_of_pos (by rw [hdu]; rfl), List.length_cons, List.length_cons]
        omega
      | some b =>
        rw [List.filter_cons_of_neg (by rw [put_off huy, hdu]; simp), List.filter_cons_of_neg (by rw [hdu]; simp)]
        exact ih
end
end Go.Proofs.Ytlpeimlbpiofkaa
