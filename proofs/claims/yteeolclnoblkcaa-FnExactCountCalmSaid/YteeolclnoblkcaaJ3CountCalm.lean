/-
  What is proved: contracts of a party slowed down, as the model and the program make it. Conditions: the party's times are read as they lie.
  What is proved: contracts of a party without one person, as the model makes it; append onto a list of the call's own inside a region that draws. Conditions: the party's times are read as they lie.
  What is proved: contracts of the laws' own helpers for lists of lists of numbers: their size, their copy, their comparison. Conditions: the given lists are read as they lie; a copy is of at most 1,048,576 numbers.
  What is proved: contracts of the laws' copy and comparison of lists of lists of numbers. Conditions: the given lists are read as they lie; a copy is of at most 1,048,576 numbers.
  What is proved: lists of lists of the call's own, and contracts of the laws' marks on them. Conditions: the rows are new, open to writes and apart from each other; counts are small.
  What is proved: plain facts on trips one after the other: who is where behind them, how many of them can be made. Conditions: none.
  What is proved: contracts of a trip made, by the model (paCross) and by the program (cross). Conditions: the trip is one; at most eight people.
  What is proved: the contract of a trip made by the model. Conditions: the trip is one.
  What is proved: the contract of trips made one after the other by the model. Conditions: the arguments are read as they lie; there is somebody.
  What is proved: a list of lists that the call makes row by row. Conditions: each new row is the call's own, in a range of blocks that no other one meets.
  What is proved: plain facts on the rising lists that begin with some people and go on with others, and on lists of lists put one behind the other. Conditions: none.
  What is proved: the contract of the program's listsFrom: the rising lists that begin with some people and go on with others. Conditions: the lists are read as they lie; at most eight others, and at most eight to begin with.
  What is proved: the contract of crowd.list: the people of a crowd in their order. Conditions: a crowd of a strictly rising list of numbers from 0 to 7.
  What is proved: the contract of the model's sorting (paSorted). Conditions: the list is read as it lies; at most 1,048,576 numbers.
  What is proved: the people who are where the torch is, as the program lists them. Conditions: at most eight people.
  What is proved: the crowds of so many people, as the program lists them. Conditions: at most eight people.
  What is proved: the contract of the program's CountCalm, that it is the model's, and the law on it. Conditions: none.
  What is proved: the law FnExactCountCalm returns true at every argument, and leaves all that was there as it was. Conditions: the arguments are read as they lie.
-/
import Derived.Deep.RegionHeld3
import Derived.Deep.DeepCutAuto
import Derived.Deep.RegionLawGrows
import Derived.Deep.AppendLies
import Derived.Test.YteeolclnoblkcaaJ2CountCalm
namespace Go.Proofs.Yteeolclnoblkcaa
open Go.RowKit

/-- What a call hands back that makes a list of numbers. -/
def NumsPost (bs : List Int) (w : World) (e : Ending) (w' : World) : Prop :=
  ∃ (A : Option Addr) (c : Nat), e = .returned (.slice A bs.length c) ∧ Fresh w' w.heap.size w'.heap.size 3 A (nums bs) ∧ Below w.heap.size w w'
/-- What a call hands back that makes a party and tells whether it did. -/
def PartyPost (xs : List Int) (s : Int) (ok : Bool) (w : World) (e : Ending) (w' : World) : Prop :=
  ∃ (A : Option Addr) (c : Nat), e = .returned (.tuple #[.agg #[.slice A xs.length c, .int .i64 s], .bool ok]) ∧ Fresh w' w.heap.size w'.heap.size 3 A (nums xs) ∧ Below w.heap.size w w'

theorem nums_one (bs : List Int) : ∀ u ∈ nums bs, u.oneCell' = true := by
  intro v hv
  simp only [nums, List.mem_map] at hv
  obtain ⟨x, -, rfl⟩ := hv
  rfl

set_option maxHeartbeats 800000 in
set_option maxRecDepth 100000 in
theorem cloneI_any (b o n d : Nat) (bs : List Int) (w : World) (hB : ∀ j u, (nums bs)[j]? = some u → w.cell? ⟨b, o + j, none⟩ = some u) (hy : bs.length = n) (hn : n ≤ 1048576) :
    Calls Try.prog 119 #[.slice (some ⟨b, o, none⟩) n d] w (NumsPost bs w) := by
  subst hy
  obtain ⟨i0, hi, hz0, hz1, hz2⟩ := info_parts info_int
  have HI := Lib.hid hi
  have HZ0 := Lib.hid hz0
  have HZ1 := Lib.hid hz1
  have HZ2 := Lib.hid hz2
  have HB := Lib.hid hB
  clear hi hz0 hz1 hz2 hB
  go_enter Try.func119, Try.ntmps119
  have hnil := fun (W : World) => Lib.run_eql_slice_nil (P := Try.prog) W 28 3 (some ⟨b, o, none⟩) bs.length d 0 0 Try.underlying28
  have HOWN := Lib.hid (World.ownsRow_made (base := w.heap.size) (e := 3) (size := 1) w #[] 0 (Nat.le_refl _) (by unfold maxLen; omega) rfl)
  have hnews : ∀ j u, (nums bs)[j]? = some u → (w.alloc (.cells #[] 3)).cell? ((⟨b, o, none⟩ : Addr).add j) = some u := fun j u hu => by
    rw [show (⟨b, o, none⟩ : Addr).add j = ⟨b, o + j, none⟩ from by unfold Addr.add; split <;> simp_all]
    have h := HB.out j u hu
    rw [World.cell?_alloc_lt _ _ _ (block_lt_of_cell h)]
    exact h
  have HNEWS := Lib.hid hnews
  have HLEN := Lib.hid (show (nums bs).length = bs.length * 1 by rw [nums_len, Nat.mul_one])
  have HONE := Lib.hid (nums_one bs)
  have HMAX := Lib.hid (show 0 + bs.length ≤ maxLen by unfold maxLen; omega)
  have HBYT := Lib.hid (show (0 + bs.length) * 8 ≤ 140737488355328 by omega)
  clear hnews
  go_wp2_with (at_builtin; refine wpList_append_own _ rfl (.tmp 5) (.tmp 6) 28 rfl w.heap.size 3 i0 (.int .i64 0) 1 8 Try.underlying28 HI.out HZ0.out HZ1.out HZ2.out rfl (by decide) _ 0 [] rfl HOWN.out ⟨b, o, none⟩ bs.length d (nums bs) rfl HLEN.out HNEWS.out HONE.out HMAX.out HBYT.out (by simp) ?_; intro v' w1 hown1 hg1 _)
  go_ret
  simp only [Nat.zero_add, List.nil_append] at hown1
  obtain ⟨A, c, hv, hf⟩ := Fresh.of_own hown1 (Nat.le_refl _)
  refine ⟨A, c, by rw [← hv]; rfl, hf, ?_⟩
  exact (below1 w _).grown hg1 (by simp) (fun k hk => Nat.le_of_eq (Option.some.inj (show some w.heap.size = some k from hk)))

/-- The times, each so many times as great. -/
def times (xs : List Int) (k : Int) : List Int := xs.map (· * k)
theorem times_len (xs : List Int) (k : Int) : (times xs k).length = xs.length := by simp [times]
def slowOk (xs : List Int) (s k : Int) : Bool := isParty xs s && (within k 1 1000 && isParty (times xs k) s)
def slowXs (xs : List Int) (s k : Int) : List Int := if slowOk xs s k then times xs k else []
def slowSeats (xs : List Int) (s k : Int) : Int := if slowOk xs s k then s else 0
theorem slow_of {xs : List Int} {s k : Int} {x : Bool} (h1 : isParty xs s = true) (h2 : within k 1 1000 = true) (h3 : isParty (times xs k) s = x) : slowOk xs s k = x := by simp [slowOk, h1, h2, h3]
theorem slowXs_le (xs : List Int) (s k : Int) : (slowXs xs s k).length ≤ xs.length := by
  rw [slowXs]
  split
  · rw [times_len]; exact Nat.le_refl _
  · simp
theorem slow_no {xs : List Int} {s k : Int} (h : slowOk xs s k = false) : slowXs xs s k = [] ∧ slowSeats xs s k = 0 := by simp [slowXs, slowSeats, h]
theorem slow_yes {xs : List Int} {s k : Int} (h : slowOk xs s k = true) : slowXs xs s k = times xs k ∧ slowSeats xs s k = s := by simp [slowXs, slowSeats, h]
theorem party_all {xs : List Int} {s : Int} (h : isParty xs s = true) : ∀ x ∈ xs, 1 ≤ x ∧ x ≤ 1000 := by
  simp only [isParty, Bool.and_eq_true] at h
  exact (allIn_iff _ _ _).1 h.2.1
theorem times_next {xs : List Int} {k : Int} {j : Nat} (hj : j < xs.length) : nums (times (xs.take j) k) ++ [.int .i64 (xs[j] * k)] = nums (times (xs.take (j + 1)) k) := by
  rw [List.take_succ_eq_append_getElem hj]
  simp only [nums, times, List.map_append, List.map_cons, List.map_nil]
theorem slow_iff {xs : List Int} {s k : Int} (hp : isParty xs s = true) (hk : 1 ≤ k) : slowOk xs s k = decide (mostOf xs ≤ 1000 / k) := by
  have hall := party_all hp
  have hne : xs ≠ [] := by
    rintro rfl
    simp [isParty, within] at hp
  have hd : ∀ x : Int, x ≤ 1000 / k ↔ x * k ≤ 1000 := fun x => Int.le_ediv_iff_mul_le (by omega)
  rw [Bool.eq_iff_iff, decide_eq_true_eq, mostOf_le hne]
  simp only [slowOk, hp, Bool.true_and, Bool.and_eq_true]
  constructor
  · rintro ⟨-, h⟩ x hx
    have := party_all h (x * k) (List.mem_map_of_mem hx)
    exact (hd x).2 this.2
  · intro h
    have hk2 : k ≤ 1000 := by
      obtain ⟨y, hy⟩ := List.exists_mem_of_ne_nil _ hne
      have h1 := (hd y).1 (h y hy)
      have h2 := (hall y hy).1
      have h3 : 1 * k ≤ y * k := Int.mul_le_mul_of_nonneg_right h2 (by omega)
      omega
    refine ⟨within_yes hk hk2, ?_⟩
    simp only [isParty, Bool.and_eq_true] at hp ⊢
    refine ⟨by rw [times_len]; exact hp.1, (allIn_iff _ _ _).2 fun y hy => ?_, hp.2.2⟩
    simp only [times, List.mem_map] at hy
    obtain ⟨x, hx, rfl⟩ := hy
    have h1 := (hd x).1 (h x hx)
    have h2 := (hall x hx).1
    have h3 : 1 * 1 ≤ x * k := Int.mul_le_mul h2 hk (by omega) (by omega)
    exact ⟨by omega, h1⟩

end Go.Proofs.Yteeolclnoblkcaa

namespace Go.Proofs.Yteeolclnoblkcaa
open Go.RowKit

/-- append onto a list of the call's own, as a step of a region that draws its order; nothing may be appended too. -/
theorem step_append_mine {P : Program} {ops : Array Oper} {o : Oper} {a : Act} {w : World} {K : Act → World → Prop} {Q : Exit → Act → World → Prop} {E : Prop}
    (hg : o.guard = none) (s x : Operand) (t : TypeId) (hop : o.op = Op.call { callee := Callee.builtin Builtin.append, args := #[s, x], argTypes := #[t, t] })
    (base : Nat) (e : TypeId) (i : TypeInfo) (z : Value) (size bytes : Nat) (h1 : P.underlying t = some (.slice e)) (h2 : P.info? e = some i) (h3 : i.zero = some z) (h4 : i.size = size) (h5 : i.bytes = bytes) (h6 : z.cells.size = size) (h7 : 0 < size)
    (v : Value) (n : Nat) (xs : List Value) (hs : a.eval s = v) (hown : w.ownsRow base e size v n xs)
    (ad : Addr) (m c : Nat) (news : List Value) (hx : a.eval x = .slice (some ad) m c) (hn : news.length = m * size) (hc : ∀ j u, news[j]? = some u → w.cell? (ad.add j) = some u) (h1c : ∀ u ∈ news, u.oneCell' = true)
    (b1 : n + m ≤ maxLen) (b2 : (n + m) * bytes ≤ 140737488355328) (b3 : base ≤ w.heap.size)
    (hK : ∀ v' w', w'.ownsRow base e size v' (n + m) (xs ++ news) → w.grownBy w' v.ownBlock → K (a.put o.dst v') w') :
    if Region.wanted o (yielded ops a.tmps) = true then Oper.wp P o a w K Q else E := by
  have hw : Region.wanted o (yielded ops a.tmps) = true := by simp [Region.wanted, hg]
  rw [if_pos hw]
  obtain ⟨v', w', hrun, r1, r2, _⟩ := run_append_own (P := P) w base t o.type e i z size bytes h1 h2 h3 h4 h5 h6 h7 v n xs hown ad m c news hn hc h1c b1 b2 b3
  unfold Oper.wp
  simp [execOp, hop, resolve, invoke, builtin, hs, hx, hrun, Result.andThen]
  exact hK v' w' r1 r2

/-- Whether there is a party without that person. -/
def dropOk (xs : List Int) (s k : Int) : Bool := isParty xs s && (within k 0 (xs.length - 1) && !decide ((xs.length : Int) = 1))
/-- The times without that person's. -/
def lessOne (xs : List Int) (k : Nat) : List Int := xs.take k ++ xs.drop (k + 1)
def dropXs (xs : List Int) (s k : Int) : List Int := if dropOk xs s k then lessOne xs k.toNat else []
def dropSeats (xs : List Int) (s k : Int) : Int := if dropOk xs s k then s else 0
theorem lessOne_le (xs : List Int) (k : Nat) : (lessOne xs k).length ≤ xs.length := by
  simp only [lessOne, List.length_append, List.length_take, List.length_drop]
  omega
theorem dropXs_le (xs : List Int) (s k : Int) : (dropXs xs s k).length ≤ xs.length := by
  rw [dropXs]
  split
  · exact lessOne_le _ _
  · simp
theorem drop_no {xs : List Int} {s k : Int} (h : dropOk xs s k = false) : dropXs xs s k = [] ∧ dropSeats xs s k = 0 := by simp [dropXs, dropSeats, h]
theorem drop_yes {xs : List Int} {s k : Int} (h : dropOk xs s k = true) : dropXs xs s k = lessOne xs k.toNat ∧ dropSeats xs s k = s := by simp [dropXs, dropSeats, h]
/-- Where the list behind a place lies: at the list's own address where no room is left behind that place. -/
theorem tail_at {w : World} {b o n c k : Nat} {xs : List Int} (hc : ∀ j u, (nums xs)[j]? = some u → w.cell? ⟨b, o + j, none⟩ = some u) (hx : xs.length = n) (hn : n ≤ c) :
    ∃ d, (if c = k + 1 then some (⟨b, o, none⟩ : Addr) else some ⟨b, o + (k + 1), none⟩) = some ⟨b, d, none⟩ ∧ Hid (∀ j u, (nums (xs.drop (k + 1)))[j]? = some u → w.cell? ⟨b, d + j, none⟩ = some u) := by
  by_cases h : c = k + 1
  · refine ⟨o, by simp [h], fun j u hu => ?_⟩
    have h0 : xs.drop (k + 1) = [] := List.drop_eq_nil_of_le (by omega)
    rw [h0] at hu
    simp [nums] at hu
  · refine ⟨o + (k + 1), by simp [h], fun j u hu => ?_⟩
    have := hc (k + 1 + j) u (by simpa [nums, List.getElem?_map, List.getElem?_drop] using hu)
    rw [show o + (k + 1) + j = o + (k + 1 + j) by omega]
    exact this
theorem head_at {w : World} {b o k : Nat} {xs : List Int} (hb : b < w.heap.size) (hc : ∀ j u, (nums xs)[j]? = some u → w.cell? ⟨b, o + j, none⟩ = some u) : Holds w (some ⟨b, o, none⟩) (nums (xs.take k)) := by
  refine .inr ⟨b, o, rfl, hb, fun j u hu => hc j u ?_⟩
  simp only [nums, List.getElem?_map, List.getElem?_take] at hu ⊢
  split at hu
  · exact hu
  · simp at hu

theorem dropOk_iff {xs : List Int} {s k : Int} : dropOk xs s k = true ↔ isParty xs s = true ∧ 0 ≤ k ∧ k < xs.length ∧ 2 ≤ xs.length := by
  simp only [dropOk, Bool.and_eq_true, Bool.not_eq_true', decide_eq_false_iff_not, within_iff]
  constructor
  · rintro ⟨h, h1, h2⟩
    exact ⟨h, by omega, by omega, by omega⟩
  · rintro ⟨h, h1, h2, h3⟩
    exact ⟨h, by omega, by omega⟩
end Go.Proofs.Yteeolclnoblkcaa

namespace Go.Proofs.Yteeolclnoblkcaa
open Go.RowKit

/-- One list among others: where it lies, its length, its room, its numbers. -/
structure RowV where
  A : Option Addr
  n : Nat
  c : Nat
  xs : List Int
def RowV.val (r : RowV) : Value := .slice r.A r.n r.c
def rowVals (rs : List RowV) : List Value := rs.map RowV.val
def rowNums (rs : List RowV) : List (List Int) := rs.map RowV.xs
theorem rowVals_len (rs : List RowV) : (rowVals rs).length = rs.length := by simp [rowVals]
theorem rowNums_len (rs : List RowV) : (rowNums rs).length = rs.length := by simp [rowNums]
def RowOk (w : World) (r : RowV) : Prop := Holds w r.A (nums r.xs) ∧ r.xs.length = r.n ∧ r.n ≤ 9223372036854775807
/-- From A on the world holds these lists. -/
def Grid (w : World) (A : Option Addr) (rs : List RowV) : Prop := Holds w A (rowVals rs) ∧ ∀ r ∈ rs, RowOk w r
theorem RowOk.below {w w' : World} {r : RowV} (h : RowOk w r) (hb : Below w.heap.size w w') : RowOk w' r := ⟨h.1.below hb, h.2⟩
theorem Grid.below {w w' : World} {A : Option Addr} {rs : List RowV} (h : Grid w A rs) (hb : Below w.heap.size w w') : Grid w' A rs := ⟨h.1.below hb, fun r hr => (h.2 r hr).below hb⟩
theorem Grid.alloc {w : World} {A : Option Addr} {rs : List RowV} (h : Grid w A rs) (o : Obj) : Grid (w.alloc o) A rs := h.below (below1 w o)
theorem Grid.drew {w : World} {A : Option Addr} {rs : List RowV} (h : Grid w A rs) : Grid w.drew A rs := h
theorem Grid.look {w : World} {A : Option Addr} {rs : List RowV} (h : Grid w A rs) {k : Nat} (hk : k < rs.length) :
    ∃ b o, A = some ⟨b, o, none⟩ ∧ b < w.heap.size ∧ w.cell? ⟨b, o + k, none⟩ = some (.slice rs[k].A rs[k].n rs[k].c) ∧ RowOk w rs[k] := by
  obtain ⟨b, o, hA, hb, hc⟩ := h.1.look (k := k) (by rw [rowVals_len]; exact hk)
  refine ⟨b, o, hA, hb, ?_, h.2 _ (List.getElem_mem hk)⟩
  rw [hc]
  simp [rowVals, RowV.val]

/-- The lengths of the first k lists together. -/
def part (rs : List RowV) (k : Nat) : Nat := ((rs.take k).map RowV.n).sum
/-- The length and all lengths together. -/
def total (rs : List RowV) : Nat := rs.length + part rs rs.length
theorem part_zero (rs : List RowV) : part rs 0 = 0 := rfl
theorem part_next {rs : List RowV} {k : Nat} (hk : k < rs.length) : part rs (k + 1) = part rs k + rs[k].n := by
  rw [part, part, List.take_succ_eq_append_getElem hk, List.map_append, List.sum_append]
  simp
theorem part_le {rs : List RowV} : ∀ {k : Nat}, k ≤ rs.length → ∀ {j : Nat}, j ≤ k → part rs j ≤ part rs k
  | 0, _, j, hj => by obtain rfl : j = 0 := by omega
                      exact Nat.le_refl _
  | k + 1, hk, j, hj => by
    rcases Nat.lt_or_ge j (k + 1) with h | h
    · have h1 := part_le (rs := rs) (k := k) (by omega) (j := j) (by omega)
      have h2 := part_next (rs := rs) (k := k) (by omega)
      omega
    · obtain rfl : j = k + 1 := by omega
      exact Nat.le_refl _
theorem total_row {rs : List RowV} {k : Nat} (hk : k < rs.length) : rs[k].n ≤ total rs := by
  have h1 := part_next hk
  have h2 := part_le (rs := rs) (Nat.le_refl _) (j := k + 1) (by omega)
  unfold total
  omega
theorem total_len (rs : List RowV) : rs.length ≤ total rs := by unfold total; omega
def totalLeft (rs : List RowV) (l : Int) : Int := if l < (total rs : Int) then -1 else l - (total rs : Int)
theorem totalLeft_no {rs : List RowV} {l : Int} {k : Nat} (hk : k ≤ rs.length) (h : l < (rs.length : Int) + (part rs k : Int)) : totalLeft rs l = -1 := by
  have h2 := part_le (rs := rs) (Nat.le_refl _) (j := k) hk
  rw [totalLeft, if_pos (by unfold total; omega)]
theorem totalLeft_yes {rs : List RowV} {l : Int} (h : (rs.length : Int) + (part rs rs.length : Int) ≤ l) : totalLeft rs l = l - ((rs.length : Int) + (part rs rs.length : Int)) := by
  rw [totalLeft, if_neg (by unfold total; omega)]
  unfold total
  omega

set_option maxHeartbeats 800000 in
theorem szIntSS_any (A : Option Addr) (n c : Nat) (rs : List RowV) (l : Int) (w : World) (hA : Grid w A rs) (hx : rs.length = n) (hn : n ≤ 9223372036854775807) (h0 : 0 ≤ l) (h1 : l ≤ 1048576) :
    Calls Try.prog 37 #[.slice A n c, .int .i64 l] w fun e w' => e = .returned (.int .i64 (totalLeft rs l)) ∧ w = w' := by
  subst hx
  by_cases h : l < rs.length
  · have h' : l - rs.length < 0 := by omega
    have HN := Lib.hid (totalLeft_no (rs := rs) (k := 0) (l := l) (Nat.zero_le _) (by rw [part_zero]; omega))
    go_enter Try.func37, Try.ntmps37
    go_wp2
    go_ret
    exact ⟨ret_of (by rw [HN.out]; rfl), rfl⟩
  · have h' : ¬ l - rs.length < 0 := by omega
    go_enter Try.func37, Try.ntmps37
    go_wp2
    go_loop [1, 5] (fun v i => ∃ (k : Nat) (x : Int), k ≤ rs.length ∧ i = .int .i64 k ∧ v = .int .i64 x ∧ 0 ≤ x ∧ x ≤ 1048576 ∧ x + (rs.length : Int) + (part rs k : Int) = l) (fun _ i => rs.length - (intOf i).toNat)
    case atStart => exact ⟨0, _, Nat.zero_le _, rfl, rfl, by omega, by omega, by rw [part_zero]; omega⟩
    case round =>
      obtain ⟨k, x, hk, rfl, rfl, hx0, hx1, hl⟩ := hrel
      by_cases hlt : k < rs.length
      · obtain ⟨b, o, rfl, hb, hc, hok⟩ := hA.look hlt
        have hp := part_next hlt
        by_cases hs : x < rs[k].n
        · have HN := Lib.hid (totalLeft_no (rs := rs) (k := k + 1) (l := l) (by omega) (by omega))
          clear hl hp h h'
          go_wp2_with (go_at_call 79; refine (szIntS_any _ _ _ _ _ hok.2.2 hx0 hx1).mono ?_; rintro e w' ⟨rfl, rfl⟩; rw [if_pos hs])
          go_ret
          exact ⟨ret_of (by rw [HN.out]; rfl), rfl⟩
        · have hl2 : x - rs[k].n + (rs.length : Int) + (part rs (k + 1) : Int) = l := by omega
          have HL := Lib.hid hl2
          have hx2 : 0 ≤ x - (rs[k].n : Int) := by omega
          have hx3 : x - (rs[k].n : Int) ≤ 1048576 := by omega
          clear hl hp h h' hl2
          go_wp2_with (go_at_call 79; refine (szIntS_any _ _ _ _ _ hok.2.2 hx0 hx1).mono ?_; rintro e w' ⟨rfl, rfl⟩; rw [if_neg hs])
          go_round
          case rel => exact ⟨k + 1, _, by omega, by go_num, rfl, hx2, hx3, HL.out⟩
          case measure => simp [intOf]; omega
      · have hkn : k = rs.length := by omega
        subst hkn
        have HN := Lib.hid (totalLeft_yes (rs := rs) (l := l) (by omega))
        have HV := Lib.hid (show x = l - ((rs.length : Int) + (part rs rs.length : Int)) by omega)
        clear hl h h'
        go_wp2
        go_ret
        exact ⟨ret_of (by rw [HN.out, ← HV.out]; rfl), rfl⟩
end Go.Proofs.Yteeolclnoblkcaa

namespace Go.Proofs.Yteeolclnoblkcaa
open Go.RowKit

/-- Lists of the call's own, each in blocks behind those of the one before. -/
def OwnRows (w : World) : Nat → Nat → List RowV → Prop
  | lo, hi, [] => lo ≤ hi
  | lo, hi, r :: rs => ∃ mid, lo ≤ mid ∧ Fresh w lo mid 3 r.A (nums r.xs) ∧ r.xs.length = r.n ∧ r.n ≤ 1048576 ∧ OwnRows w mid hi rs
theorem OwnRows.le {w : World} : ∀ {rs : List RowV} {lo hi : Nat}, OwnRows w lo hi rs → lo ≤ hi
  | [], _, _, h => h
  | _ :: _, _, _, ⟨_, h1, _, _, _, h2⟩ => Nat.le_trans h1 h2.le
theorem OwnRows.more {w : World} : ∀ {rs : List RowV} {lo hi hi' : Nat}, OwnRows w lo hi rs → hi ≤ hi' → OwnRows w lo hi' rs
  | [], _, _, _, h, h' => Nat.le_trans h h'
  | _ :: _, _, _, _, ⟨m, h1, hf, hl, hn, h2⟩, h' => ⟨m, h1, hf, hl, hn, h2.more h'⟩
theorem OwnRows.below {w w' : World} (hb : Below w.heap.size w w') : ∀ {rs : List RowV} {lo hi : Nat}, OwnRows w lo hi rs → OwnRows w' lo hi rs
  | [], _, _, h => h
  | _ :: _, _, _, ⟨m, h1, hf, hl, hn, h2⟩ => ⟨m, h1, hf.below hb, hl, hn, h2.below hb⟩
theorem OwnRows.set_out {w : World} {b o : Nat} {u : Value} : ∀ {rs : List RowV} {lo hi : Nat}, OwnRows w lo hi rs → (b < lo ∨ hi ≤ b) → OwnRows (w.setCell ⟨b, o, none⟩ u) lo hi rs
  | [], _, _, h, _ => h
  | _ :: _, _, _, ⟨m, h1, hf, hl, hn, h2⟩, hd => ⟨m, h1, hf.set_out (by have := h2.le; omega), hl, hn, h2.set_out (by omega)⟩
theorem OwnRows.snoc {w : World} {r : RowV} : ∀ {rs : List RowV} {lo mid hi : Nat}, OwnRows w lo mid rs → mid ≤ hi → Fresh w mid hi 3 r.A (nums r.xs) → r.xs.length = r.n → r.n ≤ 1048576 → OwnRows w lo hi (rs ++ [r])
  | [], _, _, hi, h, hm, hf, hl, hn => ⟨hi, Nat.le_trans h hm, hf.more h (Nat.le_refl _), hl, hn, Nat.le_refl _⟩
  | _ :: _, _, _, _, ⟨m, h1, hg, hk, ho, h2⟩, hm, hf, hl, hn => ⟨m, h1, hg, hk, ho, h2.snoc hm hf hl hn⟩
theorem OwnRows.ok {w : World} : ∀ {rs : List RowV} {lo hi : Nat}, OwnRows w lo hi rs → ∀ r ∈ rs, RowOk w r
  | [], _, _, _, _, hr => by cases hr
  | r :: rs, _, _, ⟨_, _, hf, hl, hn, h2⟩, x, hx => by
    rcases List.mem_cons.1 hx with rfl | hx
    · exact ⟨hf.holds, hl, by omega⟩
    · exact h2.ok x hx
/-- Lists of lists of the call's own: block g tells where they lie, the lists are behind it and before hi. -/
def OwnGrid (w : World) (g hi : Nat) (rs : List RowV) : Prop := Whole w g 28 (rowVals rs).toArray ∧ OwnRows w (g + 1) hi rs
theorem OwnGrid.grid {w : World} {g hi : Nat} {rs : List RowV} (h : OwnGrid w g hi rs) : Grid w (some ⟨g, 0, none⟩) rs :=
  ⟨h.1.holds, h.2.ok⟩
theorem OwnGrid.below {w w' : World} {g hi : Nat} {rs : List RowV} (h : OwnGrid w g hi rs) (hb : Below w.heap.size w w') : OwnGrid w' g hi rs := ⟨h.1.below hb, h.2.below hb⟩
theorem OwnGrid.alloc {w : World} {g hi : Nat} {rs : List RowV} (h : OwnGrid w g hi rs) (o : Obj) : OwnGrid (w.alloc o) g hi rs := h.below (below1 w o)
theorem OwnGrid.drew {w : World} {g hi : Nat} {rs : List RowV} (h : OwnGrid w g hi rs) : OwnGrid w.drew g hi rs := h.below ⟨rfl, rfl, rfl, Nat.le_refl _, fun _ _ => rfl⟩

/-- What stands in the copy's block behind k rounds. -/
def filledR (ws : List RowV) (n : Nat) : Array Value := (rowVals ws ++ List.replicate (n - ws.length) (Value.slice none 0 0)).toArray
theorem filledR_done {ws : List RowV} {n : Nat} (h : ws.length = n) : filledR ws n = (rowVals ws).toArray := by simp [filledR, h]
theorem filledR_at {ws : List RowV} {n : Nat} (h : ws.length < n) : (filledR ws n)[ws.length]? = some (.slice none 0 0) := by
  simp only [filledR, List.getElem?_toArray]
  rw [List.getElem?_append_right (by rw [rowVals_len]; omega)]
  simp [rowVals_len, List.getElem?_replicate]
  omega
theorem filledR_next {ws : List RowV} {n : Nat} (r : RowV) (h : ws.length < n) : (filledR ws n).setIfInBounds ws.length r.val = filledR (ws ++ [r]) n := by
  obtain ⟨m, hm⟩ : ∃ m, n - ws.length = m + 1 := ⟨n - ws.length - 1, by omega⟩
  have hm' : n - (ws ++ [r]).length = m := by simp; omega
  unfold filledR
  rw [hm, hm', List.replicate_succ]
  simp only [rowVals, List.map_append, List.map_cons, List.map_nil, List.append_assoc, List.singleton_append]
  rw [List.setIfInBounds_toArray]
  congr 1
  rw [List.set_append_right _ _ (by simp)]
  simp
theorem made_rows (n : Nat) : madeCells (Value.slice none 0 0).cells (n * 1) = (List.replicate n (Value.slice none 0 0)).toArray := by
  apply Array.ext_getElem?
  intro j
  simp [madeCells, Value.cells, Nat.mod_one, Array.getElem?_range]
  by_cases h : j < n <;> simp [h]
theorem info_row : (Try.prog.info? 28).map (fun i => (i.zero, i.size, i.bytes)) = some (some (.slice none 0 0), 1, 24) := by kernel_rfl

/-- What toIntSS hands back. -/
def GridPost (n : Nat) (rs : List RowV) (w : World) (e : Ending) (w' : World) : Prop :=
  ∃ (g : Nat) (ws : List RowV), e = .returned (.slice (some ⟨g, 0, none⟩) n n) ∧ w.heap.size ≤ g ∧ OwnGrid w' g w'.heap.size ws ∧ rowNums ws = rowNums rs ∧ ws.length = n ∧ Below w.heap.size w w'

theorem rowNums_next {ws rs : List RowV} {k : Nat} {r : RowV} (h : rowNums ws = (rowNums rs).take k) (hk : k < rs.length) (hr : r.xs = rs[k].xs) : rowNums (ws ++ [r]) = (rowNums rs).take (k + 1) := by
  rw [List.take_succ_eq_append_getElem (by rw [rowNums_len]; exact hk), ← h]
  simp [rowNums, hr]

set_option maxHeartbeats 800000 in
theorem toIntSS_any (A : Option Addr) (n c : Nat) (rs : List RowV) (w : World) (hA : Grid w A rs) (hx : rs.length = n) (ht : total rs ≤ 1048576) :
    Calls Try.prog 39 #[.slice A n c] w (GridPost n rs w) := by
  have hn : n ≤ 1048576 := by have := total_len rs; omega
  obtain ⟨i0, hi, hz0, hz1, hz2⟩ := info_parts info_row
  have hmk : ∀ W : World, (Instr.makeSlice 43 (.int .i64 (n : Int)) (.int .i64 (n : Int))).run Try.prog W = .ok (.slice (some ⟨W.heap.size, 0, none⟩) n n) (W.alloc (.cells (filledR [] n) 28)) := by
    intro W
    have h := run_make (P := Try.prog) W 43 28 i0 _ Try.underlying43 hi hz0 .i64 .i64 n n (by omega) (by omega) (by rw [hz2]; omega) (by omega)
    simp only [Int.toNat_natCast, hz1, made_rows] at h
    rw [h]
    simp [filledR, rowVals]
  have HX := Lib.hid hx
  clear hi hz0 hz1 hz2 hx
  go_enter Try.func39, Try.ntmps39
  go_wp2
  have h0 := Whole.fresh w 28 (filledR [] n)
  have hb0 : Below w.heap.size w (w.alloc (.cells (filledR [] n) 28)) := (Below.refl _ _).alloc (Nat.le_refl _) _
  go_loopw [4] (fun i wr => ∃ (k : Nat) (ws : List RowV), k ≤ n ∧ i = .int .i64 k ∧ ws.length = k ∧ Whole wr w.heap.size 28 (filledR ws n) ∧ Below w.heap.size w wr ∧ OwnRows wr (w.heap.size + 1) wr.heap.size ws ∧ rowNums ws = (rowNums rs).take k) (fun i _ => n - (intOf i).toNat)
  case atStart => exact ⟨0, [], Nat.zero_le _, rfl, rfl, h0, hb0, by simp [OwnRows], rfl⟩
  case round =>
    obtain ⟨k, ws, hk, rfl, hlen, hw, hb, hown, hnums⟩ := hrel
    clear hmk h0 hb0
    subst hlen
    have HNUM := Lib.hid hnums
    have hwl := hw.lt
    by_cases hlt : ws.length < n
    · have hkr : ws.length < rs.length := by have := HX.out; omega
      obtain ⟨b, o, rfl, hbl, hc, hok⟩ := (hA.below hb).look hkr
      have hsz : rs[ws.length].n ≤ 1048576 := Nat.le_trans (total_row hkr) ht
      clear hnums
      go_wp2_with fail
      refine (toIntS_own _ _ _ rs[ws.length].xs _ hok.1 hok.2.1 hsz).mono ?_
      rintro e w1 ⟨g1, rfl, hg1, hw1, hb1⟩
      have hF := Fresh.of_whole (lo := wr.heap.size) (hi := w1.heap.size) hw1 hg1 hw1.lt
      have hwz : wr.heap.size ≤ w1.heap.size := hb1.size
      have hown1 := (hown.below hb1).snoc (r := ⟨some ⟨g1, 0, none⟩, rs[ws.length].n, rs[ws.length].n, rs[ws.length].xs⟩) hwz hF hok.2.1 hsz
      have hown2 := hown1.set_out (b := w.heap.size) (o := ws.length) (u := .slice (some ⟨g1, 0, none⟩) rs[ws.length].n rs[ws.length].n) (.inl (by omega))
      have hw2 := hw.below hb1
      have hcell : w1.cell? ⟨w.heap.size, ws.length, none⟩ = some (.slice none 0 0) := (hw2.cell _).trans (filledR_at hlt)
      have hfr := hw2.open_ ws.length
      have hnext := hw2.set_ ws.length (.slice (some ⟨g1, 0, none⟩) rs[ws.length].n rs[ws.length].n)
      rw [show (Value.slice (some ⟨g1, 0, none⟩) rs[ws.length].n rs[ws.length].n) = RowV.val ⟨some ⟨g1, 0, none⟩, rs[ws.length].n, rs[ws.length].n, rs[ws.length].xs⟩ from rfl, filledR_next _ hlt] at hnext
      have hbw := below_then hb hb1 hb.size
      have HNX := Lib.hid (rowNums_next (r := ⟨some ⟨g1, 0, none⟩, rs[ws.length].n, rs[ws.length].n, rs[ws.length].xs⟩) HNUM.out hkr rfl)
      have HO := Lib.hid hown2
      have HN := Lib.hid hnext
      clear hown hown1 hown2 hnext hw hw2 hF hb hc hw1 hok
      go_wp2
      go_roundw
      case rel => exact ⟨ws.length + 1, _, by omega, by go_num, by simp, HN.out, hbw.setCell (Nat.le_refl _) _, by simpa [World.setCell] using HO.out, HNX.out⟩
      case measure => simp [intOf]; omega
    · have hkn : ws.length = n := by omega
      rw [filledR_done hkn] at hw
      have HK := Lib.hid hkn
      clear hnums hkn
      go_wp2
      go_ret
      exact ⟨w.heap.size, ws, rfl, Nat.le_refl _, ⟨hw, hown⟩, by rw [HNUM.out, List.take_of_length_le (by rw [rowNums_len, HX.out, HK.out]; exact Nat.le_refl _)], HK.out, hb⟩

/-- Two lists of one reading are the same; nothing but draws. -/
theorem eqIntS_drawn (A B : Option Addr) (n m c d : Nat) (xs ys : List Int) (w : World) (k : Nat) (hA : Holds (w.drewN k) A (nums xs)) (hB : Holds (w.drewN k) B (nums ys)) (hx : xs.length = n) (hy : ys.length = m) (he : xs = ys) (hn : n ≤ 9223372036854775807) :
    Calls Try.prog 21 #[.slice A n c, .slice B m d] (w.drewN k) fun e w'' => e = .returned (.bool true) ∧ ∃ q, w'' = w.drewN q :=
  Calls.quiet_of ((eqIntS_any A B n m c d xs ys _ hA hB hx hy hn (by subst he; omega)).mono fun _ _ ⟨h, q⟩ => ⟨by rw [h, sameInts_yes he], q⟩)

theorem rowNums_at {rs ss : List RowV} (h : rowNums rs = rowNums ss) {k : Nat} (hk : k < rs.length) (hk' : k < ss.length) : rs[k].xs = ss[k].xs := by
  have h1 := congrArg (fun l : List (List Int) => l[k]?) h
  simpa [rowNums, hk, hk'] using h1

set_option maxHeartbeats 800000 in
theorem eqIntSS_yes (A B : Option Addr) (n m c d : Nat) (rs ss : List RowV) (w : World) (hA : Grid w A rs) (hB : Grid w B ss) (he : rowNums rs = rowNums ss) (hx : rs.length = n) (hy : ss.length = m) (hn : n ≤ 9223372036854775807) :
    Calls Try.prog 29 #[.slice A n c, .slice B m d] w fun e w' => e = .returned (.bool true) ∧ Below w.heap.size w w' := by
  have hl : rs.length = ss.length := by rw [← rowNums_len rs, ← rowNums_len ss, he]
  subst hx hy
  have hl' : ((rs.length : Int) != (ss.length : Int)) = false := by simp [hl]
  have HL := Lib.hid hl
  have HE := Lib.hid he
  clear hl he
  go_enter Try.func29, Try.ntmps29
  go_wp2
  go_loopw [5] (fun i wr => ∃ k : Nat, k ≤ rs.length ∧ i = .int .i64 k ∧ Below w.heap.size w wr) (fun i _ => rs.length - (intOf i).toNat)
  case atStart => exact ⟨0, Nat.zero_le _, rfl, Below.refl _ _⟩
  case round =>
    obtain ⟨k, hk, rfl, hb⟩ := hrel
    by_cases hlt : k < rs.length
    · have hlt' : k < ss.length := by have := HL.out; omega
      obtain ⟨b, o, rfl, hbl, hc, hok⟩ := (hA.below hb).look hlt
      obtain ⟨b', o', rfl, hbl', hc', hok'⟩ := (hB.below hb).look hlt'
      have HV := Lib.hid (rowNums_at HE.out hlt hlt')
      go_wp2
      go_quiet ((go_at_call 21; exact eqIntS_drawn _ _ _ _ _ _ rs[k].xs ss[k].xs wr _ (hok.1.below (below_draws (Below.refl _ _) _)) (hok'.1.below (below_draws (Below.refl _ _) _)) hok.2.1 hok'.2.1 HV.out hok.2.2))
      go_wp2
      go_roundw
      case rel => exact ⟨k + 1, by omega, by go_num, below_draws hb _⟩
      case measure => simp [intOf]; omega
    · go_wp2
      go_ret
      exact ⟨rfl, hb⟩
end Go.Proofs.Yteeolclnoblkcaa

namespace Go.Proofs.Yteeolclnoblkcaa
open Go.RowKit

/-- The same place with other numbers. -/
def RowV.put (r : RowV) (ys : List Int) : RowV := ⟨r.A, r.n, r.c, ys⟩
/-- Rows of the call's own, each in a range of blocks that no other one meets. -/
def FreeRows (w : World) (ps : List (Nat × Nat)) (rs : List RowV) : Prop :=
  ps.length = rs.length ∧ (∀ (k : Nat) r p, rs[k]? = some r → ps[k]? = some p → Fresh w p.1 p.2 3 r.A (nums r.xs) ∧ r.xs.length = r.n ∧ r.n ≤ 1048576) ∧
    ∀ (i j : Nat) p p', i ≠ j → ps[i]? = some p → ps[j]? = some p' → p.2 ≤ p'.1 ∨ p'.2 ≤ p.1
/-- A list of lists of the call's own, all of it in blocks from lo on and before hi. -/
def FreeGrid (w : World) (lo hi : Nat) (A : Option Addr) (rs : List RowV) : Prop :=
  ∃ ps, FreeRows w ps rs ∧ (∀ p ∈ ps, lo ≤ p.1 ∧ p.2 ≤ hi) ∧ (rs = [] ∨ ∃ b o, A = some ⟨b, o, none⟩ ∧ b < w.heap.size ∧ lo ≤ b ∧ b < hi ∧ (∀ p ∈ ps, b < p.1 ∨ p.2 ≤ b) ∧ ∀ j u, (rowVals rs)[j]? = some u → w.cell? ⟨b, o + j, none⟩ = some u)
section
variable {w w' : World} {lo hi lo' hi' : Nat} {A : Option Addr} {rs : List RowV} {ps : List (Nat × Nat)}
theorem FreeRows.below (h : FreeRows w ps rs) (hb : Below w.heap.size w w') : FreeRows w' ps rs :=
  ⟨h.1, fun k r p hr hp => ⟨(h.2.1 k r p hr hp).1.below hb, (h.2.1 k r p hr hp).2⟩, h.2.2⟩
theorem FreeGrid.below (h : FreeGrid w lo hi A rs) (hb : Below w.heap.size w w') : FreeGrid w' lo hi A rs := by
  obtain ⟨ps, h1, h2, h3⟩ := h
  refine ⟨ps, h1.below hb, h2, ?_⟩
  rcases h3 with h3 | ⟨b, o, hA, hl, g1, g2, hd, hc⟩
  · exact .inl h3
  · exact .inr ⟨b, o, hA, Nat.lt_of_lt_of_le hl hb.size, g1, g2, hd, fun j u hu => (hb.cell (p := ⟨b, o + j, none⟩) hl).trans (hc j u hu)⟩
theorem FreeGrid.alloc (h : FreeGrid w lo hi A rs) (o : Obj) : FreeGrid (w.alloc o) lo hi A rs := h.below (below1 w o)
theorem FreeGrid.drew (h : FreeGrid w lo hi A rs) : FreeGrid w.drew lo hi A rs := h.below ⟨rfl, rfl, rfl, Nat.le_refl _, fun _ _ => rfl⟩
theorem FreeGrid.more (h : FreeGrid w lo hi A rs) (h1 : lo' ≤ lo) (h2 : hi ≤ hi') : FreeGrid w lo' hi' A rs := by
  obtain ⟨ps, g1, g2, g3⟩ := h
  refine ⟨ps, g1, fun p hp => ⟨Nat.le_trans h1 (g2 p hp).1, Nat.le_trans (g2 p hp).2 h2⟩, ?_⟩
  rcases g3 with g3 | ⟨b, o, hA, hl, k1, k2, hd, hc⟩
  · exact .inl g3
  · exact .inr ⟨b, o, hA, hl, Nat.le_trans h1 k1, Nat.lt_of_lt_of_le k2 h2, hd, hc⟩
theorem FreeGrid.grid (h : FreeGrid w lo hi A rs) : Grid w A rs := by
  obtain ⟨ps, g1, g2, g3⟩ := h
  refine ⟨?_, fun r hr => ?_⟩
  · rcases g3 with rfl | ⟨b, o, hA, hl, -, -, -, hc⟩
    · exact .inl rfl
    · exact .inr ⟨b, o, hA, hl, hc⟩
  · obtain ⟨k, hk, rfl⟩ := List.getElem_of_mem hr
    obtain ⟨a1, a2, a3⟩ := g1.2.1 k rs[k] (ps[k]'(by rw [g1.1]; exact hk)) (List.getElem?_eq_getElem hk) (List.getElem?_eq_getElem (by rw [g1.1]; exact hk))
    exact ⟨a1.holds, a2, by omega⟩
theorem Span.wider (h : Span lo' hi' w w') (h1 : lo ≤ lo') (h2 : hi' ≤ hi) : Span lo hi w w' := ⟨h.os, h.tape, h.output, h.size, fun k hk hd => h.block k hk (by omega)⟩
theorem Span.cell (h : Span lo hi w w') {p : Addr} (hl : p.block < w.heap.size) (hg : p.block < lo ∨ hi ≤ p.block) : w'.cell? p = w.cell? p := by
  unfold World.cell?
  rw [h.block p.block hl hg]
theorem Span.freeRows (h : Span lo hi w w') (hf : FreeRows w ps rs) (hd : ∀ p ∈ ps, p.2 ≤ lo ∨ hi ≤ p.1) : FreeRows w' ps rs :=
  ⟨hf.1, fun k r p hr hp => ⟨h.fresh (hf.2.1 k r p hr hp).1 (hd p (List.mem_of_getElem? hp)), (hf.2.1 k r p hr hp).2⟩, hf.2.2⟩
theorem Span.freeGrid (h : Span lo hi w w') (hf : FreeGrid w lo' hi' A rs) (hd : hi' ≤ lo ∨ hi ≤ lo') : FreeGrid w' lo' hi' A rs := by
  obtain ⟨ps, g1, g2, g3⟩ := hf
  refine ⟨ps, h.freeRows g1 (fun p hp => by have := g2 p hp; omega), g2, ?_⟩
  rcases g3 with g3 | ⟨b, o, hA, hl, k1, k2, hdd, hc⟩
  · exact .inl g3
  · exact .inr ⟨b, o, hA, Nat.lt_of_lt_of_le hl h.size, k1, k2, hdd, fun j u hu => (h.cell (p := ⟨b, o + j, none⟩) hl (by show b < lo ∨ hi ≤ b; omega)).trans (hc j u hu)⟩
/-- Behind a row that has turned: the others stand as they were. -/
theorem FreeRows.turn (h : FreeRows w ps rs) {k : Nat} {r : RowV} {p : Nat × Nat} (hr : rs[k]? = some r) (hp : ps[k]? = some p) (hs : Span p.1 p.2 w w') {ys : List Int} (hf : Fresh w' p.1 p.2 3 r.A (nums ys)) (hy : ys.length = r.n) : FreeRows w' ps (rs.set k (r.put ys)) := by
  refine ⟨by simp [h.1], fun i r' p' hi hp' => ?_, h.2.2⟩
  rw [List.getElem?_set] at hi
  by_cases he : k = i
  · subst he
    obtain rfl : p = p' := by rw [hp] at hp'; exact Option.some.inj hp'
    rw [if_pos rfl] at hi
    split at hi
    · obtain rfl := Option.some.inj hi
      exact ⟨hf, hy, (h.2.1 k r p hr hp).2.2⟩
    · cases hi
  · rw [if_neg he] at hi
    exact ⟨hs.fresh (h.2.1 i r' p' hi hp').1 (by have := h.2.2 i k p' p (fun e => he e.symm) hp' hp; omega), (h.2.1 i r' p' hi hp').2⟩
theorem FreeGrid.turn (h : FreeGrid w lo hi A rs) {k : Nat} (hk : k < rs.length) : ∃ a b, lo ≤ a ∧ b ≤ hi ∧ Fresh w a b 3 rs[k].A (nums rs[k].xs) ∧ rs[k].xs.length = rs[k].n ∧ rs[k].n ≤ 1048576 ∧
    ∀ w' ys, Span a b w w' → Fresh w' a b 3 rs[k].A (nums ys) → ys.length = rs[k].n → FreeGrid w' lo hi A (rs.set k (rs[k].put ys)) := by
  obtain ⟨ps, g1, g2, g3⟩ := h
  have hk' : k < ps.length := by rw [g1.1]; exact hk
  have e1 : rs[k]? = some rs[k] := List.getElem?_eq_getElem hk
  have e2 : ps[k]? = some ps[k] := List.getElem?_eq_getElem hk'
  have hb := g2 _ (List.getElem_mem hk')
  obtain ⟨f1, f2, f3⟩ := g1.2.1 k _ _ e1 e2
  refine ⟨ps[k].1, ps[k].2, hb.1, hb.2, f1, f2, f3, fun w' ys hs hf hy => ⟨ps, g1.turn e1 e2 hs hf hy, g2, ?_⟩⟩
  rcases g3 with g3 | ⟨b, o, hA, hl, k1, k2, hdd, hc⟩
  · subst g3; simp at hk
  · refine .inr ⟨b, o, hA, Nat.lt_of_lt_of_le hl hs.size, k1, k2, hdd, fun j u hu => (hs.cell (p := ⟨b, o + j, none⟩) hl (by have := hdd _ (List.getElem_mem hk'); show b < ps[k].1 ∨ ps[k].2 ≤ b; omega)).trans (hc j u ?_)⟩
    rw [← hu]
    simp only [rowVals, List.getElem?_map, List.getElem?_set]
    by_cases he : k = j
    · subst he
      rw [if_pos rfl, if_pos hk, e1]
      rfl
    · rw [if_neg he]
end
/-- The ranges of lists that lie one behind the other. -/
theorem OwnRows.free {w : World} : ∀ {rs : List RowV} {lo hi : Nat}, OwnRows w lo hi rs → ∃ ps, FreeRows w ps rs ∧ ∀ p ∈ ps, lo ≤ p.1 ∧ p.2 ≤ hi
  | [], _, _, _ => ⟨[], ⟨rfl, fun k r p hr => by simp at hr, fun i j p p' _ hi => by simp at hi⟩, fun p hp => by cases hp⟩
  | r :: rs, lo, hi, ⟨mid, h1, hf, hl, hn, h2⟩ => by
    obtain ⟨ps, g, hg⟩ := h2.free
    have hle := h2.le
    refine ⟨(lo, mid) :: ps, ⟨by simp [g.1], fun k r' p hr hp => ?_, fun i j p p' hij hi hj => ?_⟩, fun p hp => ?_⟩
    · cases k with
      | zero => simp only [List.getElem?_cons_zero, Option.some.injEq] at hr hp; subst hr hp; exact ⟨hf, hl, hn⟩
      | succ k => simp only [List.getElem?_cons_succ] at hr hp; exact g.2.1 k r' p hr hp
    · cases i with
      | zero =>
        cases j with
        | zero => exact absurd rfl hij
        | succ j =>
          simp only [List.getElem?_cons_zero, List.getElem?_cons_succ, Option.some.injEq] at hi hj
          subst hi
          exact .inl (hg p' (List.mem_of_getElem? hj)).1
      | succ i =>
        cases j with
        | zero =>
          simp only [List.getElem?_cons_zero, List.getElem?_cons_succ, Option.some.injEq] at hi hj
          subst hj
          exact .inr (hg p (List.mem_of_getElem? hi)).1
        | succ j =>
          simp only [List.getElem?_cons_succ] at hi hj
          exact g.2.2 i j p p' (by omega) hi hj
    · rcases List.mem_cons.1 hp with rfl | hp
      · exact ⟨Nat.le_refl _, hle⟩
      · exact ⟨Nat.le_trans h1 (hg p hp).1, (hg p hp).2⟩
theorem OwnGrid.free {w : World} {g hi : Nat} {rs : List RowV} (h : OwnGrid w g hi rs) : FreeGrid w g hi (some ⟨g, 0, none⟩) rs := by
  obtain ⟨ps, h1, h2⟩ := h.2.free
  refine ⟨ps, h1, fun p hp => ⟨by have := (h2 p hp).1; omega, (h2 p hp).2⟩, .inr ⟨g, 0, rfl, h.1.lt, Nat.le_refl _, h.2.le, fun p hp => .inl (h2 p hp).1, fun j u hu => ?_⟩⟩
  rw [Nat.zero_add, h.1.cell j]
  simpa using hu

theorem part_sum {rs : List RowV} : part rs rs.length = (rs.map RowV.n).sum := by simp [part]
theorem part_nums {w : World} {A B : Option Addr} {rs ss : List RowV} (hA : Grid w A rs) {w' : World} (hB : Grid w' B ss) (h : rowNums rs = rowNums ss) : part rs rs.length = part ss ss.length := by
  rw [part_sum, part_sum]
  have e : ∀ {u : World} {C : Option Addr} {ts : List RowV}, Grid u C ts → ts.map RowV.n = (rowNums ts).map List.length := by
    intro u C ts hC
    rw [rowNums, List.map_map]
    exact List.map_congr_left fun r hr => (hC.2 r hr).2.1.symm
  rw [e hA, e hB, h]
theorem part_total (rs : List RowV) : part rs rs.length ≤ total rs := by unfold total; omega

/-- The first k lists overwritten by a count from q on. -/
def markTo (q : Int) (rs : List RowV) (k : Nat) : List RowV := (List.range rs.length).map fun j => if j < k then (rs.getD j ⟨none, 0, 0, []⟩).put (marksI (q + part rs j) (rs.getD j ⟨none, 0, 0, []⟩).n) else rs.getD j ⟨none, 0, 0, []⟩
theorem markTo_len (q : Int) (rs : List RowV) (k : Nat) : (markTo q rs k).length = rs.length := by simp [markTo]
theorem markTo_zero (q : Int) (rs : List RowV) : markTo q rs 0 = rs := by
  apply List.ext_getElem
  · simp [markTo]
  · intro i h1 h2
    simp [markTo, h2]
theorem markTo_at (q : Int) (rs : List RowV) (k i : Nat) (h : i < (markTo q rs k).length) : (markTo q rs k)[i] = if i < k then (rs[i]'(by rw [markTo_len] at h; exact h)).put (marksI (q + part rs i) (rs[i]'(by rw [markTo_len] at h; exact h)).n) else rs[i]'(by rw [markTo_len] at h; exact h) := by
  have h' : i < rs.length := by rw [markTo_len] at h; exact h
  simp [markTo, h']
theorem markTo_here (q : Int) (rs : List RowV) (k : Nat) (h : k < (markTo q rs k).length) : (markTo q rs k)[k] = rs[k]'(by rw [markTo_len] at h; exact h) := by
  rw [markTo_at, if_neg (by omega)]
theorem markTo_next (q : Int) (rs : List RowV) {k : Nat} (h : k < rs.length) : (markTo q rs k).set k (rs[k].put (marksI (q + part rs k) rs[k].n)) = markTo q rs (k + 1) := by
  apply List.ext_getElem
  · simp [markTo_len]
  · intro i h1 h2
    rw [List.getElem_set]
    by_cases he : k = i
    · subst he
      rw [if_pos rfl, markTo_at, if_pos (by omega)]
    · rw [if_neg he, markTo_at, markTo_at]
      by_cases hi : i < k
      · rw [if_pos hi, if_pos (by omega)]
      · rw [if_neg hi, if_neg (by omega)]

set_option maxHeartbeats 800000 in
theorem markIntSS_any (A : Option Addr) (n c lo hi : Nat) (rs : List RowV) (q : Int) (w : World) (hf : FreeGrid w lo hi A rs) (hx : rs.length = n) (h0 : 0 ≤ q) (h1 : q ≤ 2305843009213693952) (hn : n ≤ 1048576) (hp : part rs rs.length ≤ 1048576) :
    Calls Try.prog 31 #[.slice A n c, .int .i64 q] w fun e w' => e = .returned (.int .i64 (q + (part rs rs.length : Nat))) ∧ Span lo hi w w' ∧ FreeGrid w' lo hi A (markTo q rs rs.length) := by
  have HX := Lib.hid hx
  have HM : Hid (FreeGrid w lo hi A (markTo q rs 0)) := by show FreeGrid _ _ _ _ _; rw [markTo_zero]; exact hf
  clear hx hf
  go_enter Try.func31, Try.ntmps31
  go_wp2
  go_loopw [1, 5] (fun v i wr => ∃ k : Nat, k ≤ n ∧ i = .int .i64 k ∧ v = .int .i64 (q + part rs k) ∧ FreeGrid wr lo hi A (markTo q rs k) ∧ Span lo hi w wr) (fun _ i _ => n - (intOf i).toNat)
  case atStart => exact ⟨0, Nat.zero_le _, rfl, by simp [part_zero], HM.out, Span.refl _ _ _⟩
  case round =>
    obtain ⟨k, hk, rfl, rfl, hm, hs⟩ := hrel
    clear HM
    by_cases hlt : k < n
    · have hkr : k < rs.length := by have := HX.out; omega
      have hkm : k < (markTo q rs k).length := by rw [markTo_len]; exact hkr
      obtain ⟨b, o, rfl, hb, hc, hok⟩ := hm.grid.look hkm
      obtain ⟨lo1, hi1, l1, l2, hf, hl, hs1, hturn⟩ := hm.turn hkm
      have hpl := part_le (rs := rs) (Nat.le_refl _) (j := k) (by omega)
      have hpn := part_next hkr
      have HPN := Lib.hid hpn
      have HT := Lib.hid hturn
      have HN := Lib.hid (markTo_next q rs hkr)
      have HF := Lib.hid hf
      have HL := Lib.hid hl
      have HE := Lib.hid (markTo_here q rs k hkm)
      rw [HE.out] at hc
      rw [HE.out] at hs1
      have HS := Lib.hid hs
      clear hm hf hl hturn hok hpn hs
      have hq0 : (0 : Int) ≤ q + part rs k := by omega
      have hq1 : q + (part rs k : Int) ≤ 4611686018427387904 := by omega
      go_wp2_with fail
      refine (markIntS_any rs[k].A rs[k].n _ lo1 hi1 (nums rs[k].xs) _ _ (by rw [← HE.out]; exact HF.out) (by rw [nums_len, ← HE.out]; exact HL.out) hq0 hq1 hs1).mono ?_
      rintro e w1 ⟨rfl, hs2, hf2⟩
      have hsz : Span lo hi w w1 := HS.out.trans (hs2.wider l1 l2)
      have HG : Hid (FreeGrid w1 lo hi (some ⟨b, o, none⟩) (markTo q rs (k + 1))) := by
        show FreeGrid _ _ _ _ _
        rw [← HN.out]
        have h := HT.out w1 (marksI (q + part rs k) rs[k].n) hs2 (by rw [HE.out]; exact hf2) (by rw [marksI_len, HE.out])
        rw [HE.out] at h
        exact h
      clear hs2 hf2 HT
      go_wp2
      go_roundw
      case rel => exact ⟨k + 1, by omega, by go_num, by rw [HPN.out]; first | exact congrArg _ (by omega) | (simp; omega), HG.out, hsz⟩
      case measure => simp [intOf]; omega
    · have hkn : k = rs.length := by have := HX.out; omega
      subst hkn
      go_wp2
      go_ret
      exact ⟨rfl, hs, hm⟩

set_option maxHeartbeats 800000 in
theorem heldIntSS_any (A : Option Addr) (n c : Nat) (rs : List RowV) (q : Int) (w : World) (hA : Grid w A (markTo q rs rs.length)) (hx : rs.length = n) (h0 : 0 ≤ q) (h1 : q ≤ 2305843009213693952) (hn : n ≤ 1048576) (hp : part rs rs.length ≤ 1048576) :
    Calls Try.prog 32 #[.slice A n c, .int .i64 q] w fun e w' => e = .returned (.int .i64 (q + (part rs rs.length : Nat))) ∧ Below w.heap.size w w' := by
  have HX := Lib.hid hx
  clear hx
  go_enter Try.func32, Try.ntmps32
  go_wp2
  go_loop [1, 5] (fun v i => ∃ k : Nat, k ≤ n ∧ i = .int .i64 k ∧ v = .int .i64 (q + part rs k)) (fun _ i => n - (intOf i).toNat)
  case atStart => exact ⟨0, Nat.zero_le _, rfl, by simp [part_zero]⟩
  case round =>
    obtain ⟨k, hk, rfl, rfl⟩ := hrel
    by_cases hlt : k < n
    · have hkr : k < rs.length := by have := HX.out; omega
      have hkm : k < (markTo q rs rs.length).length := by rw [markTo_len]; exact hkr
      obtain ⟨b, o, rfl, hb, hc, hok⟩ := hA.look hkm
      have he : (markTo q rs rs.length)[k] = (rs[k].put (marksI (q + part rs k) rs[k].n)) := by rw [markTo_at, if_pos hkr]
      rw [he] at hc hok
      have hpl := part_le (rs := rs) (Nat.le_refl _) (j := k + 1) (by omega)
      have hpn := part_next hkr
      have hs1 : rs[k].n ≤ 1048576 := by omega
      have HPN := Lib.hid hpn
      have HOK := Lib.hid hok.1
      have hq0 : (0 : Int) ≤ q + part rs k := by omega
      have hq1 : q + (part rs k : Int) ≤ 4611686018427387904 := by omega
      have hq2 : (0 : Int) ≤ q + part rs k + rs[k].n := by omega
      clear he hok hpn
      simp only [RowV.put] at hc
      go_wp2_with fail
      refine (heldIntS_any rs[k].A rs[k].n _ _ _ HOK.out hq0 hq1 hs1).mono ?_
      rintro e w1 ⟨rfl, rfl⟩
      go_wp2
      go_round
      case rel => exact ⟨k + 1, by omega, by go_num, by rw [HPN.out]; first | exact congrArg _ (by omega) | (simp; omega)⟩
      case measure => simp [intOf]; omega
    · have hkn : k = rs.length := by have := HX.out; omega
      subst hkn
      go_wp2
      go_ret
      exact ⟨rfl, Below.refl _ _⟩
end Go.Proofs.Yteeolclnoblkcaa

namespace Go.Proofs.Yteeolclnoblkcaa
open Go.RowKit

/-- The places behind a trip: those on the list have changed sides. -/
def flipped (bs : List Bool) (l : List Int) : List Bool := (List.range bs.length).map fun i => bs.getD i false != has l i
theorem flipped_len (bs : List Bool) (l : List Int) : (flipped bs l).length = bs.length := by simp [flipped]
theorem flipped_at (bs : List Bool) (l : List Int) {i : Nat} (h : i < bs.length) : (flipped bs l)[i]? = some (bs.getD i false != has l i) := by simp [flipped, h]
theorem flipped_get (bs : List Bool) (l : List Int) {i : Nat} (h : i < bs.length) : (flipped bs l).getD i false = (bs.getD i false != has l i) := by
  rw [List.getD_eq_getElem?_getD, flipped_at bs l h]; rfl
theorem flipped_out (bs : List Bool) (l : List Int) {i : Nat} (h : bs.length ≤ i) : (flipped bs l).getD i false = false := by
  rw [List.getD_eq_getElem?_getD, List.getElem?_eq_none (by rw [flipped_len]; exact h)]; rfl
theorem flipped_nil (bs : List Bool) : flipped bs [] = bs := by
  apply List.ext_getElem?
  intro i
  by_cases h : i < bs.length
  · rw [flipped_at bs [] h]; simp [has, h]
  · rw [List.getElem?_eq_none (by rw [flipped_len]; omega), List.getElem?_eq_none (by omega)]
theorem flipped_next (bs : List Bool) {l : List Int} {j : Nat} (hj : j < l.length) (h0 : 0 ≤ l[j]) : (flipped bs (l.take j)).set (l[j]).toNat (!(bs.getD (l[j]).toNat false)) = flipped bs (l.take (j + 1)) := by
  apply List.ext_getElem?
  intro i
  rw [List.getElem?_set, flipped_len]
  by_cases hi : i < bs.length
  · rw [flipped_at bs _ hi, flipped_at bs _ hi, List.take_succ_eq_append_getElem hj, has_snoc]
    by_cases he : (l[j]).toNat = i
    · have hx : (l[j] == (i : Int)) = true := by simp; omega
      rw [if_pos he, if_pos (by omega), he, hx]
      cases has (l.take j) i <;> cases bs.getD i false <;> rfl
    · have hx : (l[j] == (i : Int)) = false := by simp; omega
      rw [if_neg he, hx, Bool.or_false]
  · rw [List.getElem?_eq_none (l := flipped bs (l.take (j + 1))) (by rw [flipped_len]; omega)]
    by_cases he : (l[j]).toNat = i
    · rw [if_pos he, if_neg (by omega)]
    · rw [if_neg he, List.getElem?_eq_none (by rw [flipped_len]; omega)]
theorem has_out {l : List Int} {n i : Nat} (hs : StepsTo l (n - 1) l.length) (h : n ≤ i) : has l i = false := by
  cases hh : has l i
  · rfl
  · have := (mem_steps hs (has_iff.1 hh)).2
    omega

/-- Places and torch behind all trips. -/
def after : List Bool → Bool → List (List Int) → List Bool × Bool
  | bs, t, [] => (bs, t)
  | bs, t, l :: ls => after (flipped bs l) (!t) ls
theorem after_snoc (l : List Int) : ∀ (ls : List (List Int)) (bs : List Bool) (t : Bool), after bs t (ls ++ [l]) = (flipped (after bs t ls).1 l, !(after bs t ls).2)
  | [], _, _ => rfl
  | _ :: ls, _, _ => after_snoc l ls _ _
theorem after_len : ∀ (ls : List (List Int)) (bs : List Bool) (t : Bool), (after bs t ls).1.length = bs.length
  | [], _, _ => rfl
  | l :: ls, bs, _ => (after_len ls _ _).trans (flipped_len bs l)
/-- How many trips can be made. -/
noncomputable def made (n : Nat) (s : Int) : List Bool → Bool → List (List Int) → Nat
  | _, _, [] => 0
  | bs, t, l :: ls => if canGo n s bs t l then made n s (flipped bs l) (!t) ls + 1 else 0
theorem made_le (n : Nat) (s : Int) : ∀ (ls : List (List Int)) (bs : List Bool) (t : Bool), made n s bs t ls ≤ ls.length
  | [], _, _ => Nat.le_refl _
  | l :: ls, bs, t => by
    rw [made]
    split
    · have := made_le n s ls (flipped bs l) (!t); simp; omega
    · simp
/-- The first k trips can be made; the rest is still to be looked at. -/
def MadeTo (n : Nat) (s : Int) (bs : List Bool) (t : Bool) (ls : List (List Int)) (k : Nat) : Prop :=
  made n s bs t ls = k + made n s (after bs t (ls.take k)).1 (after bs t (ls.take k)).2 (ls.drop k)
theorem MadeTo.start (n : Nat) (s : Int) (bs : List Bool) (t : Bool) (ls : List (List Int)) : MadeTo n s bs t ls 0 := by simp [MadeTo, after]
theorem MadeTo.next {n : Nat} {s : Int} {bs : List Bool} {t : Bool} {ls : List (List Int)} {k : Nat} (h : MadeTo n s bs t ls k) (hk : k < ls.length) (hc : canGo n s (after bs t (ls.take k)).1 (after bs t (ls.take k)).2 ls[k] = true) : MadeTo n s bs t ls (k + 1) := by
  unfold MadeTo at h ⊢
  rw [h, List.drop_eq_getElem_cons hk, made, if_pos hc, List.take_succ_eq_append_getElem hk, after_snoc]
  dsimp only
  omega
theorem MadeTo.stop {n : Nat} {s : Int} {bs : List Bool} {t : Bool} {ls : List (List Int)} {k : Nat} (h : MadeTo n s bs t ls k) (hk : k < ls.length) (hc : canGo n s (after bs t (ls.take k)).1 (after bs t (ls.take k)).2 ls[k] = false) : made n s bs t ls = k := by
  unfold MadeTo at h
  rw [h, List.drop_eq_getElem_cons hk, made, if_neg (by simp [hc])]
  omega
theorem MadeTo.done {n : Nat} {s : Int} {bs : List Bool} {t : Bool} {ls : List (List Int)} {k : Nat} (h : MadeTo n s bs t ls k) (hk : ls.length ≤ k) : made n s bs t ls = k := by
  unfold MadeTo at h
  rw [h, List.drop_eq_nil_of_le hk, made]
  omega
/-- Places and torch behind the trips that can be made. -/
noncomputable def ended (n : Nat) (s : Int) (bs : List Bool) (t : Bool) (ls : List (List Int)) : List Bool × Bool := after bs t (ls.take (made n s bs t ls))
theorem ended_len (n : Nat) (s : Int) (bs : List Bool) (t : Bool) (ls : List (List Int)) : (ended n s bs t ls).1.length = bs.length := after_len _ _ _
theorem can_steps {n : Nat} {s : Int} {bs : List Bool} {t : Bool} {l : List Int} (h : canGo n s bs t l = true) : StepsTo l (n - 1) l.length := by
  simp only [canGo, Bool.and_eq_true] at h
  exact trip_steps h.1
theorem trip_short {n : Nat} {s : Int} {l : List Int} (h : isTrip n s l = true) : (l.length : Int) ≤ s := by
  simp only [isTrip, Bool.and_eq_true] at h
  exact (within_iff.1 h.1).2
end Go.Proofs.Yteeolclnoblkcaa

namespace Go.Proofs.Yteeolclnoblkcaa
open Go.RowKit

/-- One cell of the place while the first k people are looked at. -/
def crossAt (bs : List Bool) (l : List Int) (k i : Nat) : Bool := if i < k then bs.getD i false != has l i else bs.getD i false
def crossTo (bs : List Bool) (t : Bool) (l : List Int) (k : Nat) : Array Value := #[.bool (crossAt bs l k 0), .bool (crossAt bs l k 1), .bool (crossAt bs l k 2), .bool (crossAt bs l k 3), .bool (crossAt bs l k 4), .bool (crossAt bs l k 5), .bool (crossAt bs l k 6), .bool (crossAt bs l k 7), .bool t]
theorem crossAt_here (bs : List Bool) (l : List Int) (k : Nat) : crossAt bs l k k = bs.getD k false := by simp [crossAt]
theorem cross_get (bs : List Bool) (t : Bool) (l : List Int) {k : Nat} (h : k < 8) : (crossTo bs t l k)[k]? = some (.bool (bs.getD k false)) := by
  rw [← crossAt_here bs l k]
  match k, h with
  | 0, _ => rfl
  | 1, _ => rfl
  | 2, _ => rfl
  | 3, _ => rfl
  | 4, _ => rfl
  | 5, _ => rfl
  | 6, _ => rfl
  | 7, _ => rfl
theorem cross_skip (bs : List Bool) (t : Bool) {l : List Int} {k : Nat} (h : has l k = false) : crossTo bs t l (k + 1) = crossTo bs t l k := by
  have hh : ∀ i, crossAt bs l (k + 1) i = crossAt bs l k i := by
    intro i
    unfold crossAt
    by_cases h1 : i < k
    · rw [if_pos h1, if_pos (by omega)]
    · by_cases h2 : i = k
      · subst h2; rw [if_pos (by omega), if_neg h1, h]; cases bs.getD i false <;> rfl
      · rw [if_neg h1, if_neg (by omega)]
  simp only [crossTo, hh]
theorem cross_turn (bs : List Bool) (t : Bool) {l : List Int} {k : Nat} (hk : k < 8) (h : has l k = true) : (crossTo bs t l k).setIfInBounds k (.bool (!(bs.getD k false))) = crossTo bs t l (k + 1) := by
  have h1 : crossAt bs l (k + 1) k = !(bs.getD k false) := by
    unfold crossAt; rw [if_pos (by omega), h]; cases bs.getD k false <;> rfl
  have hh : ∀ i, i ≠ k → crossAt bs l (k + 1) i = crossAt bs l k i := by
    intro i hi
    unfold crossAt
    by_cases h1 : i < k
    · rw [if_pos h1, if_pos (by omega)]
    · rw [if_neg h1, if_neg (by omega)]
  rw [← h1]
  unfold crossTo
  match k, hk with
  | 0, _ => simp [hh]
  | 1, _ => simp [hh]
  | 2, _ => simp [hh]
  | 3, _ => simp [hh]
  | 4, _ => simp [hh]
  | 5, _ => simp [hh]
  | 6, _ => simp [hh]
  | 7, _ => simp [hh]
theorem cross_start (bs : List Bool) (t : Bool) (l : List Int) : placeCells bs t = crossTo bs t l 0 := by simp [placeCells, crossTo, crossAt]
theorem cross_end {bs : List Bool} {t : Bool} {l : List Int} (h : ∀ i, bs.length ≤ i → has l i = false) : (crossTo bs t l 8).setIfInBounds 8 (.bool (!t)) = placeCells (flipped bs l) (!t) := by
  have hh : ∀ i, i < 8 → crossAt bs l 8 i = (flipped bs l).getD i false := by
    intro i hi
    rw [crossAt, if_pos hi]
    by_cases h1 : i < bs.length
    · rw [flipped_get bs l h1]
    · rw [flipped_out bs l (by omega), h i (by omega), List.getD_eq_getElem?_getD, List.getElem?_eq_none (by omega)]; rfl
  simp only [crossTo, placeCells, hh 0 (by omega), hh 1 (by omega), hh 2 (by omega), hh 3 (by omega), hh 4 (by omega), hh 5 (by omega), hh 6 (by omega), hh 7 (by omega)]
  rfl
theorem cross_one (bs : List Bool) (t : Bool) (l : List Int) (k : Nat) : (crossTo bs t l k).all (·.oneCell') = true := by simp [crossTo, Value.oneCell']

set_option maxHeartbeats 1600000 in
theorem cross_any (bs : List Bool) (l : List Int) (t : Bool) (w : World) (h : ∀ i, bs.length ≤ i → has l i = false) :
    Calls Try.prog 104 #[.agg (placeCells bs t), .agg (crowdCells l)] w fun e w' => e = .returned (.agg (placeCells (flipped bs l) (!t))) ∧ Below w.heap.size w w' := by
  have HEND := Lib.hid (cross_end (t := t) h)
  clear h
  have h0 := ((Whole.fresh w 80 (placeCells bs t)).alloc (.cells (crowdCells l) 69)).alloc (.cells (placeCells [] false) 80)
  have h2 := Whole.fresh ((w.alloc (.cells (placeCells bs t) 80)).alloc (.cells (crowdCells l) 69)) 80 (placeCells [] false)
  simp only [World.size_alloc] at h2
  have hb := below3 w (.cells (placeCells bs t) 80) (.cells (crowdCells l) 69) (.cells (placeCells [] false) 80)
  rw [cross_start bs t l] at h0
  have H0 := Lib.hid h0
  have H2 := Lib.hid h2
  have HB := Lib.hid hb
  clear h0 h2 hb
  unfold crowdCells at *
  go_enter Try.func104, Try.ntmps104
  go_wp2
  go_loopw [9] (fun i wr => ∃ k : Nat, k ≤ 8 ∧ i = .int .i64 k ∧ Whole wr w.heap.size 80 (crossTo bs t l k) ∧ Whole wr (w.heap.size + 1 + 1) 80 (placeCells [] false) ∧ Below w.heap.size w wr) (fun i _ => 8 - (intOf i).toNat)
  case atStart => exact ⟨0, Nat.zero_le _, rfl, H0.out, H2.out, HB.out⟩
  case round =>
    obtain ⟨k, hk, rfl, g0, g2, hb⟩ := hrel
    clear H0 H2 HB
    have hl0 := g0.lt
    have hl2 := g2.lt
    by_cases hlt : k < 8
    · have hix := index_crowd l hlt
      have hkk : (k : Int) < 8 := by omega
      cases hp : has l k
      · rw [hp] at hix
        have HN := Lib.hid (cross_skip bs t hp)
        clear hp
        go_wp2
        go_roundw
        case rel => exact ⟨k + 1, by omega, by go_num, by rw [HN.out]; exact g0, g2, hb⟩
        case measure => simp [intOf]; omega
      · rw [hp] at hix
        have hcell := (g0.cell k).trans (cross_get bs t l hlt)
        have hfr := g0.open_ k
        have hs := g0.set_ k (.bool (!(bs.getD k false)))
        rw [cross_turn bs t hlt hp] at hs
        have HS := Lib.hid hs
        have HF := Lib.hid (g2.off (b := w.heap.size) (o := k) (u := .bool (!(bs.getD k false))) (by omega))
        clear hp hs
        go_wp2
        go_roundw
        case rel => exact ⟨k + 1, by omega, by go_num, HS.out, HF.out, below_set hb (Nat.le_refl _)⟩
        case measure => simp [intOf]; omega
    · have hk8 : k = 8 := by omega
      subst hk8
      have hcell := (g0.cell 8).trans (show (crossTo bs t l 8)[8]? = some (.bool t) from rfl)
      have hfr := g0.open_ 8
      have hs := g0.set_ 8 (.bool (!t))
      rw [HEND.out] at hs
      have hg2 := g2.off (b := w.heap.size) (o := 8) (u := .bool (!t)) (by omega)
      have hbb := below_set (o := 8) (u := .bool (!t)) hb (Nat.le_refl w.heap.size)
      clear g0 g2 hb
      go_wp2_with (first | (refine wpList_load_row rfl 80 (.tmp 2) rfl w.heap.size rfl 80 (placeCells (flipped bs l) (!t)) (0, 0) _ hs Try.underlying80 rfl size_place ?_) | (refine wpList_store_whole rfl 80 (.tmp 4) (.tmp 29) rfl (w.heap.size + 1 + 1) (placeCells (flipped bs l) (!t)) rfl rfl 80 (placeCells [] false) hg2 size_place rfl (place_one _ _) ?_; intro w2 hw2 ho2))
      have hb2 := ho2.below hbb (by omega)
      obtain ⟨r0, r1, r2, r3, r4, r5, r6, r7, r8⟩ := place_cells hw2
      refine bodyPost_ret (v := .agg (placeCells (flipped bs l) (!t))) (by simp [results, Try.results104, go_sem, r0, r1, r2, r3, r4, r5, r6, r7, r8, placeCells]) rfl ⟨rfl, hb2⟩
end Go.Proofs.Yteeolclnoblkcaa

namespace Go.Proofs.Yteeolclnoblkcaa
open Go.RowKit

theorem Fresh.turn {w : World} {lo hi k : Nat} {ty : TypeId} {A : Option Addr} {xs : List Value} (hf : Fresh w lo hi ty A xs) (hk : k < xs.length) :
    ∃ g u, A = some ⟨g, 0, none⟩ ∧ lo ≤ g ∧ g < hi ∧ g < w.heap.size ∧ w.cell? ⟨g, k, none⟩ = some u ∧ w.frozen? ⟨g, k, none⟩ = false ∧ ∀ v, Fresh (w.setCell ⟨g, k, none⟩ v) lo hi ty A (xs.set k v) := by
  rcases hf with rfl | ⟨g, cs, hA, h1, h2, hw, h3, h4⟩
  · simp at hk
  · refine ⟨g, cs[k]'(by omega), hA, h1, h2, hw.lt, (hw.cell k).trans (by simp), hw.open_ k, fun v => .inr ⟨g, _, hA, h1, h2, hw.set_ k v, by simpa using h3, ?_⟩⟩
    rw [List.length_set, Array.toList_setIfInBounds, ← h4, List.take_set, List.length_take]
    congr 2
    simp only [Array.length_toList]
    omega

/-- What stands behind the model's copy of the state. -/
def CrossMid (m : Nat) (bs : List Bool) (t : Bool) (b o d : Nat) (w : World) (v : Value) (wx : World) : Prop :=
  ∃ (g c lo hi : Nat) (A : Option Addr), v = .pointer (some ⟨g, 0, none⟩) ∧ w.heap.size + 1 + 1 ≤ g ∧ w.heap.size + 1 + 1 ≤ lo ∧ (g < lo ∨ hi ≤ g) ∧ hi ≤ wx.heap.size ∧ Whole wx g 39 #[.slice A m c, .bool (!t)] ∧ Fresh wx lo hi 4 A (bits bs) ∧ Whole wx w.heap.size 39 #[.slice (some ⟨b, o, none⟩) m d, .bool t] ∧ Whole wx (w.heap.size + 1) 39 #[.slice none 0 0, .bool false] ∧ Below w.heap.size w wx

end Go.Proofs.Yteeolclnoblkcaa

namespace Go.Proofs.Yteeolclnoblkcaa
open Go.RowKit

theorem Holds.spot {w : World} {A : Option Addr} {xs : List Value} (h : Holds w A xs) (h0 : 0 < xs.length) : ∃ b o, A = some ⟨b, o, none⟩ ∧ b < w.heap.size ∧ ∀ j u, xs[j]? = some u → w.cell? ⟨b, o + j, none⟩ = some u := by
  rcases h with rfl | h
  · simp at h0
  · exact h
/-- The places lie in a block that is old or new, but none of the call's own first three. -/
def Apart (B : Nat) (w : World) (A : Option Addr) (xs : List Value) : Prop := ∃ b o, A = some ⟨b, o, none⟩ ∧ b < w.heap.size ∧ (b < B ∨ B + 1 + 1 + 1 ≤ b) ∧ ∀ j u, xs[j]? = some u → w.cell? ⟨b, o + j, none⟩ = some u
theorem Apart.holds {B : Nat} {w : World} {A : Option Addr} {xs : List Value} (h : Apart B w A xs) : Holds w A xs := by
  obtain ⟨b, o, hA, hb, -, hc⟩ := h
  exact .inr ⟨b, o, hA, hb, hc⟩
theorem Apart.below {B : Nat} {w w' : World} {A : Option Addr} {xs : List Value} (h : Apart B w A xs) (hb : Below w.heap.size w w') : Apart B w' A xs := by
  obtain ⟨b, o, hA, hl, hd, hc⟩ := h
  exact ⟨b, o, hA, Nat.lt_of_lt_of_le hl hb.size, hd, fun j u hu => (hb.cell (p := ⟨b, o + j, none⟩) hl).trans (hc j u hu)⟩
theorem Apart.set {B g i : Nat} {w : World} {A : Option Addr} {xs : List Value} (h : Apart B w A xs) (hg : B ≤ g ∧ g ≤ B + 1 + 1) (v : Value) : Apart B (w.setCell ⟨g, i, none⟩ v) A xs := by
  obtain ⟨b, o, hA, hl, hd, hc⟩ := h
  refine ⟨b, o, hA, by simpa [World.setCell] using hl, hd, fun j u hu => ?_⟩
  have h1 := hc j u hu
  have h2 := Below.heap_setCell w ⟨g, i, none⟩ v b (by show b ≠ g; omega)
  simp only [World.cell?] at h1 ⊢
  rw [h2]
  exact h1

/-- What paPlay hands back. -/
def PlayPost (n : Nat) (s : Int) (bs : List Bool) (t : Bool) (ls : List (List Int)) (m : Nat) (w : World) (e : Ending) (w' : World) : Prop :=
  ∃ (A : Option Addr) (c : Nat), e = .returned (.tuple #[.agg #[.slice A m c, .bool (ended n s bs t ls).2], .int .i64 (made n s bs t ls)]) ∧ Holds w' A (bits (ended n s bs t ls).1) ∧ Below w.heap.size w w'

theorem rowNums_get {rs : List RowV} {k : Nat} (hk : k < rs.length) : (rowNums rs)[k]'(by rw [rowNums_len]; exact hk) = rs[k].xs := by simp [rowNums]

end Go.Proofs.Yteeolclnoblkcaa

namespace Go.Proofs.Yteeolclnoblkcaa
open Go.RowKit


/-- A list of lists that the call makes and goes on with: its heads in a block of the call's own, each row in a range of blocks of its own, all from lo on. -/
def Heads (w : World) (lo : Nat) (A : Option Addr) (c : Nat) (rs : List RowV) : Prop :=
  w.ownsRow lo 28 1 (.slice A rs.length c) rs.length (rowVals rs) ∧
    ∃ ps, FreeRows w ps rs ∧ (∀ p ∈ ps, lo ≤ p.1 ∧ p.2 ≤ w.heap.size) ∧ ∀ a : Addr, A = some a → ∀ p ∈ ps, a.block < p.1 ∨ p.2 ≤ a.block
theorem Heads.nil (w : World) (lo : Nat) : Heads w lo none 0 [] :=
  ⟨World.ownsRow_nil _ _ _ _, [], ⟨rfl, fun k r p h => by simp at h, fun i j p p' _ h => by simp at h⟩, fun p h => by simp at h, fun a h => by cases h⟩
theorem own_keep {w w' : World} {base : Nat} {e : TypeId} {size : Nat} {v : Value} {n : Nat} {xs : List Value} (h : w.ownsRow base e size v n xs) (hb : Below w.heap.size w w') : w'.ownsRow base e size v n xs := by
  obtain ⟨hl, h | ⟨g, cap, cur, hv, hg, hh, r⟩⟩ := h
  · exact ⟨hl, .inl h⟩
  · exact ⟨hl, .inr ⟨g, cap, cur, hv, hg, (hb.block g (Array.getElem?_eq_some_iff.1 hh).1).trans hh, r⟩⟩
theorem Heads.below {w w' : World} {lo c : Nat} {A : Option Addr} {rs : List RowV} (h : Heads w lo A c rs) (hb : Below w.heap.size w w') : Heads w' lo A c rs := by
  obtain ⟨h1, ps, h2, h3, h4⟩ := h
  exact ⟨own_keep h1 hb, ps, h2.below hb, fun p hp => ⟨(h3 p hp).1, Nat.le_trans (h3 p hp).2 hb.size⟩, h4⟩
theorem Heads.alloc {w : World} {lo c : Nat} {A : Option Addr} {rs : List RowV} (h : Heads w lo A c rs) (o : Obj) : Heads (w.alloc o) lo A c rs := h.below (below1 w o)
theorem fresh_grown {w w' : World} {lo hi : Nat} {ty : TypeId} {A : Option Addr} {xs : List Value} {row : Option Nat} (hf : Fresh w lo hi ty A xs) (hg : w.grownBy w' row) (hd : ∀ g, row = some g → g < lo ∨ hi ≤ g) : Fresh w' lo hi ty A xs := by
  rcases hf with h | ⟨g, cs, hA, h1, h2, hw, h3, h4⟩
  · exact .inl h
  · refine .inr ⟨g, cs, hA, h1, h2, ?_, h3, h4⟩
    exact (hg.block g hw.lt (fun e => by have := hd g e.symm; omega)).trans hw
/-- A row more. -/
theorem Heads.push {w w1 w2 : World} {lo c cap g : Nat} {A : Option Addr} {rs : List RowV} {r : RowV} (h : Heads w lo A c rs) (hlo : lo ≤ w.heap.size) (hb : Below w.heap.size w w1) (hr : Fresh w1 w.heap.size w1.heap.size 3 r.A (nums r.xs)) (hl : r.xs.length = r.n) (hn : r.n ≤ 1048576)
    (hown : w2.ownsRow lo 28 1 (.slice (some ⟨g, 0, none⟩) (rs.length + 1) cap) (rs.length + 1) (rowVals rs ++ [r.val])) (hg : (w1.alloc (.cells #[r.val] 28)).grownBy w2 (Value.slice A rs.length c).ownBlock)
    (hat : (Value.slice A rs.length c).ownBlock = some g ∨ g = w1.heap.size + 1) : Heads w2 lo (some ⟨g, 0, none⟩) cap (rs ++ [r]) := by
  obtain ⟨h1, ps, ⟨k1, k2, k3⟩, h3, h4⟩ := h
  have hsz := hb.size
  have hsg : w1.heap.size + 1 ≤ w2.heap.size := by have := hg.size; simpa using this
  have hob : ∀ q, (Value.slice A rs.length c).ownBlock = some q → ∃ a : Addr, A = some a ∧ a.block = q ∧ q < w.heap.size := by
    intro q hq
    cases A with
    | none => simp [Value.ownBlock] at hq
    | some a => exact ⟨a, rfl, by simpa [Value.ownBlock] using hq, (h1.lt q hq).2⟩
  refine ⟨by rw [List.length_append]; show World.ownsRow _ _ _ _ _ _ _; simpa [rowVals] using hown, ps ++ [(w.heap.size, w1.heap.size)], ⟨by simp [k1], ?_, ?_⟩, ?_, ?_⟩
  · intro k r' p' hr' hp'
    rcases Nat.lt_or_ge k rs.length with hk | hk
    · rw [List.getElem?_append_left hk] at hr'
      rw [List.getElem?_append_left (by omega)] at hp'
      obtain ⟨f1, f2⟩ := k2 k r' p' hr' hp'
      have hm := List.mem_of_getElem? hp'
      refine ⟨fresh_grown ((f1.below hb).alloc _) hg fun q hq => ?_, f2⟩
      obtain ⟨a, hA, hq2, -⟩ := hob q hq
      have := h4 a hA p' hm
      omega
    · have hke : k = rs.length := by
        have := (List.getElem?_eq_some_iff.1 hr').1
        simp at this
        omega
      subst hke
      rw [List.getElem?_append_right (Nat.le_refl _)] at hr'
      rw [List.getElem?_append_right (by omega), k1] at hp'
      simp at hr' hp'
      subst hr' hp'
      exact ⟨fresh_grown (hr.alloc _) hg fun q hq => by obtain ⟨a, -, -, hlt⟩ := hob q hq; exact .inl hlt, hl, hn⟩
  · intro i j p p' hij hp hp'
    have hlen : ∀ {i : Nat} {p : Nat × Nat}, (ps ++ [(w.heap.size, w1.heap.size)])[i]? = some p → (i < ps.length ∧ ps[i]? = some p) ∨ (i = ps.length ∧ p = (w.heap.size, w1.heap.size)) := by
      intro i p hp
      rcases Nat.lt_or_ge i ps.length with hi | hi
      · rw [List.getElem?_append_left hi] at hp
        exact .inl ⟨hi, hp⟩
      · have hie : i = ps.length := by
          have := (List.getElem?_eq_some_iff.1 hp).1
          simp at this
          omega
        subst hie
        rw [List.getElem?_append_right (Nat.le_refl _)] at hp
        simp at hp
        exact .inr ⟨rfl, hp.symm⟩
    rcases hlen hp with ⟨hi, hp⟩ | ⟨hi, rfl⟩ <;> rcases hlen hp' with ⟨hj, hp'⟩ | ⟨hj, rfl⟩
    · exact k3 i j p p' hij hp hp'
    · exact .inl (h3 p (List.mem_of_getElem? hp)).2
    · exact .inr (h3 p' (List.mem_of_getElem? hp')).2
    · omega
  · intro p hp
    rcases List.mem_append.1 hp with hp | hp
    · exact ⟨(h3 p hp).1, by have := (h3 p hp).2; omega⟩
    · simp only [List.mem_singleton] at hp
      subst hp
      exact ⟨hlo, by show w1.heap.size ≤ _; omega⟩
  · intro a ha p hp
    obtain rfl : (⟨g, 0, none⟩ : Addr) = a := Option.some.inj ha
    show g < p.1 ∨ p.2 ≤ g
    rcases List.mem_append.1 hp with hp | hp
    · rcases hat with hat | hat
      · obtain ⟨a, hA, hq2, -⟩ := hob g hat
        have := h4 a hA p hp
        omega
      · have := (h3 p hp).2
        omega
    · simp only [List.mem_singleton] at hp
      subst hp
      show g < w.heap.size ∨ w1.heap.size ≤ g
      rcases hat with hat | hat
      · obtain ⟨-, -, -, hlt⟩ := hob g hat
        exact .inl hlt
      · omega
/-- What was made is the call's own, all of it. -/
theorem Heads.free {w : World} {lo c : Nat} {A : Option Addr} {rs : List RowV} (h : Heads w lo A c rs) : FreeGrid w lo w.heap.size A rs := by
  obtain ⟨h1, ps, h2, h3, h4⟩ := h
  refine ⟨ps, h2, h3, ?_⟩
  rcases own_some h1 with ⟨rfl, hn, -⟩ | ⟨g, rfl, -⟩
  · exact .inl (List.length_eq_zero_iff.1 hn)
  · obtain ⟨-, ⟨hv, -⟩ | ⟨g', cap, cur, hv, hb, hh, -, -, -, ht⟩⟩ := h1
    · simp at hv
    · obtain ⟨rfl, -⟩ : g = g' ∧ c = cap := by simpa using hv
      have hlt := (Array.getElem?_eq_some_iff.1 hh).1
      refine .inr ⟨g, 0, rfl, hlt, hb, hlt, fun p hp => h4 _ rfl p hp, fun j u hu => ?_⟩
      rw [Nat.zero_add, (show Whole w g 28 cur from hh).cell j]
      rw [← ht, List.getElem?_take] at hu
      split at hu
      · simpa using hu
      · simp at hu
/-- What a call hands back that makes a list of lists. -/
def RowsPost (ls : List (List Int)) (w : World) (e : Ending) (w' : World) : Prop :=
  ∃ (A : Option Addr) (c : Nat) (rs : List RowV), e = .returned (.slice A rs.length c) ∧ rowNums rs = ls ∧ FreeGrid w' w.heap.size w'.heap.size A rs ∧ Below w.heap.size w w'
end Go.Proofs.Yteeolclnoblkcaa

namespace Go.Proofs.Yteeolclnoblkcaa
open Go.RowKit

/-- The rising lists of at most m that begin with b and go on with some of the others, at least one of them; each ahead of those that it begins. -/
def subs (m : Nat) : List Int → List Int → List (List Int)
  | [], _ => []
  | k :: r, b => if m ≤ b.length then [] else ((b ++ [k]) :: subs m r (b ++ [k])) ++ subs m r b
theorem subs_full {m : Nat} {b : List Int} (h : m ≤ b.length) : ∀ o : List Int, subs m o b = []
  | [] => rfl
  | _ :: _ => if_pos h
theorem subs_next {m : Nat} {b o : List Int} {i : Nat} (hi : i < o.length) (h : b.length < m) : subs m (o.drop i) b = ((b ++ [o[i]]) :: subs m (o.drop (i + 1)) (b ++ [o[i]])) ++ subs m (o.drop (i + 1)) b := by
  rw [List.drop_eq_getElem_cons hi, subs, if_neg (by omega)]
theorem subs_len (m : Nat) : ∀ (o b : List Int), (subs m o b).length + 1 ≤ 2 ^ o.length
  | [], _ => by simp [subs]
  | k :: r, b => by
    have h1 := subs_len m r (b ++ [k])
    have h2 := subs_len m r b
    rw [subs, List.length_cons, Nat.pow_succ]
    split
    · have : 0 < 2 ^ r.length := Nat.pos_of_ne_zero (by simp)
      simp
      omega
    · simp only [List.length_append, List.length_cons]
      omega
theorem subs_small {m : Nat} {o b : List Int} (h : o.length ≤ 8) : (subs m o b).length ≤ 255 := by
  have h1 := subs_len m o b
  have h2 : 2 ^ o.length ≤ 2 ^ 8 := Nat.pow_le_pow_right (by omega) h
  omega

theorem subs_mem (m : Nat) : ∀ (o b l : List Int), l ∈ subs m o b ↔ ∃ c, l = b ++ c ∧ c ≠ [] ∧ c.Sublist o ∧ l.length ≤ m := by
  intro o
  induction o with
  | nil =>
    intro b l
    constructor
    · intro h
      simp [subs] at h
    · rintro ⟨c, -, hne, hs, -⟩
      exact absurd (List.sublist_nil.1 hs) hne
  | cons k r ih =>
    intro b l
    rw [subs]
    by_cases hm : m ≤ b.length
    · rw [if_pos hm]
      constructor
      · intro h
        simp at h
      · rintro ⟨c, rfl, hne, -, hl⟩
        have : 0 < c.length := List.length_pos_iff.2 hne
        rw [List.length_append] at hl
        omega
    · rw [if_neg hm, List.mem_append, List.mem_cons, ih, ih]
      constructor
      · rintro ((rfl | ⟨c, rfl, hne, hs, hl⟩) | ⟨c, rfl, hne, hs, hl⟩)
        · refine ⟨[k], rfl, by simp, ?_, by simp; omega⟩
          exact (List.nil_sublist r).cons_cons k
        · refine ⟨k :: c, by simp, by simp, hs.cons_cons k, hl⟩
        · exact ⟨c, rfl, hne, hs.cons k, hl⟩
      · rintro ⟨c, rfl, hne, hs, hl⟩
        cases hs with
        | cons _ h => exact .inr ⟨c, rfl, hne, h, hl⟩
        | cons_cons _ h =>
          rename_i c'
          by_cases hc : c' = []
          · subst hc
            exact .inl (.inl rfl)
          · exact .inl (.inr ⟨c', by simp, hc, h, hl⟩)

theorem FreeRows.grown {w w' : World} {ps : List (Nat × Nat)} {rs : List RowV} {row : Option Nat} (h : FreeRows w ps rs) (hg : w.grownBy w' row) (hd : ∀ g, row = some g → ∀ p ∈ ps, g < p.1 ∨ p.2 ≤ g) : FreeRows w' ps rs :=
  ⟨h.1, fun k r p hr hp => ⟨fresh_grown (h.2.1 k r p hr hp).1 hg (fun g e => hd g e p (List.mem_of_getElem? hp)), (h.2.1 k r p hr hp).2⟩, h.2.2⟩
theorem FreeRows.join {w : World} {ps qs : List (Nat × Nat)} {rs ss : List RowV} (h : FreeRows w ps rs) (h' : FreeRows w qs ss) (hd : ∀ p ∈ ps, ∀ q ∈ qs, p.2 ≤ q.1) : FreeRows w (ps ++ qs) (rs ++ ss) := by
  obtain ⟨a1, a2, a3⟩ := h
  obtain ⟨b1, b2, b3⟩ := h'
  refine ⟨by simp [a1, b1], fun k r p hr hp => ?_, fun i j p p' hij hp hp' => ?_⟩
  · rcases Nat.lt_or_ge k rs.length with hk | hk
    · rw [List.getElem?_append_left hk] at hr
      rw [List.getElem?_append_left (by omega)] at hp
      exact a2 k r p hr hp
    · rw [List.getElem?_append_right hk] at hr
      rw [List.getElem?_append_right (by omega), a1] at hp
      exact b2 _ r p hr hp
  · rcases Nat.lt_or_ge i ps.length with hi | hi <;> rcases Nat.lt_or_ge j ps.length with hj | hj
    · rw [List.getElem?_append_left hi] at hp
      rw [List.getElem?_append_left hj] at hp'
      exact a3 i j p p' hij hp hp'
    · rw [List.getElem?_append_left hi] at hp
      rw [List.getElem?_append_right hj] at hp'
      exact .inl (hd p (List.mem_of_getElem? hp) p' (List.mem_of_getElem? hp'))
    · rw [List.getElem?_append_right hi] at hp
      rw [List.getElem?_append_left hj] at hp'
      exact .inr (hd p' (List.mem_of_getElem? hp') p (List.mem_of_getElem? hp))
    · rw [List.getElem?_append_right hi] at hp
      rw [List.getElem?_append_right hj] at hp'
      exact b3 _ _ p p' (by omega) hp hp'
/-- Lists of lists put behind others, both made by the call. -/
theorem Heads.join {w w1 w2 : World} {lo c d cap g : Nat} {A B : Option Addr} {rs ss : List RowV} (h : Heads w lo A c rs) (hlo : lo ≤ w.heap.size) (hb : Below w.heap.size w w1) (h' : Heads w1 w.heap.size B d ss)
    (hown : w2.ownsRow lo 28 1 (.slice (some ⟨g, 0, none⟩) (rs.length + ss.length) cap) (rs.length + ss.length) (rowVals rs ++ rowVals ss)) (hg : w1.grownBy w2 (Value.slice A rs.length c).ownBlock)
    (hat : (Value.slice A rs.length c).ownBlock = some g ∨ g = w1.heap.size) : Heads w2 lo (some ⟨g, 0, none⟩) cap (rs ++ ss) := by
  obtain ⟨h1, ps, h2, h3, h4⟩ := h
  obtain ⟨-, qs, k2, k3, -⟩ := h'
  have hsz := hb.size
  have hsg := hg.size
  have hob : ∀ q, (Value.slice A rs.length c).ownBlock = some q → ∃ a : Addr, A = some a ∧ a.block = q ∧ q < w.heap.size := by
    intro q hq
    cases A with
    | none => simp [Value.ownBlock] at hq
    | some a => exact ⟨a, rfl, by simpa [Value.ownBlock] using hq, (h1.lt q hq).2⟩
  refine ⟨by rw [List.length_append]; show World.ownsRow _ _ _ _ _ _ _; simpa [rowVals] using hown, ps ++ qs, ?_, ?_, ?_⟩
  · refine (FreeRows.join (h2.below hb) k2 fun p hp q hq => ?_).grown hg ?_
    · have := (h3 p hp).2; have := (k3 q hq).1; omega
    · intro q hq p hp
      obtain ⟨a, hA, hq2, hl⟩ := hob q hq
      rcases List.mem_append.1 hp with hp | hp
      · have := h4 a hA p hp; omega
      · have := (k3 p hp).1; omega
  · intro p hp
    rcases List.mem_append.1 hp with hp | hp
    · exact ⟨(h3 p hp).1, by have := (h3 p hp).2; omega⟩
    · exact ⟨by have := (k3 p hp).1; omega, by have := (k3 p hp).2; omega⟩
  · intro a ha p hp
    obtain rfl : (⟨g, 0, none⟩ : Addr) = a := Option.some.inj ha
    show g < p.1 ∨ p.2 ≤ g
    rcases List.mem_append.1 hp with hp | hp
    · rcases hat with hat | hat
      · obtain ⟨a, hA, hq2, -⟩ := hob g hat
        have := h4 a hA p hp
        omega
      · have := (h3 p hp).2
        omega
    · rcases hat with hat | hat
      · obtain ⟨a, hA, hq2, hl⟩ := hob g hat
        have := (k3 p hp).1
        omega
      · have := (k3 p hp).2
        omega
theorem Heads.raise {w : World} {lo lo' c : Nat} {A : Option Addr} {rs : List RowV} (h : Heads w lo A c rs) (hl : lo' ≤ lo) : Heads w lo' A c rs := by
  obtain ⟨h1, ps, h2, h3, h4⟩ := h
  refine ⟨?_, ps, h2, fun p hp => ⟨Nat.le_trans hl (h3 p hp).1, (h3 p hp).2⟩, h4⟩
  obtain ⟨hn, h | ⟨g, cap, cur, hv, hg, r⟩⟩ := h1
  · exact ⟨hn, .inl h⟩
  · exact ⟨hn, .inr ⟨g, cap, cur, hv, Nat.le_trans hl hg, r⟩⟩
/-- What a call hands back that makes a list of lists to which more can be appended. -/
def SubsPost (ls : List (List Int)) (w : World) (e : Ending) (w' : World) : Prop :=
  ∃ (A : Option Addr) (c : Nat) (rs : List RowV), e = .returned (.slice A rs.length c) ∧ rowNums rs = ls ∧ (A = none → rs = [] ∧ c = 0) ∧ (∀ a, A = some a → a = ⟨a.block, 0, none⟩ ∧ 0 < rs.length) ∧ Heads w' w.heap.size A c rs ∧ Below w.heap.size w w'
end Go.Proofs.Yteeolclnoblkcaa

namespace Go.Proofs.Yteeolclnoblkcaa
open Go.RowKit

/-- slices.Clone of a list, to which more can be appended. -/
def OwnOr (xs : List Int) (w : World) (e : Ending) (w' : World) : Prop :=
  ∃ (A : Option Addr) (c : Nat), e = .returned (.slice A xs.length c) ∧ w'.ownsRow w.heap.size 3 1 (.slice A xs.length c) xs.length (nums xs) ∧ Below w.heap.size w w'

set_option maxHeartbeats 800000 in
set_option maxRecDepth 100000 in
theorem cloneO_any (A : Option Addr) (n d : Nat) (bs : List Int) (w : World) (hB : Holds w A (nums bs)) (hy : bs.length = n) (hn : n ≤ 1048576) (hnil : A = none → n = 0 ∧ d = 0) :
    Calls Try.prog 119 #[.slice A n d] w (OwnOr bs w) := by
  subst hy
  cases A with
  | none =>
    obtain ⟨h0, rfl⟩ := hnil rfl
    obtain rfl := List.length_eq_zero_iff.1 h0
    clear h0
    go_enter Try.func119, Try.ntmps119
    have hnl := fun (W : World) => Lib.run_eql_slice_nil (P := Try.prog) W 28 3 none 0 0 0 0 Try.underlying28
    go_wp2
    go_ret
    exact ⟨none, 0, rfl, World.ownsRow_nil _ _ _ _, Below.refl _ _⟩
  | some ad =>
    obtain ⟨b, o, had⟩ : ∃ b o, (nums bs = [] ∨ ad = ⟨b, o, none⟩) := by
      rcases hB with h | ⟨b, o, h, -, -⟩
      · exact ⟨0, 0, .inl h⟩
      · exact ⟨b, o, .inr (Option.some.inj h)⟩
    obtain ⟨i0, hi, hz0, hz1, hz2⟩ := info_parts info_int
    have HI := Lib.hid hi
    have HZ0 := Lib.hid hz0
    have HZ1 := Lib.hid hz1
    have HZ2 := Lib.hid hz2
    have hnews : ∀ j u, (nums bs)[j]? = some u → (w.alloc (.cells #[] 3)).cell? (ad.add j) = some u := fun j u hu => by
      rcases hB with h | ⟨b, o, h, hb, hcell⟩
      · rw [h] at hu; simp at hu
      · obtain rfl : ad = ⟨b, o, none⟩ := by simpa using h
        rw [show (⟨b, o, none⟩ : Addr).add j = ⟨b, o + j, none⟩ from by unfold Addr.add; split <;> simp_all, World.cell?_alloc_lt _ _ _ hb]
        exact hcell j u hu
    clear hi hz0 hz1 hz2 had hnil
    go_enter Try.func119, Try.ntmps119
    have hnl := fun (W : World) => Lib.run_eql_slice_nil (P := Try.prog) W 28 3 (some ad) bs.length d 0 0 Try.underlying28
    have HOWN := Lib.hid (World.ownsRow_made (base := w.heap.size) (e := 3) (size := 1) w #[] 0 (Nat.le_refl _) (by unfold maxLen; omega) rfl)
    have HNEWS := Lib.hid hnews
    have HLEN := Lib.hid (show (nums bs).length = bs.length * 1 by rw [nums_len, Nat.mul_one])
    have HONE := Lib.hid (ints_one bs)
    have HMAX := Lib.hid (show 0 + bs.length ≤ maxLen by unfold maxLen; omega)
    have HBYT := Lib.hid (show (0 + bs.length) * 8 ≤ 140737488355328 by omega)
    clear hnews
    go_wp2_with (at_builtin; refine wpList_append_own _ rfl (.tmp 5) (.tmp 6) 28 rfl w.heap.size 3 i0 (.int .i64 0) 1 8 Try.underlying28 HI.out HZ0.out HZ1.out HZ2.out rfl (by decide) _ 0 [] rfl HOWN.out ad bs.length d (nums bs) rfl HLEN.out HNEWS.out HONE.out HMAX.out HBYT.out (by simp) ?_; intro v' w1 hown1 hg1 _)
    go_ret
    simp only [Nat.zero_add, List.nil_append] at hown1
    have hbe := (below1 w (.cells #[] 3)).grown hg1 (by simp) (fun k hk => Nat.le_of_eq (Option.some.inj (show some w.heap.size = some k from hk)))
    obtain ⟨A1, c1, rfl⟩ := own_shape hown1
    exact ⟨A1, c1, rfl, hown1, hbe⟩

/-- Where the list behind a place lies, nil or not: at the list's own address where no room is left behind that place. -/
theorem behind_at {w : World} {A : Option Addr} {n c k : Nat} {xs : List Int} (h : Holds w A (nums xs)) (hx : xs.length = n) (hn : n ≤ c) (hk : k < n) :
    ∃ b o d, A = some ⟨b, o, none⟩ ∧ b < w.heap.size ∧ (if c = k + 1 then some (⟨b, o, none⟩ : Addr) else some ⟨b, o + (k + 1), none⟩) = some ⟨b, d, none⟩ ∧ Holds w (some ⟨b, d, none⟩) (nums (xs.drop (k + 1))) := by
  rcases h with h | ⟨b, o, rfl, hb, hc⟩
  · have := congrArg List.length h
    rw [nums_len, List.length_nil] at this
    omega
  · obtain ⟨d, hd, hh⟩ := tail_at (w := w) (b := b) (o := o) (n := n) (c := c) (k := k) (xs := xs) hc hx hn
    exact ⟨b, o, d, rfl, hb, hd, .inr ⟨b, d, rfl, hb, hh.out⟩⟩

theorem holds_of_own {w : World} {base : Nat} {e : TypeId} {A : Option Addr} {n c : Nat} {xs : List Value} (h : w.ownsRow base e 1 (.slice A n c) n xs) : Holds w A xs := by
  obtain ⟨A', c', hv, hf⟩ := Fresh.of_own h (Nat.le_refl _)
  obtain ⟨rfl, -⟩ : A = A' ∧ c = c' := by simpa using hv
  exact hf.holds

theorem rowVals_one (rs : List RowV) : ∀ u ∈ rowVals rs, u.oneCell' = true := by
  intro v hv
  simp only [rowVals, List.mem_map] at hv
  obtain ⟨x, -, rfl⟩ := hv
  rfl
theorem own_fresh0' {w : World} {lo n c : Nat} {ty : TypeId} {A : Option Addr} {xs : List Value} (h : w.ownsRow lo ty 1 (.slice A n c) n xs) : Fresh w lo w.heap.size ty A xs := by
  obtain ⟨A', c', hv, hf⟩ := Fresh.of_own h (Nat.le_refl _)
  obtain ⟨rfl, -⟩ : A = A' ∧ c = c' := by simpa using hv
  exact hf

set_option maxHeartbeats 6400000 in
set_option maxRecDepth 100000 in
theorem listsFrom_any (m : Nat) (hm : m ≤ 8) : ∀ (g : Nat) (A B : Option Addr) (k z n c : Nat) (bs os : List Int) (w : World), os.length < g → g ≤ 9 → Holds w A (nums bs) → Holds w B (nums os) → bs.length = k → os.length = n → n ≤ c → (A = none → k = 0 ∧ z = 0) →
    Calls Try.prog 109 #[.slice A k z, .slice B n c, .int .i64 m] w (SubsPost (subs m os bs) w) := by
  intro g
  induction g with
  | zero => intro A B k z n c bs os w hg; omega
  | succ g ih =>
    intro A B k z n c bs os w hg hg8 hA hB hk hn hc hnil
    by_cases hfull : m ≤ k
    · have HS := Lib.hid (subs_full (by omega : m ≤ bs.length) os)
      have hge : (m : Int) ≤ (k : Int) := by omega
      clear ih hg hk hn hnil
      go_enter Try.func109, Try.ntmps109
      go_wp2
      go_ret
      rw [HS.out]
      exact ⟨none, 0, [], rfl, rfl, fun _ => ⟨rfl, rfl⟩, fun a h => (by cases h), Heads.nil _ _, Below.refl _ _⟩
    · obtain ⟨i0, hi, hz0, hz1, hz2⟩ := info_parts info_int
      have HI := Lib.hid hi
      have HZ0 := Lib.hid hz0
      have HZ1 := Lib.hid hz1
      have HZ2 := Lib.hid hz2
      obtain ⟨i1, ri, rz0, rz1, rz2⟩ := info_parts info_row
      have RI := Lib.hid ri
      have RZ0 := Lib.hid rz0
      have RZ1 := Lib.hid rz1
      have RZ2 := Lib.hid rz2
      have HK := Lib.hid hk
      have HN := Lib.hid hn
      have HG := Lib.hid hg
      have HNIL := Lib.hid hnil
      have HFU := Lib.hid hfull
      have hk8 : k ≤ 8 := by omega
      have hfd : decide (m ≤ k) = false := by simpa using hfull
      have hn8 : n ≤ 8 := by omega
      clear hi hz0 hz1 hz2 ri rz0 rz1 rz2 hk hn hg hnil hfull
      go_enter Try.func109, Try.ntmps109
      go_wp2
      go_loopw [7, 17] (fun v i wr => ∃ (j : Nat) (E : Option Addr) (d : Nat) (acc : List RowV), j ≤ n ∧ i = .int .i64 j ∧ v = .slice E acc.length d ∧ rowNums acc ++ subs m (os.drop j) bs = subs m os bs ∧ (E = none → acc = [] ∧ d = 0) ∧ (∀ a, E = some a → a = ⟨a.block, 0, none⟩ ∧ 0 < acc.length) ∧ Heads wr w.heap.size E d acc ∧ Below w.heap.size w wr) (fun _ i _ => n - (intOf i).toNat)
      case atStart => exact ⟨0, none, 0, [], Nat.zero_le _, rfl, rfl, rfl, fun _ => ⟨rfl, rfl⟩, fun a h => (by cases h), Heads.nil _ _, Below.refl _ _⟩
      case round =>
        obtain ⟨j, E, d, acc, hj, rfl, rfl, hacc, hEn, hEs, hh, hb⟩ := hrel
        by_cases hjn : j < n
        · have hjl : j < os.length := by have := HN.out; omega
          obtain ⟨b0, o0, d0, rfl, hbl, hd0, hrest⟩ := behind_at hB HN.out hc hjn
          obtain ⟨b1, o1, hab, hbl1, hcell⟩ := (hB.below hb).look (k := j) (by rw [nums_len]; exact hjl)
          obtain ⟨rfl, rfl⟩ : b0 = b1 ∧ o0 = o1 := by simpa using hab
          clear hab hbl1
          simp only [nums, List.getElem_map] at hcell
          have hkb : bs.length < m := by have := HK.out; have := HFU.out; omega
          have HNX : Hid (rowNums acc ++ ((bs ++ [os[j]]) :: subs m (os.drop (j + 1)) (bs ++ [os[j]])) ++ subs m (os.drop (j + 1)) bs = subs m os bs) := by show _ = _; rw [List.append_assoc, ← subs_next hjl hkb]; exact hacc
          have HAL : Hid (acc.length + (1 + (subs m (os.drop (j + 1)) (bs ++ [os[j]])).length) ≤ 255) := by
            have h1 := congrArg List.length HNX.out
            have h2 := subs_small (m := m) (o := os) (b := bs) (by have := HN.out; omega)
            simp only [List.length_append, List.length_cons, rowNums_len] at h1
            show _ ≤ _
            omega
          have HH := Lib.hid hh
          have HB := Lib.hid hb
          have HRE := Lib.hid hrest
          have hbs : w.heap.size ≤ wr.heap.size := hb.size
          have hA1 := hA.below hb
          generalize hx : os[j] = x at hcell HNX HAL
          clear hacc hEn hEs hh hb hrest hx
          go_wp2_with fail
          refine (cloneO_any A k z bs _ hA1 HK.out (by omega) HNIL.out).mono ?_
          rintro e w1 ⟨A1, c1, rfl, hown1, hb1⟩
          rw [HK.out] at hown1 ⊢
          have hs1 : wr.heap.size ≤ w1.heap.size := hb1.size
          have HO1 := Lib.hid (hown1.alloc (.cells #[.int .i64 x] 3))
          have HB1 := Lib.hid hb1
          have HM1 := Lib.hid (show k + 1 ≤ maxLen by unfold maxLen; omega)
          have HY1 := Lib.hid (show (k + 1) * 8 ≤ 140737488355328 by omega)
          have HZ1' := Lib.hid (show wr.heap.size ≤ (w1.alloc (.cells #[.int .i64 x] 3)).heap.size by simp; omega)
          clear hown1 hb1
          go_upto_region 8 with (at_builtin; refine wpList_append_lies _ rfl (.tmp 23) (.tmp 25) 28 rfl wr.heap.size 3 i0 (.int .i64 0) 1 8 Try.underlying28 HI.out HZ0.out HZ1.out HZ2.out rfl (by decide) (.slice A1 k c1) k (nums bs) rfl HO1.out ⟨w1.heap.size, 0, none⟩ 1 1 [.int .i64 x] rfl rfl (cell_one_new _ _ _) (by simp [Value.oneCell']) (by decide) HM1.out HY1.out HZ1'.out (w1.heap.size + 1) (by simp) ?_; intro g2 c2 w2 hown2 hg2 hat2 hlt2)
          have hb2 : Below wr.heap.size wr w2 := (HB1.out.alloc hs1 (.cells #[.int .i64 x] 3)).grown hg2 HZ1'.out (fun kk e => (HO1.out.lt kk e).1)
          have hs2 : wr.heap.size ≤ w2.heap.size := hb2.size
          have HO2 := Lib.hid (own_fresh0' hown2)
          have HB2 := Lib.hid hb2
          have HOE := Lib.hid ((HH.out.below hb2).alloc (.cells #[.slice (some ⟨g2, 0, none⟩) (k + 1) c2] 28)).1
          have HM2 := Lib.hid (show acc.length + 1 ≤ maxLen by have := HAL.out; unfold maxLen; omega)
          have HY2 := Lib.hid (show (acc.length + 1) * 24 ≤ 140737488355328 by have := HAL.out; omega)
          have HZ2' := Lib.hid (show w.heap.size ≤ (w2.alloc (.cells #[.slice (some ⟨g2, 0, none⟩) (k + 1) c2] 28)).heap.size by simp; omega)
          clear hown2 hg2 hat2 hb2
          go_upto_region 9 with (at_builtin; refine wpList_append_lies _ rfl (.tmp 27) (.tmp 29) 43 rfl w.heap.size 28 i1 (.slice none 0 0) 1 24 Try.underlying43 RI.out RZ0.out RZ1.out RZ2.out rfl (by decide) (.slice E acc.length d) acc.length (rowVals acc) rfl HOE.out ⟨w2.heap.size, 0, none⟩ 1 1 [.slice (some ⟨g2, 0, none⟩) (k + 1) c2] rfl rfl (cell_one_new _ _ _) (by simp [Value.oneCell']) (by decide) HM2.out HY2.out HZ2'.out (w2.heap.size + 1) (by simp) ?_; intro g3 c3 w3 hown3 hg3 hat3 hlt3)
          have hF2 := HO2.out
          have hFl : (bs ++ [x]).length = k + 1 := by have := HK.out; simp; omega
          have hnx : nums bs ++ [Value.int .i64 x] = nums (bs ++ [x]) := by simp [nums]
          rw [hnx] at hF2
          have hH3 := Heads.push (r := ⟨some ⟨g2, 0, none⟩, k + 1, c2, bs ++ [x]⟩) HH.out hbs HB2.out hF2 hFl (by show k + 1 ≤ _; omega) hown3 hg3 hat3
          have hb3 : Below w.heap.size w w3 := ((below_then HB.out HB2.out hbs).alloc (by omega) (.cells #[.slice (some ⟨g2, 0, none⟩) (k + 1) c2] 28)).grown hg3 HZ2'.out (fun kk e => (HOE.out.lt kk e).1)
          have hs3 : w2.heap.size + 1 ≤ w3.heap.size := by have := hg3.size; simpa using this
          have hL3 : Holds w3 (some ⟨g2, 0, none⟩) (nums (bs ++ [x])) := (fresh_grown (hF2.alloc (.cells #[.slice (some ⟨g2, 0, none⟩) (k + 1) c2] 28)) hg3 (fun q e => .inl (by have := (HH.out.1.lt q e).2; omega))).holds
          have hR3 : Holds w3 (some ⟨b0, d0, none⟩) (nums (os.drop (j + 1))) := HRE.out.below hb3
          have hdl : (os.drop (j + 1)).length = n - (j + 1) := by have := HN.out; simp; omega
          have hcall := ih (some ⟨g2, 0, none⟩) (some ⟨b0, d0, none⟩) (k + 1) c2 (n - (j + 1)) (c - (j + 1)) (bs ++ [x]) (os.drop (j + 1)) w3 (by have := HG.out; have := HN.out; omega) (by omega) hL3 hR3 hFl hdl (by omega) (fun h => by cases h)
          have HC := Lib.hid hcall
          have HH3 := Lib.hid hH3
          have HB3 := Lib.hid hb3
          have hp0 : (0 : Int) ≤ (j : Int) + 1 := by omega
          have hp1 : (j : Int) + 1 ≤ (n : Int) := by omega
          have hp2 : ((j : Int) + 1).toNat = j + 1 := by omega
          have hbs3 : w.heap.size ≤ w3.heap.size := hb3.size
          clear hF2 hFl hnx hH3 hb3 hown3 hg3 hat3 hlt3 hL3 hR3 hdl hcall ih
          go_wp2_with fail
          refine HC.out.mono ?_
          rintro e w4 ⟨A4, c4, rs4, rfl, hr4, hn4, hs4, hh4, hb4⟩
          have HR4 := Lib.hid hr4
          have HH4 := Lib.hid hh4
          have HB4 := Lib.hid hb4
          have HL4 : Hid (acc.length + (1 + rs4.length) ≤ 255) := by show _ ≤ _; have h1 := HAL.out; have h2 := rowNums_len rs4; rw [hr4] at h2; omega
          have HOA := Lib.hid (HH3.out.below hb4).1
          have hal : (acc ++ [(⟨some ⟨g2, 0, none⟩, k + 1, c2, bs ++ [x]⟩ : RowV)]).length = acc.length + 1 := by simp
          have HAL2 := Lib.hid hal
          have hbs4 : w3.heap.size ≤ w4.heap.size := hb4.size
          have hEnd : rowNums (acc ++ [(⟨some ⟨g2, 0, none⟩, k + 1, c2, bs ++ [x]⟩ : RowV)]) ++ rowNums rs4 ++ subs m (os.drop (j + 1)) bs = subs m os bs := by
            rw [← HNX.out, hr4]
            simp [rowNums]
          have HEND := Lib.hid hEnd
          rw [hal] at HOA
          clear hr4 hh4 hb4 hal hEnd
          cases A4 with
          | none =>
            obtain ⟨rfl, rfl⟩ := hn4 rfl
            clear hn4 hs4
            go_wp2_with (at_builtin; refine wpList_append_own_none rfl (.tmp 31) (.tmp 38) 43 rfl w.heap.size 28 i1 1 Try.underlying43 RI.out _ (acc.length + 1) _ rfl HOA.out rfl ?_)
            go_roundw
            case rel => exact ⟨j + 1, some ⟨g3, 0, none⟩, c3, acc ++ [⟨some ⟨g2, 0, none⟩, k + 1, c2, bs ++ [x]⟩], by omega, by go_num, by rw [HAL2.out], by simpa [rowNums] using HEND.out, fun h => (by cases h), fun a h => by obtain rfl := Option.some.inj h; exact ⟨rfl, by rw [HAL2.out]; omega⟩, HH3.out.below HB4.out, below_then HB3.out HB4.out hbs3⟩
            case measure => simp [intOf]; omega
          | some a4 =>
            obtain ⟨ha4, hpos⟩ := hs4 a4 rfl
            obtain ⟨b4, rfl⟩ : ∃ b4, a4 = ⟨b4, 0, none⟩ := ⟨_, ha4⟩
            have HNW : Hid (∀ j u, (rowVals rs4)[j]? = some u → w4.cell? ((⟨b4, 0, none⟩ : Addr).add j) = some u) := fun j u hu => by
              rw [Addr.add_lit]
              rcases holds_of_own HH4.out.1 with h | ⟨b, o, h, -, hcell⟩
              · rw [h] at hu; simp at hu
              · obtain ⟨rfl, rfl⟩ : b4 = b ∧ 0 = o := by simpa using h
                exact hcell j u hu
            have HLN := Lib.hid (show (rowVals rs4).length = rs4.length * 1 by rw [rowVals_len, Nat.mul_one])
            have HM4 := Lib.hid (show acc.length + 1 + rs4.length ≤ maxLen by have := HL4.out; unfold maxLen; omega)
            have HY4 := Lib.hid (show (acc.length + 1 + rs4.length) * 24 ≤ 140737488355328 by have := HL4.out; omega)
            have HZ4 := Lib.hid (show w.heap.size ≤ w4.heap.size by omega)
            clear hn4 hs4 ha4
            go_wp2_with (at_builtin; refine wpList_append_lies _ rfl (.tmp 31) (.tmp 38) 43 rfl w.heap.size 28 i1 (.slice none 0 0) 1 24 Try.underlying43 RI.out RZ0.out RZ1.out RZ2.out rfl (by decide) (.slice (some ⟨g3, 0, none⟩) (acc.length + 1) c3) (acc.length + 1) _ rfl HOA.out ⟨b4, 0, none⟩ rs4.length c4 (rowVals rs4) rfl HLN.out HNW.out (rowVals_one rs4) hpos HM4.out HY4.out HZ4.out w4.heap.size rfl ?_; intro g5 c5 w5 hown5 hg5 hat5 hlt5)
            rw [← HAL2.out] at hown5 hg5 hat5
            have HJ := Lib.hid (Heads.join HH3.out hbs3 HB4.out HH4.out hown5 hg5 hat5)
            have HB5 := Lib.hid ((below_then HB3.out HB4.out hbs3).grown hg5 HZ4.out (fun kk e => by rw [HAL2.out] at e; exact (HOA.out.lt kk e).1))
            clear hown5 hg5 hat5 hlt5
            go_roundw
            case rel => exact ⟨j + 1, some ⟨g5, 0, none⟩, c5, acc ++ [⟨some ⟨g2, 0, none⟩, k + 1, c2, bs ++ [x]⟩] ++ rs4, by omega, by go_num, by rw [List.length_append, HAL2.out], by rw [show rowNums (acc ++ [⟨some ⟨g2, 0, none⟩, k + 1, c2, bs ++ [x]⟩] ++ rs4) = rowNums (acc ++ [⟨some ⟨g2, 0, none⟩, k + 1, c2, bs ++ [x]⟩]) ++ rowNums rs4 by simp [rowNums]]; exact HEND.out, fun h => (by cases h), fun a h => by obtain rfl := Option.some.inj h; exact ⟨rfl, by rw [List.length_append]; omega⟩, HJ.out, HB5.out⟩
            case measure => simp [intOf]; omega
        · obtain rfl : j = n := by omega
          have HR : Hid (rowNums acc = subs m os bs) := by show _ = _; rw [← hacc, List.drop_eq_nil_of_le (by have := HN.out; omega)]; simp [subs]
          have HH := Lib.hid hh
          have HEN := Lib.hid hEn
          have HES := Lib.hid hEs
          clear hacc hh hEn hEs
          go_wp2
          go_ret
          exact ⟨E, d, acc, rfl, HR.out, HEN.out, HES.out, HH.out, hb⟩
end Go.Proofs.Yteeolclnoblkcaa

namespace Go.Proofs.Yteeolclnoblkcaa
open Go.RowKit

/-- The people of a crowd before the k-th. -/
def upTo (l : List Int) (k : Nat) : List Int := ((List.range k).filter (fun i => has l i)).map Int.ofNat
theorem upTo_yes {l : List Int} {k : Nat} (h : has l k = true) : upTo l (k + 1) = upTo l k ++ [(k : Int)] := by
  simp [upTo, List.range_succ, List.filter_append, h]
theorem upTo_no {l : List Int} {k : Nat} (h : has l k = false) : upTo l (k + 1) = upTo l k := by
  simp [upTo, List.range_succ, List.filter_append, h]
theorem upTo_len (l : List Int) (k : Nat) : (upTo l k).length ≤ k := by
  have := List.length_filter_le (fun i => has l i) (List.range k)
  simpa [upTo] using this
theorem rise_eq : ∀ {a b : List Int}, a.Pairwise (· < ·) → b.Pairwise (· < ·) → (∀ x, x ∈ a ↔ x ∈ b) → a = b
  | [], [], _, _, _ => rfl
  | [], y :: b, _, _, h => by have := (h y).2 (by simp); simp at this
  | x :: a, [], _, _, h => by have := (h x).1 (by simp); simp at this
  | x :: a, y :: b, ha, hb, h => by
    rw [List.pairwise_cons] at ha hb
    have e : x = y := by
      have h1 := (h x).1 (by simp)
      have h2 := (h y).2 (by simp)
      rcases List.mem_cons.1 h1 with h1 | h1
      · exact h1
      · rcases List.mem_cons.1 h2 with h2 | h2
        · exact h2.symm
        · have := hb.1 _ h1
          have := ha.1 _ h2
          omega
    subst e
    rw [rise_eq ha.2 hb.2 fun z => ?_]
    constructor
    · intro hz
      rcases List.mem_cons.1 ((h z).1 (List.mem_cons_of_mem _ hz)) with e | e
      · have := ha.1 _ hz; omega
      · exact e
    · intro hz
      rcases List.mem_cons.1 ((h z).2 (List.mem_cons_of_mem _ hz)) with e | e
      · have := hb.1 _ hz; omega
      · exact e
theorem steps_lt {l : List Int} {hi : Int} (h : StepsTo l hi l.length) : ∀ (d i : Nat), i + d + 1 < l.length → l.getD i 0 < l.getD (i + d + 1) 0
  | 0, i, hd => by
    have := (h (i + 1) (by omega)).2.2
    rcases this with h | h
    · omega
    · simpa using h
  | d + 1, i, hd => by
    have h1 := steps_lt h d i (by omega)
    have := (h (i + d + 1 + 1) (by omega)).2.2
    rcases this with h | h
    · omega
    · have h2 : l.getD (i + d + 1) 0 < l.getD (i + d + 1 + 1) 0 := by simpa using h
      exact Int.lt_trans h1 h2
theorem steps_pair {l : List Int} {hi : Int} (h : StepsTo l hi l.length) : l.Pairwise (· < ·) := by
  rw [List.pairwise_iff_getElem]
  intro i j hi' hj hij
  have := steps_lt h (j - i - 1) i (by omega)
  rw [show i + (j - i - 1) + 1 = j by omega] at this
  simpa [hi', hj] using this
theorem upTo_all {l : List Int} {hi : Int} (h : StepsTo l hi l.length) (h7 : hi ≤ 7) : upTo l 8 = l := by
  refine rise_eq ?_ (steps_pair h) fun x => ?_
  · refine List.Pairwise.map _ (fun a b hab => ?_) (List.Pairwise.filter _ (List.pairwise_lt_range (n := 8)))
    exact Int.ofNat_lt.2 hab
  · simp only [upTo, List.mem_map, List.mem_filter, List.mem_range]
    constructor
    · rintro ⟨i, ⟨-, hh⟩, rfl⟩
      exact has_iff.1 hh
    · intro hx
      have hm := mem_steps h hx
      obtain ⟨i, rfl⟩ := Int.eq_ofNat_of_zero_le hm.1
      exact ⟨i, ⟨by omega, has_iff.2 hx⟩, rfl⟩

set_option maxHeartbeats 1600000 in
set_option maxRecDepth 100000 in
theorem list_any (l : List Int) (hi : Int) (w : World) (hs : StepsTo l hi l.length) (h7 : hi ≤ 7) :
    Calls Try.prog 106 #[.agg (crowdCells l)] w (OwnPost l w) := by
  obtain ⟨i0, hi0, hz0, hz1, hz2⟩ := info_parts info_int
  have HI := Lib.hid hi0
  have HZ0 := Lib.hid hz0
  have HZ1 := Lib.hid hz1
  have HZ2 := Lib.hid hz2
  have HALL := Lib.hid (upTo_all hs h7)
  have hc := Whole.fresh w 69 (crowdCells l)
  have hbw := below1 w (.cells (crowdCells l) 69)
  have HBW := Lib.hid hbw
  obtain ⟨m0, m1, m2, m3, m4, m5, m6, m7⟩ := crowd_cells hc
  clear hi0 hz0 hz1 hz2 hs h7 hbw
  go_enter Try.func106, Try.ntmps106
  go_wp2
  go_loopw [3, 8] (fun v i wr => ∃ (k : Nat) (E : Option Addr) (d : Nat), k ≤ 8 ∧ i = .int .i64 k ∧ v = .slice E (upTo l k).length d ∧ wr.ownsRow w.heap.size 3 1 (.slice E (upTo l k).length d) (upTo l k).length (nums (upTo l k)) ∧ Below w.heap.size w wr) (fun _ i _ => 8 - (intOf i).toNat)
  case atStart => exact ⟨0, none, 0, by omega, rfl, rfl, World.ownsRow_nil _ _ _ _, HBW.out⟩
  case round =>
    obtain ⟨k, E, d, hk, rfl, rfl, hown, hb⟩ := hrel
    by_cases hlt : k < 8
    · have hix := fun W : World => index_crowd l hlt W
      have hk8 : (k : Int) < 8 := by omega
      have hul := upTo_len l k
      cases hp : has l k
      · have HS := Lib.hid (upTo_no hp)
        have HO := Lib.hid hown
        rw [hp] at hix
        clear hp hown
        go_wp2
        go_roundw
        case rel => exact ⟨k + 1, E, d, by omega, by go_num, by rw [HS.out], by rw [HS.out]; exact HO.out, hb⟩
        case measure => simp [intOf]; omega
      · have HS := Lib.hid (upTo_yes hp)
        have HOW := Lib.hid (hown.alloc (.cells #[.int .i64 k] 3))
        have HB := Lib.hid (hb.alloc hb.size (.cells #[.int .i64 k] 3))
        have HBASE := Lib.hid (show w.heap.size ≤ (wr.alloc (.cells #[.int .i64 k] 3)).heap.size by have := hb.size; simp; omega)
        have HMAX := Lib.hid (show (upTo l k).length + 1 ≤ maxLen by unfold maxLen; omega)
        have HBYT := Lib.hid (show ((upTo l k).length + 1) * 8 ≤ 140737488355328 by omega)
        have HLEN : Hid ((upTo l (k + 1)).length = (upTo l k).length + 1) := by show _ = _; rw [HS.out]; simp
        rw [hp] at hix
        clear hp hown hb
        go_wp2_with (at_builtin; refine wpList_append_own _ rfl (.tmp 13) (.tmp 15) 28 rfl w.heap.size 3 i0 (.int .i64 0) 1 8 Try.underlying28 HI.out HZ0.out HZ1.out HZ2.out rfl (by decide) (.slice E (upTo l k).length d) (upTo l k).length (nums (upTo l k)) rfl HOW.out ⟨wr.heap.size, 0, none⟩ 1 1 [.int .i64 k] rfl rfl (cell_one_new _ _ _) (by simp [Value.oneCell']) HMAX.out HBYT.out HBASE.out ?_; intro v' w2 hown1 hg1 _; obtain ⟨D', q', hv', -⟩ := Fresh.of_own hown1 (Nat.le_refl _); rw [hv'] at hown1 ⊢; clear hv')
        have HBN := Lib.hid (HB.out.grown hg1 HBASE.out (fun kk e => (HOW.out.lt _ e).1))
        have HON := Lib.hid hown1
        clear hg1 hown1
        go_roundw
        case rel => exact ⟨k + 1, D', q', by omega, by go_num, by rw [HLEN.out], by rw [HLEN.out, HS.out, show nums (upTo l k ++ [(k : Int)]) = nums (upTo l k) ++ [.int .i64 k] by simp [nums]]; exact HON.out, HBN.out⟩
        case measure => simp [intOf]; omega
    · obtain rfl : k = 8 := by omega
      rw [HALL.out] at hown
      have HO := Lib.hid hown
      have HL : Hid ((upTo l 8).length = l.length) := by show _ = _; rw [HALL.out]
      clear hown
      go_wp2
      go_ret
      exact ⟨E, d, by rw [HL.out]; rfl, HO.out, hb⟩
end Go.Proofs.Yteeolclnoblkcaa

namespace Go.Proofs.Yteeolclnoblkcaa
open Go.RowKit

/-- The place at which a number goes among the first k of a list: behind the last one that is not greater. -/
def spot (l : List Int) (x : Int) : Nat → Nat
  | 0 => 0
  | k + 1 => if x < l.getD k 0 then spot l x k else k + 1
theorem spot_le (l : List Int) (x : Int) : ∀ k, spot l x k ≤ k
  | 0 => Nat.le_refl _
  | k + 1 => by
    rw [spot]
    split
    · have := spot_le l x k; omega
    · omega
theorem spot_down {l : List Int} {x : Int} {k : Nat} (h : x < l.getD k 0) : spot l x (k + 1) = spot l x k := if_pos h
theorem spot_here {l : List Int} {x : Int} {k : Nat} (h : ¬ x < l.getD k 0) : spot l x (k + 1) = k + 1 := if_neg h
def ins (l : List Int) (x : Int) : List Int := (l.take (spot l x l.length) ++ [x]) ++ l.drop (spot l x l.length)
theorem ins_len (l : List Int) (x : Int) : (ins l x).length = l.length + 1 := by
  have := spot_le l x l.length
  simp [ins]
  omega
def insTo (xs : List Int) (j : Nat) : List Int := (xs.take j).foldl ins []
theorem insTo_next {xs : List Int} {j : Nat} (h : j < xs.length) : insTo xs (j + 1) = ins (insTo xs j) xs[j] := by
  rw [insTo, List.take_succ_eq_append_getElem h, List.foldl_append]
  rfl
theorem insTo_len (xs : List Int) : ∀ {j : Nat}, j ≤ xs.length → (insTo xs j).length = j
  | 0, _ => rfl
  | j + 1, h => by rw [insTo_next h, ins_len, insTo_len xs (by omega)]
theorem own_lower {w : World} {base base' size : Nat} {e : TypeId} {v : Value} {n : Nat} {xs : List Value} (h : w.ownsRow base e size v n xs) (hb : base' ≤ base) : w.ownsRow base' e size v n xs := by
  obtain ⟨hl, h | ⟨g, cap, cur, hv, hg, r⟩⟩ := h
  · exact ⟨hl, .inl h⟩
  · exact ⟨hl, .inr ⟨g, cap, cur, hv, Nat.le_trans hb hg, r⟩⟩
theorem own_cells {w : World} {base : Nat} {e : TypeId} {g n c : Nat} {xs : List Value} (h : w.ownsRow base e 1 (.slice (some ⟨g, 0, none⟩) n c) n xs) : g < w.heap.size ∧ base ≤ g ∧ ∀ j u, xs[j]? = some u → w.cell? ⟨g, j, none⟩ = some u := by
  obtain ⟨hl, ⟨hv, -⟩ | ⟨g', cap, cur, hv, hg, hh, h1, h2, h3, h4⟩⟩ := h
  · cases hv
  · obtain ⟨rfl, rfl⟩ : g = g' ∧ c = cap := by simpa using hv
    have hw : Whole w g e cur := hh
    refine ⟨hw.lt, hg, fun j u hu => ?_⟩
    have hj : j < xs.length := (List.getElem?_eq_some_iff.1 hu).1
    rw [hw.cell j, ← hu]
    rw [hl] at hj
    have hj' : j < n := by omega
    have := congrArg (fun l : List Value => l[j]?) h4
    simpa [List.getElem?_take, hj, hj'] using this
theorem own_below {w w' : World} {base : Nat} {e : TypeId} {size : Nat} {v : Value} {n : Nat} {xs : List Value} (h : w.ownsRow base e size v n xs) (hb : Below w.heap.size w w') : w'.ownsRow base e size v n xs := by
  obtain ⟨hl, h | ⟨g, cap, cur, hv, hg, hh, r⟩⟩ := h
  · exact ⟨hl, .inl h⟩
  · exact ⟨hl, .inr ⟨g, cap, cur, hv, hg, (hb.block g (Array.getElem?_eq_some_iff.1 hh).1).trans hh, r⟩⟩

theorem cell_grown {w w' : World} {row : Option Nat} {g i : Nat} (h : w.grownBy w' row) (hl : g < w.heap.size) (hn : row ≠ some g) : w'.cell? ⟨g, i, none⟩ = w.cell? ⟨g, i, none⟩ := by
  have h1 := h.block g hl (fun e => hn e.symm)
  simp only [World.cell?, h1]

end Go.Proofs.Yteeolclnoblkcaa

namespace Go.Proofs.Yteeolclnoblkcaa
open Go.RowKit

theorem own_room {w : World} {base n c : Nat} {e : TypeId} {A : Option Addr} {xs : List Value} (h : w.ownsRow base e 1 (.slice A n c) n xs) : n ≤ c := by
  rcases own_some h with ⟨-, rfl, rfl⟩ | ⟨g, -, h⟩
  · exact Nat.le_refl _
  · exact h

/-- The people before the k-th who are where the torch is. -/
def hereTo (bs : List Bool) (t : Bool) (k : Nat) : List Int := ((List.range k).filter (fun i => bs.getD i false == t)).map Int.ofNat
theorem here_yes {bs : List Bool} {t : Bool} {k : Nat} (h : (bs.getD k false == t) = true) : hereTo bs t (k + 1) = hereTo bs t k ++ [(k : Int)] := by
  simp only [hereTo, List.range_succ, List.filter_append, List.map_append, List.filter_cons, h]
  rfl
theorem here_no {bs : List Bool} {t : Bool} {k : Nat} (h : (bs.getD k false == t) = false) : hereTo bs t (k + 1) = hereTo bs t k := by
  simp only [hereTo, List.range_succ, List.filter_append, List.map_append, List.filter_cons, h]
  simp
theorem here_len (bs : List Bool) (t : Bool) (k : Nat) : (hereTo bs t k).length ≤ k := by
  have := List.length_filter_le (fun i => bs.getD i false == t) (List.range k)
  simpa [hereTo] using this

set_option maxHeartbeats 3200000 in
set_option maxRecDepth 100000 in
theorem atTorch_any (n : Nat) (bs : List Bool) (t : Bool) (w : World) (hn : n ≤ 8) :
    Calls Try.prog 110 #[.agg (placeCells bs t), .int .i64 n] w (OwnPost (hereTo bs t n) w) := by
  obtain ⟨i0, hi, hz0, hz1, hz2⟩ := info_parts info_int
  have HI := Lib.hid hi
  have HZ0 := Lib.hid hz0
  have HZ1 := Lib.hid hz1
  have HZ2 := Lib.hid hz2
  have h0 := Whole.fresh w 80 (placeCells bs t)
  have hbw := below1 w (.cells (placeCells bs t) 80)
  have HBW := Lib.hid hbw
  have HH0 := Lib.hid h0
  clear hi hz0 hz1 hz2 hbw h0
  go_enter Try.func110, Try.ntmps110
  go_wp2
  go_loopw [5, 8] (fun v i wr => ∃ (k : Nat) (E : Option Addr) (r : Nat), k ≤ n ∧ i = .int .i64 k ∧ v = .slice E (hereTo bs t k).length r ∧ wr.ownsRow (w.heap.size + 1) 3 1 (.slice E (hereTo bs t k).length r) (hereTo bs t k).length (nums (hereTo bs t k)) ∧ Below (w.heap.size + 1) (w.alloc (.cells (placeCells bs t) 80)) wr) (fun _ i _ => n - (intOf i).toNat)
  case atStart => exact ⟨0, none, 0, Nat.zero_le _, rfl, rfl, World.ownsRow_nil _ _ _ _, Below.refl _ _⟩
  case round =>
    obtain ⟨k, E, r, hk, rfl, rfl, hown, hb⟩ := hrel
    have hhl := here_len bs t k
    have h1 := HH0.out.below' hb (by omega)
    have ht8 := (h1.cell 8).trans (show (placeCells bs t)[8]? = some (.bool t) from rfl)
    have hs2 : w.heap.size + 1 ≤ wr.heap.size := by have := hb.size; simpa using this
    by_cases hlt : k < n
    · have hkc := (h1.cell k).trans (place_at bs t (by omega : k < 8))
      have hk8 : (k : Int) < 8 := by omega
      have hyes := here_yes (bs := bs) (t := t) (k := k)
      have hno := here_no (bs := bs) (t := t) (k := k)
      generalize bs.getD k false = x at hkc hyes hno
      have HOWN := Lib.hid hown
      have HB := Lib.hid hb
      clear hown hb h1
      by_cases hxt : x = t
      · subst hxt
        have HS := Lib.hid (hyes (by simp))
        have hxx : (x == x) = true := by simp
        have HLEN : Hid ((hereTo bs x (k + 1)).length = (hereTo bs x k).length + 1) := by show _ = _; rw [HS.out]; simp
        clear hyes hno
        go_wp2
        go_quiet (fail)
        rename_i nq
        have HOW := Lib.hid ((own_below HOWN.out (below_draws (Below.refl _ _) nq)).alloc (.cells #[.int .i64 k] 3))
        have HBB := Lib.hid ((below_draws HB.out nq).alloc (by simpa using hs2) (.cells #[.int .i64 k] 3))
        have HBASE := Lib.hid (show w.heap.size + 1 ≤ ((wr.drewN nq).alloc (.cells #[.int .i64 k] 3)).heap.size by simp; omega)
        have HMAX := Lib.hid (show (hereTo bs x k).length + 1 ≤ maxLen by unfold maxLen; omega)
        have HBYT := Lib.hid (show ((hereTo bs x k).length + 1) * 8 ≤ 140737488355328 by omega)
        go_wp2_with (at_builtin; refine wpList_append_own _ rfl (.tmp 19) (.tmp 21) 28 rfl (w.heap.size + 1) 3 i0 (.int .i64 0) 1 8 Try.underlying28 HI.out HZ0.out HZ1.out HZ2.out rfl (by decide) (.slice E (hereTo bs x k).length r) (hereTo bs x k).length (nums (hereTo bs x k)) rfl HOW.out ⟨wr.heap.size, 0, none⟩ 1 1 [.int .i64 k] rfl rfl (cell_one_new _ _ _) (by simp [Value.oneCell']) HMAX.out HBYT.out HBASE.out ?_; intro v' w2 hown1 hg1 _; obtain ⟨D', q', hv', -⟩ := Fresh.of_own hown1 (Nat.le_refl _); rw [hv'] at hown1 ⊢; clear hv')
        have HBN := Lib.hid (HBB.out.grown hg1 HBASE.out (fun kk e => (HOW.out.lt _ e).1))
        have HON := Lib.hid hown1
        clear hg1 hown1
        go_roundw
        case rel => exact ⟨k + 1, D', q', by omega, by go_num, by rw [HLEN.out], by rw [HLEN.out, HS.out, show nums (hereTo bs x k ++ [(k : Int)]) = nums (hereTo bs x k) ++ [.int .i64 k] by simp [nums]]; exact HON.out, HBN.out⟩
        case measure => simp [intOf]; omega
      · have HS := Lib.hid (hno (by simpa using hxt))
        have hxf : (x == t) = false := by simpa using hxt
        clear hyes hno
        go_wp2
        go_quiet (fail)
        rename_i nq
        have HOW := Lib.hid (own_below HOWN.out (below_draws (Below.refl _ _) nq))
        have HBB := Lib.hid (below_draws HB.out nq)
        go_wp2
        go_roundw
        case rel => exact ⟨k + 1, E, r, by omega, by go_num, by rw [HS.out], by rw [HS.out]; exact HOW.out, HBB.out⟩
        case measure => simp [intOf]; omega
    · obtain rfl : k = n := by omega
      have HO := Lib.hid (own_lower hown (base' := w.heap.size) (by omega))
      have HB := Lib.hid (HBW.out.trans (hb.mono (by omega)))
      clear hown hb
      go_wp2
      go_ret
      exact ⟨E, r, rfl, HO.out, HB.out⟩
end Go.Proofs.Yteeolclnoblkcaa

namespace Go.Proofs.Yteeolclnoblkcaa
open Go.RowKit

/-- The first n people. -/
def firsts (n : Nat) : List Int := (List.range n).map Int.ofNat
theorem firsts_len (n : Nat) : (firsts n).length = n := by simp [firsts]
theorem here_firsts (n : Nat) : hereTo [] false n = firsts n := by
  rw [hereTo, firsts]
  congr 1
  rw [List.filter_eq_self]
  intro x _
  rfl
/-- The lists of 1..m of the first n people, in order. -/
def upLists (n m : Nat) : List (List Int) := subs m (firsts n) []
theorem upLists_small {n m : Nat} (h : n ≤ 8) : (upLists n m).length ≤ 255 := subs_small (by rw [firsts_len]; exact h)
theorem steps_of {l : List Int} {hi : Int} (hp : l.Pairwise (· < ·)) (h0 : ∀ x ∈ l, 0 ≤ x ∧ x ≤ hi) : StepsTo l hi l.length := fun j hj => by
  have hm := h0 l[j] (List.getElem_mem hj)
  refine ⟨by rw [getD_at l hj]; exact hm.1, by rw [getD_at l hj]; exact hm.2, ?_⟩
  by_cases h : j = 0
  · exact .inl h
  · right
    rw [getD_at l hj, getD_at l (by omega)]
    exact List.pairwise_iff_getElem.1 hp (j - 1) j (by omega) hj (by omega)
theorem firsts_pair (n : Nat) : (firsts n).Pairwise (· < ·) := by
  rw [firsts, List.pairwise_map]
  exact List.pairwise_lt_range.imp (fun h => by simpa using h)
theorem firsts_mem {n : Nat} {x : Int} (h : x ∈ firsts n) : 0 ≤ x ∧ x ≤ (n : Int) - 1 := by
  obtain ⟨k, hk, rfl⟩ := List.mem_map.1 h
  have := List.mem_range.1 hk
  exact ⟨by simp, by simp; omega⟩
theorem up_steps {n m : Nat} {l : List Int} (h : l ∈ upLists n m) : StepsTo l ((n : Int) - 1) l.length ∧ 1 ≤ l.length ∧ l.length ≤ m := by
  obtain ⟨c, hc, hne, hs, hl⟩ := (subs_mem m (firsts n) [] l).1 h
  rw [List.nil_append] at hc
  subst hc
  exact ⟨steps_of ((firsts_pair n).sublist hs) (fun x hx => firsts_mem (hs.subset hx)), List.length_pos_iff.2 hne, hl⟩
theorem up_trip {n m : Nat} {l : List Int} (h : l ∈ upLists n m) : isTrip n m l = true := by
  obtain ⟨h1, h2, h3⟩ := up_steps h
  exact trip_yes (by omega) (by omega) h1

/-- What a call hands back that makes a list of crowds. -/
def CrowdsPost (ls : List (List Int)) (w : World) (e : Ending) (w' : World) : Prop :=
  ∃ (A : Option Addr) (c : Nat), e = .returned (.slice A ls.length c) ∧ w'.ownsRow w.heap.size 69 8 (.slice A ls.length c) ls.length (crowdsOf ls) ∧ Below w.heap.size w w'

set_option maxHeartbeats 3200000 in
set_option maxRecDepth 100000 in
theorem crowdsUpTo_any (n m : Nat) (w : World) (hn : n ≤ 8) (hm : m ≤ 8) :
    Calls Try.prog 82 #[.int .i64 n, .int .i64 m] w (CrowdsPost (upLists n m) w) := by
  obtain ⟨i0, hi, hz0, hz1, hz2⟩ := info_parts info_crowd
  have HI := Lib.hid hi
  have HZ0 := Lib.hid hz0
  have HZ1 := Lib.hid hz1
  have HZ2 := Lib.hid hz2
  have HF := Lib.hid (here_firsts n)
  have HLN := Lib.hid (firsts_len n)
  have HSM := Lib.hid (upLists_small (m := m) hn)
  have HTR : Hid (∀ l ∈ upLists n m, isTrip n m l = true) := fun l h => up_trip h
  clear hi hz0 hz1 hz2
  go_enter Try.func82, Try.ntmps82
  go_wp2_with fail
  refine (atTorch_any n [] false w hn).mono ?_
  rintro e w1 ⟨A1, c1, rfl, hown1, hb1⟩
  rw [HF.out, HLN.out] at hown1 ⊢
  go_wp2_with fail
  refine (listsFrom_any m hm 9 none A1 0 0 n c1 [] (firsts n) w1 (by rw [HLN.out]; omega) (Nat.le_refl _) (Holds.empty _ _) (holds_of_own hown1) rfl HLN.out (own_room hown1) (fun _ => ⟨rfl, rfl⟩)).mono ?_
  rintro e w2 ⟨A2, c2, rs, rfl, hr, hn2, hs2, hh, hb2⟩
  have hb0 : Below w.heap.size w w2 := below_then hb1 hb2 hb1.size
  have hG := hh.free.grid
  have HR : Hid (rowNums rs = upLists n m) := hr
  have HRL : Hid (rs.length = (upLists n m).length) := by show _ = _; rw [← HR.out, rowNums_len]
  have HB0 := Lib.hid hb0
  have hw12 : w1.heap.size ≤ w2.heap.size := hb2.size
  have hw01 : w.heap.size ≤ w1.heap.size := hb1.size
  clear hown1 hb1 hb2 hr hn2 hs2 hh hb0
  go_wp2
  go_loopw [5, 16] (fun v i wr => ∃ (k : Nat) (T : Option Addr) (r : Nat), k ≤ rs.length ∧ i = .int .i64 k ∧ v = .slice T k r ∧ wr.ownsRow w2.heap.size 69 8 (.slice T k r) k (crowdsOf ((rowNums rs).take k)) ∧ Below w2.heap.size w2 wr) (fun _ i _ => rs.length - (intOf i).toNat)
  case atStart => exact ⟨0, none, 0, Nat.zero_le _, rfl, rfl, World.ownsRow_nil _ _ _ _, Below.refl _ _⟩
  case round =>
    obtain ⟨k, T, r, hk, rfl, rfl, hown, hb⟩ := hrel
    have HOWN := Lib.hid hown
    clear hown
    by_cases hlt : k < rs.length
    · have hkl : k < (rowNums rs).length := by rw [rowNums_len]; exact hlt
      obtain ⟨b1, o1, rfl, hbl1, hc, hok⟩ := (hG.below hb).look hlt
      have hget := rowNums_get hlt
      have HTK : Hid (isTrip n m rs[k].xs = true) := HTR.out _ (by rw [← HR.out, ← hget]; exact List.getElem_mem hkl)
      have hcn := crowdsOf_next hkl
      rw [hget] at hcn
      have HCN := Lib.hid hcn
      have hk255 : k ≤ 255 := by have := HSM.out; have := HRL.out; omega
      clear hget hcn
      go_wp2_with fail
      refine (crowdOf_any _ n _ _ rs[k].xs m _ hok.1 hok.2.1 hok.2.2 hn).mono ?_
      rintro e1 w3 ⟨⟨ht, rfl⟩ | ⟨ht, rfl⟩, hb3⟩
      · have HBB := Lib.hid (((below_then hb hb3 hb.size).alloc (below_then hb hb3 hb.size).size (.cells (crowdCells rs[k].xs) 69)).alloc (Nat.le_trans (below_then hb hb3 hb.size).size (by simp)) (.cells (crowdCells rs[k].xs) 69))
        have HOW := Lib.hid (((ownsRow_below HOWN.out hb3).alloc (.cells (crowdCells rs[k].xs) 69)).alloc (.cells (crowdCells rs[k].xs) 69))
        have hnew := cells_new (w3.alloc (.cells (crowdCells rs[k].xs) 69)) 69 (crowdCells rs[k].xs)
        rw [World.size_alloc] at hnew
        have HNEW := Lib.hid hnew
        have HONE := Lib.hid (crowd_ones rs[k].xs)
        have HMAX := Lib.hid (show k + 1 ≤ maxLen by unfold maxLen; omega)
        have HBYT := Lib.hid (show (k + 1) * 8 ≤ 140737488355328 by omega)
        have HBASE := Lib.hid (show w2.heap.size ≤ ((w3.alloc (.cells (crowdCells rs[k].xs) 69)).alloc (.cells (crowdCells rs[k].xs) 69)).heap.size by have := (below_then hb hb3 hb.size).size; simp; omega)
        clear ht hb hb3 hok hc hnew
        unfold crowdCells at HNEW HONE HOW HBASE HBB
        unfold crowdCells
        go_wp2_with (at_builtin; refine wpList_append_own _ rfl (.tmp 28) (.tmp 30) 101 rfl w2.heap.size 69 i0 (.agg #[.bool false, .bool false, .bool false, .bool false, .bool false, .bool false, .bool false, .bool false]) 8 8 Try.underlying101 HI.out HZ0.out HZ1.out HZ2.out rfl (by decide) (.slice T k r) k (crowdsOf ((rowNums rs).take k)) rfl HOW.out ⟨w3.heap.size + 1, 0, none⟩ 1 1 [.bool (has rs[k].xs 0), .bool (has rs[k].xs 1), .bool (has rs[k].xs 2), .bool (has rs[k].xs 3), .bool (has rs[k].xs 4), .bool (has rs[k].xs 5), .bool (has rs[k].xs 6), .bool (has rs[k].xs 7)] rfl rfl HNEW.out HONE.out HMAX.out HBYT.out HBASE.out ?_; intro v' w4 hown1 hg1 _; obtain ⟨g2, e2, hv2⟩ := own_form hown1; subst hv2)
        have hbb2 := HBB.out.grown hg1 HBASE.out (fun kk x => by have := (HOW.out.lt _ x).1; omega)
        have hown2 : w4.ownsRow w2.heap.size 69 8 (.slice (some ⟨g2, 0, none⟩) (k + 1) e2) (k + 1) (crowdsOf ((rowNums rs).take (k + 1))) := by rw [← HCN.out]; exact hown1
        have HO2 := Lib.hid hown2
        clear hown1 hown2 hg1
        go_roundw
        case rel => exact ⟨k + 1, _, e2, by omega, by go_num, rfl, HO2.out, hbb2⟩
        case measure => simp [intOf]; omega
      · rw [HTK.out] at ht; cases ht
    · obtain rfl : k = rs.length := by omega
      have HO := Lib.hid (own_lower HOWN.out (base' := w.heap.size) (by omega))
      have HBB := Lib.hid (below_then HB0.out hb (by omega))
      go_wp2
      go_ret
      refine ⟨T, r, by rw [HRL.out]; rfl, ?_, HBB.out⟩
      have h := HO.out
      rw [List.take_of_length_le (by rw [rowNums_len]; exact Nat.le_refl _), HR.out, HRL.out] at h
      rw [← HRL.out] at h ⊢
      exact h
end Go.Proofs.Yteeolclnoblkcaa

namespace Go.Proofs.Yteeolclnoblkcaa
open Go.RowKit

theorem crowdsOf_get : ∀ (ls : List (List Int)) (i j : Nat) (hi : i < ls.length), j < 8 → (crowdsOf ls)[i * 8 + j]? = some (.bool (has ls[i] j))
  | [], i, j, hi, _ => by simp at hi
  | l :: r, 0, j, hi, hj => by
    rw [show crowdsOf (l :: r) = (crowdCells l).toList ++ crowdsOf r from rfl, Nat.zero_mul, Nat.zero_add, List.getElem?_append_left (by simp [crowdCells]; omega)]
    have := crowd_at l hj
    simpa using this
  | l :: r, i + 1, j, hi, hj => by
    have ih := crowdsOf_get r i j (by simpa using hi) hj
    rw [show crowdsOf (l :: r) = (crowdCells l).toList ++ crowdsOf r from rfl, List.getElem?_append_right (by simp [crowdCells]; omega)]
    rw [show (i + 1) * 8 + j - (crowdCells l).toList.length = i * 8 + j by simp [crowdCells]; omega]
    simpa using ih
/-- The cells of a crowd in a list of crowds. -/
theorem crowds_row {w : World} {lo n c : Nat} {A : Option Addr} {ls : List (List Int)} (h : w.ownsRow lo 69 8 (.slice A n c) n (crowdsOf ls)) (hl : ls.length = n) {i : Nat} (hi : i < ls.length) :
    ∃ g, A = some ⟨g, 0, none⟩ ∧ g < w.heap.size ∧ w.cell? ⟨g, i * 8, none⟩ = some (.bool (has ls[i] 0)) ∧ w.cell? ⟨g, i * 8 + 1, none⟩ = some (.bool (has ls[i] 1)) ∧ w.cell? ⟨g, i * 8 + 2, none⟩ = some (.bool (has ls[i] 2)) ∧ w.cell? ⟨g, i * 8 + 3, none⟩ = some (.bool (has ls[i] 3)) ∧
      w.cell? ⟨g, i * 8 + 4, none⟩ = some (.bool (has ls[i] 4)) ∧ w.cell? ⟨g, i * 8 + 5, none⟩ = some (.bool (has ls[i] 5)) ∧ w.cell? ⟨g, i * 8 + 6, none⟩ = some (.bool (has ls[i] 6)) ∧ w.cell? ⟨g, i * 8 + 7, none⟩ = some (.bool (has ls[i] 7)) := by
  have hx := h
  obtain ⟨-, ⟨-, h0⟩ | ⟨g, cap, cur, hv, -, hh, -⟩⟩ := hx
  · omega
  · obtain ⟨rfl, rfl⟩ : A = some ⟨g, 0, none⟩ ∧ c = cap := by simpa using hv
    have hg : g < w.heap.size := (Array.getElem?_eq_some_iff.1 hh).1
    have hc : ∀ j, j < 8 → w.cell? ⟨g, i * 8 + j, none⟩ = some (.bool (has ls[i] j)) := fun j hj => (h.cellAt (i * 8 + j) (by omega)).trans (crowdsOf_get ls i j hi hj)
    exact ⟨g, rfl, hg, hc 0 (by omega), hc 1 (by omega), hc 2 (by omega), hc 3 (by omega), hc 4 (by omega), hc 5 (by omega), hc 6 (by omega), hc 7 (by omega)⟩

/-- Twice how many crowds of a list are calm, and the rest too. -/
def twice (k : Nat) : List (List Int) → Nat
  | [] => 0
  | l :: r => (if quiet k (has l) then 2 else 0) + twice k r
theorem twice_snoc (k : Nat) (x : List Int) : ∀ ls, twice k (ls ++ [x]) = twice k ls + (if quiet k (has x) then 2 else 0)
  | [] => by simp [twice]
  | l :: r => by rw [List.cons_append, twice, twice, twice_snoc k x r]; omega
theorem twice_le (k : Nat) : ∀ ls, twice k ls ≤ 2 * ls.length
  | [] => by simp [twice]
  | l :: r => by have := twice_le k r; rw [twice, List.length_cons]; split <;> omega
theorem twice_no {k i : Nat} {ls : List (List Int)} (hi : i < ls.length) (h : quiet k (has ls[i]) = false) : (twice k (ls.take (i + 1)) : Int) = twice k (ls.take i) := by
  rw [List.take_succ_eq_append_getElem hi, twice_snoc, h]; simp
theorem twice_yes {k i : Nat} {ls : List (List Int)} (hi : i < ls.length) (h : quiet k (has ls[i]) = true) : (twice k (ls.take (i + 1)) : Int) = twice k (ls.take i) + 2 := by
  rw [List.take_succ_eq_append_getElem hi, twice_snoc, h]; simp
/-- Both counts are one. -/
theorem count_same (k : Nat) (h1 : 1 ≤ k) (h4 : k ≤ 4) : calmTo k (2 * 2 ^ (2 * k)) = twice k (upLists (2 * k) (2 * k)) := by
  have h : k = 1 ∨ k = 2 ∨ k = 3 ∨ k = 4 := by omega
  rcases h with rfl | rfl | rfl | rfl <;> decide +kernel

set_option maxHeartbeats 6400000 in
set_option maxRecDepth 100000 in
theorem implCountCalm_any (a s : Int) (w : World) :
    Calls Try.prog 42 #[.agg #[.int .i64 a, .int .i64 s]] w fun e w' => e = .returned (.tuple #[.int .i64 (calmN a s), .bool (isCo a s)]) ∧ Below w.heap.size w w' := by
  have hc := Whole.fresh w 25 #[.int .i64 a, .int .i64 s]
  cases h1 : isCo a s
  · have HN := Lib.hid (calmN_no h1)
    have H1 := Lib.hid h1
    clear h1
    go_enter Try.func42, Try.ntmps42
    go_wp2_with fail
    refine (isCompany_any a s _).mono ?_
    rintro e w1 ⟨rfl, hb⟩
    have ht := below_then (below1 w _) hb (by simp)
    rw [H1.out]
    go_wp2
    go_ret2
    exact ⟨by rw [HN.out]; rfl, ht⟩
  · have hb4 := isCo_iff.1 h1
    obtain ⟨k, rfl⟩ := Int.eq_ofNat_of_zero_le (show 0 ≤ a by omega)
    have hk : k ≤ 4 := by omega
    have HCO : Hid (isCo k s = true) := h1
    have HCN := Lib.hid ((calmN_yes h1).trans (by rw [count_same k (by omega) hk]))
    have HSM := Lib.hid (upLists_small (n := 2 * k) (m := 2 * k) (by omega))
    clear h1 hb4
    go_enter Try.func42, Try.ntmps42
    go_wp2_with fail
    refine (isCompany_any k s _).mono ?_
    rintro e w1 ⟨rfl, hb⟩
    have ht := below_then (below1 w _) hb (by simp)
    rw [HCO.out]
    have hc1 := hc.below hb
    clear hb hc
    obtain ⟨c0, c1, -, -⟩ := hc1.two
    go_wp2_with fail
    refine (calmPlaces_any k _ hk).mono ?_
    rintro e w2 ⟨g1, g3, g4, rfl, hF, hb⟩
    replace ht := below_then ht hb ht.size
    replace hc1 := hc1.below hb
    clear hb c0 c1
    obtain ⟨c0, c1, -, -⟩ := hc1.two
    unfold calmFnV
    go_wp2_with fail
    have hu := crowdsUpTo_any (2 * k) (2 * k) w2 (by omega) (by omega)
    rw [show ((2 * k : Nat) : Int) = 2 * (k : Int) by omega] at hu
    refine hu.mono ?_
    clear hu
    rintro e w3 ⟨A, c, rfl, hown, hb⟩
    generalize hls : upLists (2 * k) (2 * k) = ls at HCN HSM hown
    have HT := Lib.hid (below_then ht hb ht.size)
    have HF := Lib.hid (hF.below hb)
    have HOWN := Lib.hid hown
    have hl := HSM.out
    clear hb c0 c1 ht hc1 hF hown hls
    go_wp2
    go_loopw [5, 22] (fun n i wr => ∃ j : Nat, j ≤ ls.length ∧ i = .int .i64 j ∧ n = .int .i64 (twice k (ls.take j)) ∧ Below w3.heap.size w3 wr) (fun _ i _ => ls.length - (intOf i).toNat)
    case atStart => exact ⟨0, Nat.zero_le _, rfl, rfl, Below.refl _ _⟩
    case round =>
      obtain ⟨j, hj, rfl, rfl, hb⟩ := hrel
      have htl := twice_le k (ls.take j)
      have htk : (ls.take j).length ≤ 255 := by rw [List.length_take]; omega
      by_cases hlt : j < ls.length
      · have hr := ownsRow_below HOWN.out hb
        obtain ⟨g, rfl, hgl, a0, a1, a2, a3, a4, a5, a6, a7⟩ := crowds_row hr rfl hlt
        have hFr := HF.out.below hb
        have hd : decide ((j : Int) < (ls.length : Int)) = true := by simp; omega
        have HB := Lib.hid hb
        cases hq : quiet k (has ls[j])
        · have HN := Lib.hid (twice_no hlt hq)
          have HQ := Lib.hid hq
          clear hq hr hb
          generalize ls[j] = l at a0 a1 a2 a3 a4 a5 a6 a7 HQ
          go_wp2_with fail
          refine (calmPlaceFn_any k g1 g3 g4 (has l) true _ hk (hFr.alloc _)).mono ?_
          rintro e w4 ⟨rfl, hb⟩
          rw [HQ.out]
          have hbb := (HB.out.alloc HB.out.size (.cells (cells8 (has l)) 69))
          replace hbb := below_then hbb hb hbb.size
          clear hb a0 a1 a2 a3 a4 a5 a6 a7 hFr
          go_wp2
          go_roundw
          case rel => exact ⟨j + 1, by omega, by go_num, by rw [HN.out], hbb⟩
          case measure => simp [intOf]; omega
        · have HN := Lib.hid (twice_yes hlt hq)
          have HQ := Lib.hid hq
          clear hq hr hb
          generalize ls[j] = l at a0 a1 a2 a3 a4 a5 a6 a7 HQ
          go_wp2_with fail
          refine (calmPlaceFn_any k g1 g3 g4 (has l) true _ hk (hFr.alloc _)).mono ?_
          rintro e w4 ⟨rfl, hb⟩
          rw [HQ.out]
          have hbb := (HB.out.alloc HB.out.size (.cells (cells8 (has l)) 69))
          replace hbb := below_then hbb hb hbb.size
          clear hb a0 a1 a2 a3 a4 a5 a6 a7 hFr
          go_wp2
          go_roundw
          case rel => exact ⟨j + 1, by omega, by go_num, by rw [HN.out], hbb⟩
          case measure => simp [intOf]; omega
      · obtain rfl : j = ls.length := by omega
        have HTK : Hid (ls.take ls.length = ls) := by show _ = _; simp
        rw [HTK.out]
        have HBB := Lib.hid (below_then HT.out hb HT.out.size)
        clear hb
        go_wp2
        go_ret2
        exact ⟨by rw [HCN.out]; rfl, HBB.out⟩
end Go.Proofs.Yteeolclnoblkcaa

namespace Go.Proofs.Yteeolclnoblkcaa
open Go.RowKit

set_option maxHeartbeats 12800000 in
set_option maxRecDepth 100000 in
theorem lawCountCalm_small (k0 : Int) (k1 : Int) (w : World)   :
    Calls Try.prog 9 #[.agg #[.int .i64 k0, .int .i64 k1]] w fun e w' => e = .returned (.bool true) ∧ Below w.heap.size w w' := by
  have hb0 := (Whole.fresh w 23 #[.int .i64 k0, .int .i64 k1])
  have ht := below1 w (.cells #[.int .i64 k0, .int .i64 k1] 23)
  obtain ⟨hb0_0, hb0_1⟩ := hb0.cells2
  have hb0_l := hb0.lt
  go_enter Try.func9, Try.ntmps9
  -- region 1
  go_wp2_with fail
  refine (toCompany_any k0 k1 _).mono ?_
  rintro e v1 ⟨rfl, hb⟩
  have hz1 : w.heap.size + 1 ≤ v1.heap.size := by have := hb.size; simpa using this
  replace ht := below_then ht hb ht.size
  replace hb0 := hb0.below hb
  clear hb
  clear hb0_0 hb0_1 hb0_l
  obtain ⟨hb0_0, hb0_1⟩ := hb0.cells2
  have hb0_l := hb0.lt
  go_wp2_with fail
  refine (specCountCalm_any k0 k1 _).mono ?_
  rintro e v2 ⟨rfl, hb⟩
  have hz2 : v1.heap.size ≤ v2.heap.size := by have := hb.size; simpa using this
  replace ht := below_then ht hb ht.size
  replace hb0 := hb0.below hb
  clear hb
  clear hb0_0 hb0_1 hb0_l
  obtain ⟨hb0_0, hb0_1⟩ := hb0.cells2
  have hb0_l := hb0.lt
  -- region 2
  go_wp2_with fail
  refine (toCompany_any k0 k1 _).mono ?_
  rintro e v3 ⟨rfl, hb⟩
  have hz3 : v2.heap.size ≤ v3.heap.size := by have := hb.size; simpa using this
  replace ht := below_then ht hb ht.size
  replace hb0 := hb0.below hb
  clear hb
  clear hb0_0 hb0_1 hb0_l
  obtain ⟨hb0_0, hb0_1⟩ := hb0.cells2
  have hb0_l := hb0.lt
  go_wp2_with fail
  refine (implCountCalm_any k0 k1 _).mono ?_
  rintro e v4 ⟨rfl, hb⟩
  have hz4 : v3.heap.size ≤ v4.heap.size := by have := hb.size; simpa using this
  replace ht := below_then ht hb ht.size
  replace hb0 := hb0.below hb
  clear hb
  clear hb0_0 hb0_1 hb0_l
  obtain ⟨hb0_0, hb0_1⟩ := hb0.cells2
  have hb0_l := hb0.lt
  go_wp2
  go_ret
  exact ⟨rfl, ht⟩

theorem lawCountCalm_all (k0 : Int) (k1 : Int) (w : World)  :
    Calls Try.prog 9 #[.agg #[.int .i64 k0, .int .i64 k1]] w fun e w' => e = .returned (.bool true) ∧ Below w.heap.size w w' := by
  exact lawCountCalm_small k0 k1 w  
end Go.Proofs.Yteeolclnoblkcaa
