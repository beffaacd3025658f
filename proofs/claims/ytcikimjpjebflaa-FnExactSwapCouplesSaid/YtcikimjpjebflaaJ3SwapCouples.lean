/-
  What is proved: the contract of the model's state with a number. Conditions: at most four couples.
  What is proved: the contract of the model's CountCalm. Conditions: none.
  What is proved: plain facts on a struct of the call's own that is handed back by a call in a statement whose order is open. Conditions: none.
  What is proved: contracts of a party slowed down, as the model and the program make it. Conditions: the party's times are read as they lie.
  What is proved: contracts of a party without one person, as the model makes it; append onto a list of the call's own inside a region that draws. Conditions: the party's times are read as they lie.
  What is proved: plain facts on the rising lists that begin with some people and go on with others, and on lists of lists put one behind the other. Conditions: none.
  What is proved: the contract of the program's listsFrom: the rising lists that begin with some people and go on with others. Conditions: the lists are read as they lie; at most eight others, and at most eight to begin with.
  What is proved: the contract of crowd.list: the people of a crowd in their order. Conditions: a crowd of a strictly rising list of numbers from 0 to 7.
  What is proved: the contract of the model's sorting (paSorted). Conditions: the list is read as it lies; at most 1,048,576 numbers.
  What is proved: the people who are where the torch is, as the program lists them. Conditions: at most eight people.
  What is proved: the crowds of so many people, as the program lists them. Conditions: at most eight people.
  What is proved: the contract of the program's CountCalm, that it is the model's, and the law on it. Conditions: none.
  What is proved: the contract of the program's calm groups of a company. Conditions: at most four couples and four seats.
-/
import Derived.Deep.RegionHeld3
import Derived.Deep.AppendLies
import Derived.Deep.DeepCutAuto
import Derived.Test.YtcikimjpjebflaaJ2SwapCouples
set_option linter.unusedSimpArgs false
set_option linter.unusedVariables false
namespace Go.Proofs.Ytcikimjpjebflaa
open Go.RowKit

/-- The first n bits of a number. -/
def bitsOf (m n : Nat) : List Bool := (List.range n).map (bitAt m)
theorem bitsOf_len (m n : Nat) : (bitsOf m n).length = n := by simp [bitsOf]
theorem bitsOf_next (m n : Nat) : bitsOf m (n + 1) = bitsOf m n ++ [bitAt m n] := by simp [bitsOf, List.range_succ]
theorem bit_half (x j : Nat) : bitAt (x / 2) j = bitAt x (j + 1) := by rw [bitAt_def, bitAt_def, Nat.pow_succ', Nat.div_div_eq_div_mul]
theorem shr_bit (x j : Nat) : (((x : Int) / 2 ^ (j + 1)).tmod 2 == 1) = bitAt (x / 2) j := by
  rw [bit_half, shr_nat, Int.tmod_eq_emod_of_nonneg (Int.natCast_nonneg _), bitAt_def]
  generalize x / 2 ^ (j + 1) = y
  by_cases h : y % 2 = 1
  · have : ((y : Int) % 2) = 1 := by omega
    simp [h, this]
  · have : ((y : Int) % 2) ≠ 1 := by omega
    simp [h, this]
theorem odd_bit (x : Nat) : (((x : Int)) % 2 == 1) = bitAt x 0 := by
  rw [bitAt_def]
  by_cases h : x % 2 = 1
  · have : ((x : Int) % 2) = 1 := by omega
    simp [h, this]
  · have : ((x : Int) % 2) ≠ 1 := by omega
    simp [h, this]

end Go.Proofs.Ytcikimjpjebflaa

namespace Go.Proofs.Ytcikimjpjebflaa
open Go.RowKit

/-- The state with a number is one, and calm. -/
def isIn (k x : Nat) : Bool := quiet k (bitAt (x / 2)) && isState (2 * k) (bitsOf (x / 2) (2 * k)) (bitAt x 0)
/-- How many numbers below x tell such a state. -/
def calmTo (k : Nat) : Nat → Nat
  | 0 => 0
  | x + 1 => calmTo k x + (if isIn k x then 1 else 0)
theorem calmTo_le (k : Nat) : ∀ x, calmTo k x ≤ x
  | 0 => Nat.le_refl _
  | x + 1 => by have := calmTo_le k x; rw [calmTo]; split <;> omega
theorem calmTo_no {k x : Nat} (h : isIn k x = false) : (calmTo k (x + 1) : Int) = calmTo k x := by rw [calmTo, h]; simp
theorem calmTo_yes {k x : Nat} (h : isIn k x = true) : (calmTo k (x + 1) : Int) = calmTo k x + 1 := by rw [calmTo, h]; simp
theorem isIn_no {k x : Nat} (h : quiet k (bitAt (x / 2)) = false) : isIn k x = false := by simp [isIn, h]
theorem isIn_on {k x : Nat} (h : quiet k (bitAt (x / 2)) = true) {b : Bool} (h2 : isState (2 * k) (bitsOf (x / 2) (2 * k)) (bitAt x 0) = b) : isIn k x = b := by rw [isIn, h, h2]; simp
/-- What CountCalm hands back. -/
def calmN (a b : Int) : Int := if isCo a b then (calmTo a.toNat (2 * 2 ^ (2 * a.toNat)) : Nat) else 0
theorem calmN_no {a b : Int} (h : isCo a b = false) : calmN a b = 0 := by simp [calmN, h]
theorem calmN_yes {k : Nat} {b : Int} (h : isCo k b = true) : calmN k b = (calmTo k (2 * 2 ^ (2 * k)) : Nat) := by simp [calmN, h]

end Go.Proofs.Ytcikimjpjebflaa

namespace Go.Proofs.Ytcikimjpjebflaa
open Go.RowKit

/-- Behind such a statement: the struct lies in block g, its list in blocks from lo on and before hi. -/
def ResMid (ty ety : TypeId) (mk : Option Addr → Nat → Array Value) (xs : List Value) (ok : Bool) (W : World) (v u : Value) (wx : World) : Prop :=
  ∃ (g : Nat) (A : Option Addr) (q lo hi : Nat), v = .pointer (some ⟨g, 0, none⟩) ∧ u = .bool ok ∧ W.heap.size ≤ g ∧ g < wx.heap.size ∧ W.heap.size ≤ lo ∧ (g < lo ∨ hi ≤ g) ∧ hi ≤ wx.heap.size ∧ Whole wx g ty (mk A q) ∧ Fresh wx lo hi ety A xs ∧ Below W.heap.size W wx
theorem ResMid.last {ty ety : TypeId} {mk : Option Addr → Nat → Array Value} {xs : List Value} {ok : Bool} {W w : World} {A : Option Addr} {q lo : Nat} (hc : Below W.heap.size W w) (hl : W.heap.size ≤ lo) (hF : Fresh w lo w.heap.size ety A xs) :
    ResMid ty ety mk xs ok W (.pointer (some ⟨w.heap.size, 0, none⟩)) (.bool ok) (w.alloc (.cells (mk A q) ty)) :=
  ⟨_, A, q, lo, w.heap.size, rfl, rfl, hc.size, by simp, hl, .inr (Nat.le_refl _), by simp, Whole.fresh _ _ _, hF.alloc _, hc.alloc hc.size _⟩
theorem ResMid.first {ty ety : TypeId} {mk : Option Addr → Nat → Array Value} {xs : List Value} {ok : Bool} {W w : World} {A : Option Addr} {q lo g : Nat} {a b c d : Value} (hc : Below W.heap.size W w) (hl : W.heap.size ≤ lo) (hF : Fresh w lo w.heap.size ety A xs) (hg : W.heap.size ≤ g) (hgl : g < lo) (hw : Whole w g ty #[a, b]) (hm : mk A q = #[c, d]) :
    ResMid ty ety mk xs ok W (.pointer (some ⟨g, 0, none⟩)) (.bool ok) ((w.setCell ⟨g, 0, none⟩ c).setCell ⟨g, 1, none⟩ d) := by
  have h := hw.lt
  refine ⟨g, A, q, lo, w.heap.size, rfl, rfl, hg, by simpa [World.setCell] using h, hl, .inl hgl, by simp [World.setCell], ?_, (hF.set_out (.inl hgl)).set_out (.inl hgl), below_set (below_set hc hg) hg⟩
  rw [hm]
  exact (hw.set_ 0 c).set_ 1 d
end Go.Proofs.Ytcikimjpjebflaa

namespace Go.Proofs.Ytcikimjpjebflaa
open Go.RowKit

/-- What a call hands back that makes a list of numbers. -/
def NumsPost (bs : List Int) (w : World) (e : Ending) (w' : World) : Prop :=
  ∃ (A : Option Addr) (c : Nat), e = .returned (.slice A bs.length c) ∧ Fresh w' w.heap.size w'.heap.size 3 A (nums bs) ∧ Below w.heap.size w w'
/-- What a call hands back that makes a party and tells whether it did. -/
def PartyPost (xs : List Int) (s : Int) (ok : Bool) (w : World) (e : Ending) (w' : World) : Prop :=
  ∃ (A : Option Addr) (c : Nat), e = .returned (.tuple #[.agg #[.slice A xs.length c, .int .i64 s], .bool ok]) ∧ Fresh w' w.heap.size w'.heap.size 3 A (nums xs) ∧ Below w.heap.size w w'

theorem nums_one (bs : List Int) : ∀ u ∈ nums bs, u.oneCell' = true := by
  intro v hv
  simp only [nums, List.mem_map] at hv
  obtain ⟨x, -, rfl⟩ := hv
  rfl

set_option maxHeartbeats 800000 in
set_option maxRecDepth 100000 in
theorem cloneI_any (b o n d : Nat) (bs : List Int) (w : World) (hB : ∀ j u, (nums bs)[j]? = some u → w.cell? ⟨b, o + j, none⟩ = some u) (hy : bs.length = n) (hn : n ≤ 1048576) :
    Calls Try.prog 189 #[.slice (some ⟨b, o, none⟩) n d] w (NumsPost bs w) := by
  subst hy
  obtain ⟨i0, hi, hz0, hz1, hz2⟩ := info_parts info_int
  have HI := Lib.hid hi
  have HZ0 := Lib.hid hz0
  have HZ1 := Lib.hid hz1
  have HZ2 := Lib.hid hz2
  have HB := Lib.hid hB
  clear hi hz0 hz1 hz2 hB
  go_enter Try.func189, Try.ntmps189
  have hnil := fun (W : World) => Lib.run_eql_slice_nil (P := Try.prog) W 22 3 (some ⟨b, o, none⟩) bs.length d 0 0 Try.underlying22
  have HOWN := Lib.hid (World.ownsRow_made (base := w.heap.size) (e := 3) (size := 1) w #[] 0 (Nat.le_refl _) (by unfold maxLen; omega) rfl)
  have hnews : ∀ j u, (nums bs)[j]? = some u → (w.alloc (.cells #[] 3)).cell? ((⟨b, o, none⟩ : Addr).add j) = some u := fun j u hu => by
    rw [show (⟨b, o, none⟩ : Addr).add j = ⟨b, o + j, none⟩ from by unfold Addr.add; split <;> simp_all]
    have h := HB.out j u hu
    rw [World.cell?_alloc_lt _ _ _ (block_lt_of_cell h)]
    exact h
  have HNEWS := Lib.hid hnews
  have HLEN := Lib.hid (show (nums bs).length = bs.length * 1 by rw [nums_len, Nat.mul_one])
  have HONE := Lib.hid (nums_one bs)
  have HMAX := Lib.hid (show 0 + bs.length ≤ maxLen by unfold maxLen; omega)
  have HBYT := Lib.hid (show (0 + bs.length) * 8 ≤ 140737488355328 by omega)
  clear hnews
  go_wp2_with (at_builtin; refine wpList_append_own _ rfl (.tmp 5) (.tmp 6) 22 rfl w.heap.size 3 i0 (.int .i64 0) 1 8 Try.underlying22 HI.out HZ0.out HZ1.out HZ2.out rfl (by decide) _ 0 [] rfl HOWN.out ⟨b, o, none⟩ bs.length d (nums bs) rfl HLEN.out HNEWS.out HONE.out HMAX.out HBYT.out (by simp) ?_; intro v' w1 hown1 hg1 _)
  go_ret
  simp only [Nat.zero_add, List.nil_append] at hown1
  obtain ⟨A, c, hv, hf⟩ := Fresh.of_own hown1 (Nat.le_refl _)
  refine ⟨A, c, by rw [← hv]; rfl, hf, ?_⟩
  exact (below1 w _).grown hg1 (by simp) (fun k hk => Nat.le_of_eq (Option.some.inj (show some w.heap.size = some k from hk)))

/-- The times, each so many times as great. -/
def times (xs : List Int) (k : Int) : List Int := xs.map (· * k)
theorem times_len (xs : List Int) (k : Int) : (times xs k).length = xs.length := by simp [times]
def slowOk (xs : List Int) (s k : Int) : Bool := isParty xs s && (within k 1 1000 && isParty (times xs k) s)
def slowXs (xs : List Int) (s k : Int) : List Int := if slowOk xs s k then times xs k else []
def slowSeats (xs : List Int) (s k : Int) : Int := if slowOk xs s k then s else 0
theorem slow_of {xs : List Int} {s k : Int} {x : Bool} (h1 : isParty xs s = true) (h2 : within k 1 1000 = true) (h3 : isParty (times xs k) s = x) : slowOk xs s k = x := by simp [slowOk, h1, h2, h3]
theorem slowXs_le (xs : List Int) (s k : Int) : (slowXs xs s k).length ≤ xs.length := by
  rw [slowXs]
  split
  · rw [times_len]; exact Nat.le_refl _
  · simp
theorem slow_no {xs : List Int} {s k : Int} (h : slowOk xs s k = false) : slowXs xs s k = [] ∧ slowSeats xs s k = 0 := by simp [slowXs, slowSeats, h]
theorem slow_yes {xs : List Int} {s k : Int} (h : slowOk xs s k = true) : slowXs xs s k = times xs k ∧ slowSeats xs s k = s := by simp [slowXs, slowSeats, h]
theorem party_all {xs : List Int} {s : Int} (h : isParty xs s = true) : ∀ x ∈ xs, 1 ≤ x ∧ x ≤ 1000 := by
  simp only [isParty, Bool.and_eq_true] at h
  exact (allIn_iff _ _ _).1 h.2.1
theorem times_next {xs : List Int} {k : Int} {j : Nat} (hj : j < xs.length) : nums (times (xs.take j) k) ++ [.int .i64 (xs[j] * k)] = nums (times (xs.take (j + 1)) k) := by
  rw [List.take_succ_eq_append_getElem hj]
  simp only [nums, times, List.map_append, List.map_cons, List.map_nil]
theorem slow_iff {xs : List Int} {s k : Int} (hp : isParty xs s = true) (hk : 1 ≤ k) : slowOk xs s k = decide (mostOf xs ≤ 1000 / k) := by
  have hall := party_all hp
  have hne : xs ≠ [] := by
    rintro rfl
    simp [isParty, within] at hp
  have hd : ∀ x : Int, x ≤ 1000 / k ↔ x * k ≤ 1000 := fun x => Int.le_ediv_iff_mul_le (by omega)
  rw [Bool.eq_iff_iff, decide_eq_true_eq, mostOf_le hne]
  simp only [slowOk, hp, Bool.true_and, Bool.and_eq_true]
  constructor
  · rintro ⟨-, h⟩ x hx
    have := party_all h (x * k) (List.mem_map_of_mem hx)
    exact (hd x).2 this.2
  · intro h
    have hk2 : k ≤ 1000 := by
      obtain ⟨y, hy⟩ := List.exists_mem_of_ne_nil _ hne
      have h1 := (hd y).1 (h y hy)
      have h2 := (hall y hy).1
      have h3 : 1 * k ≤ y * k := Int.mul_le_mul_of_nonneg_right h2 (by omega)
      omega
    refine ⟨within_yes hk hk2, ?_⟩
    simp only [isParty, Bool.and_eq_true] at hp ⊢
    refine ⟨by rw [times_len]; exact hp.1, (allIn_iff _ _ _).2 fun y hy => ?_, hp.2.2⟩
    simp only [times, List.mem_map] at hy
    obtain ⟨x, hx, rfl⟩ := hy
    have h1 := (hd x).1 (h x hx)
    have h2 := (hall x hx).1
    have h3 : 1 * 1 ≤ x * k := Int.mul_le_mul h2 hk (by omega) (by omega)
    exact ⟨by omega, h1⟩

end Go.Proofs.Ytcikimjpjebflaa

namespace Go.Proofs.Ytcikimjpjebflaa
open Go.RowKit

/-- append onto a list of the call's own, as a step of a region that draws its order; nothing may be appended too. -/
theorem step_append_mine {P : Program} {ops : Array Oper} {o : Oper} {a : Act} {w : World} {K : Act → World → Prop} {Q : Exit → Act → World → Prop} {E : Prop}
    (hg : o.guard = none) (s x : Operand) (t : TypeId) (hop : o.op = Op.call { callee := Callee.builtin Builtin.append, args := #[s, x], argTypes := #[t, t] })
    (base : Nat) (e : TypeId) (i : TypeInfo) (z : Value) (size bytes : Nat) (h1 : P.underlying t = some (.slice e)) (h2 : P.info? e = some i) (h3 : i.zero = some z) (h4 : i.size = size) (h5 : i.bytes = bytes) (h6 : z.cells.size = size) (h7 : 0 < size)
    (v : Value) (n : Nat) (xs : List Value) (hs : a.eval s = v) (hown : w.ownsRow base e size v n xs)
    (ad : Addr) (m c : Nat) (news : List Value) (hx : a.eval x = .slice (some ad) m c) (hn : news.length = m * size) (hc : ∀ j u, news[j]? = some u → w.cell? (ad.add j) = some u) (h1c : ∀ u ∈ news, u.oneCell' = true)
    (b1 : n + m ≤ maxLen) (b2 : (n + m) * bytes ≤ 140737488355328) (b3 : base ≤ w.heap.size)
    (hK : ∀ v' w', w'.ownsRow base e size v' (n + m) (xs ++ news) → w.grownBy w' v.ownBlock → K (a.put o.dst v') w') :
    if Region.wanted o (yielded ops a.tmps) = true then Oper.wp P o a w K Q else E := by
  have hw : Region.wanted o (yielded ops a.tmps) = true := by simp [Region.wanted, hg]
  rw [if_pos hw]
  obtain ⟨v', w', hrun, r1, r2, _⟩ := run_append_own (P := P) w base t o.type e i z size bytes h1 h2 h3 h4 h5 h6 h7 v n xs hown ad m c news hn hc h1c b1 b2 b3
  unfold Oper.wp
  simp [execOp, hop, resolve, invoke, builtin, hs, hx, hrun, Result.andThen]
  exact hK v' w' r1 r2

/-- Whether there is a party without that person. -/
def dropOk (xs : List Int) (s k : Int) : Bool := isParty xs s && (within k 0 (xs.length - 1) && !decide ((xs.length : Int) = 1))
/-- The times without that person's. -/
def lessOne (xs : List Int) (k : Nat) : List Int := xs.take k ++ xs.drop (k + 1)
def dropXs (xs : List Int) (s k : Int) : List Int := if dropOk xs s k then lessOne xs k.toNat else []
def dropSeats (xs : List Int) (s k : Int) : Int := if dropOk xs s k then s else 0
theorem lessOne_le (xs : List Int) (k : Nat) : (lessOne xs k).length ≤ xs.length := by
  simp only [lessOne, List.length_append, List.length_take, List.length_drop]
  omega
theorem dropXs_le (xs : List Int) (s k : Int) : (dropXs xs s k).length ≤ xs.length := by
  rw [dropXs]
  split
  · exact lessOne_le _ _
  · simp
theorem drop_no {xs : List Int} {s k : Int} (h : dropOk xs s k = false) : dropXs xs s k = [] ∧ dropSeats xs s k = 0 := by simp [dropXs, dropSeats, h]
theorem drop_yes {xs : List Int} {s k : Int} (h : dropOk xs s k = true) : dropXs xs s k = lessOne xs k.toNat ∧ dropSeats xs s k = s := by simp [dropXs, dropSeats, h]
/-- Where the list behind a place lies: at the list's own address where no room is left behind that place. -/
theorem tail_at {w : World} {b o n c k : Nat} {xs : List Int} (hc : ∀ j u, (nums xs)[j]? = some u → w.cell? ⟨b, o + j, none⟩ = some u) (hx : xs.length = n) (hn : n ≤ c) :
    ∃ d, (if c = k + 1 then some (⟨b, o, none⟩ : Addr) else some ⟨b, o + (k + 1), none⟩) = some ⟨b, d, none⟩ ∧ Hid (∀ j u, (nums (xs.drop (k + 1)))[j]? = some u → w.cell? ⟨b, d + j, none⟩ = some u) := by
  by_cases h : c = k + 1
  · refine ⟨o, by simp [h], fun j u hu => ?_⟩
    have h0 : xs.drop (k + 1) = [] := List.drop_eq_nil_of_le (by omega)
    rw [h0] at hu
    simp [nums] at hu
  · refine ⟨o + (k + 1), by simp [h], fun j u hu => ?_⟩
    have := hc (k + 1 + j) u (by simpa [nums, List.getElem?_map, List.getElem?_drop] using hu)
    rw [show o + (k + 1) + j = o + (k + 1 + j) by omega]
    exact this
theorem head_at {w : World} {b o k : Nat} {xs : List Int} (hb : b < w.heap.size) (hc : ∀ j u, (nums xs)[j]? = some u → w.cell? ⟨b, o + j, none⟩ = some u) : Holds w (some ⟨b, o, none⟩) (nums (xs.take k)) := by
  refine .inr ⟨b, o, rfl, hb, fun j u hu => hc j u ?_⟩
  simp only [nums, List.getElem?_map, List.getElem?_take] at hu ⊢
  split at hu
  · exact hu
  · simp at hu

set_option maxHeartbeats 1600000 in
set_option maxRecDepth 100000 in
theorem specDrop_no (A : Option Addr) (n c : Nat) (xs : List Int) (s k : Int) (w : World) (hA : Holds w A (nums xs)) (hx : xs.length = n) (hn : n ≤ 1048576) (hno : dropOk xs s k = false) :
    Calls Try.prog 84 #[.agg #[.slice A n c, .int .i64 s], .int .i64 k] w (PartyPost (dropXs xs s k) (dropSeats xs s k) (dropOk xs s k) w) := by
  have HX := Lib.hid hx
  have HS := Lib.hid hno
  have hA2 := (hA.alloc (.cells #[.slice A n c, .int .i64 s] 28)).alloc (.cells #[.slice none 0 0, .int .i64 0] 28)
  have h0 := (Whole.fresh w 28 #[.slice A n c, .int .i64 s]).alloc (.cells #[.slice none 0 0, .int .i64 0] 28)
  have h1 := Whole.fresh (w.alloc (.cells #[.slice A n c, .int .i64 s] 28)) 28 #[.slice none 0 0, .int .i64 0]
  rw [World.size_alloc] at h1
  have hwr : IntKind.i64.wrap ((n : Int) - 1) = (n : Int) - 1 := IntWalk.i64_in _ (by omega)
  have HNO : Hid (isParty xs s = true → within k 0 (n - 1) = true → (n : Int) = 1) := by
    intro ha hb
    have h := hno
    simp only [dropOk, ha, hx, hb, Bool.true_and, Bool.not_eq_false', decide_eq_true_eq] at h
    exact h
  clear hx hno
  cases hp : isParty xs s
  · have HP := Lib.hid hp
    clear hp
    go_enter Try.func84, Try.ntmps84
    go_wp2_with fail
    refine (paGood_any A n c xs s _ hA2 HX.out (by omega)).mono ?_
    rintro e w1 ⟨rfl, hb⟩
    rw [HP.out]
    have ht := below_then (below2 w _ _) hb (by simp; omega)
    have hr := h1.below hb
    have hlr := hr.lt
    obtain ⟨r0, r1, f0, f1⟩ := hr.two
    clear h0 h1 hb hA2
    go_wp2
    refine bodyPost_ret (v := .tuple #[.agg #[.slice none 0 0, .int .i64 0], .bool false]) (by simp [results, Try.results84, go_sem, r0, r1]) rfl ⟨none, 0, by rw [(drop_no HS.out).1, (drop_no HS.out).2, HS.out]; rfl, by rw [(drop_no HS.out).1]; exact .inl rfl, ?_⟩
    exact below_set (below_set ht (by omega)) (by omega)
  cases hw : within k 0 (n - 1)
  all_goals
    have HP := Lib.hid hp
    have HW := Lib.hid hw
    have HN1 : Hid (within k 0 (n - 1) = true → (n : Int) = 1) := fun h => HNO.out HP.out h
    clear hp hw HNO
    go_enter Try.func84, Try.ntmps84
    go_wp2_with fail
    refine (paGood_any A n c xs s _ hA2 HX.out (by omega)).mono ?_
    rintro e w1 ⟨rfl, hb⟩
    rw [HP.out]
    have ht := below_then (below2 w _ _) hb (by simp; omega)
    have hp1 := h0.below hb
    obtain ⟨k0, k1, -, -⟩ := hp1.two
    have hr := h1.below hb
    have hlr := hr.lt
    obtain ⟨r0, r1, f0, f1⟩ := hr.two
    clear h0 h1 hb hA2
    go_wp2_with fail
    refine (l1In_any _ _ _ _).mono ?_
    rintro e w' ⟨rfl, rfl⟩
    rw [HW.out]
    try have hn1 : n = 1 := by have := HN1.out HW.out; omega
    try subst hn1
    go_wp2
    refine bodyPost_ret (v := .tuple #[.agg #[.slice none 0 0, .int .i64 0], .bool false]) (by simp [results, Try.results84, go_sem, r0, r1]) rfl ⟨none, 0, by rw [(drop_no HS.out).1, (drop_no HS.out).2, HS.out]; rfl, by rw [(drop_no HS.out).1]; exact .inl rfl, ?_⟩
    exact below_set (below_set ht (by omega)) (by omega)

theorem dropOk_iff {xs : List Int} {s k : Int} : dropOk xs s k = true ↔ isParty xs s = true ∧ 0 ≤ k ∧ k < xs.length ∧ 2 ≤ xs.length := by
  simp only [dropOk, Bool.and_eq_true, Bool.not_eq_true', decide_eq_false_iff_not, within_iff]
  constructor
  · rintro ⟨h, h1, h2⟩
    exact ⟨h, by omega, by omega, by omega⟩
  · rintro ⟨h, h1, h2, h3⟩
    exact ⟨h, by omega, by omega⟩
end Go.Proofs.Ytcikimjpjebflaa

namespace Go.Proofs.Ytcikimjpjebflaa
open Go.RowKit

/-- The rising lists of at most m that begin with b and go on with some of the others, at least one of them; each ahead of those that it begins. -/
def subs (m : Nat) : List Int → List Int → List (List Int)
  | [], _ => []
  | k :: r, b => if m ≤ b.length then [] else ((b ++ [k]) :: subs m r (b ++ [k])) ++ subs m r b
theorem subs_full {m : Nat} {b : List Int} (h : m ≤ b.length) : ∀ o : List Int, subs m o b = []
  | [] => rfl
  | _ :: _ => if_pos h
theorem subs_next {m : Nat} {b o : List Int} {i : Nat} (hi : i < o.length) (h : b.length < m) : subs m (o.drop i) b = ((b ++ [o[i]]) :: subs m (o.drop (i + 1)) (b ++ [o[i]])) ++ subs m (o.drop (i + 1)) b := by
  rw [List.drop_eq_getElem_cons hi, subs, if_neg (by omega)]
theorem subs_len (m : Nat) : ∀ (o b : List Int), (subs m o b).length + 1 ≤ 2 ^ o.length
  | [], _ => by simp [subs]
  | k :: r, b => by
    have h1 := subs_len m r (b ++ [k])
    have h2 := subs_len m r b
    rw [subs, List.length_cons, Nat.pow_succ]
    split
    · have : 0 < 2 ^ r.length := Nat.pos_of_ne_zero (by simp)
      simp
      omega
    · simp only [List.length_append, List.length_cons]
      omega
theorem subs_small {m : Nat} {o b : List Int} (h : o.length ≤ 8) : (subs m o b).length ≤ 255 := by
  have h1 := subs_len m o b
  have h2 : 2 ^ o.length ≤ 2 ^ 8 := Nat.pow_le_pow_right (by omega) h
  omega

theorem subs_mem (m : Nat) : ∀ (o b l : List Int), l ∈ subs m o b ↔ ∃ c, l = b ++ c ∧ c ≠ [] ∧ c.Sublist o ∧ l.length ≤ m := by
  intro o
  induction o with
  | nil =>
    intro b l
    constructor
    · intro h
      simp [subs] at h
    · rintro ⟨c, -, hne, hs, -⟩
      exact absurd (List.sublist_nil.1 hs) hne
  | cons k r ih =>
    intro b l
    rw [subs]
    by_cases hm : m ≤ b.length
    · rw [if_pos hm]
      constructor
      · intro h
        simp at h
      · rintro ⟨c, rfl, hne, -, hl⟩
        have : 0 < c.length := List.length_pos_iff.2 hne
        rw [List.length_append] at hl
        omega
    · rw [if_neg hm, List.mem_append, List.mem_cons, ih, ih]
      constructor
      · rintro ((rfl | ⟨c, rfl, hne, hs, hl⟩) | ⟨c, rfl, hne, hs, hl⟩)
        · refine ⟨[k], rfl, by simp, ?_, by simp; omega⟩
          exact (List.nil_sublist r).cons_cons k
        · refine ⟨k :: c, by simp, by simp, hs.cons_cons k, hl⟩
        · exact ⟨c, rfl, hne, hs.cons k, hl⟩
      · rintro ⟨c, rfl, hne, hs, hl⟩
        cases hs with
        | cons _ h => exact .inr ⟨c, rfl, hne, h, hl⟩
        | cons_cons _ h =>
          rename_i c'
          by_cases hc : c' = []
          · subst hc
            exact .inl (.inl rfl)
          · exact .inl (.inr ⟨c', by simp, hc, h, hl⟩)

theorem FreeRows.grown {w w' : World} {ps : List (Nat × Nat)} {rs : List RowV} {row : Option Nat} (h : FreeRows w ps rs) (hg : w.grownBy w' row) (hd : ∀ g, row = some g → ∀ p ∈ ps, g < p.1 ∨ p.2 ≤ g) : FreeRows w' ps rs :=
  ⟨h.1, fun k r p hr hp => ⟨fresh_grown (h.2.1 k r p hr hp).1 hg (fun g e => hd g e p (List.mem_of_getElem? hp)), (h.2.1 k r p hr hp).2⟩, h.2.2⟩
theorem FreeRows.join {w : World} {ps qs : List (Nat × Nat)} {rs ss : List RowV} (h : FreeRows w ps rs) (h' : FreeRows w qs ss) (hd : ∀ p ∈ ps, ∀ q ∈ qs, p.2 ≤ q.1) : FreeRows w (ps ++ qs) (rs ++ ss) := by
  obtain ⟨a1, a2, a3⟩ := h
  obtain ⟨b1, b2, b3⟩ := h'
  refine ⟨by simp [a1, b1], fun k r p hr hp => ?_, fun i j p p' hij hp hp' => ?_⟩
  · rcases Nat.lt_or_ge k rs.length with hk | hk
    · rw [List.getElem?_append_left hk] at hr
      rw [List.getElem?_append_left (by omega)] at hp
      exact a2 k r p hr hp
    · rw [List.getElem?_append_right hk] at hr
      rw [List.getElem?_append_right (by omega), a1] at hp
      exact b2 _ r p hr hp
  · rcases Nat.lt_or_ge i ps.length with hi | hi <;> rcases Nat.lt_or_ge j ps.length with hj | hj
    · rw [List.getElem?_append_left hi] at hp
      rw [List.getElem?_append_left hj] at hp'
      exact a3 i j p p' hij hp hp'
    · rw [List.getElem?_append_left hi] at hp
      rw [List.getElem?_append_right hj] at hp'
      exact .inl (hd p (List.mem_of_getElem? hp) p' (List.mem_of_getElem? hp'))
    · rw [List.getElem?_append_right hi] at hp
      rw [List.getElem?_append_left hj] at hp'
      exact .inr (hd p' (List.mem_of_getElem? hp') p (List.mem_of_getElem? hp))
    · rw [List.getElem?_append_right hi] at hp
      rw [List.getElem?_append_right hj] at hp'
      exact b3 _ _ p p' (by omega) hp hp'
/-- Lists of lists put behind others, both made by the call. -/
theorem Heads.join {w w1 w2 : World} {lo c d cap g : Nat} {A B : Option Addr} {rs ss : List RowV} (h : Heads w lo A c rs) (hlo : lo ≤ w.heap.size) (hb : Below w.heap.size w w1) (h' : Heads w1 w.heap.size B d ss)
    (hown : w2.ownsRow lo 22 1 (.slice (some ⟨g, 0, none⟩) (rs.length + ss.length) cap) (rs.length + ss.length) (rowVals rs ++ rowVals ss)) (hg : w1.grownBy w2 (Value.slice A rs.length c).ownBlock)
    (hat : (Value.slice A rs.length c).ownBlock = some g ∨ g = w1.heap.size) : Heads w2 lo (some ⟨g, 0, none⟩) cap (rs ++ ss) := by
  obtain ⟨h1, ps, h2, h3, h4⟩ := h
  obtain ⟨-, qs, k2, k3, -⟩ := h'
  have hsz := hb.size
  have hsg := hg.size
  have hob : ∀ q, (Value.slice A rs.length c).ownBlock = some q → ∃ a : Addr, A = some a ∧ a.block = q ∧ q < w.heap.size := by
    intro q hq
    cases A with
    | none => simp [Value.ownBlock] at hq
    | some a => exact ⟨a, rfl, by simpa [Value.ownBlock] using hq, (h1.lt q hq).2⟩
  refine ⟨by rw [List.length_append]; show World.ownsRow _ _ _ _ _ _ _; simpa [rowVals] using hown, ps ++ qs, ?_, ?_, ?_⟩
  · refine (FreeRows.join (h2.below hb) k2 fun p hp q hq => ?_).grown hg ?_
    · have := (h3 p hp).2; have := (k3 q hq).1; omega
    · intro q hq p hp
      obtain ⟨a, hA, hq2, hl⟩ := hob q hq
      rcases List.mem_append.1 hp with hp | hp
      · have := h4 a hA p hp; omega
      · have := (k3 p hp).1; omega
  · intro p hp
    rcases List.mem_append.1 hp with hp | hp
    · exact ⟨(h3 p hp).1, by have := (h3 p hp).2; omega⟩
    · exact ⟨by have := (k3 p hp).1; omega, by have := (k3 p hp).2; omega⟩
  · intro a ha p hp
    obtain rfl : (⟨g, 0, none⟩ : Addr) = a := Option.some.inj ha
    show g < p.1 ∨ p.2 ≤ g
    rcases List.mem_append.1 hp with hp | hp
    · rcases hat with hat | hat
      · obtain ⟨a, hA, hq2, -⟩ := hob g hat
        have := h4 a hA p hp
        omega
      · have := (h3 p hp).2
        omega
    · rcases hat with hat | hat
      · obtain ⟨a, hA, hq2, hl⟩ := hob g hat
        have := (k3 p hp).1
        omega
      · have := (k3 p hp).2
        omega
theorem Heads.raise {w : World} {lo lo' c : Nat} {A : Option Addr} {rs : List RowV} (h : Heads w lo A c rs) (hl : lo' ≤ lo) : Heads w lo' A c rs := by
  obtain ⟨h1, ps, h2, h3, h4⟩ := h
  refine ⟨?_, ps, h2, fun p hp => ⟨Nat.le_trans hl (h3 p hp).1, (h3 p hp).2⟩, h4⟩
  obtain ⟨hn, h | ⟨g, cap, cur, hv, hg, r⟩⟩ := h1
  · exact ⟨hn, .inl h⟩
  · exact ⟨hn, .inr ⟨g, cap, cur, hv, Nat.le_trans hl hg, r⟩⟩
/-- What a call hands back that makes a list of lists to which more can be appended. -/
def SubsPost (ls : List (List Int)) (w : World) (e : Ending) (w' : World) : Prop :=
  ∃ (A : Option Addr) (c : Nat) (rs : List RowV), e = .returned (.slice A rs.length c) ∧ rowNums rs = ls ∧ (A = none → rs = [] ∧ c = 0) ∧ (∀ a, A = some a → a = ⟨a.block, 0, none⟩ ∧ 0 < rs.length) ∧ Heads w' w.heap.size A c rs ∧ Below w.heap.size w w'
end Go.Proofs.Ytcikimjpjebflaa

namespace Go.Proofs.Ytcikimjpjebflaa
open Go.RowKit

/-- slices.Clone of a list, to which more can be appended. -/
def OwnOr (xs : List Int) (w : World) (e : Ending) (w' : World) : Prop :=
  ∃ (A : Option Addr) (c : Nat), e = .returned (.slice A xs.length c) ∧ w'.ownsRow w.heap.size 3 1 (.slice A xs.length c) xs.length (nums xs) ∧ Below w.heap.size w w'

set_option maxHeartbeats 800000 in
set_option maxRecDepth 100000 in
theorem cloneO_any (A : Option Addr) (n d : Nat) (bs : List Int) (w : World) (hB : Holds w A (nums bs)) (hy : bs.length = n) (hn : n ≤ 1048576) (hnil : A = none → n = 0 ∧ d = 0) :
    Calls Try.prog 189 #[.slice A n d] w (OwnOr bs w) := by
  subst hy
  cases A with
  | none =>
    obtain ⟨h0, rfl⟩ := hnil rfl
    obtain rfl := List.length_eq_zero_iff.1 h0
    clear h0
    go_enter Try.func189, Try.ntmps189
    have hnl := fun (W : World) => Lib.run_eql_slice_nil (P := Try.prog) W 22 3 none 0 0 0 0 Try.underlying22
    go_wp2
    go_ret
    exact ⟨none, 0, rfl, World.ownsRow_nil _ _ _ _, Below.refl _ _⟩
  | some ad =>
    obtain ⟨b, o, had⟩ : ∃ b o, (nums bs = [] ∨ ad = ⟨b, o, none⟩) := by
      rcases hB with h | ⟨b, o, h, -, -⟩
      · exact ⟨0, 0, .inl h⟩
      · exact ⟨b, o, .inr (Option.some.inj h)⟩
    obtain ⟨i0, hi, hz0, hz1, hz2⟩ := info_parts info_int
    have HI := Lib.hid hi
    have HZ0 := Lib.hid hz0
    have HZ1 := Lib.hid hz1
    have HZ2 := Lib.hid hz2
    have hnews : ∀ j u, (nums bs)[j]? = some u → (w.alloc (.cells #[] 3)).cell? (ad.add j) = some u := fun j u hu => by
      rcases hB with h | ⟨b, o, h, hb, hcell⟩
      · rw [h] at hu; simp at hu
      · obtain rfl : ad = ⟨b, o, none⟩ := by simpa using h
        rw [show (⟨b, o, none⟩ : Addr).add j = ⟨b, o + j, none⟩ from by unfold Addr.add; split <;> simp_all, World.cell?_alloc_lt _ _ _ hb]
        exact hcell j u hu
    clear hi hz0 hz1 hz2 had hnil
    go_enter Try.func189, Try.ntmps189
    have hnl := fun (W : World) => Lib.run_eql_slice_nil (P := Try.prog) W 22 3 (some ad) bs.length d 0 0 Try.underlying22
    have HOWN := Lib.hid (World.ownsRow_made (base := w.heap.size) (e := 3) (size := 1) w #[] 0 (Nat.le_refl _) (by unfold maxLen; omega) rfl)
    have HNEWS := Lib.hid hnews
    have HLEN := Lib.hid (show (nums bs).length = bs.length * 1 by rw [nums_len, Nat.mul_one])
    have HONE := Lib.hid (ints_one bs)
    have HMAX := Lib.hid (show 0 + bs.length ≤ maxLen by unfold maxLen; omega)
    have HBYT := Lib.hid (show (0 + bs.length) * 8 ≤ 140737488355328 by omega)
    clear hnews
    go_wp2_with (at_builtin; refine wpList_append_own _ rfl (.tmp 5) (.tmp 6) 22 rfl w.heap.size 3 i0 (.int .i64 0) 1 8 Try.underlying22 HI.out HZ0.out HZ1.out HZ2.out rfl (by decide) _ 0 [] rfl HOWN.out ad bs.length d (nums bs) rfl HLEN.out HNEWS.out HONE.out HMAX.out HBYT.out (by simp) ?_; intro v' w1 hown1 hg1 _)
    go_ret
    simp only [Nat.zero_add, List.nil_append] at hown1
    have hbe := (below1 w (.cells #[] 3)).grown hg1 (by simp) (fun k hk => Nat.le_of_eq (Option.some.inj (show some w.heap.size = some k from hk)))
    obtain ⟨A1, c1, rfl⟩ := own_shape hown1
    exact ⟨A1, c1, rfl, hown1, hbe⟩

/-- Where the list behind a place lies, nil or not: at the list's own address where no room is left behind that place. -/
theorem behind_at {w : World} {A : Option Addr} {n c k : Nat} {xs : List Int} (h : Holds w A (nums xs)) (hx : xs.length = n) (hn : n ≤ c) (hk : k < n) :
    ∃ b o d, A = some ⟨b, o, none⟩ ∧ b < w.heap.size ∧ (if c = k + 1 then some (⟨b, o, none⟩ : Addr) else some ⟨b, o + (k + 1), none⟩) = some ⟨b, d, none⟩ ∧ Holds w (some ⟨b, d, none⟩) (nums (xs.drop (k + 1))) := by
  rcases h with h | ⟨b, o, rfl, hb, hc⟩
  · have := congrArg List.length h
    rw [nums_len, List.length_nil] at this
    omega
  · obtain ⟨d, hd, hh⟩ := tail_at (w := w) (b := b) (o := o) (n := n) (c := c) (k := k) (xs := xs) hc hx hn
    exact ⟨b, o, d, rfl, hb, hd, .inr ⟨b, d, rfl, hb, hh.out⟩⟩

theorem holds_of_own {w : World} {base : Nat} {e : TypeId} {A : Option Addr} {n c : Nat} {xs : List Value} (h : w.ownsRow base e 1 (.slice A n c) n xs) : Holds w A xs := by
  obtain ⟨A', c', hv, hf⟩ := Fresh.of_own h (Nat.le_refl _)
  obtain ⟨rfl, -⟩ : A = A' ∧ c = c' := by simpa using hv
  exact hf.holds

theorem rowVals_one (rs : List RowV) : ∀ u ∈ rowVals rs, u.oneCell' = true := by
  intro v hv
  simp only [rowVals, List.mem_map] at hv
  obtain ⟨x, -, rfl⟩ := hv
  rfl
theorem own_fresh0' {w : World} {lo n c : Nat} {ty : TypeId} {A : Option Addr} {xs : List Value} (h : w.ownsRow lo ty 1 (.slice A n c) n xs) : Fresh w lo w.heap.size ty A xs := by
  obtain ⟨A', c', hv, hf⟩ := Fresh.of_own h (Nat.le_refl _)
  obtain ⟨rfl, -⟩ : A = A' ∧ c = c' := by simpa using hv
  exact hf

set_option maxHeartbeats 6400000 in
set_option maxRecDepth 100000 in
theorem listsFrom_any (m : Nat) (hm : m ≤ 8) : ∀ (g : Nat) (A B : Option Addr) (k z n c : Nat) (bs os : List Int) (w : World), os.length < g → g ≤ 9 → Holds w A (nums bs) → Holds w B (nums os) → bs.length = k → os.length = n → n ≤ c → (A = none → k = 0 ∧ z = 0) →
    Calls Try.prog 164 #[.slice A k z, .slice B n c, .int .i64 m] w (SubsPost (subs m os bs) w) := by
  intro g
  induction g with
  | zero => intro A B k z n c bs os w hg; omega
  | succ g ih =>
    intro A B k z n c bs os w hg hg8 hA hB hk hn hc hnil
    by_cases hfull : m ≤ k
    · have HS := Lib.hid (subs_full (by omega : m ≤ bs.length) os)
      have hge : (m : Int) ≤ (k : Int) := by omega
      clear ih hg hk hn hnil
      go_enter Try.func164, Try.ntmps164
      go_wp2
      go_ret
      rw [HS.out]
      exact ⟨none, 0, [], rfl, rfl, fun _ => ⟨rfl, rfl⟩, fun a h => (by cases h), Heads.nil _ _, Below.refl _ _⟩
    · obtain ⟨i0, hi, hz0, hz1, hz2⟩ := info_parts info_int
      have HI := Lib.hid hi
      have HZ0 := Lib.hid hz0
      have HZ1 := Lib.hid hz1
      have HZ2 := Lib.hid hz2
      obtain ⟨i1, ri, rz0, rz1, rz2⟩ := info_parts info_row
      have RI := Lib.hid ri
      have RZ0 := Lib.hid rz0
      have RZ1 := Lib.hid rz1
      have RZ2 := Lib.hid rz2
      have HK := Lib.hid hk
      have HN := Lib.hid hn
      have HG := Lib.hid hg
      have HNIL := Lib.hid hnil
      have HFU := Lib.hid hfull
      have hk8 : k ≤ 8 := by omega
      have hfd : decide (m ≤ k) = false := by simpa using hfull
      have hn8 : n ≤ 8 := by omega
      clear hi hz0 hz1 hz2 ri rz0 rz1 rz2 hk hn hg hnil hfull
      go_enter Try.func164, Try.ntmps164
      go_wp2
      go_loopw [7, 17] (fun v i wr => ∃ (j : Nat) (E : Option Addr) (d : Nat) (acc : List RowV), j ≤ n ∧ i = .int .i64 j ∧ v = .slice E acc.length d ∧ rowNums acc ++ subs m (os.drop j) bs = subs m os bs ∧ (E = none → acc = [] ∧ d = 0) ∧ (∀ a, E = some a → a = ⟨a.block, 0, none⟩ ∧ 0 < acc.length) ∧ Heads wr w.heap.size E d acc ∧ Below w.heap.size w wr) (fun _ i _ => n - (intOf i).toNat)
      case atStart => exact ⟨0, none, 0, [], Nat.zero_le _, rfl, rfl, rfl, fun _ => ⟨rfl, rfl⟩, fun a h => (by cases h), Heads.nil _ _, Below.refl _ _⟩
      case round =>
        obtain ⟨j, E, d, acc, hj, rfl, rfl, hacc, hEn, hEs, hh, hb⟩ := hrel
        by_cases hjn : j < n
        · have hjl : j < os.length := by have := HN.out; omega
          obtain ⟨b0, o0, d0, rfl, hbl, hd0, hrest⟩ := behind_at hB HN.out hc hjn
          obtain ⟨b1, o1, hab, hbl1, hcell⟩ := (hB.below hb).look (k := j) (by rw [nums_len]; exact hjl)
          obtain ⟨rfl, rfl⟩ : b0 = b1 ∧ o0 = o1 := by simpa using hab
          clear hab hbl1
          simp only [nums, List.getElem_map] at hcell
          have hkb : bs.length < m := by have := HK.out; have := HFU.out; omega
          have HNX : Hid (rowNums acc ++ ((bs ++ [os[j]]) :: subs m (os.drop (j + 1)) (bs ++ [os[j]])) ++ subs m (os.drop (j + 1)) bs = subs m os bs) := by show _ = _; rw [List.append_assoc, ← subs_next hjl hkb]; exact hacc
          have HAL : Hid (acc.length + (1 + (subs m (os.drop (j + 1)) (bs ++ [os[j]])).length) ≤ 255) := by
            have h1 := congrArg List.length HNX.out
            have h2 := subs_small (m := m) (o := os) (b := bs) (by have := HN.out; omega)
            simp only [List.length_append, List.length_cons, rowNums_len] at h1
            show _ ≤ _
            omega
          have HH := Lib.hid hh
          have HB := Lib.hid hb
          have HRE := Lib.hid hrest
          have hbs : w.heap.size ≤ wr.heap.size := hb.size
          have hA1 := hA.below hb
          generalize hx : os[j] = x at hcell HNX HAL
          clear hacc hEn hEs hh hb hrest hx
          go_wp2_with fail
          refine (cloneO_any A k z bs _ hA1 HK.out (by omega) HNIL.out).mono ?_
          rintro e w1 ⟨A1, c1, rfl, hown1, hb1⟩
          rw [HK.out] at hown1 ⊢
          have hs1 : wr.heap.size ≤ w1.heap.size := hb1.size
          have HO1 := Lib.hid (hown1.alloc (.cells #[.int .i64 x] 3))
          have HB1 := Lib.hid hb1
          have HM1 := Lib.hid (show k + 1 ≤ maxLen by unfold maxLen; omega)
          have HY1 := Lib.hid (show (k + 1) * 8 ≤ 140737488355328 by omega)
          have HZ1' := Lib.hid (show wr.heap.size ≤ (w1.alloc (.cells #[.int .i64 x] 3)).heap.size by simp; omega)
          clear hown1 hb1
          go_upto_region 8 with (at_builtin; refine wpList_append_lies _ rfl (.tmp 23) (.tmp 25) 22 rfl wr.heap.size 3 i0 (.int .i64 0) 1 8 Try.underlying22 HI.out HZ0.out HZ1.out HZ2.out rfl (by decide) (.slice A1 k c1) k (nums bs) rfl HO1.out ⟨w1.heap.size, 0, none⟩ 1 1 [.int .i64 x] rfl rfl (cell_one_new _ _ _) (by simp [Value.oneCell']) (by decide) HM1.out HY1.out HZ1'.out (w1.heap.size + 1) (by simp) ?_; intro g2 c2 w2 hown2 hg2 hat2 hlt2)
          have hb2 : Below wr.heap.size wr w2 := (HB1.out.alloc hs1 (.cells #[.int .i64 x] 3)).grown hg2 HZ1'.out (fun kk e => (HO1.out.lt kk e).1)
          have hs2 : wr.heap.size ≤ w2.heap.size := hb2.size
          have HO2 := Lib.hid (own_fresh0' hown2)
          have HB2 := Lib.hid hb2
          have HOE := Lib.hid ((HH.out.below hb2).alloc (.cells #[.slice (some ⟨g2, 0, none⟩) (k + 1) c2] 22)).1
          have HM2 := Lib.hid (show acc.length + 1 ≤ maxLen by have := HAL.out; unfold maxLen; omega)
          have HY2 := Lib.hid (show (acc.length + 1) * 24 ≤ 140737488355328 by have := HAL.out; omega)
          have HZ2' := Lib.hid (show w.heap.size ≤ (w2.alloc (.cells #[.slice (some ⟨g2, 0, none⟩) (k + 1) c2] 22)).heap.size by simp; omega)
          clear hown2 hg2 hat2 hb2
          go_upto_region 9 with (at_builtin; refine wpList_append_lies _ rfl (.tmp 27) (.tmp 29) 41 rfl w.heap.size 22 i1 (.slice none 0 0) 1 24 Try.underlying41 RI.out RZ0.out RZ1.out RZ2.out rfl (by decide) (.slice E acc.length d) acc.length (rowVals acc) rfl HOE.out ⟨w2.heap.size, 0, none⟩ 1 1 [.slice (some ⟨g2, 0, none⟩) (k + 1) c2] rfl rfl (cell_one_new _ _ _) (by simp [Value.oneCell']) (by decide) HM2.out HY2.out HZ2'.out (w2.heap.size + 1) (by simp) ?_; intro g3 c3 w3 hown3 hg3 hat3 hlt3)
          have hF2 := HO2.out
          have hFl : (bs ++ [x]).length = k + 1 := by have := HK.out; simp; omega
          have hnx : nums bs ++ [Value.int .i64 x] = nums (bs ++ [x]) := by simp [nums]
          rw [hnx] at hF2
          have hH3 := Heads.push (r := ⟨some ⟨g2, 0, none⟩, k + 1, c2, bs ++ [x]⟩) HH.out hbs HB2.out hF2 hFl (by show k + 1 ≤ _; omega) hown3 hg3 hat3
          have hb3 : Below w.heap.size w w3 := ((below_then HB.out HB2.out hbs).alloc (by omega) (.cells #[.slice (some ⟨g2, 0, none⟩) (k + 1) c2] 22)).grown hg3 HZ2'.out (fun kk e => (HOE.out.lt kk e).1)
          have hs3 : w2.heap.size + 1 ≤ w3.heap.size := by have := hg3.size; simpa using this
          have hL3 : Holds w3 (some ⟨g2, 0, none⟩) (nums (bs ++ [x])) := (fresh_grown (hF2.alloc (.cells #[.slice (some ⟨g2, 0, none⟩) (k + 1) c2] 22)) hg3 (fun q e => .inl (by have := (HH.out.1.lt q e).2; omega))).holds
          have hR3 : Holds w3 (some ⟨b0, d0, none⟩) (nums (os.drop (j + 1))) := HRE.out.below hb3
          have hdl : (os.drop (j + 1)).length = n - (j + 1) := by have := HN.out; simp; omega
          have hcall := ih (some ⟨g2, 0, none⟩) (some ⟨b0, d0, none⟩) (k + 1) c2 (n - (j + 1)) (c - (j + 1)) (bs ++ [x]) (os.drop (j + 1)) w3 (by have := HG.out; have := HN.out; omega) (by omega) hL3 hR3 hFl hdl (by omega) (fun h => by cases h)
          have HC := Lib.hid hcall
          have HH3 := Lib.hid hH3
          have HB3 := Lib.hid hb3
          have hp0 : (0 : Int) ≤ (j : Int) + 1 := by omega
          have hp1 : (j : Int) + 1 ≤ (n : Int) := by omega
          have hp2 : ((j : Int) + 1).toNat = j + 1 := by omega
          have hbs3 : w.heap.size ≤ w3.heap.size := hb3.size
          clear hF2 hFl hnx hH3 hb3 hown3 hg3 hat3 hlt3 hL3 hR3 hdl hcall ih
          go_wp2_with fail
          refine HC.out.mono ?_
          rintro e w4 ⟨A4, c4, rs4, rfl, hr4, hn4, hs4, hh4, hb4⟩
          have HR4 := Lib.hid hr4
          have HH4 := Lib.hid hh4
          have HB4 := Lib.hid hb4
          have HL4 : Hid (acc.length + (1 + rs4.length) ≤ 255) := by show _ ≤ _; have h1 := HAL.out; have h2 := rowNums_len rs4; rw [hr4] at h2; omega
          have HOA := Lib.hid (HH3.out.below hb4).1
          have hal : (acc ++ [(⟨some ⟨g2, 0, none⟩, k + 1, c2, bs ++ [x]⟩ : RowV)]).length = acc.length + 1 := by simp
          have HAL2 := Lib.hid hal
          have hbs4 : w3.heap.size ≤ w4.heap.size := hb4.size
          have hEnd : rowNums (acc ++ [(⟨some ⟨g2, 0, none⟩, k + 1, c2, bs ++ [x]⟩ : RowV)]) ++ rowNums rs4 ++ subs m (os.drop (j + 1)) bs = subs m os bs := by
            rw [← HNX.out, hr4]
            simp [rowNums]
          have HEND := Lib.hid hEnd
          rw [hal] at HOA
          clear hr4 hh4 hb4 hal hEnd
          cases A4 with
          | none =>
            obtain ⟨rfl, rfl⟩ := hn4 rfl
            clear hn4 hs4
            go_wp2_with (at_builtin; refine wpList_append_own_none rfl (.tmp 31) (.tmp 38) 41 rfl w.heap.size 22 i1 1 Try.underlying41 RI.out _ (acc.length + 1) _ rfl HOA.out rfl ?_)
            go_roundw
            case rel => exact ⟨j + 1, some ⟨g3, 0, none⟩, c3, acc ++ [⟨some ⟨g2, 0, none⟩, k + 1, c2, bs ++ [x]⟩], by omega, by go_num, by rw [HAL2.out], by simpa [rowNums] using HEND.out, fun h => (by cases h), fun a h => by obtain rfl := Option.some.inj h; exact ⟨rfl, by rw [HAL2.out]; omega⟩, HH3.out.below HB4.out, below_then HB3.out HB4.out hbs3⟩
            case measure => simp [intOf]; omega
          | some a4 =>
            obtain ⟨ha4, hpos⟩ := hs4 a4 rfl
            obtain ⟨b4, rfl⟩ : ∃ b4, a4 = ⟨b4, 0, none⟩ := ⟨_, ha4⟩
            have HNW : Hid (∀ j u, (rowVals rs4)[j]? = some u → w4.cell? ((⟨b4, 0, none⟩ : Addr).add j) = some u) := fun j u hu => by
              rw [Addr.add_lit]
              rcases holds_of_own HH4.out.1 with h | ⟨b, o, h, -, hcell⟩
              · rw [h] at hu; simp at hu
              · obtain ⟨rfl, rfl⟩ : b4 = b ∧ 0 = o := by simpa using h
                exact hcell j u hu
            have HLN := Lib.hid (show (rowVals rs4).length = rs4.length * 1 by rw [rowVals_len, Nat.mul_one])
            have HM4 := Lib.hid (show acc.length + 1 + rs4.length ≤ maxLen by have := HL4.out; unfold maxLen; omega)
            have HY4 := Lib.hid (show (acc.length + 1 + rs4.length) * 24 ≤ 140737488355328 by have := HL4.out; omega)
            have HZ4 := Lib.hid (show w.heap.size ≤ w4.heap.size by omega)
            clear hn4 hs4 ha4
            go_wp2_with (at_builtin; refine wpList_append_lies _ rfl (.tmp 31) (.tmp 38) 41 rfl w.heap.size 22 i1 (.slice none 0 0) 1 24 Try.underlying41 RI.out RZ0.out RZ1.out RZ2.out rfl (by decide) (.slice (some ⟨g3, 0, none⟩) (acc.length + 1) c3) (acc.length + 1) _ rfl HOA.out ⟨b4, 0, none⟩ rs4.length c4 (rowVals rs4) rfl HLN.out HNW.out (rowVals_one rs4) hpos HM4.out HY4.out HZ4.out w4.heap.size rfl ?_; intro g5 c5 w5 hown5 hg5 hat5 hlt5)
            rw [← HAL2.out] at hown5 hg5 hat5
            have HJ := Lib.hid (Heads.join HH3.out hbs3 HB4.out HH4.out hown5 hg5 hat5)
            have HB5 := Lib.hid ((below_then HB3.out HB4.out hbs3).grown hg5 HZ4.out (fun kk e => by rw [HAL2.out] at e; exact (HOA.out.lt kk e).1))
            clear hown5 hg5 hat5 hlt5
            go_roundw
            case rel => exact ⟨j + 1, some ⟨g5, 0, none⟩, c5, acc ++ [⟨some ⟨g2, 0, none⟩, k + 1, c2, bs ++ [x]⟩] ++ rs4, by omega, by go_num, by rw [List.length_append, HAL2.out], by rw [show rowNums (acc ++ [⟨some ⟨g2, 0, none⟩, k + 1, c2, bs ++ [x]⟩] ++ rs4) = rowNums (acc ++ [⟨some ⟨g2, 0, none⟩, k + 1, c2, bs ++ [x]⟩]) ++ rowNums rs4 by simp [rowNums]]; exact HEND.out, fun h => (by cases h), fun a h => by obtain rfl := Option.some.inj h; exact ⟨rfl, by rw [List.length_append]; omega⟩, HJ.out, HB5.out⟩
            case measure => simp [intOf]; omega
        · obtain rfl : j = n := by omega
          have HR : Hid (rowNums acc = subs m os bs) := by show _ = _; rw [← hacc, List.drop_eq_nil_of_le (by have := HN.out; omega)]; simp [subs]
          have HH := Lib.hid hh
          have HEN := Lib.hid hEn
          have HES := Lib.hid hEs
          clear hacc hh hEn hEs
          go_wp2
          go_ret
          exact ⟨E, d, acc, rfl, HR.out, HEN.out, HES.out, HH.out, hb⟩
end Go.Proofs.Ytcikimjpjebflaa

namespace Go.Proofs.Ytcikimjpjebflaa
open Go.RowKit

/-- The people of a crowd before the k-th. -/
def upTo (l : List Int) (k : Nat) : List Int := ((List.range k).filter (fun i => has l i)).map Int.ofNat
theorem upTo_yes {l : List Int} {k : Nat} (h : has l k = true) : upTo l (k + 1) = upTo l k ++ [(k : Int)] := by
  simp [upTo, List.range_succ, List.filter_append, h]
theorem upTo_no {l : List Int} {k : Nat} (h : has l k = false) : upTo l (k + 1) = upTo l k := by
  simp [upTo, List.range_succ, List.filter_append, h]
theorem upTo_len (l : List Int) (k : Nat) : (upTo l k).length ≤ k := by
  have := List.length_filter_le (fun i => has l i) (List.range k)
  simpa [upTo] using this
theorem rise_eq : ∀ {a b : List Int}, a.Pairwise (· < ·) → b.Pairwise (· < ·) → (∀ x, x ∈ a ↔ x ∈ b) → a = b
  | [], [], _, _, _ => rfl
  | [], y :: b, _, _, h => by have := (h y).2 (by simp); simp at this
  | x :: a, [], _, _, h => by have := (h x).1 (by simp); simp at this
  | x :: a, y :: b, ha, hb, h => by
    rw [List.pairwise_cons] at ha hb
    have e : x = y := by
      have h1 := (h x).1 (by simp)
      have h2 := (h y).2 (by simp)
      rcases List.mem_cons.1 h1 with h1 | h1
      · exact h1
      · rcases List.mem_cons.1 h2 with h2 | h2
        · exact h2.symm
        · have := hb.1 _ h1
          have := ha.1 _ h2
          omega
    subst e
    rw [rise_eq ha.2 hb.2 fun z => ?_]
    constructor
    · intro hz
      rcases List.mem_cons.1 ((h z).1 (List.mem_cons_of_mem _ hz)) with e | e
      · have := ha.1 _ hz; omega
      · exact e
    · intro hz
      rcases List.mem_cons.1 ((h z).2 (List.mem_cons_of_mem _ hz)) with e | e
      · have := hb.1 _ hz; omega
      · exact e
theorem steps_lt {l : List Int} {hi : Int} (h : StepsTo l hi l.length) : ∀ (d i : Nat), i + d + 1 < l.length → l.getD i 0 < l.getD (i + d + 1) 0
  | 0, i, hd => by
    have := (h (i + 1) (by omega)).2.2
    rcases this with h | h
    · omega
    · simpa using h
  | d + 1, i, hd => by
    have h1 := steps_lt h d i (by omega)
    have := (h (i + d + 1 + 1) (by omega)).2.2
    rcases this with h | h
    · omega
    · have h2 : l.getD (i + d + 1) 0 < l.getD (i + d + 1 + 1) 0 := by simpa using h
      exact Int.lt_trans h1 h2
theorem steps_pair {l : List Int} {hi : Int} (h : StepsTo l hi l.length) : l.Pairwise (· < ·) := by
  rw [List.pairwise_iff_getElem]
  intro i j hi' hj hij
  have := steps_lt h (j - i - 1) i (by omega)
  rw [show i + (j - i - 1) + 1 = j by omega] at this
  simpa [hi', hj] using this
theorem upTo_all {l : List Int} {hi : Int} (h : StepsTo l hi l.length) (h7 : hi ≤ 7) : upTo l 8 = l := by
  refine rise_eq ?_ (steps_pair h) fun x => ?_
  · refine List.Pairwise.map _ (fun a b hab => ?_) (List.Pairwise.filter _ (List.pairwise_lt_range (n := 8)))
    exact Int.ofNat_lt.2 hab
  · simp only [upTo, List.mem_map, List.mem_filter, List.mem_range]
    constructor
    · rintro ⟨i, ⟨-, hh⟩, rfl⟩
      exact has_iff.1 hh
    · intro hx
      have hm := mem_steps h hx
      obtain ⟨i, rfl⟩ := Int.eq_ofNat_of_zero_le hm.1
      exact ⟨i, ⟨by omega, has_iff.2 hx⟩, rfl⟩

set_option maxHeartbeats 1600000 in
set_option maxRecDepth 100000 in
theorem list_any (l : List Int) (hi : Int) (w : World) (hs : StepsTo l hi l.length) (h7 : hi ≤ 7) :
    Calls Try.prog 105 #[.agg (crowdCells l)] w (OwnPost l w) := by
  obtain ⟨i0, hi0, hz0, hz1, hz2⟩ := info_parts info_int
  have HI := Lib.hid hi0
  have HZ0 := Lib.hid hz0
  have HZ1 := Lib.hid hz1
  have HZ2 := Lib.hid hz2
  have HALL := Lib.hid (upTo_all hs h7)
  have hc := Whole.fresh w 81 (crowdCells l)
  have hbw := below1 w (.cells (crowdCells l) 81)
  have HBW := Lib.hid hbw
  obtain ⟨m0, m1, m2, m3, m4, m5, m6, m7⟩ := crowd_cells hc
  clear hi0 hz0 hz1 hz2 hs h7 hbw
  go_enter Try.func105, Try.ntmps105
  go_wp2
  go_loopw [3, 8] (fun v i wr => ∃ (k : Nat) (E : Option Addr) (d : Nat), k ≤ 8 ∧ i = .int .i64 k ∧ v = .slice E (upTo l k).length d ∧ wr.ownsRow w.heap.size 3 1 (.slice E (upTo l k).length d) (upTo l k).length (nums (upTo l k)) ∧ Below w.heap.size w wr) (fun _ i _ => 8 - (intOf i).toNat)
  case atStart => exact ⟨0, none, 0, by omega, rfl, rfl, World.ownsRow_nil _ _ _ _, HBW.out⟩
  case round =>
    obtain ⟨k, E, d, hk, rfl, rfl, hown, hb⟩ := hrel
    by_cases hlt : k < 8
    · have hix := fun W : World => index_crowd l hlt W
      have hk8 : (k : Int) < 8 := by omega
      have hul := upTo_len l k
      cases hp : has l k
      · have HS := Lib.hid (upTo_no hp)
        have HO := Lib.hid hown
        rw [hp] at hix
        clear hp hown
        go_wp2
        go_roundw
        case rel => exact ⟨k + 1, E, d, by omega, by go_num, by rw [HS.out], by rw [HS.out]; exact HO.out, hb⟩
        case measure => simp [intOf]; omega
      · have HS := Lib.hid (upTo_yes hp)
        have HOW := Lib.hid (hown.alloc (.cells #[.int .i64 k] 3))
        have HB := Lib.hid (hb.alloc hb.size (.cells #[.int .i64 k] 3))
        have HBASE := Lib.hid (show w.heap.size ≤ (wr.alloc (.cells #[.int .i64 k] 3)).heap.size by have := hb.size; simp; omega)
        have HMAX := Lib.hid (show (upTo l k).length + 1 ≤ maxLen by unfold maxLen; omega)
        have HBYT := Lib.hid (show ((upTo l k).length + 1) * 8 ≤ 140737488355328 by omega)
        have HLEN : Hid ((upTo l (k + 1)).length = (upTo l k).length + 1) := by show _ = _; rw [HS.out]; simp
        rw [hp] at hix
        clear hp hown hb
        go_wp2_with (at_builtin; refine wpList_append_own _ rfl (.tmp 13) (.tmp 15) 22 rfl w.heap.size 3 i0 (.int .i64 0) 1 8 Try.underlying22 HI.out HZ0.out HZ1.out HZ2.out rfl (by decide) (.slice E (upTo l k).length d) (upTo l k).length (nums (upTo l k)) rfl HOW.out ⟨wr.heap.size, 0, none⟩ 1 1 [.int .i64 k] rfl rfl (cell_one_new _ _ _) (by simp [Value.oneCell']) HMAX.out HBYT.out HBASE.out ?_; intro v' w2 hown1 hg1 _; obtain ⟨D', q', hv', -⟩ := Fresh.of_own hown1 (Nat.le_refl _); rw [hv'] at hown1 ⊢; clear hv')
        have HBN := Lib.hid (HB.out.grown hg1 HBASE.out (fun kk e => (HOW.out.lt _ e).1))
        have HON := Lib.hid hown1
        clear hg1 hown1
        go_roundw
        case rel => exact ⟨k + 1, D', q', by omega, by go_num, by rw [HLEN.out], by rw [HLEN.out, HS.out, show nums (upTo l k ++ [(k : Int)]) = nums (upTo l k) ++ [.int .i64 k] by simp [nums]]; exact HON.out, HBN.out⟩
        case measure => simp [intOf]; omega
    · obtain rfl : k = 8 := by omega
      rw [HALL.out] at hown
      have HO := Lib.hid hown
      have HL : Hid ((upTo l 8).length = l.length) := by show _ = _; rw [HALL.out]
      clear hown
      go_wp2
      go_ret
      exact ⟨E, d, by rw [HL.out]; rfl, HO.out, hb⟩
end Go.Proofs.Ytcikimjpjebflaa

namespace Go.Proofs.Ytcikimjpjebflaa
open Go.RowKit

/-- The place at which a number goes among the first k of a list: behind the last one that is not greater. -/
def spot (l : List Int) (x : Int) : Nat → Nat
  | 0 => 0
  | k + 1 => if x < l.getD k 0 then spot l x k else k + 1
theorem spot_le (l : List Int) (x : Int) : ∀ k, spot l x k ≤ k
  | 0 => Nat.le_refl _
  | k + 1 => by
    rw [spot]
    split
    · have := spot_le l x k; omega
    · omega
theorem spot_down {l : List Int} {x : Int} {k : Nat} (h : x < l.getD k 0) : spot l x (k + 1) = spot l x k := if_pos h
theorem spot_here {l : List Int} {x : Int} {k : Nat} (h : ¬ x < l.getD k 0) : spot l x (k + 1) = k + 1 := if_neg h
def ins (l : List Int) (x : Int) : List Int := (l.take (spot l x l.length) ++ [x]) ++ l.drop (spot l x l.length)
theorem ins_len (l : List Int) (x : Int) : (ins l x).length = l.length + 1 := by
  have := spot_le l x l.length
  simp [ins]
  omega
def insTo (xs : List Int) (j : Nat) : List Int := (xs.take j).foldl ins []
theorem insTo_next {xs : List Int} {j : Nat} (h : j < xs.length) : insTo xs (j + 1) = ins (insTo xs j) xs[j] := by
  rw [insTo, List.take_succ_eq_append_getElem h, List.foldl_append]
  rfl
theorem insTo_len (xs : List Int) : ∀ {j : Nat}, j ≤ xs.length → (insTo xs j).length = j
  | 0, _ => rfl
  | j + 1, h => by rw [insTo_next h, ins_len, insTo_len xs (by omega)]
theorem own_lower {w : World} {base base' size : Nat} {e : TypeId} {v : Value} {n : Nat} {xs : List Value} (h : w.ownsRow base e size v n xs) (hb : base' ≤ base) : w.ownsRow base' e size v n xs := by
  obtain ⟨hl, h | ⟨g, cap, cur, hv, hg, r⟩⟩ := h
  · exact ⟨hl, .inl h⟩
  · exact ⟨hl, .inr ⟨g, cap, cur, hv, Nat.le_trans hb hg, r⟩⟩
theorem own_cells {w : World} {base : Nat} {e : TypeId} {g n c : Nat} {xs : List Value} (h : w.ownsRow base e 1 (.slice (some ⟨g, 0, none⟩) n c) n xs) : g < w.heap.size ∧ base ≤ g ∧ ∀ j u, xs[j]? = some u → w.cell? ⟨g, j, none⟩ = some u := by
  obtain ⟨hl, ⟨hv, -⟩ | ⟨g', cap, cur, hv, hg, hh, h1, h2, h3, h4⟩⟩ := h
  · cases hv
  · obtain ⟨rfl, rfl⟩ : g = g' ∧ c = cap := by simpa using hv
    have hw : Whole w g e cur := hh
    refine ⟨hw.lt, hg, fun j u hu => ?_⟩
    have hj : j < xs.length := (List.getElem?_eq_some_iff.1 hu).1
    rw [hw.cell j, ← hu]
    rw [hl] at hj
    have hj' : j < n := by omega
    have := congrArg (fun l : List Value => l[j]?) h4
    simpa [List.getElem?_take, hj, hj'] using this
theorem own_below {w w' : World} {base : Nat} {e : TypeId} {size : Nat} {v : Value} {n : Nat} {xs : List Value} (h : w.ownsRow base e size v n xs) (hb : Below w.heap.size w w') : w'.ownsRow base e size v n xs := by
  obtain ⟨hl, h | ⟨g, cap, cur, hv, hg, hh, r⟩⟩ := h
  · exact ⟨hl, .inl h⟩
  · exact ⟨hl, .inr ⟨g, cap, cur, hv, hg, (hb.block g (Array.getElem?_eq_some_iff.1 hh).1).trans hh, r⟩⟩

theorem cell_grown {w w' : World} {row : Option Nat} {g i : Nat} (h : w.grownBy w' row) (hl : g < w.heap.size) (hn : row ≠ some g) : w'.cell? ⟨g, i, none⟩ = w.cell? ⟨g, i, none⟩ := by
  have h1 := h.block g hl (fun e => hn e.symm)
  simp only [World.cell?, h1]

end Go.Proofs.Ytcikimjpjebflaa

namespace Go.Proofs.Ytcikimjpjebflaa
open Go.RowKit

theorem own_room {w : World} {base n c : Nat} {e : TypeId} {A : Option Addr} {xs : List Value} (h : w.ownsRow base e 1 (.slice A n c) n xs) : n ≤ c := by
  rcases own_some h with ⟨-, rfl, rfl⟩ | ⟨g, -, h⟩
  · exact Nat.le_refl _
  · exact h

/-- The people before the k-th who are where the torch is. -/
def hereTo (bs : List Bool) (t : Bool) (k : Nat) : List Int := ((List.range k).filter (fun i => bs.getD i false == t)).map Int.ofNat
theorem here_yes {bs : List Bool} {t : Bool} {k : Nat} (h : (bs.getD k false == t) = true) : hereTo bs t (k + 1) = hereTo bs t k ++ [(k : Int)] := by
  simp only [hereTo, List.range_succ, List.filter_append, List.map_append, List.filter_cons, h]
  rfl
theorem here_no {bs : List Bool} {t : Bool} {k : Nat} (h : (bs.getD k false == t) = false) : hereTo bs t (k + 1) = hereTo bs t k := by
  simp only [hereTo, List.range_succ, List.filter_append, List.map_append, List.filter_cons, h]
  simp
theorem here_len (bs : List Bool) (t : Bool) (k : Nat) : (hereTo bs t k).length ≤ k := by
  have := List.length_filter_le (fun i => bs.getD i false == t) (List.range k)
  simpa [hereTo] using this

set_option maxHeartbeats 3200000 in
set_option maxRecDepth 100000 in
theorem atTorch_any (n : Nat) (bs : List Bool) (t : Bool) (w : World) (hn : n ≤ 8) :
    Calls Try.prog 165 #[.agg (placeCells bs t), .int .i64 n] w (OwnPost (hereTo bs t n) w) := by
  obtain ⟨i0, hi, hz0, hz1, hz2⟩ := info_parts info_int
  have HI := Lib.hid hi
  have HZ0 := Lib.hid hz0
  have HZ1 := Lib.hid hz1
  have HZ2 := Lib.hid hz2
  have h0 := Whole.fresh w 83 (placeCells bs t)
  have hbw := below1 w (.cells (placeCells bs t) 83)
  have HBW := Lib.hid hbw
  have HH0 := Lib.hid h0
  clear hi hz0 hz1 hz2 hbw h0
  go_enter Try.func165, Try.ntmps165
  go_wp2
  go_loopw [5, 8] (fun v i wr => ∃ (k : Nat) (E : Option Addr) (r : Nat), k ≤ n ∧ i = .int .i64 k ∧ v = .slice E (hereTo bs t k).length r ∧ wr.ownsRow (w.heap.size + 1) 3 1 (.slice E (hereTo bs t k).length r) (hereTo bs t k).length (nums (hereTo bs t k)) ∧ Below (w.heap.size + 1) (w.alloc (.cells (placeCells bs t) 83)) wr) (fun _ i _ => n - (intOf i).toNat)
  case atStart => exact ⟨0, none, 0, Nat.zero_le _, rfl, rfl, World.ownsRow_nil _ _ _ _, Below.refl _ _⟩
  case round =>
    obtain ⟨k, E, r, hk, rfl, rfl, hown, hb⟩ := hrel
    have hhl := here_len bs t k
    have h1 := HH0.out.below' hb (by omega)
    have ht8 := (h1.cell 8).trans (show (placeCells bs t)[8]? = some (.bool t) from rfl)
    have hs2 : w.heap.size + 1 ≤ wr.heap.size := by have := hb.size; simpa using this
    by_cases hlt : k < n
    · have hkc := (h1.cell k).trans (place_at bs t (by omega : k < 8))
      have hk8 : (k : Int) < 8 := by omega
      have hyes := here_yes (bs := bs) (t := t) (k := k)
      have hno := here_no (bs := bs) (t := t) (k := k)
      generalize bs.getD k false = x at hkc hyes hno
      have HOWN := Lib.hid hown
      have HB := Lib.hid hb
      clear hown hb h1
      by_cases hxt : x = t
      · subst hxt
        have HS := Lib.hid (hyes (by simp))
        have hxx : (x == x) = true := by simp
        have HLEN : Hid ((hereTo bs x (k + 1)).length = (hereTo bs x k).length + 1) := by show _ = _; rw [HS.out]; simp
        clear hyes hno
        go_wp2
        go_quiet (fail)
        rename_i nq
        have HOW := Lib.hid ((own_below HOWN.out (below_draws (Below.refl _ _) nq)).alloc (.cells #[.int .i64 k] 3))
        have HBB := Lib.hid ((below_draws HB.out nq).alloc (by simpa using hs2) (.cells #[.int .i64 k] 3))
        have HBASE := Lib.hid (show w.heap.size + 1 ≤ ((wr.drewN nq).alloc (.cells #[.int .i64 k] 3)).heap.size by simp; omega)
        have HMAX := Lib.hid (show (hereTo bs x k).length + 1 ≤ maxLen by unfold maxLen; omega)
        have HBYT := Lib.hid (show ((hereTo bs x k).length + 1) * 8 ≤ 140737488355328 by omega)
        go_wp2_with (at_builtin; refine wpList_append_own _ rfl (.tmp 19) (.tmp 21) 22 rfl (w.heap.size + 1) 3 i0 (.int .i64 0) 1 8 Try.underlying22 HI.out HZ0.out HZ1.out HZ2.out rfl (by decide) (.slice E (hereTo bs x k).length r) (hereTo bs x k).length (nums (hereTo bs x k)) rfl HOW.out ⟨wr.heap.size, 0, none⟩ 1 1 [.int .i64 k] rfl rfl (cell_one_new _ _ _) (by simp [Value.oneCell']) HMAX.out HBYT.out HBASE.out ?_; intro v' w2 hown1 hg1 _; obtain ⟨D', q', hv', -⟩ := Fresh.of_own hown1 (Nat.le_refl _); rw [hv'] at hown1 ⊢; clear hv')
        have HBN := Lib.hid (HBB.out.grown hg1 HBASE.out (fun kk e => (HOW.out.lt _ e).1))
        have HON := Lib.hid hown1
        clear hg1 hown1
        go_roundw
        case rel => exact ⟨k + 1, D', q', by omega, by go_num, by rw [HLEN.out], by rw [HLEN.out, HS.out, show nums (hereTo bs x k ++ [(k : Int)]) = nums (hereTo bs x k) ++ [.int .i64 k] by simp [nums]]; exact HON.out, HBN.out⟩
        case measure => simp [intOf]; omega
      · have HS := Lib.hid (hno (by simpa using hxt))
        have hxf : (x == t) = false := by simpa using hxt
        clear hyes hno
        go_wp2
        go_quiet (fail)
        rename_i nq
        have HOW := Lib.hid (own_below HOWN.out (below_draws (Below.refl _ _) nq))
        have HBB := Lib.hid (below_draws HB.out nq)
        go_wp2
        go_roundw
        case rel => exact ⟨k + 1, E, r, by omega, by go_num, by rw [HS.out], by rw [HS.out]; exact HOW.out, HBB.out⟩
        case measure => simp [intOf]; omega
    · obtain rfl : k = n := by omega
      have HO := Lib.hid (own_lower hown (base' := w.heap.size) (by omega))
      have HB := Lib.hid (HBW.out.trans (hb.mono (by omega)))
      clear hown hb
      go_wp2
      go_ret
      exact ⟨E, r, rfl, HO.out, HB.out⟩
end Go.Proofs.Ytcikimjpjebflaa

namespace Go.Proofs.Ytcikimjpjebflaa
open Go.RowKit

/-- The first n people. -/
def firsts (n : Nat) : List Int := (List.range n).map Int.ofNat
theorem firsts_len (n : Nat) : (firsts n).length = n := by simp [firsts]
theorem here_firsts (n : Nat) : hereTo [] false n = firsts n := by
  rw [hereTo, firsts]
  congr 1
  rw [List.filter_eq_self]
  intro x _
  rfl
/-- The lists of 1..m of the first n people, in order. -/
def upLists (n m : Nat) : List (List Int) := subs m (firsts n) []
theorem upLists_small {n m : Nat} (h : n ≤ 8) : (upLists n m).length ≤ 255 := subs_small (by rw [firsts_len]; exact h)
theorem steps_of {l : List Int} {hi : Int} (hp : l.Pairwise (· < ·)) (h0 : ∀ x ∈ l, 0 ≤ x ∧ x ≤ hi) : StepsTo l hi l.length := fun j hj => by
  have hm := h0 l[j] (List.getElem_mem hj)
  refine ⟨by rw [getD_at l hj]; exact hm.1, by rw [getD_at l hj]; exact hm.2, ?_⟩
  by_cases h : j = 0
  · exact .inl h
  · right
    rw [getD_at l hj, getD_at l (by omega)]
    exact List.pairwise_iff_getElem.1 hp (j - 1) j (by omega) hj (by omega)
theorem firsts_pair (n : Nat) : (firsts n).Pairwise (· < ·) := by
  rw [firsts, List.pairwise_map]
  exact List.pairwise_lt_range.imp (fun h => by simpa using h)
theorem firsts_mem {n : Nat} {x : Int} (h : x ∈ firsts n) : 0 ≤ x ∧ x ≤ (n : Int) - 1 := by
  obtain ⟨k, hk, rfl⟩ := List.mem_map.1 h
  have := List.mem_range.1 hk
  exact ⟨by simp, by simp; omega⟩
theorem up_steps {n m : Nat} {l : List Int} (h : l ∈ upLists n m) : StepsTo l ((n : Int) - 1) l.length ∧ 1 ≤ l.length ∧ l.length ≤ m := by
  obtain ⟨c, hc, hne, hs, hl⟩ := (subs_mem m (firsts n) [] l).1 h
  rw [List.nil_append] at hc
  subst hc
  exact ⟨steps_of ((firsts_pair n).sublist hs) (fun x hx => firsts_mem (hs.subset hx)), List.length_pos_iff.2 hne, hl⟩
theorem up_trip {n m : Nat} {l : List Int} (h : l ∈ upLists n m) : isTrip n m l = true := by
  obtain ⟨h1, h2, h3⟩ := up_steps h
  exact trip_yes (by omega) (by omega) h1

/-- What a call hands back that makes a list of crowds. -/
def CrowdsPost (ls : List (List Int)) (w : World) (e : Ending) (w' : World) : Prop :=
  ∃ (A : Option Addr) (c : Nat), e = .returned (.slice A ls.length c) ∧ w'.ownsRow w.heap.size 81 8 (.slice A ls.length c) ls.length (crowdsOf ls) ∧ Below w.heap.size w w'

set_option maxHeartbeats 3200000 in
set_option maxRecDepth 100000 in
theorem crowdsUpTo_any (n m : Nat) (w : World) (hn : n ≤ 8) (hm : m ≤ 8) :
    Calls Try.prog 142 #[.int .i64 n, .int .i64 m] w (CrowdsPost (upLists n m) w) := by
  obtain ⟨i0, hi, hz0, hz1, hz2⟩ := info_parts info_crowd
  have HI := Lib.hid hi
  have HZ0 := Lib.hid hz0
  have HZ1 := Lib.hid hz1
  have HZ2 := Lib.hid hz2
  have HF := Lib.hid (here_firsts n)
  have HLN := Lib.hid (firsts_len n)
  have HSM := Lib.hid (upLists_small (m := m) hn)
  have HTR : Hid (∀ l ∈ upLists n m, isTrip n m l = true) := fun l h => up_trip h
  clear hi hz0 hz1 hz2
  go_enter Try.func142, Try.ntmps142
  go_wp2_with fail
  refine (atTorch_any n [] false w hn).mono ?_
  rintro e w1 ⟨A1, c1, rfl, hown1, hb1⟩
  rw [HF.out, HLN.out] at hown1 ⊢
  go_wp2_with fail
  refine (listsFrom_any m hm 9 none A1 0 0 n c1 [] (firsts n) w1 (by rw [HLN.out]; omega) (Nat.le_refl _) (Holds.empty _ _) (holds_of_own hown1) rfl HLN.out (own_room hown1) (fun _ => ⟨rfl, rfl⟩)).mono ?_
  rintro e w2 ⟨A2, c2, rs, rfl, hr, hn2, hs2, hh, hb2⟩
  have hb0 : Below w.heap.size w w2 := below_then hb1 hb2 hb1.size
  have hG := hh.free.grid
  have HR : Hid (rowNums rs = upLists n m) := hr
  have HRL : Hid (rs.length = (upLists n m).length) := by show _ = _; rw [← HR.out, rowNums_len]
  have HB0 := Lib.hid hb0
  have hw12 : w1.heap.size ≤ w2.heap.size := hb2.size
  have hw01 : w.heap.size ≤ w1.heap.size := hb1.size
  clear hown1 hb1 hb2 hr hn2 hs2 hh hb0
  go_wp2
  go_loopw [5, 16] (fun v i wr => ∃ (k : Nat) (T : Option Addr) (r : Nat), k ≤ rs.length ∧ i = .int .i64 k ∧ v = .slice T k r ∧ wr.ownsRow w2.heap.size 81 8 (.slice T k r) k (crowdsOf ((rowNums rs).take k)) ∧ Below w2.heap.size w2 wr) (fun _ i _ => rs.length - (intOf i).toNat)
  case atStart => exact ⟨0, none, 0, Nat.zero_le _, rfl, rfl, World.ownsRow_nil _ _ _ _, Below.refl _ _⟩
  case round =>
    obtain ⟨k, T, r, hk, rfl, rfl, hown, hb⟩ := hrel
    have HOWN := Lib.hid hown
    clear hown
    by_cases hlt : k < rs.length
    · have hkl : k < (rowNums rs).length := by rw [rowNums_len]; exact hlt
      obtain ⟨b1, o1, rfl, hbl1, hc, hok⟩ := (hG.below hb).look hlt
      have hget := rowNums_get hlt
      have HTK : Hid (isTrip n m rs[k].xs = true) := HTR.out _ (by rw [← HR.out, ← hget]; exact List.getElem_mem hkl)
      have hcn := crowdsOf_next hkl
      rw [hget] at hcn
      have HCN := Lib.hid hcn
      have hk255 : k ≤ 255 := by have := HSM.out; have := HRL.out; omega
      clear hget hcn
      go_wp2_with fail
      refine (crowdOf_any _ n _ _ rs[k].xs m _ hok.1 hok.2.1 hok.2.2 hn).mono ?_
      rintro e1 w3 ⟨⟨ht, rfl⟩ | ⟨ht, rfl⟩, hb3⟩
      · have HBB := Lib.hid (((below_then hb hb3 hb.size).alloc (below_then hb hb3 hb.size).size (.cells (crowdCells rs[k].xs) 81)).alloc (Nat.le_trans (below_then hb hb3 hb.size).size (by simp)) (.cells (crowdCells rs[k].xs) 81))
        have HOW := Lib.hid (((ownsRow_below HOWN.out hb3).alloc (.cells (crowdCells rs[k].xs) 81)).alloc (.cells (crowdCells rs[k].xs) 81))
        have hnew := cells_new (w3.alloc (.cells (crowdCells rs[k].xs) 81)) 81 (crowdCells rs[k].xs)
        rw [World.size_alloc] at hnew
        have HNEW := Lib.hid hnew
        have HONE := Lib.hid (crowd_ones rs[k].xs)
        have HMAX := Lib.hid (show k + 1 ≤ maxLen by unfold maxLen; omega)
        have HBYT := Lib.hid (show (k + 1) * 8 ≤ 140737488355328 by omega)
        have HBASE := Lib.hid (show w2.heap.size ≤ ((w3.alloc (.cells (crowdCells rs[k].xs) 81)).alloc (.cells (crowdCells rs[k].xs) 81)).heap.size by have := (below_then hb hb3 hb.size).size; simp; omega)
        clear ht hb hb3 hok hc hnew
        unfold crowdCells at HNEW HONE HOW HBASE HBB
        unfold crowdCells
        go_wp2_with (at_builtin; refine wpList_append_own _ rfl (.tmp 28) (.tmp 30) 123 rfl w2.heap.size 81 i0 (.agg #[.bool false, .bool false, .bool false, .bool false, .bool false, .bool false, .bool false, .bool false]) 8 8 Try.underlying123 HI.out HZ0.out HZ1.out HZ2.out rfl (by decide) (.slice T k r) k (crowdsOf ((rowNums rs).take k)) rfl HOW.out ⟨w3.heap.size + 1, 0, none⟩ 1 1 [.bool (has rs[k].xs 0), .bool (has rs[k].xs 1), .bool (has rs[k].xs 2), .bool (has rs[k].xs 3), .bool (has rs[k].xs 4), .bool (has rs[k].xs 5), .bool (has rs[k].xs 6), .bool (has rs[k].xs 7)] rfl rfl HNEW.out HONE.out HMAX.out HBYT.out HBASE.out ?_; intro v' w4 hown1 hg1 _; obtain ⟨g2, e2, hv2⟩ := own_form hown1; subst hv2)
        have hbb2 := HBB.out.grown hg1 HBASE.out (fun kk x => by have := (HOW.out.lt _ x).1; omega)
        have hown2 : w4.ownsRow w2.heap.size 81 8 (.slice (some ⟨g2, 0, none⟩) (k + 1) e2) (k + 1) (crowdsOf ((rowNums rs).take (k + 1))) := by rw [← HCN.out]; exact hown1
        have HO2 := Lib.hid hown2
        clear hown1 hown2 hg1
        go_roundw
        case rel => exact ⟨k + 1, _, e2, by omega, by go_num, rfl, HO2.out, hbb2⟩
        case measure => simp [intOf]; omega
      · rw [HTK.out] at ht; cases ht
    · obtain rfl : k = rs.length := by omega
      have HO := Lib.hid (own_lower HOWN.out (base' := w.heap.size) (by omega))
      have HBB := Lib.hid (below_then HB0.out hb (by omega))
      go_wp2
      go_ret
      refine ⟨T, r, by rw [HRL.out]; rfl, ?_, HBB.out⟩
      have h := HO.out
      rw [List.take_of_length_le (by rw [rowNums_len]; exact Nat.le_refl _), HR.out, HRL.out] at h
      rw [← HRL.out] at h ⊢
      exact h
end Go.Proofs.Ytcikimjpjebflaa

namespace Go.Proofs.Ytcikimjpjebflaa
open Go.RowKit

theorem crowdsOf_get : ∀ (ls : List (List Int)) (i j : Nat) (hi : i < ls.length), j < 8 → (crowdsOf ls)[i * 8 + j]? = some (.bool (has ls[i] j))
  | [], i, j, hi, _ => by simp at hi
  | l :: r, 0, j, hi, hj => by
    rw [show crowdsOf (l :: r) = (crowdCells l).toList ++ crowdsOf r from rfl, Nat.zero_mul, Nat.zero_add, List.getElem?_append_left (by simp [crowdCells]; omega)]
    have := crowd_at l hj
    simpa using this
  | l :: r, i + 1, j, hi, hj => by
    have ih := crowdsOf_get r i j (by simpa using hi) hj
    rw [show crowdsOf (l :: r) = (crowdCells l).toList ++ crowdsOf r from rfl, List.getElem?_append_right (by simp [crowdCells]; omega)]
    rw [show (i + 1) * 8 + j - (crowdCells l).toList.length = i * 8 + j by simp [crowdCells]; omega]
    simpa using ih
/-- The cells of a crowd in a list of crowds. -/
theorem crowds_row {w : World} {lo n c : Nat} {A : Option Addr} {ls : List (List Int)} (h : w.ownsRow lo 81 8 (.slice A n c) n (crowdsOf ls)) (hl : ls.length = n) {i : Nat} (hi : i < ls.length) :
    ∃ g, A = some ⟨g, 0, none⟩ ∧ g < w.heap.size ∧ w.cell? ⟨g, i * 8, none⟩ = some (.bool (has ls[i] 0)) ∧ w.cell? ⟨g, i * 8 + 1, none⟩ = some (.bool (has ls[i] 1)) ∧ w.cell? ⟨g, i * 8 + 2, none⟩ = some (.bool (has ls[i] 2)) ∧ w.cell? ⟨g, i * 8 + 3, none⟩ = some (.bool (has ls[i] 3)) ∧
      w.cell? ⟨g, i * 8 + 4, none⟩ = some (.bool (has ls[i] 4)) ∧ w.cell? ⟨g, i * 8 + 5, none⟩ = some (.bool (has ls[i] 5)) ∧ w.cell? ⟨g, i * 8 + 6, none⟩ = some (.bool (has ls[i] 6)) ∧ w.cell? ⟨g, i * 8 + 7, none⟩ = some (.bool (has ls[i] 7)) := by
  have hx := h
  obtain ⟨-, ⟨-, h0⟩ | ⟨g, cap, cur, hv, -, hh, -⟩⟩ := hx
  · omega
  · obtain ⟨rfl, rfl⟩ : A = some ⟨g, 0, none⟩ ∧ c = cap := by simpa using hv
    have hg : g < w.heap.size := (Array.getElem?_eq_some_iff.1 hh).1
    have hc : ∀ j, j < 8 → w.cell? ⟨g, i * 8 + j, none⟩ = some (.bool (has ls[i] j)) := fun j hj => (h.cellAt (i * 8 + j) (by omega)).trans (crowdsOf_get ls i j hi hj)
    exact ⟨g, rfl, hg, hc 0 (by omega), hc 1 (by omega), hc 2 (by omega), hc 3 (by omega), hc 4 (by omega), hc 5 (by omega), hc 6 (by omega), hc 7 (by omega)⟩

/-- Twice how many crowds of a list are calm, and the rest too. -/
def twice (k : Nat) : List (List Int) → Nat
  | [] => 0
  | l :: r => (if quiet k (has l) then 2 else 0) + twice k r
theorem twice_snoc (k : Nat) (x : List Int) : ∀ ls, twice k (ls ++ [x]) = twice k ls + (if quiet k (has x) then 2 else 0)
  | [] => by simp [twice]
  | l :: r => by rw [List.cons_append, twice, twice, twice_snoc k x r]; omega
theorem twice_le (k : Nat) : ∀ ls, twice k ls ≤ 2 * ls.length
  | [] => by simp [twice]
  | l :: r => by have := twice_le k r; rw [twice, List.length_cons]; split <;> omega
theorem twice_no {k i : Nat} {ls : List (List Int)} (hi : i < ls.length) (h : quiet k (has ls[i]) = false) : (twice k (ls.take (i + 1)) : Int) = twice k (ls.take i) := by
  rw [List.take_succ_eq_append_getElem hi, twice_snoc, h]; simp
theorem twice_yes {k i : Nat} {ls : List (List Int)} (hi : i < ls.length) (h : quiet k (has ls[i]) = true) : (twice k (ls.take (i + 1)) : Int) = twice k (ls.take i) + 2 := by
  rw [List.take_succ_eq_append_getElem hi, twice_snoc, h]; simp
/-- Both counts are one. -/
theorem count_same (k : Nat) (h1 : 1 ≤ k) (h4 : k ≤ 4) : calmTo k (2 * 2 ^ (2 * k)) = twice k (upLists (2 * k) (2 * k)) := by
  have h : k = 1 ∨ k = 2 ∨ k = 3 ∨ k = 4 := by omega
  rcases h with rfl | rfl | rfl | rfl <;> decide +kernel

end Go.Proofs.Ytcikimjpjebflaa

namespace Go.Proofs.Ytcikimjpjebflaa
open Go.RowKit

theorem whole_grown {w w' : World} {lo q : Nat} {ty : TypeId} {cs : Array Value} {row : Option Nat} (h : Whole w q ty cs) (hg : w.grownBy w' row) (hr : ∀ x, row = some x → lo ≤ x) (hq : q < lo) : Whole w' q ty cs :=
  (hg.block q h.lt (fun e => absurd (hr q e.symm) (by omega))).trans h
/-- The calm groups among some lists. -/
def grpOf (k : Nat) (ls : List (List Int)) : List (List Int) := ls.filter (fun l => calm k (has l))
theorem grp_no {k j : Nat} {ls : List (List Int)} (hj : j < ls.length) (h : calm k (has ls[j]) = false) : grpOf k (ls.take (j + 1)) = grpOf k (ls.take j) := by
  rw [List.take_succ_eq_append_getElem hj, grpOf, List.filter_append, grpOf]; simp [h]
theorem grp_yes {k j : Nat} {ls : List (List Int)} (hj : j < ls.length) (h : calm k (has ls[j]) = true) : grpOf k (ls.take (j + 1)) = grpOf k (ls.take j) ++ [ls[j]] := by
  rw [List.take_succ_eq_append_getElem hj, grpOf, List.filter_append, grpOf]; simp [h]
theorem grp_len (k : Nat) (ls : List (List Int)) : (grpOf k ls).length ≤ ls.length := List.length_filter_le _ _
theorem crowdsOf_snoc (ls : List (List Int)) (x : List Int) : crowdsOf (ls ++ [x]) = crowdsOf ls ++ (crowdCells x).toList := by simp [crowdsOf]

/-- The groups of a company. -/
def groupsOf (k q : Nat) : List (List Int) := grpOf k (upLists (2 * k) q)
def CalmCrowdsPost (k q : Nat) (w : World) (e : Ending) (w' : World) : Prop :=
  ∃ (A : Option Addr) (c g : Nat), e = .returned (.slice A (groupsOf k q).length c) ∧ w'.ownsRow g 81 8 (.slice A (groupsOf k q).length c) (groupsOf k q).length (crowdsOf (groupsOf k q)) ∧ Below w.heap.size w w'

set_option maxHeartbeats 6400000 in
set_option maxRecDepth 100000 in
set_option linter.unusedSimpArgs false in
theorem calmCrowds_any (k q : Nat) (w : World) (hk : k ≤ 4) (hq4 : q ≤ 4) :
    Calls Try.prog 159 #[.int .i64 k, .int .i64 q] w (CalmCrowdsPost k q w) := by
  obtain ⟨i0, hi, hz0, hz1, hz2⟩ := info_parts info_crowd
  have HI := Lib.hid hi
  have HZ0 := Lib.hid hz0
  have HZ1 := Lib.hid hz1
  have HZ2 := Lib.hid hz2
  have HSM := Lib.hid (upLists_small (n := 2 * k) (m := q) (by omega))
  clear hi hz0 hz1 hz2
  go_enter Try.func159, Try.ntmps159
  go_wp2_with fail
  refine (calmGroups_any _ _).mono ?_
  rintro e w2 ⟨rfl, rfl⟩
  have hQ := Whole.fresh w 3 #[.int .i64 k]
  have ht := below1 w (.cells #[.int .i64 k] 3)
  generalize World.alloc w (.cells #[.int .i64 k] 3) = wa at hQ ht ⊢
  go_wp2_with fail
  have hu := crowdsUpTo_any (2 * k) q wa (by omega) (by omega)
  rw [show ((2 * k : Nat) : Int) = 2 * (k : Int) by omega] at hu
  refine hu.mono ?_
  clear hu
  rintro e w3 ⟨A, c, rfl, hown, hb⟩
  generalize hls : upLists (2 * k) q = ls at HSM hown
  have HLS := Lib.hid hls
  replace ht := below_then ht hb ht.size
  replace hQ := hQ.below hb
  have hq0 := hQ.lt
  have HQ0 := Lib.hid hQ
  have HS0 := Lib.hid hown
  have HT0 := Lib.hid ht
  have hl := HSM.out
  clear hb ht hQ hown hls
  go_wp2
  go_loopw [6, 16] (fun v i wr => ∃ (j : Nat) (T : Option Addr) (r : Nat), j ≤ ls.length ∧ i = .int .i64 j ∧ v = .slice T (grpOf k (ls.take j)).length r ∧ Whole wr w.heap.size 3 #[.int .i64 k] ∧ wr.ownsRow wa.heap.size 81 8 (.slice A ls.length c) ls.length (crowdsOf ls) ∧ wr.ownsRow w3.heap.size 81 8 (.slice T (grpOf k (ls.take j)).length r) (grpOf k (ls.take j)).length (crowdsOf (grpOf k (ls.take j))) ∧ Below w.heap.size w wr ∧ w3.heap.size ≤ wr.heap.size) (fun _ i _ => ls.length - (intOf i).toNat)
  case atStart => exact ⟨0, none, 0, Nat.zero_le _, rfl, rfl, HQ0.out, HS0.out, World.ownsRow_nil _ _ _ _, HT0.out, Nat.le_refl _⟩
  case round =>
    clear HQ0 HT0
    obtain ⟨j, T, r, hj, rfl, rfl, hR, hS, hO, ht, hws⟩ := hrel
    have hgl := grp_len k (ls.take j)
    have htk : (ls.take j).length ≤ 255 := by rw [List.length_take]; omega
    by_cases hlt : j < ls.length
    · obtain ⟨gs, rfl, hgsl, a0, a1, a2, a3, a4, a5, a6, a7⟩ := crowds_row hS rfl hlt
      have hgs3 := (HS0.out.lt gs rfl).2
      have hd : decide ((j : Int) < (ls.length : Int)) = true := by simp; omega
      have HR := Lib.hid (hR.alloc (.cells (cells8 (has ls[j])) 81))
      have HS := Lib.hid (hS.alloc (.cells (cells8 (has ls[j])) 81))
      have HO := Lib.hid (hO.alloc (.cells (cells8 (has ls[j])) 81))
      have HT := Lib.hid (ht.alloc ht.size (.cells (cells8 (has ls[j])) 81))
      have HX := Lib.hid (Whole.fresh wr 81 (cells8 (has ls[j])))
      clear hR hS hO ht
      cases hq : calm k (has ls[j])
      · have HN := Lib.hid (grp_no hlt hq)
        have HQ := Lib.hid hq
        clear hq
        generalize ls[j] = l at a0 a1 a2 a3 a4 a5 a6 a7 HQ HR HS HO HT HX
        go_wp2_with fail
        refine (calmClosure_any k w.heap.size (has l) _ hk (by exact HR.out.cell 0) HR.out.lt).mono ?_
        rintro e w5 ⟨rfl, hb⟩
        rw [HQ.out]
        have hsz : w3.heap.size ≤ w5.heap.size := by have := hb.size; simp at this; omega
        have K1 := Lib.hid (HR.out.below hb)
        have K3 := Lib.hid (ownsRow_below HS.out hb)
        have K4 := Lib.hid (ownsRow_below HO.out hb)
        have K5 := Lib.hid (below_then HT.out hb HT.out.size)
        clear hb a0 a1 a2 a3 a4 a5 a6 a7
        go_wp2
        go_roundw
        case rel => exact ⟨j + 1, T, r, by omega, by go_num, by rw [HN.out], K1.out, K3.out, by rw [HN.out]; exact K4.out, K5.out, hsz⟩
        case measure => simp [intOf]; omega
      · have HN := Lib.hid (grp_yes hlt hq)
        have HQ := Lib.hid hq
        clear hq
        generalize hm : grpOf k (ls.take j) = gr at hgl HN HO
        have HMG := Lib.hid hm
        clear hm
        generalize ls[j] = l at a0 a1 a2 a3 a4 a5 a6 a7 HQ HR HS HO HT HX HN
        go_wp2_with fail
        refine (calmClosure_any k w.heap.size (has l) _ hk (by exact HR.out.cell 0) HR.out.lt).mono ?_
        rintro e w5 ⟨rfl, hb⟩
        rw [HQ.out]
        have hsz : w3.heap.size ≤ w5.heap.size := by have := hb.size; simp at this; omega
        have HX5 := HX.out.below hb
        obtain ⟨b0, b1, b2, b3, b4, b5, b6, b7⟩ := cells8_cells HX5
        have K1 := Lib.hid ((HR.out.below hb).alloc (.cells (crowdCells l) 81))
        have K3 := Lib.hid ((ownsRow_below HS.out hb).alloc (.cells (crowdCells l) 81))
        have K4 := Lib.hid ((ownsRow_below HO.out hb).alloc (.cells (crowdCells l) 81))
        have K5 := Lib.hid ((below_then HT.out hb HT.out.size).alloc (below_then HT.out hb HT.out.size).size (.cells (crowdCells l) 81))
        have HNEW := Lib.hid (cells_new w5 81 (crowdCells l))
        have HONE := Lib.hid (crowd_ones l)
        have HMAX := Lib.hid (show gr.length + 1 ≤ maxLen by unfold maxLen; omega)
        have HBYT := Lib.hid (show (gr.length + 1) * 8 ≤ 140737488355328 by omega)
        have HBASE := Lib.hid (show w3.heap.size ≤ (w5.alloc (.cells (crowdCells l) 81)).heap.size by simp; omega)
        have HLEN := Lib.hid (show (gr ++ [l]).length = gr.length + 1 by simp)
        clear hb a0 a1 a2 a3 a4 a5 a6 a7 HX5
        unfold crowdCells at HNEW HONE HBASE K1 K3 K4 K5
        go_wp2_with (at_builtin; refine wpList_append_own _ rfl (.tmp 23) (.tmp 25) 123 rfl w3.heap.size 81 i0 (.agg #[.bool false, .bool false, .bool false, .bool false, .bool false, .bool false, .bool false, .bool false]) 8 8 Try.underlying123 HI.out HZ0.out HZ1.out HZ2.out rfl (by decide) (.slice T gr.length r) gr.length (crowdsOf gr) rfl K4.out ⟨w5.heap.size, 0, none⟩ 1 1 [.bool (has l 0), .bool (has l 1), .bool (has l 2), .bool (has l 3), .bool (has l 4), .bool (has l 5), .bool (has l 6), .bool (has l 7)] rfl rfl HNEW.out HONE.out HMAX.out HBYT.out HBASE.out ?_; intro v' w6 hown1 hg1 _; obtain ⟨g2, e2, hv2⟩ := own_form hown1; subst hv2; have hrr : ∀ x, (Value.slice T gr.length r).ownBlock = some x → w3.heap.size ≤ x := fun x hx => (K4.out.lt x hx).1; have L1 := Lib.hid (whole_grown K1.out hg1 hrr hq0); have L3 := Lib.hid (K3.out.kept hg1 (.inr (fun e => by have := hrr gs (e ▸ rfl); omega))); have L5 := Lib.hid (K5.out.grown hg1 (by have := K5.out.size; omega) (fun x hx => by have := hrr x hx; omega)))
        have hs6 := hg1.size
        have L4 := Lib.hid hown1
        have hs7 : w3.heap.size ≤ w6.heap.size := by simp at hs6; omega
        clear hown1 hg1 hs6 hrr
        go_roundw
        case rel => exact ⟨j + 1, some ⟨g2, 0, none⟩, e2, by omega, by go_num, by rw [HN.out, HLEN.out], L1.out, L3.out, by rw [HN.out, HLEN.out, crowdsOf_snoc]; exact L4.out, L5.out, hs7⟩
        case measure => simp [intOf]; omega
    · obtain rfl : j = ls.length := by omega
      have hd : decide ((ls.length : Int) < (ls.length : Int)) = false := by simp
      rw [List.take_length] at hO hgl ⊢
      have HGS : Hid (grpOf k ls = groupsOf k q) := by show _ = _; rw [groupsOf, HLS.out]
      have HO := Lib.hid hO
      have HT := Lib.hid ht
      clear hR hS hO ht
      go_wp2
      go_ret
      exact ⟨T, r, w3.heap.size, by rw [← HGS.out]; rfl, by rw [← HGS.out]; exact HO.out, HT.out⟩
end Go.Proofs.Ytcikimjpjebflaa
