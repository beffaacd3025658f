/-
  What is proved: strings.Join in this program's numbers: the texts with a sign between them. Conditions: the texts lie below the call's own blocks; the whole has fewer than 2^47 bytes.
  What is proved: strconv.Itoa in this program's numbers: a number as its digits. Conditions: as each says.
  What is proved: what the texts of parties, nights, keeps, crews and puzzles are made of: numbers as digits, words with a sign between them. Conditions: none.
  What is proved: the table of powers of ten lies on in later worlds; a number as its digits, of the program and of the model, in this program's numbers. Conditions: the table lies as its initialiser lays it (the program); the number is not negative and below a million (the model).
  What is proved: contracts of PartyText, of the model and of the program. Conditions: the times are read as they lie; the table of powers of ten lies as told (the program).
  What is proved: the contract of the program's PartyText. Conditions: the times are read as they lie; the table of powers of ten lies as told.
  What is proved: the law FnExactPartyText returns true at every argument, and leaves all that was there as it was. Conditions: the arguments are read as they lie.
-/
import Derived.Shelf.Strconv.Itoa3
import Derived.Test.YtedkanncdkofaaaDoorProg
import Derived.Lib.ItoaMem
import Derived.Lib.Join
import Derived.Lib.SmallJoins
import Derived.Lib.AppendIntMem
import Derived.Deep.RegionHeld3
import Derived.Laws.Concat
import Derived.Test.YtedkanncdkofaaaDoorJ1PartyText
set_option linter.unusedSimpArgs false
set_option linter.unusedVariables false
namespace Go.Proofs.YtedkanncdkofaaaDoor
open Go.RowKit

/-- A text as a string. -/
abbrev strOf (l : List UInt8) : ByteArray := ⟨l.toArray⟩
/-- Texts in cells. -/
def strs (xs : List (List UInt8)) : List Value := xs.map fun x => .string (strOf x)
theorem strs_len (xs : List (List UInt8)) : (strs xs).length = xs.length := by simp [strs]
theorem strOf_size (l : List UInt8) : (strOf l).size = l.length := by simp [ByteArray.size]
theorem strOf_list (l : List UInt8) : (strOf l).data.toList = l := by simp
/-- What a call hands back that makes a text. -/
def StrPost (l : List UInt8) (w : World) (e : Ending) (w' : World) : Prop := e = .returned (.string (strOf l)) ∧ Below w.heap.size w w'

set_option maxRecDepth 100000 in
theorem join_none (a : Option Addr) (c : Nat) (sep : List UInt8) (w : World) :
    Calls Tryd.prog 64 #[.slice a 0 c, .string (strOf sep)] w (StrPost [] w) := by
  go_enter Tryd.func64, Tryd.ntmps64
  go_wp2
  go_ret
  exact ⟨rfl, Below.refl _ _⟩
set_option maxRecDepth 100000 in
theorem join_one (bk o c : Nat) (x sep : List UInt8) (w : World) (hc : w.cell? ⟨bk, o, none⟩ = some (.string (strOf x))) :
    Calls Tryd.prog 64 #[.slice (some ⟨bk, o, none⟩) 1 c, .string (strOf sep)] w (StrPost x w) := by
  go_enter Tryd.func64, Tryd.ntmps64
  go_wp2
  go_ret
  exact ⟨rfl, Below.refl _ _⟩

/-- What a builder holds behind k rounds of Join's second loop. -/
def joinUp (x : List UInt8) (r : List (List UInt8)) (sep : List UInt8) (k : Nat) : List UInt8 := x ++ Lib.joinTail sep (r.take k)
theorem joinUp_end (x : List UInt8) (r : List (List UInt8)) (sep : List UInt8) : joinUp x r sep r.length = Lib.join (x :: r) sep := by
  rw [joinUp, List.take_of_length_le (Nat.le_refl _), Lib.join_cons]
theorem joinUp_next (x : List UInt8) (r : List (List UInt8)) (sep : List UInt8) (k : Nat) (y : List UInt8) (h : r[k]? = some y) : joinUp x r sep (k + 1) = joinUp x r sep k ++ sep ++ y := by
  rw [joinUp, Lib.joinTail_take_succ sep r k y h, joinUp]
  simp [List.append_assoc]
theorem joinUp_le (x : List UInt8) (r : List (List UInt8)) (sep : List UInt8) (k : Nat) : (joinUp x r sep k).length ≤ (Lib.join (x :: r) sep).length := by
  rw [joinUp, Lib.join_cons, List.length_append, List.length_append]
  have := Lib.joinTail_take_le sep r k
  omega

set_option maxHeartbeats 4000000 in
set_option maxRecDepth 100000 in
theorem join_many (bk o c n : Nat) (x0 : List UInt8) (r : List (List UInt8)) (s : UInt8) (w : World)
    (hcells : ∀ (j : Nat) x, (x0 :: r)[j]? = some x → w.cell? ⟨bk, o + j, none⟩ = some (.string (strOf x)))
    (hbk : bk < w.heap.size) (hn : n = r.length + 1) (h2 : 2 ≤ n) (hN : n ≤ 1048576) (hcap : n ≤ c)
    (hlen : (Lib.join (x0 :: r) [s]).length ≤ 1073741824) :
    Calls Tryd.prog 64 #[.slice (some ⟨bk, o, none⟩) n c, .string (strOf [s])] w (StrPost (Lib.join (x0 :: r) [s]) w) := by
  have HC := Lib.hid hcells
  have HLE := Lib.hid (fun k => Nat.le_trans (joinUp_le x0 r [s] k) hlen)
  have hsum : Lib.lens (x0 :: r) + (n - 1) ≤ 1073741824 := by
    have := Lib.join_length x0 r [s]
    rw [this] at hlen
    simp only [List.length_singleton, Nat.one_mul] at hlen
    omega
  have HS := Lib.hid hsum
  have HN := Lib.hid hn
  have hdv : ¬ (9223372036854775807 / ((n : Int) - 1) ≤ (1 : Int)) := by
    intro h
    have h3 : 9223372036854775807 / ((n : Int) - 1) * ((n : Int) - 1) + 9223372036854775807 % ((n : Int) - 1) = 9223372036854775807 := Int.ediv_mul_add_emod _ _
    have h4 : 9223372036854775807 % ((n : Int) - 1) < (n : Int) - 1 := Int.emod_lt_of_pos _ (by omega)
    have h5 : 9223372036854775807 / ((n : Int) - 1) * ((n : Int) - 1) ≤ 1 * ((n : Int) - 1) := Int.mul_le_mul_of_nonneg_right h (by omega)
    omega
  have hne0 : ((n : Int) == 0) = false := beq_eq_false_iff_ne.2 (by omega)
  have hne1 : ((n : Int) == 1) = false := beq_eq_false_iff_ne.2 (by omega)
  have hsz : ((strOf [s]).size : Int) = 1 := rfl
  clear hcells hlen hsum hn
  go_enter Tryd.func64, Tryd.ntmps64
  go_wp2_with fail
  go_loop [5, 41] (fun v i => ∃ k : Nat, k ≤ n ∧ i = .int .i64 k ∧ v = .int .i64 ((n : Int) - 1 + (Lib.lens ((x0 :: r).take k) : Nat))) (fun _ i => n - (intOf i).toNat)
  case atStart => exact ⟨0, Nat.zero_le _, rfl, by simp [Lib.lens]⟩
  case round =>
    obtain ⟨k, hk, rfl, rfl⟩ := hrel
    by_cases hkn : k < n
    · obtain ⟨x, hx⟩ : ∃ x, (x0 :: r)[k]? = some x := ⟨_, List.getElem?_eq_getElem (by have := HN.out; simp; omega)⟩
      have hc := HC.out k x hx
      have hstep := Lib.lens_take_succ (x0 :: r) k x hx
      have hbound : Lib.lens ((x0 :: r).take (k + 1)) ≤ Lib.lens (x0 :: r) := Lib.lens_take_le _ _
      have hS := HS.out
      have hxs : ((strOf x).size : Int) = (x.length : Nat) := by rw [strOf_size]
      generalize hA1 : Lib.lens ((x0 :: r).take (k + 1)) = A1 at hstep hbound
      generalize Lib.lens ((x0 :: r).take k) = A0 at hstep
      generalize Lib.lens (x0 :: r) = A2 at hbound hS
      have HA1 := Lib.hid hA1
      have HX := Lib.hid hx
      clear hA1 hx
      go_wp2
      go_round
      case rel => exact ⟨k + 1, by omega, by go_num, by rw [HA1.out]; refine congrArg _ ?_; omega⟩
      case measure => simp [intOf]; omega
    · obtain rfl : k = n := by omega
      have hall : (x0 :: r).take k = x0 :: r := List.take_of_length_le (by have := HN.out; simp; omega)
      have hS := HS.out
      rw [hall]
      clear hall
      obtain ⟨T, hT⟩ : ∃ T : Nat, T = k - 1 + Lib.lens (x0 :: r) := ⟨_, rfl⟩
      have hTT : ((k : Int) - 1 + (Lib.lens (x0 :: r) : Nat)) = (T : Int) := by omega
      rw [hTT]
      have HT := Lib.hid (show T ≤ 1073741824 by omega)
      clear hTT hT hS
      go_wp2_with fail
      refine (growB_fresh w.heap.size w.heap.size T _ (Nat.le_refl _) (heap_alloc_new w _) (by simp) (by have := HT.out; omega)).mono ?_
      rintro e w1 ⟨rfl, h1, hb1⟩
      have hb1' : Below w.heap.size w w1 := ((Below.refl w.heap.size w).alloc (Nat.le_refl _) _).trans hb1
      have hc0 : w1.cell? ⟨bk, o, none⟩ = some (.string (strOf x0)) := by
        rw [hb1'.cell (p := ⟨bk, o, none⟩) hbk]
        exact HC.out 0 x0 rfl
      have H1 := Lib.hid h1
      have Hb1 := Lib.hid hb1'
      have hBw1 := hb1'.size
      clear h1 hb1 hb1'
      go_wp2_with fail
      refine (writeString_any w.heap.size w.heap.size [] (strOf x0) w1 H1.out (by have := HLE.out 0; rw [strOf_size]; simp [joinUp, Lib.joinTail] at this ⊢; omega) hBw1).mono ?_
      rintro e w2 ⟨rfl, h2', hb2⟩
      have hstart : ([] : List Value) ++ Lib.strCells (strOf x0) = Lib.byteCells (joinUp x0 r [s] 0) := by
        rw [Lib.strCells_eq, strOf_list]
        simp [joinUp, Lib.joinTail]
      rw [hstart] at h2'
      have H2 := Lib.hid h2'
      have Hb2 := Lib.hid (Hb1.out.trans hb2)
      have hBw2 := Hb2.out.size
      clear h2' hb2 hstart hc0
      go_wp2_with fail
      have HR := Lib.hid (show r.length = k - 1 by have := HN.out; omega)
      go_loopw [65] (fun i wr => ∃ j : Nat, j + 1 ≤ k ∧ i = .int .i64 j ∧ Built w.heap.size w.heap.size (Lib.byteCells (joinUp x0 r [s] j)) wr ∧ Below w.heap.size w wr) (fun i _ => k - 1 - (intOf i).toNat)
      case atStart => exact ⟨0, by omega, rfl, H2.out, Hb2.out⟩
      case round =>
        obtain ⟨j, hj, rfl, hB, hW⟩ := hrel
        have hBw := hW.size
        by_cases hjr : j < k - 1
        · obtain ⟨y, hy⟩ : ∃ y, r[j]? = some y := ⟨_, List.getElem?_eq_getElem (by have := HR.out; omega)⟩
          have hcy : wr.cell? ⟨bk, o + 1 + j, none⟩ = some (.string (strOf y)) := by
            rw [hW.cell (p := ⟨bk, o + 1 + j, none⟩) hbk, show o + 1 + j = o + (j + 1) by omega]
            exact HC.out (j + 1) y (by simpa using hy)
          have hnx := joinUp_next x0 r [s] j y hy
          have hl1 := HLE.out (j + 1)
          rw [hnx, List.length_append, List.length_append] at hl1
          simp only [List.length_singleton] at hl1
          have hcs : Lib.byteCells (joinUp x0 r [s] j) ++ Lib.strCells (strOf [s]) ++ Lib.strCells (strOf y) = Lib.byteCells (joinUp x0 r [s] (j + 1)) := by
            rw [hnx, Lib.strCells_eq, Lib.strCells_eq, strOf_list, strOf_list, ← Lib.byteCells_append, ← Lib.byteCells_append]
          have HCS := Lib.hid hcs
          have HL := Lib.hid (show (Lib.byteCells (joinUp x0 r [s] j)).length + 1 + y.length ≤ 1073741824 by rw [Lib.byteCells_length]; omega)
          have hB' := Lib.hid hB
          have hW' := Lib.hid hW
          clear hnx hcs hl1 hy hB hW
          go_wp2_with fail
          refine (writeString_any w.heap.size w.heap.size _ (strOf [s]) wr hB'.out (by have := HL.out; rw [strOf_size]; simp; omega) hBw).mono ?_
          rintro e w3 ⟨rfl, h3, hb3⟩
          have H3 := Lib.hid h3
          have Hb3 := Lib.hid (hW'.out.trans hb3)
          have hBw3 := Hb3.out.size
          clear h3 hb3
          go_wp2_with fail
          refine (writeString_any w.heap.size w.heap.size _ (strOf y) w3 H3.out (by have := HL.out; rw [List.length_append, Lib.strCells_length, strOf_size, strOf_size]; simp; omega) hBw3).mono ?_
          rintro e w4 ⟨rfl, h4, hb4⟩
          rw [HCS.out] at h4
          have H4 := Lib.hid h4
          have Hb4 := Lib.hid (Hb3.out.trans hb4)
          clear h4 hb4
          go_wp2
          go_roundw
          case rel => exact ⟨j + 1, by omega, by go_num, H4.out, Hb4.out⟩
          case measure => simp [intOf]; omega
        · obtain rfl : j = k - 1 := by omega
          have hend := joinUp_end x0 r [s]
          rw [HR.out] at hend
          rw [hend] at hB
          have hB' := Lib.hid hB
          have hW' := Lib.hid hW
          clear hB hW hend
          go_wp2_with fail
          refine (Tryd.Builder_String_any w.heap.size w.heap.size _ wr hB'.out hBw).mono ?_
          rintro e w5 ⟨rfl, hb5⟩
          have Hb5 := Lib.hid (hW'.out.trans hb5)
          clear hb5
          go_wp2
          go_ret
          exact ⟨rfl, Hb5.out⟩

/-- strings.Join at whatever number of texts, with a sign of one byte. -/
theorem join_any (A : Option Addr) (n c : Nat) (xs : List (List UInt8)) (s : UInt8) (w : World) (hA : Holds w A (strs xs)) (hn : xs.length = n) (hN : n ≤ 1048576) (hcap : n ≤ c) (hlen : (Lib.join xs [s]).length ≤ 1073741824) :
    Calls Tryd.prog 64 #[.slice A n c, .string (strOf [s])] w (StrPost (Lib.join xs [s]) w) := by
  subst hn
  match xs, hA, hN, hcap, hlen with
  | [], _, _, _, _ => exact join_none A c [s] w
  | [x], hA, _, _, _ =>
    obtain ⟨b1, o1, rfl, hbl1, hc⟩ := hA.look (k := 0) (by simp [strs])
    rw [Lib.join_one]
    exact join_one b1 o1 c x [s] w (by simpa [strs] using hc)
  | x :: y :: r, hA, hN, hcap, hlen =>
    obtain ⟨b1, o1, rfl, hbl1, hc0⟩ := hA.look (k := 0) (by simp [strs])
    refine join_many b1 o1 c _ x (y :: r) s w ?_ hbl1 rfl (by simp) hN hcap hlen
    intro j z hz
    have hj : j < (x :: y :: r).length := (List.getElem?_eq_some_iff.1 hz).1
    obtain ⟨b2, o2, he, _, hc⟩ := hA.look (k := j) (by rw [strs_len]; exact hj)
    cases he
    rw [hc]
    simp only [strs, List.getElem_map]
    rw [(List.getElem?_eq_some_iff.1 hz).2]
end Go.Proofs.YtedkanncdkofaaaDoor

namespace Go.Proofs
open Go.Shelf
def Tryd.laysM171_ren : Go.Shelf.Ren := ⟨fun | 171 => 63 | 243 => 115 | 246 => 135 | 283 => 148 | 284 => 149 | 285 => 150 | 286 => 151 | 129 => 170 | 317 => 169 | 318 => 171 | 319 => 172 | 320 => 173 | 337 => 180 | 338 => 181 | n => n, fun | 3 => 3 | 9 => 9 | 2 => 2 | 4 => 4 | 171 => 160 | 0 => 0 | 53 => 161 | 37 => 132 | 5 => 5 | 173 => 164 | 212 => 185 | 51 => 186 | 20 => 20 | 213 => 187 | 46 => 171 | 232 => 206 | 233 => 207 | n => n, fun | 17 => 1 | 18 => 6 | 19 => 7 | n => n⟩
theorem Tryd.laysM171 : Go.Proofs.LaysM.n171 Tryd.prog Tryd.laysM171_ren := {
  mixed := by kernel_rfl
  f129 := Tryd.func170.trans (congrArg some (by kernel_rfl))
  f171 := Tryd.func63.trans (congrArg some (by kernel_rfl))
  f243 := Tryd.func115.trans (congrArg some (by kernel_rfl))
  f246 := Tryd.func135.trans (congrArg some (by kernel_rfl))
  f283 := Tryd.func148.trans (congrArg some (by kernel_rfl))
  f284 := Tryd.func149.trans (congrArg some (by kernel_rfl))
  f285 := Tryd.func150.trans (congrArg some (by kernel_rfl))
  f286 := Tryd.func151.trans (congrArg some (by kernel_rfl))
  f317 := Tryd.func169.trans (congrArg some (by kernel_rfl))
  f318 := Tryd.func171.trans (congrArg some (by kernel_rfl))
  f319 := Tryd.func172.trans (congrArg some (by kernel_rfl))
  f320 := Tryd.func173.trans (congrArg some (by kernel_rfl))
  f337 := Tryd.func180.trans (congrArg some (by kernel_rfl))
  f338 := Tryd.func181.trans (congrArg some (by kernel_rfl))
  t0 := Tryd.underlying0
  a0 := Tryd.isAgg0
  z0 := Tryd.sizeOf0
  v0 := Tryd.zeroValue0
  t2 := Tryd.underlying2
  a2 := Tryd.isAgg2
  z2 := Tryd.sizeOf2
  v2 := Tryd.zeroValue2
  t3 := Tryd.underlying3
  a3 := Tryd.isAgg3
  z3 := Tryd.sizeOf3
  v3 := Tryd.zeroValue3
  t4 := Tryd.underlying4
  a4 := Tryd.isAgg4
  z4 := Tryd.sizeOf4
  v4 := Tryd.zeroValue4
  t5 := Tryd.underlying5
  a5 := Tryd.isAgg5
  z5 := Tryd.sizeOf5
  v5 := Tryd.zeroValue5
  t9 := Tryd.underlying9
  a9 := Tryd.isAgg9
  z9 := Tryd.sizeOf9
  v9 := Tryd.zeroValue9
  t20 := Tryd.underlying20
  a20 := Tryd.isAgg20
  z20 := Tryd.sizeOf20
  v20 := Tryd.zeroValue20
  t37 := Tryd.underlying132
  a37 := Tryd.isAgg132
  z37 := Tryd.sizeOf132
  v37 := Tryd.zeroValue132
  t46 := Tryd.underlying171
  a46 := Tryd.isAgg171
  z46 := Tryd.sizeOf171
  v46 := Tryd.zeroValue171
  t51 := Tryd.underlying186
  a51 := Tryd.isAgg186
  z51 := Tryd.sizeOf186
  v51 := Tryd.zeroValue186
  t53 := Tryd.underlying161
  a53 := Tryd.isAgg161
  z53 := Tryd.sizeOf161
  v53 := Tryd.zeroValue161
  t171 := Tryd.underlying160
  a171 := Tryd.isAgg160
  z171 := Tryd.sizeOf160
  v171 := Tryd.zeroValue160
  t173 := Tryd.underlying164
  a173 := Tryd.isAgg164
  z173 := Tryd.sizeOf164
  v173 := Tryd.zeroValue164
  t212 := Tryd.underlying185
  a212 := Tryd.isAgg185
  z212 := Tryd.sizeOf185
  v212 := Tryd.zeroValue185
  t213 := Tryd.underlying187
  a213 := Tryd.isAgg187
  z213 := Tryd.sizeOf187
  t232 := Tryd.underlying206
  a232 := Tryd.isAgg206
  z232 := Tryd.sizeOf206
  v232 := Tryd.zeroValue206
  t233 := Tryd.underlying207
  a233 := Tryd.isAgg207
  z233 := Tryd.sizeOf207
  v233 := Tryd.zeroValue207
  g17 := by kernel_rfl
  g18 := by kernel_rfl
  g19 := by kernel_rfl
  i0 := by kernel_rfl
  i2 := by kernel_rfl
  i3 := by kernel_rfl
  i4 := by kernel_rfl
  i5 := by kernel_rfl
  i9 := by kernel_rfl
  i20 := by kernel_rfl
  i37 := by kernel_rfl
  i46 := by kernel_rfl
  i51 := by kernel_rfl
  i53 := by kernel_rfl
  i171 := by kernel_rfl
  i173 := by kernel_rfl
  i212 := by kernel_rfl
  i232 := by kernel_rfl
  i233 := by kernel_rfl
  m17 := by kernel_rfl
  m18 := by kernel_rfl
  m19 := by kernel_rfl }
open Go.RowKit Go.Sort Go.Lib in
theorem Tryd.strconv_Itoa (n : Int) (h0 : -9223372036854775808 ≤ n) (h1 : n ≤ 9223372036854775807) (w : World) (htab : Lib.TabIs Tryd.prog w "internal/strconv.uint64pow10" .u64 Lib.pow10Tab) :
    Calls Tryd.prog 63 #[.int .i64 n] w fun e w' => e = .returned (.string ⟨(Lib.itoa n).toArray⟩) ∧ ∃ k os, w' = grow (w.drewN k) os := Any.strconv_Itoa Tryd.laysM171 n h0 h1 w htab
end Go.Proofs

namespace Go.Proofs.YtedkanncdkofaaaDoor
open Go.RowKit

/-- A number as its digits. -/
abbrev digs (n : Int) : List UInt8 := Lib.decDigits n.toNat
theorem digs_nat (n : Nat) : digs (n : Int) = Lib.decDigits n := by simp [digs]
theorem itoa_digs {n : Int} (h : 0 ≤ n) : Lib.itoa n = digs n := by
  obtain ⟨u, rfl⟩ : ∃ u : Nat, n = u := ⟨n.toNat, by omega⟩
  rw [Lib.itoa_nonneg, digs_nat]
theorem decDigits_small {n : Nat} (h : n < 10) : Lib.decDigits n = [UInt8.ofNat (48 + n)] := by rw [Lib.decDigits, dif_pos h]
theorem decDigits_more {n : Nat} (h : ¬ n < 10) : Lib.decDigits n = Lib.decDigits (n / 10) ++ [UInt8.ofNat (48 + n % 10)] := by
  conv => lhs; rw [Lib.decDigits]
  rw [dif_neg h]
theorem decDigits_le : ∀ (k n : Nat), n < 10 ^ (k + 1) → (Lib.decDigits n).length ≤ k + 1 := by
  intro k
  induction k with
  | zero => intro n h; rw [decDigits_small (by simpa using h)]; simp
  | succ k ih =>
    intro n h
    by_cases h10 : n < 10
    · rw [decDigits_small h10]; simp
    · rw [decDigits_more h10, List.length_append]
      have := ih (n / 10) (by rw [Nat.pow_succ] at h; omega)
      simp
      omega
theorem digs_le {n : Int} (h : n < 1000000) : (digs n).length ≤ 6 := decDigits_le 5 _ (by omega)

theorem join_snoc (xs : List (List UInt8)) (y sep : List UInt8) : Lib.join (xs ++ [y]) sep = Lib.join xs sep ++ (if xs = [] then [] else sep) ++ y := by
  cases xs with
  | nil => simp [Lib.join_nil, Lib.join_one]
  | cons x r =>
    rw [List.cons_append, Lib.join_cons, Lib.join_cons]
    simp [Lib.joinTail, List.append_assoc]
theorem join_take (xs : List (List UInt8)) (sep : List UInt8) (k : Nat) (hk : k < xs.length) : Lib.join (xs.take (k + 1)) sep = Lib.join (xs.take k) sep ++ (if k = 0 then [] else sep) ++ xs[k] := by
  rw [List.take_succ_eq_append_getElem hk, join_snoc]
  have he : (xs.take k = []) ↔ k = 0 := by
    constructor
    · intro h
      have h2 : (xs.take k).length = 0 := by rw [h]; rfl
      rw [List.length_take] at h2
      omega
    · rintro rfl
      rfl
  by_cases h : k = 0
  · rw [if_pos h, if_pos (he.2 h)]
  · rw [if_neg h, if_neg fun e => h (he.1 e)]
theorem join_le (xs : List (List UInt8)) (sep : List UInt8) (m : Nat) (h : ∀ x ∈ xs, x.length ≤ m) : (Lib.join xs sep).length ≤ xs.length * (m + sep.length) := by
  have hl : ∀ l : List (List UInt8), (∀ x ∈ l, x.length ≤ m) → Lib.lens l ≤ l.length * m := by
    intro l
    induction l with
    | nil => intro _; simp [Lib.lens]
    | cons x r ih =>
      intro hx
      have h1 := ih fun y hy => hx y (List.mem_cons_of_mem _ hy)
      have h2 := hx x List.mem_cons_self
      simp only [Lib.lens, List.map_cons, List.sum_cons, List.length_cons] at h1 ⊢
      rw [Nat.add_mul]
      omega
  cases xs with
  | nil => simp [Lib.join_nil]
  | cons x r =>
    have h1 := hl (x :: r) h
    rw [Lib.join_length, Nat.mul_add]
    have h2 : sep.length * r.length ≤ (x :: r).length * sep.length := by
      rw [Nat.mul_comm, List.length_cons, Nat.add_mul]
      omega
    omega
theorem join_take_le (xs : List (List UInt8)) (sep : List UInt8) (m k : Nat) (h : ∀ x ∈ xs, x.length ≤ m) : (Lib.join (xs.take k) sep).length ≤ xs.length * (m + sep.length) := by
  refine Nat.le_trans (join_le _ sep m fun x hx => h x (List.mem_of_mem_take hx)) (Nat.mul_le_mul_right _ ?_)
  rw [List.length_take]
  omega

/-- The text of a party. -/
def partyText (xs : List Int) (s : Int) : List UInt8 := digs s ++ [58] ++ Lib.join (xs.map digs) [44]
/-- The text of a night. -/
def nightText (xs : List Int) (s t : Int) : List UInt8 := digs t ++ [42] ++ partyText xs s
/-- A person of a crew as a word. -/
def manText (w : Int) (r : Bool) : List UInt8 := digs w ++ (if r then [114] else [])
/-- The text of a crew. -/
def crewText (ws : List Int) (rs : List Bool) (m : Int) : List UInt8 := digs m ++ [61] ++ Lib.join (List.zipWith manText ws rs) [44]
end Go.Proofs.YtedkanncdkofaaaDoor

namespace Go.Proofs.YtedkanncdkofaaaDoor
open Go.RowKit

/-- The table of powers of ten lies as told. -/
def Tab (w : World) : Prop := Lib.TabIs Tryd.prog w "internal/strconv.uint64pow10" .u64 Lib.pow10Tab
theorem tab_named : Tryd.prog.globalNamed "internal/strconv.uint64pow10" = some 1 := by kernel_rfl
theorem Tab.below {w w' : World} (h : Tab w) (hb : Below w.heap.size w w') : Tab w' := Joins.tab_stays tab_named h hb (Nat.le_refl _)
theorem Tab.alloc {w : World} (h : Tab w) (o : Obj) : Tab (w.alloc o) := Lib.tabIs_alloc h o

theorem itoa_any (n : Int) (w : World) (hT : Tab w) (h0 : 0 ≤ n) (h1 : n ≤ 9223372036854775807) :
    Calls Tryd.prog 63 #[.int .i64 n] w fun e w' => e = .returned (.string ⟨(digs n).toArray⟩) ∧ Below w.heap.size w w' := by
  refine (Tryd.strconv_Itoa n (by omega) h1 w hT).mono ?_
  rintro e w' ⟨rfl, k, os, rfl⟩
  exact ⟨by rw [itoa_digs h0], Lib.below_grow _ w (Nat.le_refl _) k os⟩

/-- One byte as a text. -/
theorem one_byte (c : UInt8) (z : Int) (hz : z = (c.toNat : Int)) (g : Nat) (W : World) (h : W.cell? ⟨g, 0, none⟩ = some (.int .u8 z)) :
    (convert 132 9 (.slice (some ⟨g, 0, none⟩) 1 1)).run Tryd.prog W = .ok (.string ⟨#[c]⟩) W := by
  subst hz
  refine run_convert_bytes_back W 132 9 5 ⟨g, 0, none⟩ 1 [c] Tryd.underlying132 Tryd.underlying5 Tryd.underlying9 ?_
  intro j hj
  obtain rfl : j = 0 := by simpa using hj
  exact h
theorem digit_byte {n : Nat} (h : n < 10) : 48 + (n : Int) = ((UInt8.ofNat (48 + n)).toNat : Int) := by
  have : (UInt8.ofNat (48 + n)).toNat = 48 + n := by simp [UInt8.toNat_ofNat']; omega
  rw [this]; omega
set_option maxRecDepth 100000 in
theorem l1Num_small (n : Nat) (h10 : n < 10) (w : World) :
    Calls Tryd.prog 112 #[.int .i64 n] w fun e w' => e = .returned (.string ⟨(Lib.decDigits n).toArray⟩) ∧ Below w.heap.size w w' := by
  have hd := decDigits_small h10
  have hb := digit_byte h10
  generalize UInt8.ofNat (48 + n) = c at hd hb
  have HD := Lib.hid hd
  have hcv := one_byte c _ hb w.heap.size (w.alloc (.cells #[.int .u8 (48 + (n : Int))] 5)) ((Whole.fresh w 5 #[.int .u8 (48 + (n : Int))]).cell 0)
  clear hd hb
  go_enter Tryd.func112, Tryd.ntmps112
  go_wp2
  go_ret
  exact ⟨by rw [HD.out]; rfl, below1 w _⟩
set_option linter.unusedSimpArgs false in
set_option maxHeartbeats 1600000 in
set_option maxRecDepth 100000 in
theorem l1Num_more (n q : Nat) (c : UInt8) (l : List UInt8) (w : World) (hn : (n : Int) ≤ 9999999) (hn0 : ¬ (n : Int) < 10) (hq : IntKind.i64.wrap ((n : Int) / 10) = (q : Int)) (hl : l.length ≤ 100)
    (hb : IntKind.u8.wrap (IntKind.i64.wrap (48 + (n : Int).tmod 10)) = (c.toNat : Int))
    (hih : ∀ W : World, Calls Tryd.prog 112 #[.int .i64 q] W fun e w' => e = .returned (.string ⟨l.toArray⟩) ∧ Below W.heap.size W w') :
    Calls Tryd.prog 112 #[.int .i64 n] w fun e w' => e = .returned (.string ⟨(l ++ [c]).toArray⟩) ∧ Below w.heap.size w w' := by
  have HQ := Lib.hid hq
  have HIH := Lib.hid hih
  have hn1 : (0 : Int) ≤ (n : Int) := by omega
  obtain ⟨z, hz⟩ : ∃ z, z = IntKind.u8.wrap (IntKind.i64.wrap (48 + (n : Int).tmod 10)) := ⟨_, rfl⟩
  rw [← hz] at hb
  have HB := Lib.hid hb
  replace hz := hz.symm
  have hcat := fun W => run_string_add_lists (P := Tryd.prog) (w := W) l [c] (by omega) (by simp)
  clear hq hih hb hl
  go_enter Tryd.func112, Tryd.ntmps112
  go_wp2_with fail
  have ht := (Below.refl w.heap.size w).drew
  refine wp_region_held_drew (S := (fun _ => True)) (by kernel_rfl) trivial (fun hHeld => ?_)
  generalize World.drew w = wd at ht hHeld ⊢
  refine wpAnyH_take (i := 0) (v := ?_) rfl (by kernel_rfl) (by kernel_rfl) (by kernel_rfl) (fun _ _ _ h => h) (Or.inl ⟨rfl, ?_⟩) hHeld ?_
  rotate_left
  · intro w' hS; skip; go_simp <;> with_reducible rfl
  simp only [Act.put, List.getElem_toArray, List.getElem_cons_succ, List.getElem_cons_zero, List.setIfInBounds_toArray, List.set_cons_succ, List.set_cons_zero]
  refine wpAnyH_take (i := 1) (v := ?_) rfl (by kernel_rfl) (by kernel_rfl) (by kernel_rfl) (fun _ _ _ h => h) (Or.inl ⟨rfl, ?_⟩) hHeld ?_
  rotate_left
  · intro w' hS; skip; go_simp <;> with_reducible rfl
  simp only [Act.put, List.getElem_toArray, List.getElem_cons_succ, List.getElem_cons_zero, List.setIfInBounds_toArray, List.set_cons_succ, List.set_cons_zero]
  refine wpAnyH_take (i := 3) (v := ?_) rfl (by kernel_rfl) (by kernel_rfl) (by kernel_rfl) (fun _ _ _ h => h) (Or.inl ⟨rfl, ?_⟩) hHeld ?_
  rotate_left
  · intro w' hS; skip; go_simp <;> with_reducible rfl
  simp only [Act.put, List.getElem_toArray, List.getElem_cons_succ, List.getElem_cons_zero, List.setIfInBounds_toArray, List.set_cons_succ, List.set_cons_zero]
  refine wpAnyH_take (i := 4) (v := ?_) rfl (by kernel_rfl) (by kernel_rfl) (by kernel_rfl) (fun _ _ _ h => h) (Or.inl ⟨rfl, ?_⟩) hHeld ?_
  rotate_left
  · intro w' hS; skip; go_simp <;> with_reducible rfl
  simp only [Act.put, List.getElem_toArray, List.getElem_cons_succ, List.getElem_cons_zero, List.setIfInBounds_toArray, List.set_cons_succ, List.set_cons_zero]
  refine wpAnyH_take (i := 5) (v := ?_) rfl (by kernel_rfl) (by kernel_rfl) (by kernel_rfl) (fun _ _ _ h => h) (Or.inl ⟨rfl, ?_⟩) hHeld ?_
  rotate_left
  · intro w' hS; skip; go_simp <;> with_reducible rfl
  simp only [Act.put, List.getElem_toArray, List.getElem_cons_succ, List.getElem_cons_zero, List.setIfInBounds_toArray, List.set_cons_succ, List.set_cons_zero]
  refine wpAnyH_take (i := 6) (v := ?_) rfl (by kernel_rfl) (by kernel_rfl) (by kernel_rfl) (fun _ _ _ h => h) (Or.inl ⟨rfl, ?_⟩) hHeld ?_
  rotate_left
  · intro w' hS; skip; go_simp <;> with_reducible rfl
  simp only [Act.put, List.getElem_toArray, List.getElem_cons_succ, List.getElem_cons_zero, List.setIfInBounds_toArray, List.set_cons_succ, List.set_cons_zero]
  refine wpAnyH_ready (rs := [2, 7]) (by kernel_rfl) (by simp) (AllReadyH.cons rfl (fun K hK => ?_) (AllReadyH.cons rfl (fun K hK => ?_) AllReadyH.nil))
  · go_simp
    rw [HQ.out]
    refine (HIH.out _).mono ?_
    rintro e wd_2 ⟨rfl, hb⟩
    replace ht := below_then ht hb ht.size
    clear hb
    refine hK.out _ _ trivial (fun hHeld => ?_)
    clear hK K
    try simp only [Act.put, List.getElem_toArray, List.getElem_cons_succ, List.getElem_cons_zero, List.setIfInBounds_toArray, List.set_cons_succ, List.set_cons_zero]
    refine wpAnyH_ready (rs := [7]) (by kernel_rfl) (by simp) (AllReadyH.cons rfl (fun K hK => ?_) AllReadyH.nil)
    go_simp
    have hN := Whole.fresh wd_2 5 #[.int .u8 z]
    obtain ⟨gN, hgN⟩ : ∃ g, g = wd_2.heap.size := ⟨_, rfl⟩
    rw [← hgN] at hN ⊢
    clear hgN
    replace ht := ht.alloc ht.size (.cells #[.int .u8 z] 5)
    generalize World.alloc wd_2 (.cells #[.int .u8 z] 5) = wd_2_7 at hN ht ⊢
    refine hK.out _ _ trivial (fun hHeld => ?_)
    clear hK K
    try simp only [Act.put, List.getElem_toArray, List.getElem_cons_succ, List.getElem_cons_zero, List.setIfInBounds_toArray, List.set_cons_succ, List.set_cons_zero]
    refine wpAnyH_ready (rs := [8]) (by kernel_rfl) (by simp) (AllReadyH.cons rfl (fun K hK => ?_) AllReadyH.nil)
    have hcv := one_byte c _ HB.out gN wd_2_7 (hN.cell 0)
    go_simp
    clear hcv
    refine hK.out _ _ trivial (fun hHeld => ?_)
    clear hK K
    try simp only [Act.put, List.getElem_toArray, List.getElem_cons_succ, List.getElem_cons_zero, List.setIfInBounds_toArray, List.set_cons_succ, List.set_cons_zero]
    refine wpAnyH_take (i := 9) (v := ?_) rfl (by kernel_rfl) (by kernel_rfl) (by kernel_rfl) (fun _ _ _ h => h) (Or.inl ⟨rfl, ?_⟩) hHeld ?_
    rotate_left
    · intro w' hS; skip; go_simp <;> with_reducible rfl
    simp only [Act.put, List.getElem_toArray, List.getElem_cons_succ, List.getElem_cons_zero, List.setIfInBounds_toArray, List.set_cons_succ, List.set_cons_zero]
    refine wpAnyH_take (i := 10) (v := ?_) rfl (by kernel_rfl) (by kernel_rfl) (by kernel_rfl) (fun _ _ _ h => h) (Or.inl ⟨rfl, ?_⟩) hHeld ?_
    rotate_left
    · intro w' hS; skip; go_simp <;> with_reducible rfl
    simp only [Act.put, List.getElem_toArray, List.getElem_cons_succ, List.getElem_cons_zero, List.setIfInBounds_toArray, List.set_cons_succ, List.set_cons_zero]
    refine wpAnyH_done (by kernel_rfl) ?_ _
    clear hHeld
    go_wp2
    go_ret
    exact ⟨rfl, ht⟩
  · go_simp
    have hN := Whole.fresh wd 5 #[.int .u8 z]
    obtain ⟨gN, hgN⟩ : ∃ g, g = wd.heap.size := ⟨_, rfl⟩
    rw [← hgN] at hN ⊢
    clear hgN
    replace ht := ht.alloc ht.size (.cells #[.int .u8 z] 5)
    generalize World.alloc wd (.cells #[.int .u8 z] 5) = wd_7 at hN ht ⊢
    refine hK.out _ _ trivial (fun hHeld => ?_)
    clear hK K
    try simp only [Act.put, List.getElem_toArray, List.getElem_cons_succ, List.getElem_cons_zero, List.setIfInBounds_toArray, List.set_cons_succ, List.set_cons_zero]
    refine wpAnyH_ready (rs := [2, 8]) (by kernel_rfl) (by simp) (AllReadyH.cons rfl (fun K hK => ?_) (AllReadyH.cons rfl (fun K hK => ?_) AllReadyH.nil))
    · go_simp
      rw [HQ.out]
      refine (HIH.out _).mono ?_
      rintro e wd_7_2 ⟨rfl, hb⟩
      replace ht := below_then ht hb ht.size
      replace hN := hN.below hb
      clear hb
      refine hK.out _ _ trivial (fun hHeld => ?_)
      clear hK K
      try simp only [Act.put, List.getElem_toArray, List.getElem_cons_succ, List.getElem_cons_zero, List.setIfInBounds_toArray, List.set_cons_succ, List.set_cons_zero]
      refine wpAnyH_ready (rs := [8]) (by kernel_rfl) (by simp) (AllReadyH.cons rfl (fun K hK => ?_) AllReadyH.nil)
      have hcv := one_byte c _ HB.out gN wd_7_2 (hN.cell 0)
      go_simp
      clear hcv
      refine hK.out _ _ trivial (fun hHeld => ?_)
      clear hK K
      try simp only [Act.put, List.getElem_toArray, List.getElem_cons_succ, List.getElem_cons_zero, List.setIfInBounds_toArray, List.set_cons_succ, List.set_cons_zero]
      refine wpAnyH_take (i := 9) (v := ?_) rfl (by kernel_rfl) (by kernel_rfl) (by kernel_rfl) (fun _ _ _ h => h) (Or.inl ⟨rfl, ?_⟩) hHeld ?_
      rotate_left
      · intro w' hS; skip; go_simp <;> with_reducible rfl
      simp only [Act.put, List.getElem_toArray, List.getElem_cons_succ, List.getElem_cons_zero, List.setIfInBounds_toArray, List.set_cons_succ, List.set_cons_zero]
      refine wpAnyH_take (i := 10) (v := ?_) rfl (by kernel_rfl) (by kernel_rfl) (by kernel_rfl) (fun _ _ _ h => h) (Or.inl ⟨rfl, ?_⟩) hHeld ?_
      rotate_left
      · intro w' hS; skip; go_simp <;> with_reducible rfl
      simp only [Act.put, List.getElem_toArray, List.getElem_cons_succ, List.getElem_cons_zero, List.setIfInBounds_toArray, List.set_cons_succ, List.set_cons_zero]
      refine wpAnyH_done (by kernel_rfl) ?_ _
      clear hHeld
      go_wp2
      go_ret
      exact ⟨rfl, ht⟩
    · have hcv := one_byte c _ HB.out gN wd_7 (hN.cell 0)
      go_simp
      clear hcv
      refine hK.out _ _ trivial (fun hHeld => ?_)
      clear hK K
      try simp only [Act.put, List.getElem_toArray, List.getElem_cons_succ, List.getElem_cons_zero, List.setIfInBounds_toArray, List.set_cons_succ, List.set_cons_zero]
      refine wpAnyH_ready (rs := [2]) (by kernel_rfl) (by simp) (AllReadyH.cons rfl (fun K hK => ?_) AllReadyH.nil)
      go_simp
      rw [HQ.out]
      refine (HIH.out _).mono ?_
      rintro e wd_7_2 ⟨rfl, hb⟩
      replace ht := below_then ht hb ht.size
      replace hN := hN.below hb
      clear hb
      refine hK.out _ _ trivial (fun hHeld => ?_)
      clear hK K
      try simp only [Act.put, List.getElem_toArray, List.getElem_cons_succ, List.getElem_cons_zero, List.setIfInBounds_toArray, List.set_cons_succ, List.set_cons_zero]
      refine wpAnyH_take (i := 9) (v := ?_) rfl (by kernel_rfl) (by kernel_rfl) (by kernel_rfl) (fun _ _ _ h => h) (Or.inl ⟨rfl, ?_⟩) hHeld ?_
      rotate_left
      · intro w' hS; skip; go_simp <;> with_reducible rfl
      simp only [Act.put, List.getElem_toArray, List.getElem_cons_succ, List.getElem_cons_zero, List.setIfInBounds_toArray, List.set_cons_succ, List.set_cons_zero]
      refine wpAnyH_take (i := 10) (v := ?_) rfl (by kernel_rfl) (by kernel_rfl) (by kernel_rfl) (fun _ _ _ h => h) (Or.inl ⟨rfl, ?_⟩) hHeld ?_
      rotate_left
      · intro w' hS; skip; go_simp <;> with_reducible rfl
      simp only [Act.put, List.getElem_toArray, List.getElem_cons_succ, List.getElem_cons_zero, List.setIfInBounds_toArray, List.set_cons_succ, List.set_cons_zero]
      refine wpAnyH_done (by kernel_rfl) ?_ _
      clear hHeld
      go_wp2
      go_ret
      exact ⟨rfl, ht⟩
/-- A number as its digits, of the model. -/
theorem l1Num_nat : ∀ (k n : Nat) (w : World), n < 10 ^ (k + 1) → k ≤ 5 →
    Calls Tryd.prog 112 #[.int .i64 n] w fun e w' => e = .returned (.string ⟨(Lib.decDigits n).toArray⟩) ∧ Below w.heap.size w w' := by
  intro k
  induction k with
  | zero =>
    intro n w hn hk
    exact l1Num_small n (by simpa using hn) w
  | succ k ih =>
    intro n w hn hk
    by_cases h10 : n < 10
    · exact l1Num_small n h10 w
    · have hn2 : n / 10 < 10 ^ (k + 1) := by rw [Nat.pow_succ] at hn; omega
      have hl := decDigits_le k (n / 10) hn2
      have hn63 : (n : Int) ≤ 9999999 := by
        have : 10 ^ (k + 1 + 1) ≤ 10 ^ 7 := Nat.pow_le_pow_right (by omega) (by omega)
        omega
      rw [decDigits_more h10]
      refine l1Num_more n (n / 10) (UInt8.ofNat (48 + n % 10)) (Lib.decDigits (n / 10)) w hn63 (by omega) (by rw [IntKind.wrap_i64]; omega) (by omega) ?_ fun W => ih (n / 10) W hn2 (by omega)
      rw [← digit_byte (show n % 10 < 10 by omega), Int.tmod_eq_emod_of_nonneg (by omega), IntKind.wrap_u8, IntKind.wrap_i64]
      omega
theorem l1Num_any (n : Int) (w : World) (h0 : 0 ≤ n) (h1 : n < 1000000) :
    Calls Tryd.prog 112 #[.int .i64 n] w fun e w' => e = .returned (.string ⟨(digs n).toArray⟩) ∧ Below w.heap.size w w' := by
  obtain ⟨u, rfl⟩ : ∃ u : Nat, n = u := ⟨n.toNat, by omega⟩
  rw [digs_nat]
  exact l1Num_nat 5 u w (by omega) (by omega)
end Go.Proofs.YtedkanncdkofaaaDoor

namespace Go.Proofs.YtedkanncdkofaaaDoor
open Go.RowKit

theorem cat_to (l m r : List UInt8) (he : r = l ++ m) (h : l.length ≤ 1048576) (h2 : m.length ≤ 1048576) (W : World) : (Op.stringOp .add (strOf l) (strOf m)).run Tryd.prog W = .ok (.string (strOf r)) W := by
  rw [he]
  exact run_string_add_lists W l m (by omega) (by omega)
/-- What stands of a list of words behind k rounds. -/
def upTo (xs : List (List UInt8)) (k : Nat) : List UInt8 := Lib.join (xs.take k) [44]
theorem upTo_zero (xs : List (List UInt8)) : upTo xs 0 = [] := rfl
theorem upTo_one (xs : List (List UInt8)) (h : 0 < xs.length) : upTo xs 1 = xs[0] := by rw [upTo, join_take xs [44] 0 h]; simp [Lib.join_nil]
theorem upTo_next (xs : List (List UInt8)) (k : Nat) (h : k < xs.length) (h0 : k ≠ 0) : upTo xs (k + 1) = upTo xs k ++ [44] ++ xs[k] := by rw [upTo, join_take xs [44] k h, if_neg h0]; rfl
theorem upTo_end (xs : List (List UInt8)) (n : Nat) (h : xs.length = n) : upTo xs n = Lib.join xs [44] := by rw [upTo, List.take_of_length_le (by omega)]
theorem upTo_le (xs : List (List UInt8)) (k m : Nat) (h : ∀ x ∈ xs, x.length ≤ m) : (upTo xs k).length ≤ xs.length * (m + 1) := join_take_le xs [44] m k h

/-- The text of a party up to its first k times. -/
def shownUp (xs : List Int) (s : Int) (k : Nat) : List UInt8 := digs s ++ [58] ++ upTo (xs.map digs) k
theorem shownUp_zero (xs : List Int) (s : Int) : shownUp xs s 0 = digs s ++ [58] := by simp [shownUp, upTo_zero]
theorem shownUp_one (xs : List Int) (s : Int) (k : Nat) (h : k < xs.length) (h0 : k = 0) : shownUp xs s (k + 1) = shownUp xs s k ++ digs xs[k] := by
  subst h0
  rw [shownUp_zero, shownUp, upTo_one _ (by simpa using h)]
  simp
theorem shownUp_next (xs : List Int) (s : Int) (k : Nat) (h : k < xs.length) (h0 : k ≠ 0) : shownUp xs s (k + 1) = shownUp xs s k ++ [44] ++ digs xs[k] := by
  rw [shownUp, shownUp, upTo_next _ k (by simpa using h) h0]
  simp
theorem shownUp_end (xs : List Int) (s : Int) (n : Nat) (h : xs.length = n) : shownUp xs s n = partyText xs s := by
  rw [shownUp, upTo_end _ n (by simpa using h)]; rfl
theorem shownUp_le (xs : List Int) (s : Int) (k : Nat) (hs : s < 1000000) (ht : ∀ x ∈ xs, x < 1000000) : (shownUp xs s k).length ≤ 7 + xs.length * 7 := by
  have h1 := digs_le hs
  have h2 := upTo_le (xs.map digs) k 6 (fun x hx => by obtain ⟨y, hy, rfl⟩ := List.mem_map.1 hx; exact digs_le (ht y hy))
  rw [List.length_map] at h2
  simp only [shownUp, List.length_append, List.length_singleton]
  omega

set_option maxHeartbeats 1600000 in
set_option maxRecDepth 100000 in
theorem paShown_any (A : Option Addr) (n c : Nat) (xs : List Int) (s : Int) (w : World) (hA : Holds w A (nums xs)) (hx : xs.length = n) (hn : n ≤ 8) (hs : 0 ≤ s ∧ s < 1000000) (ht : ∀ x ∈ xs, 0 ≤ x ∧ x < 1000000) :
    Calls Tryd.prog 60 #[.agg #[.slice A n c, .int .i64 s]] w (StrPost (partyText xs s) w) := by
  have HX := Lib.hid hx
  have HT := Lib.hid ht
  have HS := Lib.hid hs
  have hl6 := digs_le hs.2
  have HUL := Lib.hid (fun k => shownUp_le xs s k hs.2 fun x h => (ht x h).2)
  have hA2 := hA.alloc (.cells #[.slice A n c, .int .i64 s] 28)
  have h0 := Whole.fresh w 28 #[.slice A n c, .int .i64 s]
  obtain ⟨c0, c1, -, -⟩ := h0.two
  have ht0 := below1 w (.cells #[.slice A n c, .int .i64 s] 28)
  clear hx ht hs
  go_enter Tryd.func60, Tryd.ntmps60
  go_wp2_with fail
  refine (l1Num_any s _ HS.out.1 HS.out.2).mono ?_
  rintro e w1 ⟨rfl, hb⟩
  have ht := below_then ht0 hb (by simp)
  replace h0 := h0.below hb
  clear hb ht0 c0 c1
  obtain ⟨c0, c1, -, -⟩ := h0.two
  have hcat := cat_to (digs s) [58] (shownUp xs s 0) (shownUp_zero xs s) (by omega) (by simp)
  clear hl6
  go_wp2
  clear hcat
  go_loopw [3, 13] (fun v i wr => ∃ k : Nat, k ≤ n ∧ i = .int .i64 k ∧ v = .string (strOf (shownUp xs s k)) ∧ Below w.heap.size w wr) (fun _ i _ => n - (intOf i).toNat)
  case atStart => exact ⟨0, Nat.zero_le _, rfl, rfl, ht⟩
  case round =>
    obtain ⟨k, hk, rfl, rfl, ht⟩ := hrel
    clear c0 c1 h0
    have hlen := HUL.out k
    rw [HX.out] at hlen
    by_cases hlt : k < n
    · have hkx : k < xs.length := by have := HX.out; omega
      obtain ⟨b1, o1, rfl, hbl1, hc⟩ := (hA.below ht).look (k := k) (by rw [nums_len]; exact hkx)
      simp only [nums, List.getElem_map] at hc
      have hxk := HT.out xs[k] (List.getElem_mem hkx)
      have hd6 := digs_le hxk.2
      have H1 := Lib.hid (shownUp_one xs s k hkx)
      have HNX := Lib.hid (shownUp_next xs s k hkx)
      generalize xs[k] = x at hc hxk hd6 H1 HNX
      generalize hL1 : shownUp xs s (k + 1) = L1 at H1 HNX
      have HL1 := Lib.hid hL1
      clear hL1
      generalize shownUp xs s k = L0 at H1 HNX hlen
      rcases Nat.eq_zero_or_pos k with h1 | h1
      · have HC := Lib.hid (cat_to L0 (digs x) L1 (H1.out h1) (by omega) (by omega))
        have hkz : ¬ ((k : Int) > 0) := by omega
        clear hlen h1
        go_wp2_with fail
        refine (l1Num_any x _ hxk.1 hxk.2).mono ?_
        rintro e w2 ⟨rfl, hb⟩
        replace ht := below_then ht hb ht.size
        have hcat := HC.out
        clear hb hc hA hA2
        go_wp2
        go_roundw
        case rel => exact ⟨k + 1, by omega, by go_num, by rw [HL1.out], ht⟩
        case measure => simp [intOf]; omega
      · have hnx := HNX.out (by omega)
        have hkz : (k : Int) > 0 := by omega
        obtain ⟨M, hM⟩ : ∃ M, M = L0 ++ [44] := ⟨_, rfl⟩
        rw [← hM] at hnx
        have hMl : M.length = L0.length + 1 := by rw [hM]; simp
        have hcat := cat_to L0 [44] M hM (by omega) (by simp)
        have HC := Lib.hid (cat_to M (digs x) L1 hnx (by omega) (by omega))
        clear hlen h1 hM hMl hnx
        go_wp2_with fail
        refine (l1Num_any x _ hxk.1 hxk.2).mono ?_
        rintro e w2 ⟨rfl, hb⟩
        replace ht := below_then ht hb ht.size
        clear hcat
        have hcat := HC.out
        clear hb hc hA hA2
        go_wp2
        go_roundw
        case rel => exact ⟨k + 1, by omega, by go_num, by rw [HL1.out], ht⟩
        case measure => simp [intOf]; omega
    · obtain rfl : k = n := by omega
      have HE := Lib.hid (shownUp_end xs s k HX.out)
      go_wp2
      go_ret
      exact ⟨by rw [HE.out]; rfl, ht⟩
/-- What PartyText tells. -/
def partyTextOf (xs : List Int) (s : Int) : List UInt8 := if isParty xs s then partyText xs s else []
/-- What a call hands back that makes a text and tells whether it did. -/
def TextPost (l : List UInt8) (ok : Bool) (w : World) (e : Ending) (w' : World) : Prop := e = .returned (.tuple #[.string (strOf l), .bool ok]) ∧ Below w.heap.size w w'
theorem isParty_times {xs : List Int} {s : Int} (h : isParty xs s = true) : xs.length ≤ 8 ∧ (0 ≤ s ∧ s < 1000000) ∧ ∀ x ∈ xs, 0 ≤ x ∧ x < 1000000 := by
  simp only [isParty, within, allIn, Bool.and_eq_true, decide_eq_true_eq, List.all_eq_true] at h
  obtain ⟨h1, h2, h3⟩ := h
  exact ⟨by omega, by omega, fun x hx => by have := h2 x hx; omega⟩
set_option maxHeartbeats 1600000 in
set_option maxRecDepth 100000 in
theorem specPartyText_any (A : Option Addr) (n c : Nat) (xs : List Int) (s : Int) (w : World) (hA : Holds w A (nums xs)) (hx : xs.length = n) (hn : n ≤ 9223372036854775807) :
    Calls Tryd.prog 14 #[.agg #[.slice A n c, .int .i64 s]] w (TextPost (partyTextOf xs s) (isParty xs s) w) := by
  have HX := Lib.hid hx
  have hA2 := hA.alloc (.cells #[.slice A n c, .int .i64 s] 28)
  have h0 := Whole.fresh w 28 #[.slice A n c, .int .i64 s]
  obtain ⟨c0, c1, -, -⟩ := h0.two
  have ht0 := below1 w (.cells #[.slice A n c, .int .i64 s] 28)
  clear hx
  go_enter Tryd.func14, Tryd.ntmps14
  go_wp2_with fail
  refine (paGood_any A n c xs s _ hA2 HX.out hn).mono ?_
  rintro e w1 ⟨rfl, hb⟩
  have ht := below_then ht0 hb (by simp)
  replace h0 := h0.below hb
  replace hA2 := hA2.below hb
  clear hb ht0 c0 c1
  obtain ⟨c0, c1, -, -⟩ := h0.two
  cases hp : isParty xs s
  · have HO := Lib.hid (show partyTextOf xs s = [] by rw [partyTextOf, hp]; rfl)
    have HP := Lib.hid hp
    clear hp
    go_wp2
    go_ret2
    exact ⟨by rw [HO.out, HP.out]; rfl, ht⟩
  · have HO := Lib.hid (show partyTextOf xs s = partyText xs s by rw [partyTextOf, hp]; rfl)
    obtain ⟨h8, hs, hxs⟩ := isParty_times hp
    have HP := Lib.hid hp
    clear hp
    go_wp2_with fail
    refine (paShown_any A n c xs s _ hA2 HX.out (by have := HX.out; omega) hs hxs).mono ?_
    rintro e w2 ⟨rfl, hb⟩
    replace ht := below_then ht hb ht.size
    clear hb c0 c1
    go_wp2
    go_ret2
    exact ⟨by rw [HO.out, HP.out]; rfl, ht⟩
end Go.Proofs.YtedkanncdkofaaaDoor

namespace Go.Proofs.YtedkanncdkofaaaDoor
open Go.RowKit

theorem info_string : (Tryd.prog.info? 9).map (fun i => (i.zero, i.size, i.bytes)) = some (some (.string ByteArray.empty), 1, 16) := by kernel_rfl
/-- Words laid one by one, the others empty still. -/
def strsTo (ds : List (List UInt8)) (n k : Nat) : List Value := strs (ds.take k) ++ List.replicate (n - k) (.string ByteArray.empty)
theorem strsTo_zero (ds : List (List UInt8)) (n : Nat) : strsTo ds n 0 = List.replicate n (.string ByteArray.empty) := by simp [strsTo, strs]
theorem strsTo_all (ds : List (List UInt8)) (n : Nat) (h : ds.length = n) : strsTo ds n n = strs ds := by
  rw [strsTo, List.take_of_length_le (by omega), Nat.sub_self]; simp
theorem strsTo_next (ds : List (List UInt8)) (n k : Nat) (h : ds.length = n) (hk : k < n) : (strsTo ds n k).set k (.string (strOf (ds[k]'(by omega)))) = strsTo ds n (k + 1) := by
  have hkd : k < ds.length := by omega
  have hl : (strs (ds.take k)).length = k := by rw [strs_len, List.length_take]; omega
  have hr : List.replicate (n - k) (Value.string ByteArray.empty) = .string ByteArray.empty :: List.replicate (n - (k + 1)) (.string ByteArray.empty) := by
    rw [show n - k = (n - (k + 1)) + 1 by omega, List.replicate_succ]
  rw [strsTo, hr, List.set_append_right _ _ (by omega), hl, Nat.sub_self, List.set_cons_zero, strsTo, List.take_succ_eq_append_getElem hkd]
  simp only [strs, List.map_append, List.map_cons, List.map_nil, List.append_assoc, List.cons_append, List.nil_append]
theorem strsTo_len (ds : List (List UInt8)) (n k : Nat) (h : ds.length = n) (hk : k ≤ n) : (strsTo ds n k).length = n := by
  rw [strsTo, List.length_append, strs_len, List.length_take, List.length_replicate]; omega
theorem make_strs {n : Nat} (ds : List (List UInt8)) (hn : n ≤ 1048576) (W : World) : (Instr.makeSlice 89 (.int .i64 (n : Int)) (.int .i64 (n : Int))).run Tryd.prog W = .ok (.slice (some ⟨W.heap.size, 0, none⟩) n n) (W.alloc (.cells (strsTo ds n 0).toArray 9)) := by
  obtain ⟨i0, hi, hz0, hz1, hz2⟩ := info_parts info_string
  have h := run_make (P := Tryd.prog) W 89 9 i0 _ Tryd.underlying89 hi hz0 .i64 .i64 n n (by omega) (by omega) (by rw [hz2]; omega) (by omega)
  have hm : madeCells (Value.string ByteArray.empty).cells (n * 1) = (strsTo ds n 0).toArray := by
    rw [strsTo_zero]
    apply Array.ext_getElem?
    intro j
    simp [madeCells, Value.cells, Nat.mod_one, Array.getElem?_range]
    by_cases h : j < n <;> simp [h]
  simp only [Int.toNat_natCast, hz1, hm] at h
  rw [h]

set_option maxHeartbeats 1600000 in
set_option maxRecDepth 100000 in
theorem implPartyText_any (A : Option Addr) (n c : Nat) (xs : List Int) (s : Int) (w : World) (hA : Holds w A (nums xs)) (hx : xs.length = n) (hn : n ≤ 9223372036854775807) (hT : Tab w) :
    Calls Tryd.prog 16 #[.agg #[.slice A n c, .int .i64 s]] w (TextPost (partyTextOf xs s) (isParty xs s) w) := by
  have HX := Lib.hid hx
  have hA2 := hA.alloc (.cells #[.slice A n c, .int .i64 s] 28)
  have h0 := Whole.fresh w 28 #[.slice A n c, .int .i64 s]
  obtain ⟨c0, c1, -, -⟩ := h0.two
  have ht0 := below1 w (.cells #[.slice A n c, .int .i64 s] 28)
  clear hx
  go_enter Tryd.func16, Tryd.ntmps16
  go_wp2_with fail
  refine (isParty_any A n c xs s _ hA2 HX.out hn).mono ?_
  rintro e w1 ⟨rfl, hb⟩
  have ht := below_then ht0 hb (by simp)
  replace h0 := h0.below hb
  replace hA2 := hA2.below hb
  clear hb ht0 c0 c1
  obtain ⟨c0, c1, -, -⟩ := h0.two
  cases hp : isParty xs s
  · have HO := Lib.hid (show partyTextOf xs s = [] by rw [partyTextOf, hp]; rfl)
    have HP := Lib.hid hp
    clear hp
    go_wp2
    go_ret2
    exact ⟨by rw [HO.out, HP.out]; rfl, ht⟩
  · have HO := Lib.hid (show partyTextOf xs s = partyText xs s by rw [partyTextOf, hp]; rfl)
    have HP := Lib.hid hp
    obtain ⟨h8, hs, hxs⟩ := isParty_times hp
    rw [HX.out] at h8
    have hmk := fun W : World => make_strs (n := n) (xs.map digs) (by omega) W
    have HXS := Lib.hid hxs
    have hl6 := digs_le hs.2
    have hle := join_le (xs.map digs) [44] 6 (fun x hx => by obtain ⟨y, hy, rfl⟩ := List.mem_map.1 hx; exact digs_le (hxs y hy).2)
    rw [List.length_map, HX.out] at hle
    have HLE := Lib.hid hle
    have hbl := h0.lt
    clear hp hxs hle
    go_wp2
    have hG := Whole.fresh w1 9 (strsTo (xs.map digs) n 0).toArray
    have hwz : w.heap.size ≤ w1.heap.size := ht.size
    have htb := below1 w1 (.cells (strsTo (xs.map digs) n 0).toArray 9)
    replace h0 := h0.alloc (.cells (strsTo (xs.map digs) n 0).toArray 9)
    replace ht := ht.alloc ht.size (.cells (strsTo (xs.map digs) n 0).toArray 9)
    clear hmk c0 c1
    go_loopw [17] (fun i wr => ∃ k : Nat, k ≤ n ∧ i = .int .i64 k ∧ Whole wr w1.heap.size 9 (strsTo (xs.map digs) n k).toArray ∧ Whole wr w.heap.size 28 #[.slice A n c, .int .i64 s] ∧ Below w.heap.size w wr) (fun i _ => n - (intOf i).toNat)
    case atStart => exact ⟨0, Nat.zero_le _, rfl, hG, h0, ht⟩
    case round =>
      obtain ⟨k, hk, rfl, hg, hq, hb⟩ := hrel
      clear hG h0 ht htb
      by_cases hlt : k < n
      · have hkx : k < xs.length := by have := HX.out; omega
        obtain ⟨b1, o1, rfl, hbl1, hc⟩ := (hA.below hb).look (k := k) (by rw [nums_len]; exact hkx)
        simp only [nums, List.getElem_map] at hc
        have hxk := HXS.out xs[k] (List.getElem_mem hkx)
        have HST := Lib.hid (strsTo_next (xs.map digs) n k (by simpa using HX.out) hlt)
        have hgm : (xs.map digs)[k]'(by simpa using hkx) = digs xs[k] := by simp
        rw [hgm] at HST
        generalize xs[k] = x at hc hxk HST
        clear hgm
        go_wp2_with fail
        refine (itoa_any x _ (hT.below hb) hxk.1 (by omega)).mono ?_
        rintro e w2 ⟨rfl, hbi⟩
        have hg2 := hg.below hbi
        have hq2 := hq.below hbi
        have hb2 := below_then hb hbi hb.size
        have hfr := hg2.open_ k
        have hset := hg2.set_ k (.string (strOf (digs x)))
        rw [List.setIfInBounds_toArray, HST.out] at hset
        have hq3 := hq2.off (b := w1.heap.size) (o := k) (u := .string (strOf (digs x))) (by omega)
        obtain ⟨v0, hv0⟩ : ∃ v, (strsTo (xs.map digs) n k).toArray[k]? = some v := ⟨_, by rw [List.getElem?_toArray]; exact List.getElem?_eq_getElem (by rw [strsTo_len _ _ _ (by simpa using HX.out) hk]; exact hlt)⟩
        have hcell := (hg2.cell k).trans hv0
        clear hb hbi hg hg2 hq hq2 hA hA2 hc hv0
        go_wp2
        go_roundw
        case rel => exact ⟨k + 1, by omega, by go_num, hset, hq3, below_set hb2 hwz⟩
        case measure => simp [intOf]; omega
      · obtain rfl : k = n := by omega
        obtain ⟨c0, c1, -, -⟩ := hq.two
        go_wp2_with fail
        refine (itoa_any s _ (hT.below hb) hs.1 (by omega)).mono ?_
        rintro e w2 ⟨rfl, hbi⟩
        replace hg := hg.below hbi
        have hb2 := below_then hb hbi hb.size
        have hcat := cat_to (digs s) [58] (digs s ++ [58]) rfl (by omega) (by simp)
        clear hq c0 c1 hb hbi
        rw [strsTo_all _ _ (by simpa using HX.out)] at hg
        obtain ⟨M, hM⟩ : ∃ M, M = digs s ++ [58] := ⟨_, rfl⟩
        rw [← hM] at hcat
        have hpt : partyText xs s = M ++ Lib.join (xs.map digs) [44] := by rw [hM]; rfl
        have hMl : M.length ≤ 7 := by rw [hM]; simp; omega
        clear hM
        go_wp2_with fail
        have hhold := hg.holds
        refine (join_any _ k k (xs.map digs) 44 _ (by simpa using hhold) (by simpa using HX.out) (by omega) (Nat.le_refl _) (by have := HLE.out; simp at this; omega)).mono ?_
        rintro e w3 ⟨rfl, hbj⟩
        have hb3 := below_then hb2 hbj hb2.size
        clear hcat
        have hcat := cat_to M (Lib.join (xs.map digs) [44]) _ hpt (by omega) (by have := HLE.out; simp at this; omega)
        clear hbj hb2 hg hhold hpt
        go_wp2
        go_ret2
        exact ⟨by rw [HO.out, HP.out]; rfl, hb3⟩
end Go.Proofs.YtedkanncdkofaaaDoor

namespace Go.Proofs.YtedkanncdkofaaaDoor
open Go.RowKit

set_option maxHeartbeats 800000 in
set_option linter.unusedVariables false in
theorem lawPartyText_big0 (A0 : Option Addr) (n0 c0 : Nat) (x0 : List Int) (k0 : Int) (w : World) (h0 : Holds w A0 (nums x0)) (hx0 : x0.length = n0) (hn0 : n0 ≤ 9223372036854775807) (hT : Tab w)  (hbig : 1048576 - (n0 : Int) < 0) :
    Calls Tryd.prog 3 #[.agg #[.slice A0 n0 c0, .int .i64 k0]] w fun e w' => e = .returned (.bool true) ∧ Below w.heap.size w w' := by
  have hb0 := (Whole.fresh w 24 #[.slice A0 n0 c0, .int .i64 k0])
  have ht := below1 w (.cells #[.slice A0 n0 c0, .int .i64 k0] 24)
  have HX0 := Lib.hid hx0
  clear hx0
  obtain ⟨hb0_0, hb0_1⟩ := hb0.cells2
  have hb0_l := hb0.lt
  go_enter Tryd.func3, Tryd.ntmps3
  go_wp2_with fail
  refine (szParty_any A0 n0 c0 k0 (1048576) _ (by omega) (by omega) (by omega)).mono ?_
  rintro e v1 ⟨rfl, hb⟩
  rw [if_pos (by omega)]
  have hz1 : w.heap.size + 1 ≤ v1.heap.size := by have := hb.size; simpa using this
  replace ht := below_then ht hb ht.size
  replace hb0 := hb0.below hb
  clear hb
  clear hb0_0 hb0_1 hb0_l
  go_wp2
  go_ret
  exact ⟨rfl, ht⟩

set_option maxHeartbeats 12800000 in
set_option maxRecDepth 100000 in
set_option linter.unusedSimpArgs false in
set_option linter.unusedVariables false in
theorem lawPartyText_small (A0 : Option Addr) (n0 c0 : Nat) (x0 : List Int) (k0 : Int) (w : World) (h0 : Holds w A0 (nums x0)) (hx0 : x0.length = n0) (hn0 : n0 ≤ 9223372036854775807) (hT : Tab w) (g0 : 0 ≤ 1048576 - (n0 : Int)) :
    Calls Tryd.prog 3 #[.agg #[.slice A0 n0 c0, .int .i64 k0]] w fun e w' => e = .returned (.bool true) ∧ Below w.heap.size w w' := by
  have hb0 := (Whole.fresh w 24 #[.slice A0 n0 c0, .int .i64 k0])
  have ht := below1 w (.cells #[.slice A0 n0 c0, .int .i64 k0] 24)
  have HX0 := Lib.hid hx0
  clear hx0
  obtain ⟨hb0_0, hb0_1⟩ := hb0.cells2
  have hb0_l := hb0.lt
  go_enter Tryd.func3, Tryd.ntmps3
  -- region 2
  go_wp2_with fail
  refine (szParty_any A0 n0 c0 k0 (1048576) _ (by omega) (by omega) (by omega)).mono ?_
  rintro e v1 ⟨rfl, hb⟩
  rw [if_neg (by omega)]
  have hz1 : w.heap.size + 1 ≤ v1.heap.size := by have := hb.size; simpa using this
  replace ht := below_then ht hb ht.size
  replace hb0 := hb0.below hb
  clear hb
  clear hb0_0 hb0_1 hb0_l
  obtain ⟨hb0_0, hb0_1⟩ := hb0.cells2
  have hb0_l := hb0.lt
  -- region 5
  go_wp2_with fail
  refine (toParty_own A0 n0 c0 x0 k0 _ (by exact h0.below ht) HX0.out (by omega)).mono ?_
  rintro e v2 ⟨gp0, rfl, hgp0, hwp0, hb⟩
  have hz2 : v1.heap.size ≤ v2.heap.size := by have := hb.size; simpa using this
  replace ht := below_then ht hb ht.size
  replace hb0 := hb0.below hb
  have hp0 := Fresh.of_whole (lo := v1.heap.size) (hi := v2.heap.size) hwp0 (by simpa using hgp0) hwp0.lt
  clear hgp0 hwp0
  clear hb
  clear hb0_0 hb0_1 hb0_l
  obtain ⟨hb0_0, hb0_1⟩ := hb0.cells2
  have hb0_l := hb0.lt
  go_wp2_with fail
  refine (specPartyText_any _ n0 _ x0 k0 _ (by exact hp0.holds) HX0.out (by omega)).mono ?_
  rintro e v3 ⟨rfl, hb⟩
  have hz3 : v2.heap.size ≤ v3.heap.size := by have := hb.size; simpa using this
  replace ht := below_then ht hb ht.size
  replace hb0 := hb0.below hb
  replace hp0 := hp0.below hb
  clear hb
  clear hp0
  clear hb0_0 hb0_1 hb0_l
  obtain ⟨hb0_0, hb0_1⟩ := hb0.cells2
  have hb0_l := hb0.lt
  -- region 6
  go_wp2_with fail
  refine (toParty_own A0 n0 c0 x0 k0 _ (by exact h0.below ht) HX0.out (by omega)).mono ?_
  rintro e v4 ⟨gx0, rfl, hgx0, hwx0, hb⟩
  have hz4 : v3.heap.size ≤ v4.heap.size := by have := hb.size; simpa using this
  replace ht := below_then ht hb ht.size
  replace hb0 := hb0.below hb
  have hx0 := Fresh.of_whole (lo := v3.heap.size) (hi := v4.heap.size) hwx0 (by simpa using hgx0) hwx0.lt
  clear hgx0 hwx0
  clear hb
  have hx90 := Whole.fresh v4 28 #[.slice (some ⟨gx0, 0, none⟩) n0 n0, .int .i64 k0]
  replace ht := ht.alloc ht.size (.cells #[.slice (some ⟨gx0, 0, none⟩) n0 n0, .int .i64 k0] 28)
  replace hb0 := hb0.alloc (.cells #[.slice (some ⟨gx0, 0, none⟩) n0 n0, .int .i64 k0] 28)
  replace hx0 := hx0.alloc (.cells #[.slice (some ⟨gx0, 0, none⟩) n0 n0, .int .i64 k0] 28)
  clear hb0_0 hb0_1 hb0_l
  obtain ⟨hb0_0, hb0_1⟩ := hb0.cells2
  have hb0_l := hb0.lt
  obtain ⟨hx90_0, hx90_1⟩ := hx90.cells2
  have hx90_l := hx90.lt
  -- region 7
  go_wp2_with fail
  refine (implPartyText_any _ n0 _ x0 k0 _ (by exact hx0.holds) HX0.out (by omega) (hT.below ht)).mono ?_
  rintro e v5 ⟨rfl, hb⟩
  have hz5 : v4.heap.size + 1 ≤ v5.heap.size := by have := hb.size; simpa using this
  replace ht := below_then ht hb ht.size
  replace hb0 := hb0.below hb
  replace hx0 := hx0.below hb
  replace hx90 := hx90.below hb
  clear hb
  clear hb0_0 hb0_1 hb0_l hx90_0 hx90_1 hx90_l
  obtain ⟨hb0_0, hb0_1⟩ := hb0.cells2
  have hb0_l := hb0.lt
  obtain ⟨hx90_0, hx90_1⟩ := hx90.cells2
  have hx90_l := hx90.lt
  -- region 10
  clear hb0_0 hb0_1 hb0_l hx90_0 hx90_1 hx90_l
  go_wp2_with fail
  refine wp_region_held_drew (S := (fun w' => w'.cell? ⟨w.heap.size, 0, none⟩ = some (.slice A0 n0 c0) ∧ w'.cell? ⟨w.heap.size, 1, none⟩ = some (.int .i64 k0) ∧ w'.cell? ⟨v4.heap.size, 0, none⟩ = some (.slice (some ⟨gx0, 0, none⟩) n0 n0) ∧ w'.cell? ⟨v4.heap.size, 1, none⟩ = some (.int .i64 k0))) (by kernel_rfl) ⟨hb0.drew.cell 0, hb0.drew.cell 1, hx90.drew.cell 0, hx90.drew.cell 1⟩ (fun hHeld => ?_)
  replace ht := ht.drew
  replace hb0 := hb0.drew
  replace hx0 := hx0.drew
  replace hx90 := hx90.drew
  refine wpAnyH_take (i := 0) (v := ?_) rfl (by kernel_rfl) (by kernel_rfl) (by kernel_rfl) (fun _ _ _ h => h) (Or.inl ⟨rfl, ?_⟩) hHeld ?_
  rotate_left
  · intro w' hS; obtain ⟨s0, s1, s2, s3⟩ := hS; go_simp <;> with_reducible rfl
  simp only [Act.put, List.getElem_toArray, List.getElem_cons_succ, List.getElem_cons_zero, List.setIfInBounds_toArray, List.set_cons_succ, List.set_cons_zero]
  refine wpAnyH_take (i := 1) (v := ?_) rfl (by kernel_rfl) (by kernel_rfl) (by kernel_rfl) (fun _ _ _ h => h) (Or.inl ⟨rfl, ?_⟩) hHeld ?_
  rotate_left
  · intro w' hS; obtain ⟨s0, s1, s2, s3⟩ := hS; go_simp <;> with_reducible rfl
  simp only [Act.put, List.getElem_toArray, List.getElem_cons_succ, List.getElem_cons_zero, List.setIfInBounds_toArray, List.set_cons_succ, List.set_cons_zero]
  refine wpAnyH_ready (rs := [2]) (by kernel_rfl) (by simp) (AllReadyH.cons rfl (fun K hK => ?_) AllReadyH.nil)
  go_simp
  refine (toParty_own A0 n0 c0 x0 k0 _ (by exact h0.below ht) HX0.out (by omega)).mono ?_
  rintro e v6 ⟨gy0, rfl, hgy0, hwy0, hb⟩
  have hz6 : v5.heap.size ≤ v6.heap.size := by have := hb.size; simpa using this
  replace ht := below_then ht hb ht.size
  replace hb0 := hb0.below hb
  replace hx0 := hx0.below hb
  replace hx90 := hx90.below hb
  have hy0 := Fresh.of_whole (lo := v5.heap.size) (hi := v6.heap.size) hwy0 (by simpa using hgy0) hwy0.lt
  clear hgy0 hwy0
  clear hb
  refine hK.out _ _ ⟨hb0.cell 0, hb0.cell 1, hx90.cell 0, hx90.cell 1⟩ (fun hHeld => ?_)
  clear hK K
  try simp only [Act.put, List.getElem_toArray, List.getElem_cons_succ, List.getElem_cons_zero, List.setIfInBounds_toArray, List.set_cons_succ, List.set_cons_zero]
  refine wpAnyH_ready (rs := [3]) (by kernel_rfl) (by simp) (AllReadyH.cons rfl (fun K hK => ?_) AllReadyH.nil)
  go_simp
  refine (eqParty_yes _ _ n0 _ _ x0 k0 _ (by exact hx0.holds) (by exact hy0.holds) HX0.out (by omega)).mono ?_
  rintro e v7 ⟨rfl, hb⟩
  have hz7 : v6.heap.size ≤ v7.heap.size := by have := hb.size; simpa using this
  replace ht := below_then ht hb ht.size
  replace hb0 := hb0.below hb
  replace hx0 := hx0.below hb
  replace hx90 := hx90.below hb
  replace hy0 := hy0.below hb
  clear hb
  clear hy0
  refine hK.out _ _ ⟨hb0.cell 0, hb0.cell 1, hx90.cell 0, hx90.cell 1⟩ (fun hHeld => ?_)
  clear hK K
  try simp only [Act.put, List.getElem_toArray, List.getElem_cons_succ, List.getElem_cons_zero, List.setIfInBounds_toArray, List.set_cons_succ, List.set_cons_zero]
  refine wpAnyH_take (i := 4) (v := ?_) rfl (by kernel_rfl) (by kernel_rfl) (by kernel_rfl) (fun _ _ _ h => h) (Or.inl ⟨rfl, ?_⟩) hHeld ?_
  rotate_left
  · intro w' hS; obtain ⟨s0, s1, s2, s3⟩ := hS; go_simp <;> with_reducible rfl
  simp only [Act.put, List.getElem_toArray, List.getElem_cons_succ, List.getElem_cons_zero, List.setIfInBounds_toArray, List.set_cons_succ, List.set_cons_zero]
  refine wpAnyH_done (by kernel_rfl) ?_ _
  clear hHeld
  obtain ⟨hb0_0, hb0_1⟩ := hb0.cells2
  have hb0_l := hb0.lt
  obtain ⟨hx90_0, hx90_1⟩ := hx90.cells2
  have hx90_l := hx90.lt
  go_wp2
  go_ret
  exact ⟨rfl, ht⟩

theorem lawPartyText_all (A0 : Option Addr) (n0 c0 : Nat) (x0 : List Int) (k0 : Int) (w : World) (h0 : Holds w A0 (nums x0)) (hx0 : x0.length = n0) (hn0 : n0 ≤ 9223372036854775807) (hT : Tab w) :
    Calls Tryd.prog 3 #[.agg #[.slice A0 n0 c0, .int .i64 k0]] w fun e w' => e = .returned (.bool true) ∧ Below w.heap.size w w' := by
  rcases (inferInstance : Decidable (0 ≤ 1048576 - (n0 : Int))) with g0 | g0
  · exact lawPartyText_big0 A0 n0 c0 x0 k0 w h0 hx0 hn0 hT  (by omega)
  exact lawPartyText_small A0 n0 c0 x0 k0 w h0 hx0 hn0 hT g0
end Go.Proofs.YtedkanncdkofaaaDoor
