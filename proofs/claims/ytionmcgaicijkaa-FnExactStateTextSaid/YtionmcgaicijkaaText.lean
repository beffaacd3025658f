/-
  What is proved: contracts of StateText, of the model and of the program. Conditions: the arguments are read as they lie.
-/
import Derived.Test.YtionmcgaicijkaaFails
import Derived.Test.YtionmcgaicijkaaBuilder
import Derived.Test.YtionmcgaicijkaaShelfB
import Derived.Laws.Concat
namespace Go.Proofs.Ytionmcgaicijkaa
open Go.RowKit

def sign (b : Bool) (x y : UInt8) : UInt8 := if b then x else y
/-- The signs of some places. -/
def signs (bs : List Bool) : List UInt8 := bs.map fun b => sign b 120 46
theorem signs_len (bs : List Bool) : (signs bs).length = bs.length := by simp [signs]
theorem signs_next {bs : List Bool} {k : Nat} (hk : k < bs.length) : signs (bs.take (k + 1)) = signs (bs.take k) ++ [sign bs[k] 120 46] := by
  rw [List.take_succ_eq_append_getElem hk, signs, List.map_append]
  rfl
def stateText (bs : List Bool) (t : Bool) : List UInt8 := signs bs ++ [sign t 62 60]
/-- A text as a value. -/
def textVal (l : List UInt8) : Value := .string ⟨l.toArray⟩
theorem cat_text (l : List UInt8) (c : UInt8) (h : l.length ≤ 1048576) (W : World) : (Op.stringOp .add ⟨l.toArray⟩ ⟨#[c]⟩).run Try.prog W = .ok (.string ⟨(l ++ [c]).toArray⟩) W :=
  run_string_add_lists W l [c] (by omega) (by simp)

set_option maxHeartbeats 1600000 in
set_option maxRecDepth 100000 in
theorem paText_any (B : Option Addr) (m d : Nat) (bs : List Bool) (t : Bool) (w : World) (hB : Holds w B (bits bs)) (hy : bs.length = m) (hm : m ≤ 8) :
    Calls Try.prog 89 #[.agg #[.slice B m d, .bool t]] w fun e w' => e = .returned (.string ⟨(stateText bs t).toArray⟩) ∧ Below w.heap.size w w' := by
  have HY := Lib.hid hy
  have hB2 := hB.alloc (.cells #[.slice B m d, .bool t] 30)
  have h0 := Whole.fresh w 30 #[.slice B m d, .bool t]
  obtain ⟨c0, c1, -, -⟩ := h0.two
  clear hy h0
  go_enter Try.func89, Try.ntmps89
  go_wp2
  go_loop [3, 9] (fun v i => ∃ k : Nat, k ≤ m ∧ i = .int .i64 k ∧ v = .string ⟨(signs (bs.take k)).toArray⟩) (fun _ i => m - (intOf i).toNat)
  case atStart => exact ⟨0, Nat.zero_le _, rfl, rfl⟩
  case round =>
    obtain ⟨k, hk, rfl, rfl⟩ := hrel
    by_cases hlt : k < m
    · have hkl : k < bs.length := by have := HY.out; omega
      obtain ⟨b1, o1, rfl, hbl1, hc⟩ := hB2.look (k := k) (by rw [bits_len]; exact hkl)
      simp only [bits, List.getElem_map] at hc
      have HNX := Lib.hid (signs_next hkl)
      have hcat := fun (c : UInt8) (W : World) => cat_text (signs (bs.take k)) c (by rw [signs_len]; simp; omega) W
      cases hbk : bs[k]
      all_goals
        rw [hbk] at hc
        have HK := Lib.hid hbk
        clear hbk
        go_wp2
        go_round
        case rel => exact ⟨k + 1, by omega, by go_num, by rw [HNX.out, HK.out]; rfl⟩
        case measure => simp [intOf]; omega
    · have hkn : bs.take k = bs := List.take_of_length_le (by have := HY.out; omega)
      have HK := Lib.hid hkn
      have hcat := fun (c : UInt8) (W : World) => cat_text (signs (bs.take k)) c (by rw [signs_len]; simp; omega) W
      clear hkn
      cases t
      all_goals
        go_wp2
        go_ret
        exact ⟨by rw [HK.out]; rfl, below1 w _⟩

def textOf (xs : List Int) (n : Nat) (s : Int) (bs : List Bool) (t : Bool) : List UInt8 := if asked xs n s bs t then stateText bs t else []
/-- What a call hands back that makes a text and tells whether it did. -/
def TextPost (l : List UInt8) (ok : Bool) (w : World) (e : Ending) (w' : World) : Prop := e = .returned (.tuple #[.string ⟨l.toArray⟩, .bool ok]) ∧ Below w.heap.size w w'

set_option maxHeartbeats 800000 in
set_option maxRecDepth 100000 in
theorem specStateText_any (A B : Option Addr) (n c m d : Nat) (xs : List Int) (bs : List Bool) (s : Int) (t : Bool) (w : World) (hA : Holds w A (nums xs)) (hB : Holds w B (bits bs)) (hx : xs.length = n) (hy : bs.length = m) (hn : n ≤ 9223372036854775807) (hm : m ≤ 9223372036854775807) :
    Calls Try.prog 54 #[.agg #[.slice A n c, .int .i64 s], .agg #[.slice B m d, .bool t]] w (TextPost (textOf xs n s bs t) (asked xs n s bs t) w) := by
  have HX := Lib.hid hx
  have HY := Lib.hid hy
  have hA2 := (hA.alloc (.cells #[.slice A n c, .int .i64 s] 33)).alloc (.cells #[.slice B m d, .bool t] 30)
  have hB2 := (hB.alloc (.cells #[.slice A n c, .int .i64 s] 33)).alloc (.cells #[.slice B m d, .bool t] 30)
  have h1 := Whole.fresh (w.alloc (.cells #[.slice A n c, .int .i64 s] 33)) 30 #[.slice B m d, .bool t]
  rw [World.size_alloc] at h1
  cases hp : asked xs n s bs t
  · have HP := Lib.hid (show (isParty xs s && isState n bs t) = false from hp)
    rw [show textOf xs n s bs t = [] by simp [textOf, hp]]
    clear hp hx hy
    go_enter Try.func54, Try.ntmps54
    go_wp2_with fail
    refine (paAsked_any A B n c m d xs bs s t _ hA2 hB2 HX.out HY.out hn hm).mono ?_
    rintro e w1 ⟨rfl, hb⟩
    rw [HP.out]
    have ht := below_then (below2 w _ _) hb (by simp; omega)
    clear hb
    go_wp2
    go_ret2
    exact ⟨rfl, ht⟩
  · have HP := Lib.hid (show (isParty xs s && isState n bs t) = true from hp)
    obtain ⟨h8, hpos, hbl⟩ := asked_len hp hx
    have hm8 : m ≤ 8 := by omega
    rw [show textOf xs n s bs t = stateText bs t by simp [textOf, hp]]
    clear hp hx hy hbl
    go_enter Try.func54, Try.ntmps54
    go_wp2_with fail
    refine (paAsked_any A B n c m d xs bs s t _ hA2 hB2 HX.out HY.out hn hm).mono ?_
    rintro e w1 ⟨rfl, hb⟩
    rw [HP.out]
    have ht := below_then (below2 w _ _) hb (by simp; omega)
    have hB3 := hB2.below hb
    obtain ⟨d0, d1, -, -⟩ := (h1.below hb).two
    clear hb h1
    go_wp2_with fail
    refine (paText_any B m d bs t _ hB3 HY.out hm8).mono ?_
    rintro e w2 ⟨rfl, hb⟩
    replace ht := below_then ht hb ht.size
    clear hb d0 d1
    go_wp2
    go_ret2
    exact ⟨rfl, ht⟩

set_option maxHeartbeats 400000 in
theorem choose_any (b : Bool) (x y : Int) (w : World) :
    Calls Try.prog 91 #[.bool b, .int .u8 x, .int .u8 y] w fun e w' => e = .returned (.int .u8 (if b then x else y)) ∧ w = w' := by
  cases b
  all_goals
    go_enter Try.func91, Try.ntmps91
    go_wp2
    go_ret
    exact ⟨rfl, rfl⟩
theorem byteCells_next (l : List UInt8) (c : UInt8) : Lib.byteCells l ++ [.int .u8 (c.toNat : Nat)] = Lib.byteCells (l ++ [c]) := by simp [Lib.byteCells]
theorem byteCells_len (l : List UInt8) : (Lib.byteCells l).length = l.length := by simp [Lib.byteCells]
theorem sign_num (b : Bool) : (if b then (120 : Int) else 46) = ((sign b 120 46).toNat : Nat) := by cases b <;> rfl
theorem sign_num2 (b : Bool) : (if b then (62 : Int) else 60) = ((sign b 62 60).toNat : Nat) := by cases b <;> rfl

set_option maxHeartbeats 1600000 in
set_option maxRecDepth 100000 in
theorem implStateText_any (A B : Option Addr) (n c m d : Nat) (xs : List Int) (bs : List Bool) (s : Int) (t : Bool) (w : World) (hA : Holds w A (nums xs)) (hB : Holds w B (bits bs)) (hx : xs.length = n) (hy : bs.length = m) (hn : n ≤ 9223372036854775807) (hm : m ≤ 9223372036854775807) :
    Calls Try.prog 55 #[.agg #[.slice A n c, .int .i64 s], .agg #[.slice B m d, .bool t]] w (TextPost (textOf xs n s bs t) (asked xs n s bs t) w) := by
  have HX := Lib.hid hx
  have HY := Lib.hid hy
  have hA2 := (hA.alloc (.cells #[.slice A n c, .int .i64 s] 33)).alloc (.cells #[.slice B m d, .bool t] 30)
  have hB2 := (hB.alloc (.cells #[.slice A n c, .int .i64 s] 33)).alloc (.cells #[.slice B m d, .bool t] 30)
  have h0 := (Whole.fresh w 33 #[.slice A n c, .int .i64 s]).alloc (.cells #[.slice B m d, .bool t] 30)
  go_enter Try.func55, Try.ntmps55
  go_wp2_with fail
  refine (partyPlace_any A B n c m d xs bs s t _ hA2 hB2 hx hy hn hm).mono ?_
  rintro e w1 ⟨⟨hp, rfl⟩ | ⟨hp, rfl⟩, hb⟩
  · have HP := Lib.hid (show asked xs n s bs t = true from hp)
    obtain ⟨h8, hpos, hbl⟩ := asked_len HP.out hx
    have HBL := Lib.hid hbl
    have ht := below_then (below2 w _ _) hb (by simp; omega)
    have h1 := ((h0.below hb).alloc (.cells (placeCells bs t) 82)).alloc (.cells #[.pointer none, .slice none 0 0] 111)
    have hE := (Whole.fresh w1 82 (placeCells bs t)).alloc (.cells #[.pointer none, .slice none 0 0] 111)
    have hl := (h0.below hb).lt
    have hF := Lib.fresh_isBuilder 111 5 (w1.alloc (.cells (placeCells bs t) 82))
    rw [World.size_alloc] at hF
    have ht2 := (ht.alloc ht.size (.cells (placeCells bs t) 82)).alloc (by have := ht.size; simp; omega) (.cells #[.pointer none, .slice none 0 0] 111)
    have hwz := ht.size
    obtain ⟨c0, c1, -, -⟩ := (h0.below hb).two
    have HF := Lib.hid hF
    have HT := Lib.hid ht2
    have H1 := Lib.hid h1
    have HE := Lib.hid hE
    clear hp hb h0 hA2 hB2 hx hy hbl ht hF ht2 h1 hE
    unfold placeCells
    go_wp2
    go_loopw [21] (fun i wr => ∃ k : Nat, k ≤ n ∧ i = .int .i64 k ∧ Built (w1.heap.size + 1) (w1.heap.size + 1) (Lib.byteCells (signs (bs.take k))) wr ∧ Whole wr w.heap.size 33 #[.slice A n c, .int .i64 s] ∧ Whole wr w1.heap.size 82 (placeCells bs t) ∧ Below w.heap.size w wr ∧ w1.heap.size + 1 ≤ wr.heap.size) (fun i _ => n - (intOf i).toNat)
    case atStart => exact ⟨0, Nat.zero_le _, rfl, HF.out, H1.out, HE.out, HT.out, by simp⟩
    case round =>
      obtain ⟨k, hk, rfl, hF, h1, hE, ht, hsz⟩ := hrel
      clear HF HT H1 HE c0 c1
      by_cases hlt : k < n
      · have hkl : k < bs.length := by have := HBL.out; omega
        have hin := (hE.cell k).trans (place_at bs t (show k < 8 by omega))
        rw [show bs.getD k false = bs[k] by simp [hkl]] at hin
        have hk8 : (k : Int) < 8 := by omega
        have HNX := Lib.hid (signs_next hkl)
        have hlen : (Lib.byteCells (signs (bs.take k))).length + 1 ≤ 140737488355328 := by rw [byteCells_len, signs_len]; simp; omega
        have HLEN := Lib.hid hlen
        clear hlen
        go_wp2_with fail
        refine (choose_any bs[k] 120 46 _).mono ?_
        rintro e w2 ⟨rfl, rfl⟩
        rw [sign_num]
        go_wp2_with fail
        refine (writeByte_any (w1.heap.size + 1) (w1.heap.size + 1) _ _ _ hF HLEN.out hsz).mono ?_
        rintro e w2 ⟨rfl, hF2, hb2⟩
        have h12 := h1.below' hb2 (by omega)
        have hE2 := hE.below' hb2 (by omega)
        have ht2 := ht.trans (hb2.mono (B' := w.heap.size) (by omega))
        have hsz2 : w1.heap.size + 1 ≤ w2.heap.size := Nat.le_trans hsz hb2.size
        rw [byteCells_next] at hF2
        have HF2 : Hid (Built (w1.heap.size + 1) (w1.heap.size + 1) (Lib.byteCells (signs (bs.take (k + 1)))) w2) := by show Built _ _ _ _; rw [HNX.out]; exact hF2
        clear hF hF2 hb2 h1 hE ht hsz hin
        go_wp2
        go_roundw
        case rel => exact ⟨k + 1, by omega, by go_num, HF2.out, h12, hE2, ht2, hsz2⟩
        case measure => simp [intOf]; omega
      · have hkn : bs.take k = bs := List.take_of_length_le (by have := HBL.out; omega)
        rw [hkn] at hF
        have hin : wr.cell? ⟨w1.heap.size, 8, none⟩ = some (.bool t) := (hE.cell 8).trans rfl
        have hlen : (Lib.byteCells (signs bs)).length + 1 ≤ 140737488355328 := by rw [byteCells_len, signs_len, HBL.out]; omega
        have HLEN := Lib.hid hlen
        clear hkn hlen
        go_wp2_with fail
        refine (choose_any t 62 60 _).mono ?_
        rintro e w2 ⟨rfl, rfl⟩
        rw [sign_num2]
        go_wp2_with fail
        refine (writeByte_any (w1.heap.size + 1) (w1.heap.size + 1) _ _ _ hF HLEN.out hsz).mono ?_
        rintro e w2 ⟨rfl, hF2, hb2⟩
        have ht2 := ht.trans (hb2.mono (B' := w.heap.size) (by omega))
        have hsz2 : w1.heap.size + 1 ≤ w2.heap.size := Nat.le_trans hsz hb2.size
        rw [byteCells_next] at hF2
        clear hF hb2 h1 hE ht hsz hin
        go_wp2_with fail
        refine (Try.Builder_String_any (w1.heap.size + 1) (w1.heap.size + 1) (signs bs ++ [sign t 62 60]) _ hF2 hsz2).mono ?_
        rintro e w3 ⟨rfl, hb3⟩
        have ht3 := ht2.trans (hb3.mono (B' := w.heap.size) (by omega))
        clear hb3 hF2 ht2
        go_wp2
        go_ret2
        exact ⟨by rw [show textOf xs n s bs t = stateText bs t by simp [textOf, HP.out], HP.out]; rfl, ht3⟩
  · have HP := Lib.hid (show asked xs n s bs t = false from hp)
    have ht := below_then (below2 w _ _) hb (by simp; omega)
    replace ht := ht.alloc ht.size (.cells (placeCells [] false) 82)
    clear hp hb h0 hA2 hB2 hx hy
    unfold placeCells at *
    go_wp2
    go_ret2
    exact ⟨by rw [show textOf xs n s bs t = [] by simp [textOf, HP.out], HP.out]; rfl, ht⟩
end Go.Proofs.Ytionmcgaicijkaa
