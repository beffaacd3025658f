/-
  What is proved: contracts of RankOfPace, of the model and of the program. Conditions: the times are read as they lie.
-/
import Derived.Test.YtgcobhnodjfgiaaSquadD
import Derived.Test.YtgcobhnodjfgiaaPrOrd
namespace Go.Proofs.Ytgcobhnodjfgiaa
open Go.RowKit

/-- The people in their order, if there are times; else nobody. -/
def sqW (xs : List Int) : List Wk := if prOk xs then mk xs (ord xs) else []
theorem sqW_yes {xs : List Int} (h : prOk xs = true) : sqW xs = mk xs (ord xs) := if_pos h
theorem sqW_no {xs : List Int} (h : prOk xs = false) : sqW xs = [] := if_neg (by simp [h])
theorem sqW_len (xs : List Int) : (sqW xs).length ≤ 12 := by
  cases h : prOk xs
  · rw [sqW_no h]; simp
  · rw [sqW_yes h, mk_len, ord_len]
    exact (prOk_parts h).2.1
theorem squad_as {xs : List Int} {w w' : World} {e : Ending} (h : SquadPost xs w e w') : e = .returned (.tuple #[.agg (squadCells (sqW xs) (sqW xs).length), .bool (prOk xs)]) ∧ Below w.heap.size w w' := by
  rcases h with ⟨⟨hp, rfl⟩ | ⟨hp, rfl⟩, hb⟩
  · exact ⟨by rw [sqW_yes hp, hp, mk_len, ord_len], hb⟩
  · exact ⟨by rw [sqW_no hp, hp]; rfl, hb⟩
theorem own_fresh1 {w : World} {lo n c : Nat} {ty : TypeId} {A : Option Addr} {xs : List Value} (h : w.ownsRow lo ty 1 (.slice A n c) n xs) : Fresh w lo w.heap.size ty A xs := by
  obtain ⟨A', c', hv, hf⟩ := Fresh.of_own h (Nat.le_refl _)
  obtain ⟨rfl, -⟩ : A = A' ∧ c = c' := by simpa using hv
  exact hf
/-- What a call hands back that makes a list and tells whether it did. -/
def ListPost (ls : List Int) (ok : Bool) (w : World) (e : Ending) (w' : World) : Prop :=
  ∃ (A : Option Addr) (c : Nat), e = .returned (.tuple #[.slice A ls.length c, .bool ok]) ∧ Fresh w' w.heap.size w'.heap.size 3 A (nums ls) ∧ Below w.heap.size w w'
theorem ListPost.no {w w' : World} (h : Below w.heap.size w w') : ListPost [] false w (.returned (.tuple #[.slice none 0 0, .bool false])) w' := ⟨none, 0, rfl, .inl rfl, h⟩
theorem ListPost.own {ls : List Int} {ok : Bool} {w w' : World} {A : Option Addr} {c : Nat} (h : w'.ownsRow w.heap.size 3 1 (.slice A ls.length c) ls.length (nums ls)) (hb : Below w.heap.size w w') : ListPost ls ok w (.returned (.tuple #[.slice A ls.length c, .bool ok])) w' :=
  ⟨A, c, rfl, own_fresh1 h, hb⟩

set_option maxHeartbeats 800000 in
theorem prGood_any (A : Option Addr) (n c : Nat) (xs : List Int) (w : World) (hA : Holds w A (nums xs)) (hx : xs.length = n) (hn : n ≤ 9223372036854775807) :
    Calls Try.prog 64 #[.slice A n c] w fun e w' => e = .returned (.bool (prOk xs)) ∧ w = w' := by
  have HX := Lib.hid hx
  cases h1 : within (n : Int) 1 12
  · have HW := Lib.hid h1
    have HP : Hid (prOk xs = false) := by show _ = _; rw [prOk, hx, h1]; rfl
    clear hx h1
    go_enter Try.func64, Try.ntmps64
    go_wp2_with (go_at_call 88; refine (l1In_any _ _ _ _).mono ?_; rintro e w' ⟨rfl, rfl⟩; rw [HW.out])
    go_ret
    exact ⟨ret_of (by rw [HP.out]; rfl), rfl⟩
  · have HW := Lib.hid h1
    have HP : Hid (prOk xs = allIn xs 1 1000) := by show _ = _; rw [prOk, hx, h1]; rfl
    clear hx h1
    go_enter Try.func64, Try.ntmps64
    go_wp2_with (first | (go_at_call 88; refine (l1In_any _ _ _ _).mono ?_; rintro e w' ⟨rfl, rfl⟩; rw [HW.out]) | (go_at_call 89; refine (l1All_any A n c xs 1 1000 _ hA HX.out hn).mono ?_; rintro e w' ⟨rfl, rfl⟩))
    go_ret
    exact ⟨ret_of (by rw [HP.out]; rfl), rfl⟩

def ranked (xs : List Int) : List Int := if prOk xs then ord xs else []
theorem ranked_map (xs : List Int) : (sqW xs).map (fun x => x.1) = ranked xs := by
  cases h : prOk xs
  · simp [sqW, ranked, h]
  · simp only [sqW, ranked, h, mk, if_true, List.map_map]
    exact List.map_id _
theorem ranked_le (xs : List Int) : (ranked xs).length ≤ 1048576 := by
  rw [← ranked_map, List.length_map]
  have := sqW_len xs
  omega
set_option maxHeartbeats 800000 in
theorem specRank_any (A : Option Addr) (n c : Nat) (xs : List Int) (w : World) (hA : Holds w A (nums xs)) (hx : xs.length = n) (hn : n ≤ 9223372036854775807) :
    Calls Try.prog 52 #[.slice A n c] w (ListPost (ranked xs) (prOk xs) w) := by
  have HX := Lib.hid hx
  cases hp : prOk xs
  · have HP := Lib.hid hp
    have HR : Hid (ranked xs = []) := by show _ = _; simp [ranked, hp]
    clear hp hx
    go_enter Try.func52, Try.ntmps52
    go_wp2_with (go_at_call 64; refine (prGood_any A n c xs _ hA HX.out hn).mono ?_; rintro e w' ⟨rfl, rfl⟩; rw [HP.out])
    go_ret2
    rw [HR.out]
    exact ListPost.no (Below.refl _ _)
  · have HP := Lib.hid hp
    have HR : Hid (ranked xs = ord xs) := by show _ = _; simp [ranked, hp]
    have h12 := (prOk_parts hp).2.1
    rw [hx] at h12
    clear hp hx
    go_enter Try.func52, Try.ntmps52
    go_wp2_with (go_at_call 64; refine (prGood_any A n c xs _ hA HX.out hn).mono ?_; rintro e w' ⟨rfl, rfl⟩; rw [HP.out])
    refine (prOrder_any A n c xs _ hA HX.out (by omega)).mono ?_
    rintro e w1 ⟨A1, c1, rfl, hown, hb⟩
    have HO := Lib.hid hown
    clear hown
    go_wp2
    go_ret2
    rw [HR.out, ord, HX.out]
    exact ListPost.own HO.out hb

/-- The first k of some people. -/
def whos (W : List Wk) (k : Nat) : List Int := (W.take k).map (fun x => x.1)
theorem whos_next {W : List Wk} {k : Nat} (h : k < W.length) : whos W (k + 1) = whos W k ++ [(wk W k).1] := by
  rw [whos, List.take_succ_eq_append_getElem h, List.map_append]
  simp [whos, wk, h]
theorem whos_len {W : List Wk} {k : Nat} (h : k ≤ W.length) : (whos W k).length = k := by simp [whos]; omega

set_option maxHeartbeats 3200000 in
set_option maxRecDepth 100000 in
theorem implRank_any (A : Option Addr) (n c : Nat) (xs : List Int) (w : World) (hA : Holds w A (nums xs)) (hx : xs.length = n) (hn : n ≤ 9223372036854775807) :
    Calls Try.prog 53 #[.slice A n c] w (ListPost (ranked xs) (prOk xs) w) := by
  have HX := Lib.hid hx
  obtain ⟨i0, hi, hz0, hz1, hz2⟩ := info_parts info_int
  have HI := Lib.hid hi
  have HZ0 := Lib.hid hz0
  have HZ1 := Lib.hid hz1
  have HZ2 := Lib.hid hz2
  have HRM := Lib.hid (ranked_map xs)
  clear hi hz0 hz1 hz2 hx
  go_enter Try.func53, Try.ntmps53
  go_wp2_with fail
  refine (squadOf_any A n c xs _ hA HX.out hn).mono ?_
  rintro e w1 hpost
  obtain ⟨rfl, hb⟩ := squad_as hpost
  have h12 := sqW_len xs
  have HB := Lib.hid hb
  clear hpost hb
  generalize hWe : sqW xs = W at h12 HRM ⊢
  clear hWe
  go_upto_region 2 with (refine wpList_store_whole rfl 85 (.tmp 4) (.tmp 12) rfl w1.heap.size (squadCells W W.length) rfl rfl 85 _ (Whole.fresh _ _ _) size_squad rfl (squad_one _ _) ?_; intro W2 hw2 ho2)
  have hb2 := ho2.below (HB.out.alloc HB.out.size (.cells (squadCells [] 0) 85)) HB.out.size
  have hgl := hw2.lt
  have hsz2 : w1.heap.size + 1 ≤ W2.heap.size := by omega
  have HW2 := Lib.hid hw2
  have HB2 := Lib.hid hb2
  have h24 := hw2.cell 24
  rw [squad_n] at h24
  have hm0 : (0 : Int) ≤ (W.length : Int) := by omega
  have hm12 : (W.length : Int) ≤ 12 := by omega
  have hbs : w.heap.size ≤ w1.heap.size := HB.out.size
  clear hw2 ho2 hb2
  go_wp2_with fail
  clear h24
  go_loopw [6, 19] (fun v i wr => ∃ (k : Nat) (E : Option Addr) (d : Nat), k ≤ W.length ∧ i = .int .i64 k ∧ v = .slice E k d ∧ wr.ownsRow (w1.heap.size + 1) 3 1 (.slice E k d) k (nums (whos W k)) ∧ Below (w1.heap.size + 1) W2 wr) (fun _ i _ => W.length - (intOf i).toNat)
  case atStart => exact ⟨0, none, 0, Nat.zero_le _, rfl, rfl, World.ownsRow_nil _ _ _ _, Below.refl _ _⟩
  case round =>
    obtain ⟨k, E, d, hk, rfl, rfl, hown, hb⟩ := hrel
    by_cases hlt : k < W.length
    · have hw := HW2.out.below' hb (by omega)
      have hc0 := (hw.cell (2 * k)).trans (squad_who _ _ (by omega))
      have hc1 := (hw.cell (2 * k + 1)).trans (squad_time _ _ (by omega))
      rw [show 2 * k = k * 2 from Nat.mul_comm _ _] at hc0 hc1
      have HNX := Lib.hid (whos_next hlt)
      generalize wk W k = x at hc0 hc1 HNX
      obtain ⟨x1, x2⟩ := x
      have hsz : w1.heap.size + 1 ≤ wr.heap.size := by have := hb.size; omega
      have HOW := Lib.hid ((hown.alloc (.cells #[.int .i64 x1, .int .i64 x2] 82)).alloc (.cells #[.int .i64 x1] 3))
      have HBB := Lib.hid ((hb.alloc hsz (.cells #[.int .i64 x1, .int .i64 x2] 82)).alloc (by simp; omega) (.cells #[.int .i64 x1] 3))
      have HBASE := Lib.hid (show w1.heap.size + 1 ≤ ((wr.alloc (.cells #[.int .i64 x1, .int .i64 x2] 82)).alloc (.cells #[.int .i64 x1] 3)).heap.size by simp; omega)
      have HMAX := Lib.hid (show k + 1 ≤ maxLen by unfold maxLen; omega)
      have HBYT := Lib.hid (show (k + 1) * 8 ≤ 140737488355328 by omega)
      clear hown hb hw
      go_wp2_with (at_builtin; refine wpList_append_own _ rfl (.tmp 23) (.tmp 26) 22 rfl (w1.heap.size + 1) 3 i0 (.int .i64 0) 1 8 Try.underlying22 HI.out HZ0.out HZ1.out HZ2.out rfl (by decide) (.slice E k d) k (nums (whos W k)) rfl HOW.out ⟨wr.heap.size + 1, 0, none⟩ 1 1 [.int .i64 x1] rfl rfl (by first | exact cell_one_new _ _ _ | (have h := cell_one_new (wr.alloc (.cells #[.int .i64 x1, .int .i64 x2] 82)) (.int .i64 x1) 3; rw [World.size_alloc] at h; exact h)) (by simp [Value.oneCell']) HMAX.out HBYT.out HBASE.out ?_; intro v' w2 hown1 hg1 _; obtain ⟨D', q', hv', -⟩ := Fresh.of_own hown1 (Nat.le_refl _); rw [hv'] at hown1 ⊢; clear hv')
      have HBN := Lib.hid (HBB.out.grown hg1 HBASE.out (fun kk e => (HOW.out.lt _ e).1))
      have HON := Lib.hid hown1
      clear hg1 hown1
      go_roundw
      case rel => exact ⟨k + 1, D', q', by omega, by go_num, rfl, by rw [HNX.out, show nums (whos W k ++ [x1]) = nums (whos W k) ++ [.int .i64 x1] by simp [nums]]; exact HON.out, HBN.out⟩
      case measure => simp [intOf]; omega
    · obtain rfl : k = W.length := by omega
      have HL := Lib.hid (whos_len (W := W) (Nat.le_refl _))
      have hall : whos W W.length = ranked xs := by rw [whos, List.take_length]; exact HRM.out
      have HALL := Lib.hid hall
      have HO := Lib.hid (own_lower hown (base' := w.heap.size) (by omega))
      have HBE := Lib.hid (HB2.out.trans (hb.mono (by omega)))
      clear hown hb hall
      go_wp2
      go_ret2
      have hrl : (ranked xs).length = W.length := by rw [← HALL.out]; exact HL.out
      have ho := HO.out
      rw [HALL.out, ← hrl] at ho
      rw [← hrl]
      exact ListPost.own ho HBE.out
end Go.Proofs.Ytgcobhnodjfgiaa
