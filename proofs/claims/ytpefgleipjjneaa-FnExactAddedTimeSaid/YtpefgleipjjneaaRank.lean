/-
  What is proved: contracts of RankOfPace, of the model and of the program. Conditions: the times are read as they lie.
-/
import Derived.Test.YtpefgleipjjneaaSquadD
import Derived.Test.YtpefgleipjjneaaPrOrd
namespace Go.Proofs.Ytpefgleipjjneaa
open Go.RowKit

/-- The people in their order, if there are times; else nobody. -/
def sqW (xs : List Int) : List Wk := if prOk xs then mk xs (ord xs) else []
theorem sqW_yes {xs : List Int} (h : prOk xs = true) : sqW xs = mk xs (ord xs) := if_pos h
theorem sqW_no {xs : List Int} (h : prOk xs = false) : sqW xs = [] := if_neg (by simp [h])
theorem sqW_len (xs : List Int) : (sqW xs).length ≤ 12 := by
  cases h : prOk xs
  · rw [sqW_no h]; simp
  · rw [sqW_yes h, mk_len, ord_len]
    exact (prOk_parts h).2.1
theorem squad_as {xs : List Int} {w w' : World} {e : Ending} (h : SquadPost xs w e w') : e = .returned (.tuple #[.agg (squadCells (sqW xs) (sqW xs).length), .bool (prOk xs)]) ∧ Below w.heap.size w w' := by
  rcases h with ⟨⟨hp, rfl⟩ | ⟨hp, rfl⟩, hb⟩
  · exact ⟨by rw [sqW_yes hp, hp, mk_len, ord_len], hb⟩
  · exact ⟨by rw [sqW_no hp, hp]; rfl, hb⟩
theorem own_fresh1 {w : World} {lo n c : Nat} {ty : TypeId} {A : Option Addr} {xs : List Value} (h : w.ownsRow lo ty 1 (.slice A n c) n xs) : Fresh w lo w.heap.size ty A xs := by
  obtain ⟨A', c', hv, hf⟩ := Fresh.of_own h (Nat.le_refl _)
  obtain ⟨rfl, -⟩ : A = A' ∧ c = c' := by simpa using hv
  exact hf
/-- What a call hands back that makes a list and tells whether it did. -/
def ListPost (ls : List Int) (ok : Bool) (w : World) (e : Ending) (w' : World) : Prop :=
  ∃ (A : Option Addr) (c : Nat), e = .returned (.tuple #[.slice A ls.length c, .bool ok]) ∧ Fresh w' w.heap.size w'.heap.size 3 A (nums ls) ∧ Below w.heap.size w w'
theorem ListPost.no {w w' : World} (h : Below w.heap.size w w') : ListPost [] false w (.returned (.tuple #[.slice none 0 0, .bool false])) w' := ⟨none, 0, rfl, .inl rfl, h⟩
theorem ListPost.own {ls : List Int} {ok : Bool} {w w' : World} {A : Option Addr} {c : Nat} (h : w'.ownsRow w.heap.size 3 1 (.slice A ls.length c) ls.length (nums ls)) (hb : Below w.heap.size w w') : ListPost ls ok w (.returned (.tuple #[.slice A ls.length c, .bool ok])) w' :=
  ⟨A, c, rfl, own_fresh1 h, hb⟩

set_option maxHeartbeats 800000 in
theorem prGood_any (A : Option Addr) (n c : Nat) (xs : List Int) (w : World) (hA : Holds w A (nums xs)) (hx : xs.length = n) (hn : n ≤ 9223372036854775807) :
    Calls Try.prog 11 #[.slice A n c] w fun e w' => e = .returned (.bool (prOk xs)) ∧ w = w' := by
  have HX := Lib.hid hx
  cases h1 : within (n : Int) 1 12
  · have HW := Lib.hid h1
    have HP : Hid (prOk xs = false) := by show _ = _; rw [prOk, hx, h1]; rfl
    clear hx h1
    go_enter Try.func11, Try.ntmps11
    go_wp2_with (go_at_call 12; refine (l1In_any _ _ _ _).mono ?_; rintro e w' ⟨rfl, rfl⟩; rw [HW.out])
    go_ret
    exact ⟨ret_of (by rw [HP.out]; rfl), rfl⟩
  · have HW := Lib.hid h1
    have HP : Hid (prOk xs = allIn xs 1 1000) := by show _ = _; rw [prOk, hx, h1]; rfl
    clear hx h1
    go_enter Try.func11, Try.ntmps11
    go_wp2_with (first | (go_at_call 12; refine (l1In_any _ _ _ _).mono ?_; rintro e w' ⟨rfl, rfl⟩; rw [HW.out]) | (go_at_call 20; refine (l1All_any A n c xs 1 1000 _ hA HX.out hn).mono ?_; rintro e w' ⟨rfl, rfl⟩))
    go_ret
    exact ⟨ret_of (by rw [HP.out]; rfl), rfl⟩

def ranked (xs : List Int) : List Int := if prOk xs then ord xs else []
theorem ranked_map (xs : List Int) : (sqW xs).map (fun x => x.1) = ranked xs := by
  cases h : prOk xs
  · simp [sqW, ranked, h]
  · simp only [sqW, ranked, h, mk, if_true, List.map_map]
    exact List.map_id _
theorem ranked_le (xs : List Int) : (ranked xs).length ≤ 1048576 := by
  rw [← ranked_map, List.length_map]
  have := sqW_len xs
  omega
/-- The first k of some people. -/
def whos (W : List Wk) (k : Nat) : List Int := (W.take k).map (fun x => x.1)
theorem whos_next {W : List Wk} {k : Nat} (h : k < W.length) : whos W (k + 1) = whos W k ++ [(wk W k).1] := by
  rw [whos, List.take_succ_eq_append_getElem h, List.map_append]
  simp [whos, wk, h]
theorem whos_len {W : List Wk} {k : Nat} (h : k ≤ W.length) : (whos W k).length = k := by simp [whos]; omega

end Go.Proofs.Ytpefgleipjjneaa
