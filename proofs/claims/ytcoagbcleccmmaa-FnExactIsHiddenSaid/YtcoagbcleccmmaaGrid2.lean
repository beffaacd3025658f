/-
  What is proved: contracts of the laws' copy and comparison of lists of lists of numbers. Conditions: the given lists are read as they lie; a copy is of at most 1,048,576 numbers.
-/
import Derived.Test.YtcoagbcleccmmaaGrid
import Derived.Test.YtcoagbcleccmmaaFirstI
namespace Go.Proofs.Ytcoagbcleccmmaa
open Go.RowKit

/-- Lists of the call's own, each in blocks behind those of the one before. -/
def OwnRows (w : World) : Nat → Nat → List RowV → Prop
  | lo, hi, [] => lo ≤ hi
  | lo, hi, r :: rs => ∃ mid, lo ≤ mid ∧ Fresh w lo mid 3 r.A (nums r.xs) ∧ r.xs.length = r.n ∧ r.n ≤ 1048576 ∧ OwnRows w mid hi rs
theorem OwnRows.le {w : World} : ∀ {rs : List RowV} {lo hi : Nat}, OwnRows w lo hi rs → lo ≤ hi
  | [], _, _, h => h
  | _ :: _, _, _, ⟨_, h1, _, _, _, h2⟩ => Nat.le_trans h1 h2.le
theorem OwnRows.more {w : World} : ∀ {rs : List RowV} {lo hi hi' : Nat}, OwnRows w lo hi rs → hi ≤ hi' → OwnRows w lo hi' rs
  | [], _, _, _, h, h' => Nat.le_trans h h'
  | _ :: _, _, _, _, ⟨m, h1, hf, hl, hn, h2⟩, h' => ⟨m, h1, hf, hl, hn, h2.more h'⟩
theorem OwnRows.below {w w' : World} (hb : Below w.heap.size w w') : ∀ {rs : List RowV} {lo hi : Nat}, OwnRows w lo hi rs → OwnRows w' lo hi rs
  | [], _, _, h => h
  | _ :: _, _, _, ⟨m, h1, hf, hl, hn, h2⟩ => ⟨m, h1, hf.below hb, hl, hn, h2.below hb⟩
theorem OwnRows.set_out {w : World} {b o : Nat} {u : Value} : ∀ {rs : List RowV} {lo hi : Nat}, OwnRows w lo hi rs → (b < lo ∨ hi ≤ b) → OwnRows (w.setCell ⟨b, o, none⟩ u) lo hi rs
  | [], _, _, h, _ => h
  | _ :: _, _, _, ⟨m, h1, hf, hl, hn, h2⟩, hd => ⟨m, h1, hf.set_out (by have := h2.le; omega), hl, hn, h2.set_out (by omega)⟩
theorem OwnRows.snoc {w : World} {r : RowV} : ∀ {rs : List RowV} {lo mid hi : Nat}, OwnRows w lo mid rs → mid ≤ hi → Fresh w mid hi 3 r.A (nums r.xs) → r.xs.length = r.n → r.n ≤ 1048576 → OwnRows w lo hi (rs ++ [r])
  | [], _, _, hi, h, hm, hf, hl, hn => ⟨hi, Nat.le_trans h hm, hf.more h (Nat.le_refl _), hl, hn, Nat.le_refl _⟩
  | _ :: _, _, _, _, ⟨m, h1, hg, hk, ho, h2⟩, hm, hf, hl, hn => ⟨m, h1, hg, hk, ho, h2.snoc hm hf hl hn⟩
theorem OwnRows.ok {w : World} : ∀ {rs : List RowV} {lo hi : Nat}, OwnRows w lo hi rs → ∀ r ∈ rs, RowOk w r
  | [], _, _, _, _, hr => by cases hr
  | r :: rs, _, _, ⟨_, _, hf, hl, hn, h2⟩, x, hx => by
    rcases List.mem_cons.1 hx with rfl | hx
    · exact ⟨hf.holds, hl, by omega⟩
    · exact h2.ok x hx
/-- Lists of lists of the call's own: block g tells where they lie, the lists are behind it and before hi. -/
def OwnGrid (w : World) (g hi : Nat) (rs : List RowV) : Prop := Whole w g 39 (rowVals rs).toArray ∧ OwnRows w (g + 1) hi rs
theorem OwnGrid.grid {w : World} {g hi : Nat} {rs : List RowV} (h : OwnGrid w g hi rs) : Grid w (some ⟨g, 0, none⟩) rs :=
  ⟨h.1.holds, h.2.ok⟩
theorem OwnGrid.below {w w' : World} {g hi : Nat} {rs : List RowV} (h : OwnGrid w g hi rs) (hb : Below w.heap.size w w') : OwnGrid w' g hi rs := ⟨h.1.below hb, h.2.below hb⟩
theorem OwnGrid.alloc {w : World} {g hi : Nat} {rs : List RowV} (h : OwnGrid w g hi rs) (o : Obj) : OwnGrid (w.alloc o) g hi rs := h.below (below1 w o)
theorem OwnGrid.drew {w : World} {g hi : Nat} {rs : List RowV} (h : OwnGrid w g hi rs) : OwnGrid w.drew g hi rs := h.below ⟨rfl, rfl, rfl, Nat.le_refl _, fun _ _ => rfl⟩

/-- What stands in the copy's block behind k rounds. -/
def filledR (ws : List RowV) (n : Nat) : Array Value := (rowVals ws ++ List.replicate (n - ws.length) (Value.slice none 0 0)).toArray
theorem filledR_done {ws : List RowV} {n : Nat} (h : ws.length = n) : filledR ws n = (rowVals ws).toArray := by simp [filledR, h]
theorem filledR_at {ws : List RowV} {n : Nat} (h : ws.length < n) : (filledR ws n)[ws.length]? = some (.slice none 0 0) := by
  simp only [filledR, List.getElem?_toArray]
  rw [List.getElem?_append_right (by rw [rowVals_len]; omega)]
  simp [rowVals_len, List.getElem?_replicate]
  omega
theorem filledR_next {ws : List RowV} {n : Nat} (r : RowV) (h : ws.length < n) : (filledR ws n).setIfInBounds ws.length r.val = filledR (ws ++ [r]) n := by
  obtain ⟨m, hm⟩ : ∃ m, n - ws.length = m + 1 := ⟨n - ws.length - 1, by omega⟩
  have hm' : n - (ws ++ [r]).length = m := by simp; omega
  unfold filledR
  rw [hm, hm', List.replicate_succ]
  simp only [rowVals, List.map_append, List.map_cons, List.map_nil, List.append_assoc, List.singleton_append]
  rw [List.setIfInBounds_toArray]
  congr 1
  rw [List.set_append_right _ _ (by simp)]
  simp
theorem made_rows (n : Nat) : madeCells (Value.slice none 0 0).cells (n * 1) = (List.replicate n (Value.slice none 0 0)).toArray := by
  apply Array.ext_getElem?
  intro j
  simp [madeCells, Value.cells, Nat.mod_one, Array.getElem?_range]
  by_cases h : j < n <;> simp [h]
theorem info_row : (Try.prog.info? 39).map (fun i => (i.zero, i.size, i.bytes)) = some (some (.slice none 0 0), 1, 24) := by kernel_rfl

/-- What toIntSS hands back. -/
def GridPost (n : Nat) (rs : List RowV) (w : World) (e : Ending) (w' : World) : Prop :=
  ∃ (g : Nat) (ws : List RowV), e = .returned (.slice (some ⟨g, 0, none⟩) n n) ∧ w.heap.size ≤ g ∧ OwnGrid w' g w'.heap.size ws ∧ rowNums ws = rowNums rs ∧ ws.length = n ∧ Below w.heap.size w w'

theorem rowNums_next {ws rs : List RowV} {k : Nat} {r : RowV} (h : rowNums ws = (rowNums rs).take k) (hk : k < rs.length) (hr : r.xs = rs[k].xs) : rowNums (ws ++ [r]) = (rowNums rs).take (k + 1) := by
  rw [List.take_succ_eq_append_getElem (by rw [rowNums_len]; exact hk), ← h]
  simp [rowNums, hr]

/-- Two lists of one reading are the same; nothing but draws. -/
theorem eqIntS_drawn (A B : Option Addr) (n m c d : Nat) (xs ys : List Int) (w : World) (k : Nat) (hA : Holds (w.drewN k) A (nums xs)) (hB : Holds (w.drewN k) B (nums ys)) (hx : xs.length = n) (hy : ys.length = m) (he : xs = ys) (hn : n ≤ 9223372036854775807) :
    Calls Try.prog 26 #[.slice A n c, .slice B m d] (w.drewN k) fun e w'' => e = .returned (.bool true) ∧ ∃ q, w'' = w.drewN q :=
  Calls.quiet_of ((eqIntS_any A B n m c d xs ys _ hA hB hx hy hn (by subst he; omega)).mono fun _ _ ⟨h, q⟩ => ⟨by rw [h, sameInts_yes he], q⟩)

theorem rowNums_at {rs ss : List RowV} (h : rowNums rs = rowNums ss) {k : Nat} (hk : k < rs.length) (hk' : k < ss.length) : rs[k].xs = ss[k].xs := by
  have h1 := congrArg (fun l : List (List Int) => l[k]?) h
  simpa [rowNums, hk, hk'] using h1

set_option maxHeartbeats 800000 in
theorem eqIntSS_yes (A B : Option Addr) (n m c d : Nat) (rs ss : List RowV) (w : World) (hA : Grid w A rs) (hB : Grid w B ss) (he : rowNums rs = rowNums ss) (hx : rs.length = n) (hy : ss.length = m) (hn : n ≤ 9223372036854775807) :
    Calls Try.prog 33 #[.slice A n c, .slice B m d] w fun e w' => e = .returned (.bool true) ∧ Below w.heap.size w w' := by
  have hl : rs.length = ss.length := by rw [← rowNums_len rs, ← rowNums_len ss, he]
  subst hx hy
  have hl' : ((rs.length : Int) != (ss.length : Int)) = false := by simp [hl]
  have HL := Lib.hid hl
  have HE := Lib.hid he
  clear hl he
  go_enter Try.func33, Try.ntmps33
  go_wp2
  go_loopw [5] (fun i wr => ∃ k : Nat, k ≤ rs.length ∧ i = .int .i64 k ∧ Below w.heap.size w wr) (fun i _ => rs.length - (intOf i).toNat)
  case atStart => exact ⟨0, Nat.zero_le _, rfl, Below.refl _ _⟩
  case round =>
    obtain ⟨k, hk, rfl, hb⟩ := hrel
    by_cases hlt : k < rs.length
    · have hlt' : k < ss.length := by have := HL.out; omega
      obtain ⟨b, o, rfl, hbl, hc, hok⟩ := (hA.below hb).look hlt
      obtain ⟨b', o', rfl, hbl', hc', hok'⟩ := (hB.below hb).look hlt'
      have HV := Lib.hid (rowNums_at HE.out hlt hlt')
      go_wp2
      go_quiet ((go_at_call 26; exact eqIntS_drawn _ _ _ _ _ _ rs[k].xs ss[k].xs wr _ (hok.1.below (below_draws (Below.refl _ _) _)) (hok'.1.below (below_draws (Below.refl _ _) _)) hok.2.1 hok'.2.1 HV.out hok.2.2))
      go_wp2
      go_roundw
      case rel => exact ⟨k + 1, by omega, by go_num, below_draws hb _⟩
      case measure => simp [intOf]; omega
    · go_wp2
      go_ret
      exact ⟨rfl, hb⟩
end Go.Proofs.Ytcoagbcleccmmaa
