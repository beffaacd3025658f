/-
  What is proved: contracts of the laws' own helpers for keeps: their size, their copy, their comparison, their marks. Conditions: the given lists are read as they lie; a copy is of at most 1,048,576 numbers.
-/
import Derived.Test.YtkdjdnknhbmliaaGrid3
import Derived.Test.YtkdjdnknhbmliaaCells
namespace Go.Proofs.Ytkdjdnknhbmliaa
open Go.RowKit

theorem OwnGrid.set_out {w : World} {g hi b o : Nat} {u : Value} {rs : List RowV} (h : OwnGrid w g hi rs) (hb : b < g) : OwnGrid (w.setCell ⟨b, o, none⟩ u) g hi rs :=
  ⟨h.1.off (by omega), h.2.set_out (.inl (by omega))⟩

set_option maxHeartbeats 800000 in
theorem szKeep_any (k : Int) (A : Option Addr) (n c : Nat) (rs : List RowV) (s l : Int) (w : World) (hA : Grid w A rs) (hx : rs.length = n) (hn : n ≤ 9223372036854775807) (h0 : 0 ≤ l) (h1 : l ≤ 1048576) :
    Calls Try.prog 34 #[.agg #[.int .i64 k, .slice A n c, .int .i64 s], .int .i64 l] w fun e w' => e = .returned (.int .i64 (if l - (total rs : Int) < 0 then -1 else l - (total rs : Int))) ∧ Below w.heap.size w w' := by
  have HX := Lib.hid hx
  clear hx
  by_cases h : l - (total rs : Int) < 0
  · have hb1 := below1 w (.cells #[.int .i64 k, .slice A n c, .int .i64 s] 51)
    go_enter Try.func34, Try.ntmps34
    go_wp2_with fail
    refine (szIntSS_any A n c rs l _ (hA.below hb1) HX.out hn h0 h1).mono ?_
    rintro e w' ⟨rfl, rfl⟩
    rw [totalLeft, if_pos (by omega)]
    go_wp2
    go_ret
    exact ⟨rfl, hb1⟩
  · have hb1 := below1 w (.cells #[.int .i64 k, .slice A n c, .int .i64 s] 51)
    have h' : ¬ l - (total rs : Int) < 0 := h
    go_enter Try.func34, Try.ntmps34
    go_wp2_with fail
    refine (szIntSS_any A n c rs l _ (hA.below hb1) HX.out hn h0 h1).mono ?_
    rintro e w' ⟨rfl, rfl⟩
    rw [totalLeft, if_neg (by omega)]
    go_wp2
    go_ret
    exact ⟨rfl, hb1⟩

/-- What toKeep hands back. -/
def KeepTo (k : Int) (n : Nat) (s : Int) (rs : List RowV) (w : World) (e : Ending) (w' : World) : Prop :=
  ∃ (g : Nat) (ws : List RowV), e = .returned (.agg #[.int .i64 k, .slice (some ⟨g, 0, none⟩) n n, .int .i64 s]) ∧ w.heap.size ≤ g ∧ OwnGrid w' g w'.heap.size ws ∧ rowNums ws = rowNums rs ∧ ws.length = n ∧ Below w.heap.size w w'

set_option maxHeartbeats 800000 in
theorem toKeep_own (k : Int) (A : Option Addr) (n c : Nat) (rs : List RowV) (s : Int) (w : World) (hA : Grid w A rs) (hx : rs.length = n) (ht : total rs ≤ 1048576) :
    Calls Try.prog 36 #[.agg #[.int .i64 k, .slice A n c, .int .i64 s]] w (KeepTo k n s rs w) := by
  have HX := Lib.hid hx
  clear hx
  go_enter Try.func36, Try.ntmps36
  go_wp2_with fail
  refine (toIntSS_any A n c rs _ (by exact hA.below (below3 w _ _ _)) HX.out ht).mono ?_
  rintro e w1 ⟨g, ws, rfl, hg, hw, he, hl, hb⟩
  obtain ⟨hc, hf⟩ := kept hb
  have hg' : w.heap.size + 3 ≤ g := by simpa using hg
  have hz : w.heap.size + 3 ≤ w1.heap.size := by have := hb.size; simpa using this
  have HB := Lib.hid (below_then (below3 w _ _ _) hb (by simp; omega))
  have HG := Lib.hid hw
  have HE := Lib.hid he
  have HL := Lib.hid hl
  clear hw hg he hl hb
  go_wp2
  refine bodyPost_ret (v := .agg #[.int .i64 k, .slice (some ⟨g, 0, none⟩) n n, .int .i64 s]) (by simp [results, Try.results36, go_sem, hc]) rfl ⟨g, ws, rfl, by omega, ?_, HE.out, HL.out, ?_⟩
  · have h := (((((HG.out.set_out (b := w.heap.size + 1 + 1) (o := 1) (u := .slice (some ⟨g, 0, none⟩) n n) (by omega)).set_out (b := w.heap.size + 1 + 1) (o := 2) (u := .int .i64 s) (by omega)).set_out (b := w.heap.size + 1) (o := 0) (u := .int .i64 k) (by omega)).set_out (b := w.heap.size + 1) (o := 1) (u := .slice (some ⟨g, 0, none⟩) n n) (by omega)).set_out (b := w.heap.size + 1) (o := 2) (u := .int .i64 s) (by omega))
    simpa [World.setCell] using h
  · exact below_set (below_set (below_set (below_set (below_set HB.out (by omega)) (by omega)) (by omega)) (by omega)) (by omega)

set_option maxHeartbeats 800000 in
theorem eqKeep_yes (k : Int) (A B : Option Addr) (n m c d : Nat) (s : Int) (rs ss : List RowV) (w : World) (hA : Grid w A rs) (hB : Grid w B ss) (he : rowNums rs = rowNums ss) (hx : rs.length = n) (hy : ss.length = m) (hn : n ≤ 9223372036854775807) :
    Calls Try.prog 38 #[.agg #[.int .i64 k, .slice A n c, .int .i64 s], .agg #[.int .i64 k, .slice B m d, .int .i64 s]] w fun e w' => e = .returned (.bool true) ∧ Below w.heap.size w w' := by
  have HX := Lib.hid hx
  have HY := Lib.hid hy
  have HE := Lib.hid he
  clear hx hy he
  have hkk : (!(k == k)) = false := by simp
  have hss : (!(s == s)) = false := by simp
  have hb2 := below2 w (.cells #[.int .i64 k, .slice A n c, .int .i64 s] 54) (.cells #[.int .i64 k, .slice B m d, .int .i64 s] 54)
  have h0 := (Whole.fresh w 54 #[.int .i64 k, .slice A n c, .int .i64 s]).alloc (.cells #[.int .i64 k, .slice B m d, .int .i64 s] 54)
  have h1 := Whole.fresh (w.alloc (.cells #[.int .i64 k, .slice A n c, .int .i64 s] 54)) 54 #[.int .i64 k, .slice B m d, .int .i64 s]
  rw [World.size_alloc] at h1
  go_enter Try.func38, Try.ntmps38
  go_wp2_with fail
  refine (eqIntSS_yes A B n m c d rs ss _ (by exact hA.below hb2) (by exact hB.below hb2) HE.out HX.out HY.out hn).mono ?_
  rintro e w1 ⟨rfl, hb⟩
  have ht := below_then hb2 hb (by simp; omega)
  obtain ⟨a0, a1, a2⟩ := (h0.below hb).cells3
  obtain ⟨b0, b1, b2⟩ := (h1.below hb).cells3
  go_wp2
  go_ret
  exact ⟨rfl, ht⟩

set_option maxHeartbeats 800000 in
theorem markKeep_any (k s : Int) (A : Option Addr) (n c lo hi : Nat) (rs : List RowV) (q : Int) (w : World) (hf : FreeGrid w lo hi A rs) (hx : rs.length = n) (h0 : 0 ≤ q) (h1 : q ≤ 2305843009213693952) (hn : n ≤ 1048576) (hp : part rs rs.length ≤ 1048576) :
    Calls Try.prog 46 #[.agg #[.int .i64 k, .slice A n c, .int .i64 s], .int .i64 q] w fun e w' => e = .returned (.int .i64 (q + (part rs rs.length : Nat))) ∧ Span lo hi w w' ∧ FreeGrid w' lo hi A (markTo q rs rs.length) := by
  have HX := Lib.hid hx
  clear hx
  go_enter Try.func46, Try.ntmps46
  go_wp2_with fail
  refine (markIntSS_any A n c lo hi rs q _ (hf.alloc _) HX.out h0 h1 hn hp).mono ?_
  rintro e w1 ⟨rfl, hs, hf1⟩
  go_wp2
  go_ret
  exact ⟨rfl, (Span.of_below (below1 w _) lo hi).trans hs, hf1⟩

set_option maxHeartbeats 800000 in
theorem heldKeep_any (k s : Int) (A : Option Addr) (n c : Nat) (rs : List RowV) (q : Int) (w : World) (hA : Grid w A (markTo q rs rs.length)) (hx : rs.length = n) (h0 : 0 ≤ q) (h1 : q ≤ 2305843009213693952) (hn : n ≤ 1048576) (hp : part rs rs.length ≤ 1048576) :
    Calls Try.prog 60 #[.agg #[.int .i64 k, .slice A n c, .int .i64 s], .int .i64 q] w fun e w' => e = .returned (.int .i64 (q + (part rs rs.length : Nat))) ∧ Below w.heap.size w w' := by
  have HX := Lib.hid hx
  have hq0 : (0 : Int) ≤ q + (part rs rs.length : Nat) := by omega
  clear hx
  have hb1 := below1 w (.cells #[.int .i64 k, .slice A n c, .int .i64 s] 54)
  go_enter Try.func60, Try.ntmps60
  go_wp2_with fail
  refine (heldIntSS_any A n c rs q _ (hA.below hb1) HX.out h0 h1 hn hp).mono ?_
  rintro e w1 ⟨rfl, hb⟩
  have ht := below_then hb1 hb (by simp)
  go_wp2
  go_ret
  exact ⟨rfl, ht⟩
end Go.Proofs.Ytkdjdnknhbmliaa
