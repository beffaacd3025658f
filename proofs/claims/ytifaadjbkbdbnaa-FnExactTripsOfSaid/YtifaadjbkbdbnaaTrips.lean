/-
  What is proved: contracts of TripsOf, of the model and of the program. Conditions: the arguments are read as they lie.
-/
import Derived.Test.YtifaadjbkbdbnaaGroups
import Derived.Test.YtifaadjbkbdbnaaTorch
import Derived.Test.YtifaadjbkbdbnaaRowsP
import Derived.Test.YtifaadjbkbdbnaaCanI
namespace Go.Proofs.Ytifaadjbkbdbnaa
open Go.RowKit

/-- All trips in a state. -/
def tripsIn (n : Nat) (s : Int) (bs : List Bool) (t : Bool) : List (List Int) := subs s.toNat (hereTo bs t n) []

set_option maxHeartbeats 3200000 in
set_option maxRecDepth 100000 in
theorem paTrips_any (A B : Option Addr) (n c m d q : Nat) (bs : List Bool) (t : Bool) (w : World) (hB : Holds w B (bits bs)) (hy : bs.length = m) (hm : m ≤ 8) (hq : q ≤ 8) :
    Calls Try.prog 69 #[.agg #[.slice A n c, .int .i64 q], .agg #[.slice B m d, .bool t]] w (SubsPost (subs q (hereTo bs t m) []) w) := by
  obtain ⟨i0, hi, hz0, hz1, hz2⟩ := info_parts info_int
  have HI := Lib.hid hi
  have HZ0 := Lib.hid hz0
  have HZ1 := Lib.hid hz1
  have HZ2 := Lib.hid hz2
  have HY := Lib.hid hy
  have h0 := (Whole.fresh w 33 #[.slice A n c, .int .i64 q]).alloc (.cells #[.slice B m d, .bool t] 35)
  have h1 := Whole.fresh (w.alloc (.cells #[.slice A n c, .int .i64 q] 33)) 35 #[.slice B m d, .bool t]
  rw [World.size_alloc] at h1
  have hbw := below2 w (.cells #[.slice A n c, .int .i64 q] 33) (.cells #[.slice B m d, .bool t] 35)
  have HBW := Lib.hid hbw
  have HH0 := Lib.hid h0
  have HH1 := Lib.hid h1
  obtain ⟨c0, c1, -, -⟩ := h0.two
  obtain ⟨e0, e1, -, -⟩ := h1.two
  clear hi hz0 hz1 hz2 hy hbw h0 h1
  go_enter Try.func69, Try.ntmps69
  go_wp2
  clear c0 c1 e0 e1
  go_loopw [5, 11] (fun v i wr => ∃ (k : Nat) (E : Option Addr) (r : Nat), k ≤ m ∧ i = .int .i64 k ∧ v = .slice E (hereTo bs t k).length r ∧ wr.ownsRow (w.heap.size + 2) 3 1 (.slice E (hereTo bs t k).length r) (hereTo bs t k).length (nums (hereTo bs t k)) ∧ Below (w.heap.size + 2) ((w.alloc (.cells #[.slice A n c, .int .i64 q] 33)).alloc (.cells #[.slice B m d, .bool t] 35)) wr) (fun _ i _ => m - (intOf i).toNat)
  case atStart => exact ⟨0, none, 0, Nat.zero_le _, rfl, rfl, World.ownsRow_nil _ _ _ _, Below.refl _ _⟩
  case round =>
    obtain ⟨k, E, r, hk, rfl, rfl, hown, hb⟩ := hrel
    have hb' : Below w.heap.size w wr := HBW.out.trans (hb.mono (by omega))
    have hhl := here_len bs t k
    obtain ⟨c0, c1, -, -⟩ := (HH0.out.below' hb (by omega)).two
    obtain ⟨e0, e1, -, -⟩ := (HH1.out.below' hb (by omega)).two
    have hs2 : w.heap.size + 2 ≤ wr.heap.size := by have := hb.size; simpa using this
    by_cases hlt : k < m
    · have hkb : k < bs.length := by have := HY.out; omega
      obtain ⟨b1, o1, rfl, hbl1, hcell⟩ := (hB.below hb').look (k := k) (by rw [bits_len]; exact hkb)
      simp only [bits, List.getElem_map] at hcell
      have hg : bs.getD k false = bs[k] := by simp [hkb]
      have hyes := here_yes (bs := bs) (t := t) (k := k)
      have hno := here_no (bs := bs) (t := t) (k := k)
      rw [hg] at hyes hno
      generalize bs[k] = x at hcell hyes hno
      clear hg
      have HOWN := Lib.hid hown
      have HB := Lib.hid hb
      clear hown hb hb'
      by_cases hxt : x = t
      · subst hxt
        have HS := Lib.hid (hyes (by simp))
        have HOW := Lib.hid (HOWN.out.alloc (.cells #[.int .i64 k] 3))
        have HBB := Lib.hid (HB.out.alloc (by simpa using hs2) (.cells #[.int .i64 k] 3))
        have HBASE := Lib.hid (show w.heap.size + 2 ≤ (wr.alloc (.cells #[.int .i64 k] 3)).heap.size by simp; omega)
        have HMAX := Lib.hid (show (hereTo bs x k).length + 1 ≤ maxLen by unfold maxLen; omega)
        have HBYT := Lib.hid (show ((hereTo bs x k).length + 1) * 8 ≤ 140737488355328 by omega)
        have HLEN : Hid ((hereTo bs x (k + 1)).length = (hereTo bs x k).length + 1) := by show _ = _; rw [HS.out]; simp
        clear hyes hno
        go_wp2_with (at_builtin; refine wpList_append_own _ rfl (.tmp 20) (.tmp 22) 22 rfl (w.heap.size + 2) 3 i0 (.int .i64 0) 1 8 Try.underlying22 HI.out HZ0.out HZ1.out HZ2.out rfl (by decide) (.slice E (hereTo bs x k).length r) (hereTo bs x k).length (nums (hereTo bs x k)) rfl HOW.out ⟨wr.heap.size, 0, none⟩ 1 1 [.int .i64 k] rfl rfl (cell_one_new _ _ _) (by simp [Value.oneCell']) HMAX.out HBYT.out HBASE.out ?_; intro v' w2 hown1 hg1 _; obtain ⟨D', q', hv', -⟩ := Fresh.of_own hown1 (Nat.le_refl _); rw [hv'] at hown1 ⊢; clear hv')
        have HBN := Lib.hid (HBB.out.grown hg1 HBASE.out (fun kk e => (HOW.out.lt _ e).1))
        have HON := Lib.hid hown1
        clear hg1 hown1
        go_roundw
        case rel => exact ⟨k + 1, D', q', by omega, by go_num, by rw [HLEN.out], by rw [HLEN.out, HS.out, show nums (hereTo bs x k ++ [(k : Int)]) = nums (hereTo bs x k) ++ [.int .i64 k] by simp [nums]]; exact HON.out, HBN.out⟩
        case measure => simp [intOf]; omega
      · have HS := Lib.hid (hno (by simpa using hxt))
        have hxf : (x == t) = false := by simpa using hxt
        clear hyes hno
        go_wp2
        go_roundw
        case rel => exact ⟨k + 1, E, r, by omega, by go_num, by rw [HS.out], by rw [HS.out]; exact HOWN.out, HB.out⟩
        case measure => simp [intOf]; omega
    · obtain rfl : k = m := by omega
      have HL := Lib.hid (here_len bs t k)
      have HHH := Lib.hid (holds_of_own hown)
      have hwz : w.heap.size ≤ wr.heap.size := by omega
      have HWZ := Lib.hid hwz
      have HB' := Lib.hid hb'
      clear hown hb hb' hwz
      go_wp2_with fail
      refine (paGroups_any q hq 10 none E 0 0 (hereTo bs t k).length r 0 [] (hereTo bs t k) _ (by omega) (by omega) (Nat.zero_le _) (Holds.empty _ _) HHH.out rfl rfl (Nat.zero_le _) (fun _ => ⟨rfl, rfl⟩)).mono ?_
      rintro e w4 ⟨A4, c4, rs4, rfl, hr4, hn4, hs4, hh4, hb4⟩
      have HR4 := Lib.hid hr4
      have HN4 := Lib.hid hn4
      have HS4 := Lib.hid hs4
      have HH4 := Lib.hid (hh4.raise HWZ.out)
      have HB4 := Lib.hid (below_then HB'.out hb4 HWZ.out)
      clear hr4 hn4 hs4 hh4 hb4 c0 c1 e0 e1
      go_wp2
      go_ret
      exact ⟨A4, c4, rs4, rfl, by rw [HR4.out]; rfl, HN4.out, HS4.out, HH4.out, HB4.out⟩
end Go.Proofs.Ytifaadjbkbdbnaa
