/-
  What is proved: contracts of the first and the last bank of a keep, as the model and the program make them. Conditions: the keep's dangers are read as they lie.
-/
import Derived.Test.YtkdjdnknhbmliaaLast
import Derived.Test.YtkdjdnknhbmliaaKeepI
namespace Go.Proofs.Ytkdjdnknhbmliaa
open Go.RowKit

set_option maxHeartbeats 800000 in
set_option maxRecDepth 100000 in
theorem placeBank_any (bs : List Bool) (t : Bool) (n : Nat) (w : World) (hy : bs.length = n) (hn : n ≤ 8) :
    Calls Try.prog 94 #[.agg (placeCells bs t), .int .i64 n] w (StateRes bs t w) := by
  subst hy
  have hp := (Whole.fresh w 90 (placeCells bs t)).alloc (.cells #[.slice none 0 0, .bool false] 63)
  have hr := Whole.fresh (w.alloc (.cells (placeCells bs t) 90)) 63 #[.slice none 0 0, .bool false]
  rw [World.size_alloc] at hr
  have hb2 := below2 w (.cells (placeCells bs t) 90) (.cells #[.slice none 0 0, .bool false] 63)
  have ht8 := (hp.cell 8).trans (show (placeCells bs t)[8]? = some (.bool t) from rfl)
  have hB : ∀ j u, (bits bs)[j]? = some u → ((w.alloc (.cells (placeCells bs t) 90)).alloc (.cells #[.slice none 0 0, .bool false] 63)).cell? ⟨w.heap.size, 0 + j, none⟩ = some u := fun j u hu => by
    have hj : j < bs.length := by have := (List.getElem?_eq_some_iff.1 hu).1; rwa [bits_len] at this
    rw [Nat.zero_add, hp.cell j, place_at bs t (by omega), ← hu]
    simp [bits, hj]
  have HB := Lib.hid hB
  clear hB
  have hsl := fun W : World => slice_eight W w.heap.size bs.length hn
  go_enter Try.func94, Try.ntmps94
  go_wp2
  go_region_held3 (fun w' => w'.cell? ⟨w.heap.size, 8, none⟩ = some (.bool t)) (go_keep)
    (first | (go_at_call 122; refine (cloneB_any w.heap.size 0 bs.length 8 bs _ (by exact HB.out) rfl (by omega)).mono ?_; rintro e w1 ⟨A, c, rfl, hf, hb⟩; have k8 := ((hp.drew.below hb).cell 8).trans (show (placeCells bs t)[8]? = some (.bool t) from rfl); obtain ⟨r0, r1, f0, f1⟩ := (hr.drew.below hb).two))
  have hlw : w.heap.size + 1 + 1 ≤ w1.heap.size := by have := hb.size; simpa using this
  have HF := Lib.hid ((hf.set_out (b := w.heap.size + 1) (o := 0) (u := .slice A bs.length c) (.inl (by simp))).set_out (b := w.heap.size + 1) (o := 1) (u := .bool t) (.inl (by simp)))
  have HBW := Lib.hid (below_then hb2.drew hb (by simp; omega))
  clear hf hb
  go_wp2
  refine bodyPost_ret (v := .agg #[.slice A bs.length c, .bool t]) (by simp [results, Try.results94, go_sem, r0, r1]) rfl ⟨A, c, rfl, ?_, ?_⟩
  · have h := HF.out.more (lo' := w.heap.size) (hi' := w1.heap.size) (by simp; omega) (Nat.le_refl _)
    simpa [World.setCell] using h
  · exact below_set (below_set HBW.out (by omega)) (by omega)

theorem placeBank_none (n : Nat) (w : World) (hn : n ≤ 8) :
    Calls Try.prog 94 #[.agg #[.bool false, .bool false, .bool false, .bool false, .bool false, .bool false, .bool false, .bool false, .bool false], .int .i64 n] w (StateRes (falses n) false w) := by
  have h := placeBank_any (falses n) false n w (falses_len n) hn
  rw [place_falses] at h
  exact h

set_option maxHeartbeats 800000 in
set_option maxRecDepth 100000 in
theorem keStart_any (n : Nat) (A : Option Addr) (m c : Nat) (s : Int) (w : World) (hn : n ≤ 1048576) :
    Calls Try.prog 93 #[.agg #[.int .i64 (n : Int), .slice A m c, .int .i64 s]] w fun e w' => e = .returned (.agg #[.slice (some ⟨w.heap.size + 1 + 1, 0, none⟩) n n, .bool false]) ∧ Whole w' (w.heap.size + 1 + 1) 4 (bits (falses n)).toArray ∧ Below w.heap.size w w' := by
  obtain ⟨i0, hi, hz0, hz1, hz2⟩ := info_parts info_bool
  have hmk : ∀ W : World, (Instr.makeSlice 24 (.int .i64 (n : Int)) (.int .i64 (n : Int))).run Try.prog W = .ok (.slice (some ⟨W.heap.size, 0, none⟩) n n) (W.alloc (.cells (bits (falses n)).toArray 4)) := by
    intro W
    have h := run_make (P := Try.prog) W 24 4 i0 _ Try.underlying24 hi hz0 .i64 .i64 n n (by omega) (by omega) (by rw [hz2]; omega) (by omega)
    simp only [Int.toNat_natCast, hz1, made_falses] at h
    rw [h]
    rfl
  clear hi hz0 hz1 hz2
  go_enter Try.func93, Try.ntmps93
  go_wp2
  go_returns
  have hw := Whole.fresh ((w.alloc (.cells #[.int .i64 (n : Int), .slice A m c, .int .i64 s] 54)).alloc (.cells #[.slice (some ⟨w.heap.size + 1 + 1, 0, none⟩) n n, .bool false] 63)) 4 (bits (falses n)).toArray
  simp only [World.size_alloc] at hw
  exact ⟨rfl, hw, below3 w _ _ _⟩

set_option maxHeartbeats 1600000 in
set_option maxRecDepth 100000 in
theorem keEnd_any (n : Nat) (A : Option Addr) (m c : Nat) (s : Int) (w : World) (hn : n ≤ 1048576) :
    Calls Try.prog 95 #[.agg #[.int .i64 (n : Int), .slice A m c, .int .i64 s]] w (StateRes (trues n) true w) := by
  obtain ⟨i0, hi, hz0, hz1, hz2⟩ := info_parts info_bool
  have HI := Lib.hid hi
  have HZ0 := Lib.hid hz0
  have HZ1 := Lib.hid hz1
  have HZ2 := Lib.hid hz2
  clear hi hz0 hz1 hz2
  have h1 := (Whole.fresh (w.alloc (.cells #[.int .i64 (n : Int), .slice A m c, .int .i64 s] 54)) 63 #[.slice none 0 0, .bool false]).alloc (.cells #[.slice none 0 0, .bool true] 63)
  have h2 := Whole.fresh ((w.alloc (.cells #[.int .i64 (n : Int), .slice A m c, .int .i64 s] 54)).alloc (.cells #[.slice none 0 0, .bool false] 63)) 63 #[.slice none 0 0, .bool true]
  have hk0 := ((Whole.fresh w 54 #[.int .i64 (n : Int), .slice A m c, .int .i64 s]).alloc (.cells #[.slice none 0 0, .bool false] 63)).alloc (.cells #[.slice none 0 0, .bool true] 63)
  have hb0 := below3 w (.cells #[.int .i64 (n : Int), .slice A m c, .int .i64 s] 54) (.cells #[.slice none 0 0, .bool false] 63) (.cells #[.slice none 0 0, .bool true] 63)
  simp only [World.size_alloc] at h1 h2
  go_enter Try.func95, Try.ntmps95
  go_wp2
  go_loopw [4] (fun i wr => ∃ (k : Nat) (D : Option Addr) (q : Nat), k ≤ n ∧ i = .int .i64 k ∧ wr.ownsRow (w.heap.size + 1 + 1 + 1) 4 1 (.slice D k q) k (bits (trues k)) ∧ Whole wr (w.heap.size + 1) 63 #[.slice none 0 0, .bool false] ∧ Whole wr (w.heap.size + 1 + 1) 63 #[.slice D k q, .bool true] ∧ Whole wr w.heap.size 54 #[.int .i64 (n : Int), .slice A m c, .int .i64 s] ∧ Below w.heap.size w wr) (fun i _ => n - (intOf i).toNat)
  case atStart => exact ⟨0, none, 0, Nat.zero_le _, rfl, World.ownsRow_nil _ _ _ _, h1, h2, hk0, hb0⟩
  case round =>
    clear h1 h2 hk0 hb0
    obtain ⟨k, D, q, hk, rfl, hown, h1, h2, hk0, hb⟩ := hrel
    obtain ⟨z0, z1, z2⟩ := hk0.cells3
    have hlk := hk0.lt
    obtain ⟨a0, a1, e0, e1⟩ := h2.two
    have hl2 := h2.lt
    by_cases hlt : k < n
    · have hOW := Lib.hid (hown.alloc (.cells #[.bool true] 4))
      have h1' := Lib.hid (h1.alloc (.cells #[.bool true] 4))
      have h2' := Lib.hid (h2.alloc (.cells #[.bool true] 4))
      have hk0' := Lib.hid (hk0.alloc (.cells #[.bool true] 4))
      have hb' := Lib.hid (hb.alloc hb.size (.cells #[.bool true] 4))
      have hbase : w.heap.size + 1 + 1 + 1 ≤ (wr.alloc (.cells #[.bool true] 4)).heap.size := by simp; omega
      have HBASE := Lib.hid hbase
      have HMAX := Lib.hid (show k + 1 ≤ maxLen by unfold maxLen; omega)
      have HBYT := Lib.hid (show (k + 1) * 1 ≤ 140737488355328 by omega)
      clear hown h1 h2 hk0 hb hbase
      go_wp2_with (at_builtin; refine wpList_append_own _ rfl (.tmp 13) (.tmp 14) 24 rfl (w.heap.size + 1 + 1 + 1) 4 i0 (.bool false) 1 1 Try.underlying24 HI.out HZ0.out HZ1.out HZ2.out rfl (by decide) (.slice D k q) k (bits (trues k)) rfl hOW.out ⟨wr.heap.size, 0, none⟩ 1 1 [.bool true] rfl rfl (cell_one_new _ _ _) (by simp [Value.oneCell']) HMAX.out HBYT.out HBASE.out ?_; intro v' w1 hown1 hg1 _; obtain ⟨D', q', hv', -⟩ := Fresh.of_own hown1 (Nat.le_refl _); rw [hv'] at hown1 ⊢; clear hv'; have g2 : Whole w1 (w.heap.size + 1 + 1) 63 #[.slice D k q, .bool true] := (hg1.block _ h2'.out.lt (fun e => by have := (hOW.out.lt _ e.symm).1; omega)).trans h2'.out; have g1 : Whole w1 (w.heap.size + 1) 63 #[.slice none 0 0, .bool false] := (hg1.block _ h1'.out.lt (fun e => by have := (hOW.out.lt _ e.symm).1; omega)).trans h1'.out; have g0 : Whole w1 w.heap.size 54 #[.int .i64 (n : Int), .slice A m c, .int .i64 s] := (hg1.block _ hk0'.out.lt (fun e => by have := (hOW.out.lt _ e.symm).1; omega)).trans hk0'.out; obtain ⟨b0, b1, f0, f1⟩ := g2.two)
      have hbw : Below w.heap.size w w1 := hb'.out.grown hg1 (by have := hb'.out.size; omega) (fun kk e => by have := (hOW.out.lt _ e).1; omega)
      rw [trues_next] at hown1
      have hown2 := ownsRow_setCell_below hown1 (a := ⟨w.heap.size + 1 + 1, 0, none⟩) (by show w.heap.size + 1 + 1 < _; omega) (.slice D' (k + 1) q')
      go_roundw
      case rel => exact ⟨k + 1, D', q', by omega, by go_num, hown2, g1.off (by omega), g2.set_ 0 (.slice D' (k + 1) q'), g0.off (by omega), below_set hbw (by omega)⟩
      case measure => simp [intOf]; omega
    · have hkn : k = n := by omega
      subst hkn
      obtain ⟨r0, r1, f0, f1⟩ := h1.two
      obtain ⟨D', q', hv', hf⟩ := Fresh.of_own hown (Nat.le_refl _)
      simp only [Value.slice.injEq, true_and] at hv'
      obtain ⟨rfl, rfl⟩ := hv'
      have HF := Lib.hid (((hf.set_out (b := w.heap.size + 1) (o := 0) (u := .slice D k q) (.inl (by omega))).set_out (b := w.heap.size + 1) (o := 1) (u := .bool true) (.inl (by omega))).more (lo' := w.heap.size) (hi' := wr.heap.size) (by omega) (Nat.le_refl _))
      clear hf hown
      go_wp2
      refine bodyPost_ret (v := .agg #[.slice D k q, .bool true]) (by simp [results, Try.results95, go_sem, r0, r1]) rfl ⟨D, q, by rw [trues_len], ?_, ?_⟩
      · have h := HF.out
        simpa [World.setCell] using h
      · exact below_set (below_set hb (by omega)) (by omega)

/-- What stands over in the first and in the last bank: nothing where there is no keep. -/
noncomputable def startBits (k s : Int) (ds : List (List Int)) : List Bool := if keepOk k s ds then falses k.toNat else []
noncomputable def endBits (k s : Int) (ds : List (List Int)) : List Bool := if keepOk k s ds then trues k.toNat else []
theorem startBits_le (k s : Int) (ds : List (List Int)) : (startBits k s ds).length ≤ 1048576 := by
  rw [startBits]
  split
  · rename_i h
    have := (keepOk_iff.1 h).1
    rw [falses_len]
    omega
  · simp
theorem endBits_le (k s : Int) (ds : List (List Int)) : (endBits k s ds).length ≤ 1048576 := by
  rw [endBits]
  split
  · rename_i h
    have := (keepOk_iff.1 h).1
    rw [trues_len]
    omega
  · simp

set_option maxHeartbeats 1600000 in
theorem specStartBank_on (k s : Int) (A : Option Addr) (m c : Nat) (rs : List RowV) (ls : List (List Int)) (w : World) (hA : Grid w A rs) (he : rowNums rs = ls) (hx : rs.length = m) (hm : m ≤ 1048576) :
    Calls Try.prog 48 #[.agg #[.int .i64 k, .slice A m c, .int .i64 s]] w (StatePost (startBits k s ls) false (keepOk k s ls) w) := by
  subst he
  unfold startBits
  have HX := Lib.hid hx
  clear hx
  have hA2 := (hA.alloc (.cells #[.int .i64 k, .slice A m c, .int .i64 s] 54)).alloc (.cells #[.slice none 0 0, .bool false] 63)
  have h0 := (Whole.fresh w 54 #[.int .i64 k, .slice A m c, .int .i64 s]).alloc (.cells #[.slice none 0 0, .bool false] 63)
  have h1 := Whole.fresh (w.alloc (.cells #[.int .i64 k, .slice A m c, .int .i64 s] 54)) 63 #[.slice none 0 0, .bool false]
  rw [World.size_alloc] at h1
  cases hp : keepOk k s (rowNums rs)
  · have HP := Lib.hid hp
    clear hp
    go_enter Try.func48, Try.ntmps48
    go_wp2_with fail
    refine (keGood_any k s A m c rs _ hA2 HX.out hm).mono ?_
    rintro e w1 ⟨rfl, hb⟩
    rw [HP.out]
    have ht := below_then (below2 w _ _) hb (by simp; omega)
    have hr := h1.below hb
    have hlr := hr.lt
    obtain ⟨r0, r1, f0, f1⟩ := hr.two
    clear h0 h1 hb hA2
    go_wp2
    refine bodyPost_ret (v := .tuple #[.agg #[.slice none 0 0, .bool false], .bool false]) (by simp [results, Try.results48, go_sem, r0, r1]) rfl ⟨none, 0, rfl, .inl rfl, ?_⟩
    exact below_set (below_set ht (by omega)) (by omega)
  · have HP := Lib.hid hp
    obtain ⟨n, rfl⟩ : ∃ n : Nat, k = n := ⟨k.toNat, by have := (keepOk_iff.1 hp).1; omega⟩
    have h8 : n ≤ 8 := by have := (keepOk_iff.1 hp).1; omega
    rw [Int.toNat_natCast]
    clear hp
    go_enter Try.func48, Try.ntmps48
    go_wp2_with fail
    refine (keGood_any (n : Int) s A m c rs _ hA2 HX.out hm).mono ?_
    rintro e w1 ⟨rfl, hb⟩
    rw [HP.out]
    have ht := below_then (below2 w _ _) hb (by simp; omega)
    have h0' := h0.below hb
    obtain ⟨c0, c1, c2⟩ := h0'.cells3
    have hr := h1.below hb
    have hlr0 := hr.lt
    clear h0 h1 hb hA2
    go_wp2_with fail
    refine (keStart_any n A m c s _ (by omega)).mono ?_
    rintro e w2 ⟨rfl, hw, hb⟩
    have hf : Fresh w2 w1.heap.size w2.heap.size 4 (some ⟨w1.heap.size + 1 + 1, 0, none⟩) (bits (falses n)) := Fresh.of_whole hw (by omega) hw.lt
    obtain ⟨A2, hA2⟩ : ∃ A2 : Option Addr, A2 = some ⟨w1.heap.size + 1 + 1, 0, none⟩ := ⟨_, rfl⟩
    have q2 := n
    rw [← hA2] at hf ⊢
    clear hw hA2
    have hlo : w.heap.size + 1 < w1.heap.size := hlr0
    have ht2 := below_then ht hb ht.size
    replace hr := hr.below hb
    obtain ⟨r0, r1, f0, f1⟩ := hr.two
    have HF := Lib.hid (((hf.set_out (b := w.heap.size + 1) (o := 0) (u := .slice A2 n n) (.inl (by omega))).set_out (b := w.heap.size + 1) (o := 1) (u := .bool false) (.inl (by omega))).more (lo' := w.heap.size) (hi' := w2.heap.size) (by omega) (Nat.le_refl _))
    clear c0 c1 c2 hf hb
    go_wp2
    refine bodyPost_ret (v := .tuple #[.agg #[.slice A2 n n, .bool false], .bool true]) (by simp [results, Try.results48, go_sem, r0, r1]) rfl ⟨A2, n, by simp [falses], ?_, ?_⟩
    · have h := HF.out
      simpa [World.setCell] using h
    · exact below_set (below_set ht2 (by omega)) (by omega)

set_option maxHeartbeats 1600000 in
theorem specEndBank_on (k s : Int) (A : Option Addr) (m c : Nat) (rs : List RowV) (ls : List (List Int)) (w : World) (hA : Grid w A rs) (he : rowNums rs = ls) (hx : rs.length = m) (hm : m ≤ 1048576) :
    Calls Try.prog 51 #[.agg #[.int .i64 k, .slice A m c, .int .i64 s]] w (StatePost (endBits k s ls) (keepOk k s ls) (keepOk k s ls) w) := by
  subst he
  unfold endBits
  have HX := Lib.hid hx
  clear hx
  have hA2 := (hA.alloc (.cells #[.int .i64 k, .slice A m c, .int .i64 s] 54)).alloc (.cells #[.slice none 0 0, .bool false] 63)
  have h0 := (Whole.fresh w 54 #[.int .i64 k, .slice A m c, .int .i64 s]).alloc (.cells #[.slice none 0 0, .bool false] 63)
  have h1 := Whole.fresh (w.alloc (.cells #[.int .i64 k, .slice A m c, .int .i64 s] 54)) 63 #[.slice none 0 0, .bool false]
  rw [World.size_alloc] at h1
  cases hp : keepOk k s (rowNums rs)
  · have HP := Lib.hid hp
    clear hp
    go_enter Try.func51, Try.ntmps51
    go_wp2_with fail
    refine (keGood_any k s A m c rs _ hA2 HX.out hm).mono ?_
    rintro e w1 ⟨rfl, hb⟩
    rw [HP.out]
    have ht := below_then (below2 w _ _) hb (by simp; omega)
    have hr := h1.below hb
    have hlr := hr.lt
    obtain ⟨r0, r1, f0, f1⟩ := hr.two
    clear h0 h1 hb hA2
    go_wp2
    refine bodyPost_ret (v := .tuple #[.agg #[.slice none 0 0, .bool false], .bool false]) (by simp [results, Try.results51, go_sem, r0, r1]) rfl ⟨none, 0, rfl, .inl rfl, ?_⟩
    exact below_set (below_set ht (by omega)) (by omega)
  · have HP := Lib.hid hp
    obtain ⟨n, rfl⟩ : ∃ n : Nat, k = n := ⟨k.toNat, by have := (keepOk_iff.1 hp).1; omega⟩
    have h8 : n ≤ 8 := by have := (keepOk_iff.1 hp).1; omega
    rw [Int.toNat_natCast]
    clear hp
    go_enter Try.func51, Try.ntmps51
    go_wp2_with fail
    refine (keGood_any (n : Int) s A m c rs _ hA2 HX.out hm).mono ?_
    rintro e w1 ⟨rfl, hb⟩
    rw [HP.out]
    have ht := below_then (below2 w _ _) hb (by simp; omega)
    have h0' := h0.below hb
    obtain ⟨c0, c1, c2⟩ := h0'.cells3
    have hr := h1.below hb
    have hlr0 := hr.lt
    clear h0 h1 hb hA2
    go_wp2_with fail
    refine (keEnd_any n A m c s _ (by omega)).mono ?_
    rintro e w2 ⟨A2, q2, rfl, hf, hb⟩
    have hlo : w.heap.size + 1 < w1.heap.size := hlr0
    have ht2 := below_then ht hb ht.size
    replace hr := hr.below hb
    obtain ⟨r0, r1, f0, f1⟩ := hr.two
    have HF := Lib.hid (((hf.set_out (b := w.heap.size + 1) (o := 0) (u := .slice A2 (trues n).length q2) (.inl (by omega))).set_out (b := w.heap.size + 1) (o := 1) (u := .bool true) (.inl (by omega))).more (lo' := w.heap.size) (hi' := w2.heap.size) (by omega) (Nat.le_refl _))
    clear c0 c1 c2 hf hb
    go_wp2
    refine bodyPost_ret (v := .tuple #[.agg #[.slice A2 (trues n).length q2, .bool true], .bool true]) (by simp [results, Try.results51, go_sem, r0, r1]) rfl ⟨A2, q2, rfl, ?_, ?_⟩
    · have h := HF.out
      simpa [World.setCell] using h
    · exact below_set (below_set ht2 (by omega)) (by omega)

set_option maxHeartbeats 1600000 in
theorem implStartBank_on (k s : Int) (A : Option Addr) (m c : Nat) (rs : List RowV) (ls : List (List Int)) (w : World) (hA : Grid w A rs) (he : rowNums rs = ls) (hx : rs.length = m) (hm : m ≤ 1048576) :
    Calls Try.prog 49 #[.agg #[.int .i64 k, .slice A m c, .int .i64 s]] w (StatePost (startBits k s ls) false (keepOk k s ls) w) := by
  subst he
  unfold startBits
  have HX := Lib.hid hx
  clear hx
  have hA2 := (hA.alloc (.cells #[.int .i64 k, .slice A m c, .int .i64 s] 54)).alloc (.cells #[.slice none 0 0, .bool false] 63)
  have h0 := (Whole.fresh w 54 #[.int .i64 k, .slice A m c, .int .i64 s]).alloc (.cells #[.slice none 0 0, .bool false] 63)
  have h1 := Whole.fresh (w.alloc (.cells #[.int .i64 k, .slice A m c, .int .i64 s] 54)) 63 #[.slice none 0 0, .bool false]
  rw [World.size_alloc] at h1
  cases hp : keepOk k s (rowNums rs)
  · have HP := Lib.hid hp
    clear hp
    go_enter Try.func49, Try.ntmps49
    go_wp2_with fail
    refine (isKeep_any k s A m c rs _ hA2 HX.out hm).mono ?_
    rintro e w1 ⟨rfl, hb⟩
    rw [HP.out]
    have ht := below_then (below2 w _ _) hb (by simp; omega)
    have hr := h1.below hb
    have hlr := hr.lt
    obtain ⟨r0, r1, f0, f1⟩ := hr.two
    clear h0 h1 hb hA2
    go_wp2
    refine bodyPost_ret (v := .tuple #[.agg #[.slice none 0 0, .bool false], .bool false]) (by simp [results, Try.results49, go_sem, r0, r1]) rfl ⟨none, 0, rfl, .inl rfl, ?_⟩
    exact below_set (below_set ht (by omega)) (by omega)
  · have HP := Lib.hid hp
    obtain ⟨n, rfl⟩ : ∃ n : Nat, k = n := ⟨k.toNat, by have := (keepOk_iff.1 hp).1; omega⟩
    have h8 : n ≤ 8 := by have := (keepOk_iff.1 hp).1; omega
    rw [Int.toNat_natCast]
    clear hp
    go_enter Try.func49, Try.ntmps49
    go_wp2_with fail
    refine (isKeep_any (n : Int) s A m c rs _ hA2 HX.out hm).mono ?_
    rintro e w1 ⟨rfl, hb⟩
    rw [HP.out]
    have ht := below_then (below2 w _ _) hb (by simp; omega)
    have h0' := h0.below hb
    obtain ⟨c0, c1, c2⟩ := h0'.cells3
    have hr := h1.below hb
    have hlr0 := hr.lt
    clear h0 h1 hb hA2
    go_wp2_with fail
    refine (placeBank_none n _ h8).mono ?_
    rintro e w2 ⟨A2, q2, rfl, hf, hb⟩
    have hlo : w.heap.size + 1 < w1.heap.size := hlr0
    have ht2 := below_then ht hb ht.size
    replace hr := hr.below hb
    obtain ⟨r0, r1, f0, f1⟩ := hr.two
    have HF := Lib.hid (((hf.set_out (b := w.heap.size + 1) (o := 0) (u := .slice A2 (falses n).length q2) (.inl (by omega))).set_out (b := w.heap.size + 1) (o := 1) (u := .bool false) (.inl (by omega))).more (lo' := w.heap.size) (hi' := w2.heap.size) (by omega) (Nat.le_refl _))
    clear c0 c1 c2 hf hb
    go_wp2
    refine bodyPost_ret (v := .tuple #[.agg #[.slice A2 (falses n).length q2, .bool false], .bool true]) (by simp [results, Try.results49, go_sem, r0, r1]) rfl ⟨A2, q2, rfl, ?_, ?_⟩
    · have h := HF.out
      simpa [World.setCell] using h
    · exact below_set (below_set ht2 (by omega)) (by omega)

set_option maxHeartbeats 1600000 in
theorem implEndBank_on (k s : Int) (A : Option Addr) (m c : Nat) (rs : List RowV) (ls : List (List Int)) (w : World) (hA : Grid w A rs) (he : rowNums rs = ls) (hx : rs.length = m) (hm : m ≤ 1048576) :
    Calls Try.prog 52 #[.agg #[.int .i64 k, .slice A m c, .int .i64 s]] w (StatePost (endBits k s ls) (keepOk k s ls) (keepOk k s ls) w) := by
  subst he
  unfold endBits
  have HX := Lib.hid hx
  clear hx
  have hA2 := (hA.alloc (.cells #[.int .i64 k, .slice A m c, .int .i64 s] 54)).alloc (.cells #[.slice none 0 0, .bool false] 63)
  have h0 := (Whole.fresh w 54 #[.int .i64 k, .slice A m c, .int .i64 s]).alloc (.cells #[.slice none 0 0, .bool false] 63)
  have h1 := Whole.fresh (w.alloc (.cells #[.int .i64 k, .slice A m c, .int .i64 s] 54)) 63 #[.slice none 0 0, .bool false]
  rw [World.size_alloc] at h1
  cases hp : keepOk k s (rowNums rs)
  · have HP := Lib.hid hp
    clear hp
    go_enter Try.func52, Try.ntmps52
    go_wp2_with fail
    refine (isKeep_any k s A m c rs _ hA2 HX.out hm).mono ?_
    rintro e w1 ⟨rfl, hb⟩
    rw [HP.out]
    have ht := below_then (below2 w _ _) hb (by simp; omega)
    have hr := h1.below hb
    have hlr := hr.lt
    obtain ⟨r0, r1, f0, f1⟩ := hr.two
    clear h0 h1 hb hA2
    go_wp2
    refine bodyPost_ret (v := .tuple #[.agg #[.slice none 0 0, .bool false], .bool false]) (by simp [results, Try.results52, go_sem, r0, r1]) rfl ⟨none, 0, rfl, .inl rfl, ?_⟩
    exact below_set (below_set ht (by omega)) (by omega)
  · have HP := Lib.hid hp
    obtain ⟨n, rfl⟩ : ∃ n : Nat, k = n := ⟨k.toNat, by have := (keepOk_iff.1 hp).1; omega⟩
    have h8 : n ≤ 8 := by have := (keepOk_iff.1 hp).1; omega
    rw [Int.toNat_natCast]
    clear hp
    go_enter Try.func52, Try.ntmps52
    go_wp2_with fail
    refine (isKeep_any (n : Int) s A m c rs _ hA2 HX.out hm).mono ?_
    rintro e w1 ⟨rfl, hb⟩
    rw [HP.out]
    have ht := below_then (below2 w _ _) hb (by simp; omega)
    have h0' := h0.below hb
    obtain ⟨c0, c1, c2⟩ := h0'.cells3
    have hr := h1.below hb
    have hlr0 := hr.lt
    clear h0 h1 hb hA2
    go_wp2_with fail
    go_region_held3 (fun w' => w'.cell? ⟨w.heap.size, 0, none⟩ = some (.int .i64 (n : Int))) (go_keep)
      (first | (go_at_call 96; refine (everybodyOver_any n _ h8).mono ?_; rintro e w2' ⟨rfl, hb2⟩; obtain ⟨k0, k1, k2⟩ := (h0'.drew.below hb2).cells3) | (go_at_call 94; refine (placeBank_any (trues n) true n _ (trues_len n) h8).mono ?_; rintro e w2 ⟨A2, q2, rfl, hf, hb3⟩; obtain ⟨l0, l1, l2⟩ := ((h0'.drew.below hb2).below hb3).cells3; obtain ⟨r0, r1, f0, f1⟩ := ((hr.drew.below hb2).below hb3).two))
    have hlo2 : w1.heap.size ≤ w2'.heap.size := hb2.size
    have ht2 := below_then (below_then ht.drew hb2 ht.size) hb3 (Nat.le_trans ht.size hb2.size)
    have hlo : w.heap.size + 1 < w1.heap.size := hlr0
    have HF := Lib.hid (((hf.set_out (b := w.heap.size + 1) (o := 0) (u := .slice A2 (trues n).length q2) (.inl (by omega))).set_out (b := w.heap.size + 1) (o := 1) (u := .bool true) (.inl (by omega))).more (lo' := w.heap.size) (hi' := w2.heap.size) (by omega) (Nat.le_refl _))
    clear c0 c1 c2 hf hb2 hb3
    go_wp2
    refine bodyPost_ret (v := .tuple #[.agg #[.slice A2 (trues n).length q2, .bool true], .bool true]) (by simp [results, Try.results52, go_sem, r0, r1]) rfl ⟨A2, q2, rfl, ?_, ?_⟩
    · have h := HF.out
      simpa [World.setCell] using h
    · exact below_set (below_set ht2 (by omega)) (by omega)

end Go.Proofs.Ytkdjdnknhbmliaa
