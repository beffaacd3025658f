/-
  What is proved: contracts of a party slowed down, as the model and the program make it. Conditions: the party's times are read as they lie.
-/
import Derived.Test.YtionmcgaicijkaaFirstI
import Derived.Test.YtionmcgaicijkaaRow
namespace Go.Proofs.Ytionmcgaicijkaa
open Go.RowKit

/-- What a call hands back that makes a list of numbers. -/
def NumsPost (bs : List Int) (w : World) (e : Ending) (w' : World) : Prop :=
  ∃ (A : Option Addr) (c : Nat), e = .returned (.slice A bs.length c) ∧ Fresh w' w.heap.size w'.heap.size 3 A (nums bs) ∧ Below w.heap.size w w'
/-- What a call hands back that makes a party and tells whether it did. -/
def PartyPost (xs : List Int) (s : Int) (ok : Bool) (w : World) (e : Ending) (w' : World) : Prop :=
  ∃ (A : Option Addr) (c : Nat), e = .returned (.tuple #[.agg #[.slice A xs.length c, .int .i64 s], .bool ok]) ∧ Fresh w' w.heap.size w'.heap.size 3 A (nums xs) ∧ Below w.heap.size w w'

theorem nums_one (bs : List Int) : ∀ u ∈ nums bs, u.oneCell' = true := by
  intro v hv
  simp only [nums, List.mem_map] at hv
  obtain ⟨x, -, rfl⟩ := hv
  rfl

set_option maxHeartbeats 800000 in
set_option maxRecDepth 100000 in
theorem cloneI_any (b o n d : Nat) (bs : List Int) (w : World) (hB : ∀ j u, (nums bs)[j]? = some u → w.cell? ⟨b, o + j, none⟩ = some u) (hy : bs.length = n) (hn : n ≤ 1048576) :
    Calls Try.prog 84 #[.slice (some ⟨b, o, none⟩) n d] w (NumsPost bs w) := by
  subst hy
  obtain ⟨i0, hi, hz0, hz1, hz2⟩ := info_parts info_int
  have HI := Lib.hid hi
  have HZ0 := Lib.hid hz0
  have HZ1 := Lib.hid hz1
  have HZ2 := Lib.hid hz2
  have HB := Lib.hid hB
  clear hi hz0 hz1 hz2 hB
  go_enter Try.func84, Try.ntmps84
  have hnil := fun (W : World) => Lib.run_eql_slice_nil (P := Try.prog) W 22 3 (some ⟨b, o, none⟩) bs.length d 0 0 Try.underlying22
  have HOWN := Lib.hid (World.ownsRow_made (base := w.heap.size) (e := 3) (size := 1) w #[] 0 (Nat.le_refl _) (by unfold maxLen; omega) rfl)
  have hnews : ∀ j u, (nums bs)[j]? = some u → (w.alloc (.cells #[] 3)).cell? ((⟨b, o, none⟩ : Addr).add j) = some u := fun j u hu => by
    rw [show (⟨b, o, none⟩ : Addr).add j = ⟨b, o + j, none⟩ from by unfold Addr.add; split <;> simp_all]
    have h := HB.out j u hu
    rw [World.cell?_alloc_lt _ _ _ (block_lt_of_cell h)]
    exact h
  have HNEWS := Lib.hid hnews
  have HLEN := Lib.hid (show (nums bs).length = bs.length * 1 by rw [nums_len, Nat.mul_one])
  have HONE := Lib.hid (nums_one bs)
  have HMAX := Lib.hid (show 0 + bs.length ≤ maxLen by unfold maxLen; omega)
  have HBYT := Lib.hid (show (0 + bs.length) * 8 ≤ 140737488355328 by omega)
  clear hnews
  go_wp2_with (at_builtin; refine wpList_append_own _ rfl (.tmp 5) (.tmp 6) 22 rfl w.heap.size 3 i0 (.int .i64 0) 1 8 Try.underlying22 HI.out HZ0.out HZ1.out HZ2.out rfl (by decide) _ 0 [] rfl HOWN.out ⟨b, o, none⟩ bs.length d (nums bs) rfl HLEN.out HNEWS.out HONE.out HMAX.out HBYT.out (by simp) ?_; intro v' w1 hown1 hg1 _)
  go_ret
  simp only [Nat.zero_add, List.nil_append] at hown1
  obtain ⟨A, c, hv, hf⟩ := Fresh.of_own hown1 (Nat.le_refl _)
  refine ⟨A, c, by rw [← hv]; rfl, hf, ?_⟩
  exact (below1 w _).grown hg1 (by simp) (fun k hk => Nat.le_of_eq (Option.some.inj (show some w.heap.size = some k from hk)))

/-- The times, each so many times as great. -/
def times (xs : List Int) (k : Int) : List Int := xs.map (· * k)
theorem times_len (xs : List Int) (k : Int) : (times xs k).length = xs.length := by simp [times]
def slowOk (xs : List Int) (s k : Int) : Bool := isParty xs s && (within k 1 1000 && isParty (times xs k) s)
def slowXs (xs : List Int) (s k : Int) : List Int := if slowOk xs s k then times xs k else []
def slowSeats (xs : List Int) (s k : Int) : Int := if slowOk xs s k then s else 0
theorem slow_of {xs : List Int} {s k : Int} {x : Bool} (h1 : isParty xs s = true) (h2 : within k 1 1000 = true) (h3 : isParty (times xs k) s = x) : slowOk xs s k = x := by simp [slowOk, h1, h2, h3]
theorem slowXs_le (xs : List Int) (s k : Int) : (slowXs xs s k).length ≤ xs.length := by
  rw [slowXs]
  split
  · rw [times_len]; exact Nat.le_refl _
  · simp
theorem slow_no {xs : List Int} {s k : Int} (h : slowOk xs s k = false) : slowXs xs s k = [] ∧ slowSeats xs s k = 0 := by simp [slowXs, slowSeats, h]
theorem slow_yes {xs : List Int} {s k : Int} (h : slowOk xs s k = true) : slowXs xs s k = times xs k ∧ slowSeats xs s k = s := by simp [slowXs, slowSeats, h]
theorem party_all {xs : List Int} {s : Int} (h : isParty xs s = true) : ∀ x ∈ xs, 1 ≤ x ∧ x ≤ 1000 := by
  simp only [isParty, Bool.and_eq_true] at h
  exact (allIn_iff _ _ _).1 h.2.1
theorem times_next {xs : List Int} {k : Int} {j : Nat} (hj : j < xs.length) : nums (times (xs.take j) k) ++ [.int .i64 (xs[j] * k)] = nums (times (xs.take (j + 1)) k) := by
  rw [List.take_succ_eq_append_getElem hj]
  simp only [nums, times, List.map_append, List.map_cons, List.map_nil]
theorem slow_iff {xs : List Int} {s k : Int} (hp : isParty xs s = true) (hk : 1 ≤ k) : slowOk xs s k = decide (mostOf xs ≤ 1000 / k) := by
  have hall := party_all hp
  have hne : xs ≠ [] := by
    rintro rfl
    simp [isParty, within] at hp
  have hd : ∀ x : Int, x ≤ 1000 / k ↔ x * k ≤ 1000 := fun x => Int.le_ediv_iff_mul_le (by omega)
  rw [Bool.eq_iff_iff, decide_eq_true_eq, mostOf_le hne]
  simp only [slowOk, hp, Bool.true_and, Bool.and_eq_true]
  constructor
  · rintro ⟨-, h⟩ x hx
    have := party_all h (x * k) (List.mem_map_of_mem hx)
    exact (hd x).2 this.2
  · intro h
    have hk2 : k ≤ 1000 := by
      obtain ⟨y, hy⟩ := List.exists_mem_of_ne_nil _ hne
      have h1 := (hd y).1 (h y hy)
      have h2 := (hall y hy).1
      have h3 : 1 * k ≤ y * k := Int.mul_le_mul_of_nonneg_right h2 (by omega)
      omega
    refine ⟨within_yes hk hk2, ?_⟩
    simp only [isParty, Bool.and_eq_true] at hp ⊢
    refine ⟨by rw [times_len]; exact hp.1, (allIn_iff _ _ _).2 fun y hy => ?_, hp.2.2⟩
    simp only [times, List.mem_map] at hy
    obtain ⟨x, hx, rfl⟩ := hy
    have h1 := (hd x).1 (h x hx)
    have h2 := (hall x hx).1
    have h3 : 1 * 1 ≤ x * k := Int.mul_le_mul h2 hk (by omega) (by omega)
    exact ⟨by omega, h1⟩

set_option maxHeartbeats 1600000 in
set_option maxRecDepth 100000 in
theorem specSlow_any (A : Option Addr) (n c : Nat) (xs : List Int) (s k : Int) (w : World) (hA : Holds w A (nums xs)) (hx : xs.length = n) (hn : n ≤ 1048576) :
    Calls Try.prog 52 #[.agg #[.slice A n c, .int .i64 s], .int .i64 k] w (PartyPost (slowXs xs s k) (slowSeats xs s k) (slowOk xs s k) w) := by
  have HX := Lib.hid hx
  have hA2 := (hA.alloc (.cells #[.slice A n c, .int .i64 s] 33)).alloc (.cells #[.slice none 0 0, .int .i64 0] 33)
  have h0 := (Whole.fresh w 33 #[.slice A n c, .int .i64 s]).alloc (.cells #[.slice none 0 0, .int .i64 0] 33)
  have h1 := Whole.fresh (w.alloc (.cells #[.slice A n c, .int .i64 s] 33)) 33 #[.slice none 0 0, .int .i64 0]
  rw [World.size_alloc] at h1
  cases hp : isParty xs s
  · have HS := Lib.hid (show slowOk xs s k = false by simp [slowOk, hp])
    have HP := Lib.hid hp
    clear hp hx
    go_enter Try.func52, Try.ntmps52
    go_wp2_with fail
    refine (paGood_any A n c xs s _ hA2 HX.out (by omega)).mono ?_
    rintro e w1 ⟨rfl, hb⟩
    rw [HP.out]
    have ht := below_then (below2 w _ _) hb (by simp; omega)
    have hr := h1.below hb
    have hlr := hr.lt
    obtain ⟨r0, r1, f0, f1⟩ := hr.two
    clear h0 h1 hb hA2
    go_wp2
    refine bodyPost_ret (v := .tuple #[.agg #[.slice none 0 0, .int .i64 0], .bool false]) (by simp [results, Try.results52, go_sem, r0, r1]) rfl ⟨none, 0, by rw [(slow_no HS.out).1, (slow_no HS.out).2, HS.out]; rfl, by rw [(slow_no HS.out).1]; exact .inl rfl, ?_⟩
    exact below_set (below_set ht (by omega)) (by omega)
  cases hw : within k 1 1000
  · have HS := Lib.hid (show slowOk xs s k = false by simp [slowOk, hw])
    have HP := Lib.hid hp
    have HW := Lib.hid hw
    clear hp hx hw
    go_enter Try.func52, Try.ntmps52
    go_wp2_with fail
    refine (paGood_any A n c xs s _ hA2 HX.out (by omega)).mono ?_
    rintro e w1 ⟨rfl, hb⟩
    rw [HP.out]
    have ht := below_then (below2 w _ _) hb (by simp; omega)
    have hr := h1.below hb
    have hlr := hr.lt
    obtain ⟨r0, r1, f0, f1⟩ := hr.two
    clear h0 h1 hb hA2
    go_wp2_with fail
    refine (l1In_any _ _ _ _).mono ?_
    rintro e w' ⟨rfl, rfl⟩
    rw [HW.out]
    go_wp2
    refine bodyPost_ret (v := .tuple #[.agg #[.slice none 0 0, .int .i64 0], .bool false]) (by simp [results, Try.results52, go_sem, r0, r1]) rfl ⟨none, 0, by rw [(slow_no HS.out).1, (slow_no HS.out).2, HS.out]; rfl, by rw [(slow_no HS.out).1]; exact .inl rfl, ?_⟩
    exact below_set (below_set ht (by omega)) (by omega)
  obtain ⟨i0, hi, hz0, hz1, hz2⟩ := info_parts info_int
  have HI := Lib.hid hi
  have HZ0 := Lib.hid hz0
  have HZ1 := Lib.hid hz1
  have HZ2 := Lib.hid hz2
  have hk := within_iff.1 hw
  have hall := party_all hp
  have HALL := Lib.hid hall
  have HP := Lib.hid hp
  have HW := Lib.hid hw
  clear hi hz0 hz1 hz2 hall hp hx hw
  go_enter Try.func52, Try.ntmps52
  go_wp2_with fail
  refine (paGood_any A n c xs s _ hA2 HX.out (by omega)).mono ?_
  rintro e w1 ⟨rfl, hb⟩
  rw [HP.out]
  have ht := below_then (below2 w _ _) hb (by simp; omega)
  have hr := h1.below hb
  have h0' := h0.below hb
  have hl0 := h0'.lt
  obtain ⟨c0, c1, -, -⟩ := h0'.two
  clear h0 h1 hb hA2
  go_wp2_with fail
  refine (l1In_any _ _ _ _).mono ?_
  rintro e w' ⟨rfl, rfl⟩
  rw [HW.out]
  go_wp2
  have g1 := hr.alloc (.cells #[.slice none 0 0, .int .i64 s] 33)
  have g2 := Whole.fresh w1 33 #[.slice none 0 0, .int .i64 s]
  have hb0 := ht.alloc ht.size (.cells #[.slice none 0 0, .int .i64 s] 33)
  have hlo : w.heap.size + 1 < w1.heap.size := hr.lt
  go_loopw [24] (fun i wr => ∃ (j : Nat) (D : Option Addr) (q : Nat), j ≤ n ∧ i = .int .i64 j ∧ wr.ownsRow (w1.heap.size + 1) 3 1 (.slice D j q) j (nums (times (xs.take j) k)) ∧ Whole wr (w.heap.size + 1) 33 #[.slice none 0 0, .int .i64 0] ∧ Whole wr w1.heap.size 33 #[.slice D j q, .int .i64 s] ∧ Below w.heap.size w wr) (fun i _ => n - (intOf i).toNat)
  case atStart => exact ⟨0, none, 0, Nat.zero_le _, rfl, World.ownsRow_nil _ _ _ _, g1, g2, hb0⟩
  case round =>
    clear g1 g2 hb0 c0 c1 h0' hr
    obtain ⟨j, D, q, hj, rfl, hown, g1, g2, hb⟩ := hrel
    obtain ⟨a0, a1, e0, e1⟩ := g2.two
    have hl2 := g2.lt
    by_cases hlt : j < n
    · have hjx : j < xs.length := by have := HX.out; omega
      obtain ⟨b, o, rfl, hbl, hc⟩ := (hA.below hb).look (k := j) (by simpa [nums] using hjx)
      simp only [nums, List.getElem_map] at hc
      have hxj := HALL.out xs[j] (List.getElem_mem hjx)
      have hlow : 0 ≤ xs[j] * k := Int.mul_nonneg (by omega) (by omega)
      have hup : xs[j] * k ≤ 1000 * 1000 := Int.mul_le_mul hxj.2 hk.2 (by omega) (by omega)
      have hmul : IntKind.i64.wrap (xs[j] * k) = xs[j] * k := IntWalk.i64_in _ (by omega)
      have hOW := Lib.hid (hown.alloc (.cells #[.int .i64 (xs[j] * k)] 3))
      have h1' := Lib.hid (g1.alloc (.cells #[.int .i64 (xs[j] * k)] 3))
      have h2' := Lib.hid (g2.alloc (.cells #[.int .i64 (xs[j] * k)] 3))
      have hb' := Lib.hid (hb.alloc hb.size (.cells #[.int .i64 (xs[j] * k)] 3))
      have HBASE := Lib.hid (show w1.heap.size + 1 ≤ (wr.alloc (.cells #[.int .i64 (xs[j] * k)] 3)).heap.size by simp; omega)
      have HMAX := Lib.hid (show j + 1 ≤ maxLen by unfold maxLen; omega)
      have HBYT := Lib.hid (show (j + 1) * 8 ≤ 140737488355328 by omega)
      have HNEXT := Lib.hid (times_next (k := k) hjx)
      clear hown g1 g2 hb hxj hlow hup
      go_wp2_with (at_builtin; refine wpList_append_own _ rfl (.tmp 29) (.tmp 33) 22 rfl (w1.heap.size + 1) 3 i0 (.int .i64 0) 1 8 Try.underlying22 HI.out HZ0.out HZ1.out HZ2.out rfl (by decide) (.slice D j q) j (nums (times (xs.take j) k)) rfl hOW.out ⟨wr.heap.size, 0, none⟩ 1 1 [.int .i64 (xs[j] * k)] rfl rfl (cell_one_new _ _ _) (by simp [Value.oneCell']) HMAX.out HBYT.out HBASE.out ?_; intro v' w2 hown1 hg1 _; obtain ⟨D', q', hv', -⟩ := Fresh.of_own hown1 (Nat.le_refl _); rw [hv'] at hown1 ⊢; clear hv'; have g2 : Whole w2 w1.heap.size 33 #[.slice D j q, .int .i64 s] := (hg1.block _ h2'.out.lt (fun e => by have := (hOW.out.lt _ e.symm).1; omega)).trans h2'.out; have g1 : Whole w2 (w.heap.size + 1) 33 #[.slice none 0 0, .int .i64 0] := (hg1.block _ h1'.out.lt (fun e => by have := (hOW.out.lt _ e.symm).1; omega)).trans h1'.out; obtain ⟨b0, b1, f0, f1⟩ := g2.two)
      have hbw : Below w.heap.size w w2 := hb'.out.grown hg1 (by have := hb'.out.size; omega) (fun kk e => by have := (hOW.out.lt _ e).1; omega)
      rw [HNEXT.out] at hown1
      have hown2 := ownsRow_setCell_below hown1 (a := ⟨w1.heap.size, 0, none⟩) (by show w1.heap.size < _; omega) (.slice D' (j + 1) q')
      go_roundw
      case rel => exact ⟨j + 1, D', q', by omega, by go_num, hown2, g1.off (by omega), g2.set_ 0 (.slice D' (j + 1) q'), below_set hbw (by omega)⟩
      case measure => simp [intOf]; omega
    · have hjn : j = n := by omega
      subst hjn
      have hxt : xs.take j = xs := List.take_of_length_le (by have := HX.out; omega)
      rw [hxt] at hown
      obtain ⟨D', q', hv', hf⟩ := Fresh.of_own hown (Nat.le_refl _)
      simp only [Value.slice.injEq, true_and] at hv'
      obtain ⟨rfl, rfl⟩ := hv'
      have HTL := Lib.hid (show (times xs k).length = j by rw [times_len]; exact HX.out)
      cases hq : isParty (times xs k) s
      all_goals
        have HQ := Lib.hid hq
        have HS := Lib.hid (slow_of HP.out HW.out hq)
        clear hq hown hxt hk
        go_wp2_with fail
        refine (paGood_any D j q (times xs k) s _ hf.holds HTL.out (by omega)).mono ?_
        rintro e w3 ⟨rfl, hb3⟩
        rw [HQ.out]
        replace hb := below_then hb hb3 hb.size
        replace g1 := g1.below hb3
        replace g2 := g2.below hb3
        replace hf := hf.below hb3
        have hw3 : wr.heap.size ≤ w3.heap.size := hb3.size
        obtain ⟨r0, r1, f0, f1⟩ := g1.two
        clear hb3 a0 a1 e0 e1
        obtain ⟨a0, a1, e0, e1⟩ := g2.two
      · go_wp2
        refine bodyPost_ret (v := .tuple #[.agg #[.slice none 0 0, .int .i64 0], .bool false]) (by simp [results, Try.results52, go_sem, r0, r1]) rfl ⟨none, 0, by rw [(slow_no HS.out).1, (slow_no HS.out).2, HS.out]; rfl, by rw [(slow_no HS.out).1]; exact .inl rfl, ?_⟩
        exact below_set (below_set hb (by omega)) (by omega)
      · have HF := Lib.hid (((hf.set_out (b := w.heap.size + 1) (o := 0) (u := .slice D j q) (.inl (by omega))).set_out (b := w.heap.size + 1) (o := 1) (u := .int .i64 s) (.inl (by omega))).more (lo' := w.heap.size) (hi' := w3.heap.size) (by omega) hw3)
        clear hf
        go_wp2
        refine bodyPost_ret (v := .tuple #[.agg #[.slice D j q, .int .i64 s], .bool true]) (by simp [results, Try.results52, go_sem, r0, r1]) rfl ⟨D, q, by rw [(slow_yes HS.out).1, (slow_yes HS.out).2, HS.out, HTL.out], ?_, ?_⟩
        · have h := HF.out
          rw [(slow_yes HS.out).1]
          simpa [World.setCell] using h
        · exact below_set (below_set hb (by omega)) (by omega)
end Go.Proofs.Ytionmcgaicijkaa
