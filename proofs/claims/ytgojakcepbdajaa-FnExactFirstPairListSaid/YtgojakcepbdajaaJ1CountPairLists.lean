/-
  What is proved: plain facts on lists of times up to a most one that go on from beginnings. Conditions: none.
  What is proved: the contract of the model's search for lists whose best plan by pairs takes a total, at a whole list. Conditions: times up to a most one of at most 12.
  What is proved: the contract of the model's search for lists whose best plan by pairs takes a total, at any beginning; CountPairLists and FirstPairList of the model. Conditions: none on the arguments.
  What is proved: contracts of CountPairLists and FirstPairList, of the model and of the program. Conditions: none on the arguments.
  What is proved: the law FnExactCountPairLists returns true at every argument, and leaves all that was there as it was. Conditions: the arguments are read as they lie.
-/
import Derived.Deep.AppendLies
import Derived.Deep.RegionHeld3
import Derived.Test.YtgojakcepbdajaaJ5BestClue
set_option linter.unusedSimpArgs false
set_option linter.unusedVariables false
namespace Go.Proofs.Ytgojakcepbdajaa
open Go.RowKit

/-- For each time from m + 1 - j to m what goes on with it. -/
def tailM (m : Int) (f : List Int → List (List Int)) (b : List Int) : Nat → List (List Int)
  | 0 => []
  | j + 1 => f (b ++ [m - (j : Int)]) ++ tailM m f b j
/-- All that go on from a beginning with n more times and pass. -/
def goM (m : Int) (P : List Int → Bool) : Nat → List Int → List (List Int)
  | 0, b => if P b then [b] else []
  | n + 1, b => tailM m (goM m P n) b (m + 1 - fromL b).toNat
/-- A beginning of times up to m. -/
def BegM (m : Int) (b : List Int) : Prop := ∀ y ∈ b, 1 ≤ y ∧ y ≤ m
theorem begM_nil (m : Int) : BegM m [] := fun y h => by cases h
theorem fromM_bd {m : Int} {b : List Int} (h : BegM m b) (hm : 1 ≤ m) : 1 ≤ fromL b ∧ fromL b ≤ m := by
  rcases List.eq_nil_or_concat b with rfl | ⟨l, x, rfl⟩
  · simp [fromL]; exact hm
  · have := h x (by simp)
    simpa [fromL] using this
theorem begM_snoc {m : Int} {b : List Int} {t : Int} (h : BegM m b) (h1 : 1 ≤ t) (h6 : t ≤ m) : BegM m (b ++ [t]) := fun y hy => by
  rcases List.mem_append.1 hy with hy | hy
  · exact h y hy
  · obtain rfl : y = t := by simpa using hy
    omega
theorem begM_ok {m : Int} {b : List Int} (h : BegM m b) (hm : m ≤ 12) (h1 : 1 ≤ b.length) (h4 : b.length ≤ 4) : prOk b = true := by
  simp only [prOk, Bool.and_eq_true, within_iff]
  exact ⟨by omega, (allIn_iff _ _ _).2 fun y hy => by have := h y hy; omega⟩
theorem goM_len {m : Int} (hm1 : 1 ≤ m) (hm : m ≤ 12) (P : List Int → Bool) : ∀ (n : Nat) (b : List Int), (∀ y ∈ b, 1 ≤ y) → (goM m P n b).length ≤ 12 ^ n
  | 0, b, _ => by simp only [goM]; split <;> simp
  | n + 1, b, hb => by
    have hf : 1 ≤ fromL b := by
      rcases List.eq_nil_or_concat b with rfl | ⟨l, x, rfl⟩
      · simp [fromL]
      · have := hb x (by simp)
        simpa [fromL] using this
    have hj : (m + 1 - fromL b).toNat ≤ m.toNat := by omega
    have hm12 : m.toNat ≤ 12 := by omega
    have ht : ∀ j, j ≤ m.toNat → (tailM m (goM m P n) b j).length ≤ j * 12 ^ n := by
      intro j
      induction j with
      | zero => intro _; simp [tailM]
      | succ j ih =>
        intro hj
        have h1 := ih (by omega)
        have h2 := goM_len hm1 hm P n (b ++ [m - (j : Int)]) (fun y hy => by
          rcases List.mem_append.1 hy with hy | hy
          · exact hb y hy
          · obtain rfl : y = m - (j : Int) := by simpa using hy
            omega)
        simp only [tailM, List.length_append]
        rw [Nat.succ_mul]
        omega
    have := ht _ hj
    have h3 : (m + 1 - fromL b).toNat * 12 ^ n ≤ 12 * 12 ^ n := Nat.mul_le_mul_right _ (by omega)
    simp only [goM]
    rw [Nat.pow_succ]
    omega
theorem tailM_filter {m : Int} {f g : List Int → List (List Int)} {P : List Int → Bool} (h : ∀ b, f b = (g b).filter P) (b : List Int) : ∀ j, tailM m f b j = (tailM m g b j).filter P
  | 0 => rfl
  | j + 1 => by simp only [tailM, List.filter_append, h, tailM_filter h b j]
theorem goM_filter (m : Int) (P : List Int → Bool) : ∀ (n : Nat) (b : List Int), goM m P n b = (goM m (fun _ => true) n b).filter P
  | 0, b => by
    simp only [goM]
    cases h : P b <;> simp [h]
  | n + 1, b => by
    simp only [goM]
    exact tailM_filter (fun b => goM_filter m P n b) b _
set_option maxRecDepth 100000 in
theorem upM_all : (List.range 4).all (fun p => (List.range 12).all fun m => goM ((m + 1 : Nat) : Int) (fun _ => true) (p + 1) [] == upL (p + 1) (m + 1) && (decide ((upL (p + 1) (m + 1)).length ≤ 5000) && (upL (p + 1) (m + 1)).all prOk)) = true := by decide +kernel
theorem upM_of {p m : Nat} (h1 : 1 ≤ p) (h4 : p ≤ 4) (hm1 : 1 ≤ m) (hm : m ≤ 12) : goM (m : Int) (fun _ => true) p [] = upL p m ∧ (upL p m).length ≤ 5000 ∧ ∀ l ∈ upL p m, prOk l = true := by
  have h := List.all_eq_true.1 (List.all_eq_true.1 upM_all (p - 1) (List.mem_range.2 (by omega))) (m - 1) (List.mem_range.2 (by omega))
  rw [show p - 1 + 1 = p by omega, show m - 1 + 1 = m by omega] at h
  simp only [Bool.and_eq_true, beq_iff_eq, decide_eq_true_eq, List.all_eq_true] at h
  exact h
/-- Does the best plan by pairs take that long? -/
def sumP (t : Int) (l : List Int) : Bool := timeT (prTs true l) == t
/-- The lists whose best plan by pairs takes that long. -/
def prAskI (p m t : Int) : Bool := within p 1 4 && (within m 1 12 && within t 0 1000)
def prL (p m t : Int) : List (List Int) := if prAskI p m t then goM m (sumP t) p.toNat [] else []
theorem prAsk_parts {p m t : Int} (h : prAskI p m t = true) : 1 ≤ p ∧ p ≤ 4 ∧ 1 ≤ m ∧ m ≤ 12 ∧ 0 ≤ t ∧ t ≤ 1000 := by
  simp only [prAskI, Bool.and_eq_true, within_iff] at h
  omega
theorem prL_no {p m t : Int} (h : prAskI p m t = false) : prL p m t = [] := if_neg (by simp [h])
theorem prL_yes {p m t : Int} (h : prAskI p m t = true) : prL p m t = goM m (sumP t) p.toNat [] := if_pos h
theorem prL_up {p m t : Int} (h : prAskI p m t = true) : prL p m t = (upL p.toNat m.toNat).filter (sumP t) := by
  obtain ⟨h1, h4, hm1, hm, -⟩ := prAsk_parts h
  rw [prL_yes h, goM_filter]
  have := (upM_of (p := p.toNat) (m := m.toNat) (by omega) (by omega) (by omega) (by omega)).1
  rw [show ((m.toNat : Nat) : Int) = m by omega] at this
  rw [this]
theorem prL_len (p m t : Int) : (prL p m t).length ≤ 5000 := by
  cases h : prAskI p m t
  · rw [prL_no h]; simp
  · obtain ⟨h1, h4, hm1, hm, -⟩ := prAsk_parts h
    rw [prL_up h]
    exact Nat.le_trans (List.length_filter_le _ _) (upM_of (by omega) (by omega) (by omega) (by omega)).2.1
end Go.Proofs.Ytgojakcepbdajaa

namespace Go.Proofs.Ytgojakcepbdajaa
open Go.RowKit

/-- What the search leaves behind. -/
def PrlPost (m : Int) (P : List Int → Bool) (og lo : Nat) (wb : World) (A : Option Addr) (w : World) (n : Nat) (b : List Int) (rs : List RowV) (e : Ending) (w' : World) : Prop :=
  e = .returned (.tuple #[]) ∧ ∃ A' c' rs', LookAt og lo wb w' A' c' rs' ∧ rowNums rs' = rowNums rs ++ goM m P n b ∧ Turned og A w w' ∧ NewOr A A' w

set_option maxHeartbeats 3200000 in
set_option maxRecDepth 100000 in
theorem prLists_leaf (p m t : Int) (wb : World) (og lo : Nat)
    (B : Option Addr) (bn bc : Nat) (b : List Int) (w w0 : World) (A : Option Addr) (c : Nat) (rs : List RowV) (hl : LookAt og lo wb w0 A c rs) (hb : Below w0.heap.size w0 w) (hf : Fresh w w0.heap.size w.heap.size 3 B (nums b)) (hbn : b.length = bn) (hp : p = bn) (hok : prOk b = true) (hnil : B = none → bc = 0) (hcnt : rs.length + (goM m (sumP t) 0 b).length ≤ 30000) :
    Calls Try.prog 34 #[.slice B bn bc, .int .i64 p, .int .i64 m, .int .i64 t, .pointer (some ⟨og, 0, none⟩)] w (PrlPost m (sumP t) og lo wb A w 0 b rs) := by
  obtain ⟨i0, hi, hz0, hz1, hz2⟩ := info_parts info_row
  have HI := Lib.hid hi
  have HZ0 := Lib.hid hz0
  have HZ1 := Lib.hid hz1
  have HZ2 := Lib.hid hz2
  have HL := Lib.hid (hl.later hb)
  have HL0 := Lib.hid hl
  have HB := Lib.hid hb
  have HF := Lib.hid hf
  have HBN := Lib.hid hbn
  have HOK := Lib.hid hok
  have HNIL := Lib.hid hnil
  have hpp : ((bn : Int) == p) = true := by simp [hp]
  cases hs : sumP t b
  · have hg : goM m (sumP t) 0 b = [] := by simp [goM, hs]
    have HG := Lib.hid hg
    have hd : (timeT (prTs true b) == t) = false := hs
    clear hi hz0 hz1 hz2 hl hb hf hbn hok hp hnil hcnt hg hs
    go_enter Try.func34, Try.ntmps34
    go_wp2_with fail
    refine (prTime_any B bn bc b _ HF.out.holds HBN.out HOK.out).mono ?_
    rintro e w2 ⟨rfl, hb2⟩
    have HB2 := Lib.hid hb2
    clear hb2
    go_wp2
    go_end0
    exact ⟨rfl, A, c, rs, HL.out.later HB2.out, by rw [HG.out, List.append_nil], Turned.of_below HB2.out, NewOr.refl _ _⟩
  · have hg : goM m (sumP t) 0 b = [b] := by simp [goM, hs]
    have HG := Lib.hid hg
    rw [hg] at hcnt
    have hal : rs.length + 1 ≤ 30000 := by simpa using hcnt
    have HMAX := Lib.hid (show rs.length + 1 ≤ maxLen by unfold maxLen; omega)
    have HBYT := Lib.hid (show (rs.length + 1) * 24 ≤ 140737488355328 by omega)
    have hd : (timeT (prTs true b) == t) = true := hs
    clear hi hz0 hz1 hz2 hl hb hf hbn hok hp hnil hcnt hg hs
    go_enter Try.func34, Try.ntmps34
    go_wp2_with fail
    refine (prTime_any B bn bc b _ HF.out.holds HBN.out HOK.out).mono ?_
    rintro e w2 ⟨rfl, hb2⟩
    have HB2 := Lib.hid hb2
    have HL2 := Lib.hid (HL.out.later hb2)
    have hH2 := HF.out.holds.below hb2
    have c0 := HL2.out.cell.cells1
    have hlt2 := HL2.out.cell.lt
    clear hb2
    go_wp2_with fail
    go_region_law (first | (go_simp; go_at_call 39; refine (l1Own_any B bn bc b _ (by exact hH2.drew) HBN.out (by have h9 := HOK.out; simp only [prOk, Bool.and_eq_true, within_iff] at h9; have := HBN.out; omega) HNIL.out).mono ?_; rintro e w5 ⟨A5, q5, rfl, hown5, hb5⟩; have hL5 := HL2.out.later (below_then (Below.refl w2.heap.size w2).drew hb5 (Nat.le_refl _)); have c5 := hL5.cell.cells1; have c6 := (hL5.cell.alloc (.cells #[.slice A5 bn q5] 25)).cells1; have hl5 := hL5.cell.lt; rw [HBN.out] at hown5 ⊢; have hbd5 : Below w2.heap.size w2 w5 := below_then (Below.refl w2.heap.size w2).drew hb5 (Nat.le_refl _); have HB5 := Lib.hid hbd5; have HL5 := Lib.hid hL5; have HO5 := Lib.hid hown5; have HOWN := Lib.hid ((hL5.heads.alloc (.cells #[.slice A5 bn q5] 25)).1); have HBASE := Lib.hid (show lo ≤ (w5.alloc (.cells #[.slice A5 bn q5] 25)).heap.size by have := hL5.lo_sz; rw [World.size_alloc]; omega); clear hown5 hb5 hbd5 hL5) | (refine step_append_lies _ rfl (.tmp 23) (.tmp 26) 48 rfl lo 25 i0 (.slice none 0 0) 1 24 Try.underlying48 HI.out HZ0.out HZ1.out HZ2.out rfl (by decide) (.slice A rs.length c) rs.length (rowVals rs) (by simp [Act.eval]) HOWN.out ⟨w5.heap.size, 0, none⟩ 1 1 [.slice A5 bn q5] (by simp [Act.eval]) rfl (cell_one_new _ _ _) (by simp [Value.oneCell']) (by decide) HMAX.out HBYT.out HBASE.out (w5.heap.size + 1) (by simp) ?_; intro g cap w4 hown4 hg4 hat hlt4; have hcell4 := HL5.out.grown hg4; have c4 := hcell4.cells1; have f4 := hcell4.open_ 0; have hl4 := hcell4.lt))
    all_goals
      have hL5 := HL5.out
      have hlo := hL5.og_lo
      have hogl := hL5.cell.lt
      have hs25 : w2.heap.size ≤ w5.heap.size := HB5.out.size
      have hsw2 : w.heap.size ≤ w2.heap.size := HB2.out.size
      have hs0 : w0.heap.size ≤ w.heap.size := HB.out.size
      have hobk : ∀ q, (Value.slice A rs.length c).ownBlock = some q → ∃ a : Addr, A = some a ∧ a.block = q ∧ lo ≤ q ∧ q < w5.heap.size := fun q hq => by
        cases A with
        | none => simp [Value.ownBlock] at hq
        | some a =>
          have hq2 : a.block = q := by simpa [Value.ownBlock] using hq
          have := hL5.own_lt a rfl
          exact ⟨a, rfl, hq2, by omega, by omega⟩
      have hkeep := hL5.keep hg4
      have HRW : Hid (Fresh w5 w0.heap.size w5.heap.size 3 A5 (nums b)) := by
        obtain ⟨A', c', hv, hf⟩ := Fresh.of_own HO5.out (Nat.le_refl _)
        cases hv
        exact hf.more (by show w0.heap.size ≤ w2.heap.size; omega) (Nat.le_refl _)
      have HP := Lib.hid (Heads.push (r := ⟨A5, bn, q5, b⟩) HL0.out.heads HL0.out.lo_sz (HB.out.trans ((below_then HB2.out HB5.out hsw2).mono (by omega))) HRW.out HBN.out (by have h9 := HOK.out; simp only [prOk, Bool.and_eq_true, within_iff] at h9; have := HBN.out; show bn ≤ _; omega) hown4 hg4 hat)
      have HSET := Lib.hid (hcell4.set_ 0 (.slice (some ⟨g, 0, none⟩) (rs.length + 1) cap))
      have hsz4 : w5.heap.size ≤ w4.heap.size := by have := hg4.size; simp at this; omega
      have HB4 := Lib.hid (((hL5.below.alloc (Nat.le_of_lt hogl) (.cells #[.slice A5 bn q5] 25)).grown hg4 (by simp; omega) (fun kk e => by obtain ⟨a, -, -, h5, -⟩ := hobk kk e; omega)))
      have HKEEP := Lib.hid hkeep
      have HBK := Lib.hid ((below_then HB2.out HB5.out hsw2))
      have HAT := Lib.hid (show ∀ a', (some ⟨g, 0, none⟩ : Option Addr) = some a' → (∃ a, A = some a ∧ a.block = a'.block) ∨ w.heap.size ≤ a'.block from fun a' e => by
        obtain rfl := Option.some.inj e
        rcases hat with h | h
        · obtain ⟨a, ha, hq, -⟩ := hobk g h
          exact .inl ⟨a, ha, hq⟩
        · exact .inr (by show w.heap.size ≤ g; omega))
      clear hobk hkeep hcell4 hown4 hg4 hat
      try go_wp2
      first | go_end0 | refine bodyPost_ret (results_none rfl _ _ _) rfl ?_
      refine ⟨rfl, some ⟨g, 0, none⟩, cap, rs ++ [⟨A5, bn, q5, b⟩], ⟨?_, ?_, ?_, hlo, ?_⟩, ?_, ⟨?_, ?_⟩, HAT.out⟩
      · rw [List.length_append]; exact HSET.out
      · exact HP.out.same (by simp [World.setCell]) fun k hk _ => Below.heap_setCell _ _ _ _ (by show k ≠ og; omega)
      · exact below_set HB4.out (Nat.le_refl _)
      · have := hL5.lo_sz; simp [World.setCell]; omega
      · rw [HG.out]; simp [rowNums]
      · simp [World.setCell]; omega
      · exact fun k hk ho ha => ((Below.heap_setCell _ _ _ _ (by show k ≠ og; exact ho)).trans (HKEEP.out k (by omega) ha)).trans (HBK.out.block k hk)
end Go.Proofs.Ytgojakcepbdajaa

namespace Go.Proofs.Ytgojakcepbdajaa
open Go.RowKit

/-- What is known where the search goes on with n more times. -/
def PrAll (p M T : Int) (wb : World) (og lo n : Nat) : Prop :=
  ∀ (B : Option Addr) (bn bc : Nat) (b : List Int) (w w0 : World) (A : Option Addr) (c : Nat) (rs : List RowV), LookAt og lo wb w0 A c rs → Below w0.heap.size w0 w → Fresh w w0.heap.size w.heap.size 3 B (nums b) → b.length = bn → p = bn + n → BegM M b → (B = none → bc = 0) → rs.length + (goM M (sumP T) n b).length ≤ 30000 →
    Calls Try.prog 34 #[.slice B bn bc, .int .i64 p, .int .i64 M, .int .i64 T, .pointer (some ⟨og, 0, none⟩)] w (PrlPost M (sumP T) og lo wb A w n b rs)

set_option maxHeartbeats 3200000 in
set_option maxRecDepth 100000 in
theorem prLists_step (p M T : Int) (wb : World) (og lo n : Nat) (hp4 : p ≤ 4) (hM1 : 1 ≤ M) (hM : M ≤ 12) (IH : PrAll p M T wb og lo n) : PrAll p M T wb og lo (n + 1) := by
  intro B bn bc b w w0 A c rs hl hb hf hbn hp hbeg hnil hcnt
  obtain ⟨i0, hi, hz0, hz1, hz2⟩ := info_parts info_int
  have HI := Lib.hid hi
  have HZ0 := Lib.hid hz0
  have HZ1 := Lib.hid hz1
  have HZ2 := Lib.hid hz2
  have HL := Lib.hid (hl.later hb)
  have HL0 := Lib.hid hl
  have HB := Lib.hid hb
  have HF := Lib.hid hf
  have HBN := Lib.hid hbn
  have HBEG := Lib.hid hbeg
  have HNIL := Lib.hid hnil
  have HIH := Lib.hid IH
  have hbn4 : bn ≤ 3 := by omega
  have hpp : ((bn : Int) == p) = false := by simp; omega
  have HPN := Lib.hid hp
  have HCNT := Lib.hid hcnt
  obtain ⟨hf1, hf6⟩ := fromM_bd hbeg hM1
  have hog0 : og < w0.heap.size := Nat.lt_of_lt_of_le hl.og_lo hl.lo_sz
  have hAlt : ∀ a, A = some a → a.block < w0.heap.size := fun a e => (hl.own_lt a e).2
  have HOG0 := Lib.hid hog0
  have HALT := Lib.hid hAlt
  obtain ⟨fr, hfr⟩ : ∃ fr, fr = fromL b := ⟨_, rfl⟩
  have HGO : Hid (goM M (sumP T) (n + 1) b = tailM M (goM M (sumP T) n) b (M + 1 - fr).toNat) := by show _ = _; rw [hfr]; rfl
  rw [← hfr] at hf1 hf6
  have HFR := Lib.hid hfr
  by_cases hb0 : b = []
  · have e0 : bn = 0 := by rw [← hbn, hb0]; rfl
    have hbz : ¬ (0 : Int) < bn := by omega
    have hfr1 : fr = 1 := by rw [hfr, hb0]; rfl
    have HN1 := Lib.hid hfr1
    clear hi hz0 hz1 hz2 hl hb hp hcnt hog0 hAlt IH hbeg hnil hf hbn hfr e0 hb0
    go_enter Try.func34, Try.ntmps34
    go_wp2_with fail
    go_loopw [11] (fun i wr => ∃ (j : Nat) (A1 : Option Addr) (c1 : Nat) (rs1 : List RowV), i = .int .i64 (M + 1 - (j : Int)) ∧ (j : Int) ≤ M ∧ fr ≤ M + 1 - (j : Int) ∧ LookAt og lo wb wr A1 c1 rs1 ∧ rowNums rs1 ++ tailM M (goM M (sumP T) n) b j = rowNums rs ++ goM M (sumP T) (n + 1) b ∧ Turned og A w wr ∧ NewOr A A1 w) (fun i _ => (M + 1 - intOf i).toNat)
    case atStart => exact ⟨(M + 1 - fr).toNat, A, c, rs, congrArg _ (by omega), by omega, by omega, HL.out, by rw [HGO.out], Turned.refl _ _ _, NewOr.refl _ _⟩
    case round =>
      obtain ⟨j, A1, c1, rs1, rfl, hj, hjf, hl1, heq, htu, hno⟩ := hrel
      by_cases hj0 : 0 < j
      · obtain ⟨m, rfl⟩ : ∃ m, j = m + 1 := ⟨j - 1, by omega⟩
        obtain ⟨t, ht⟩ : ∃ t : Int, t = M - (m : Int) := ⟨_, rfl⟩
        have ht7 : M + 1 - ((m + 1 : Nat) : Int) = t := by omega
        have heq2 : rowNums rs1 ++ (goM M (sumP T) n (b ++ [t]) ++ tailM M (goM M (sumP T) n) b m) = rowNums rs ++ goM M (sumP T) (n + 1) b := by rw [ht]; exact heq
        have hlen := congrArg List.length heq2
        simp only [List.length_append, rowNums_len] at hlen
        have HC1 := Lib.hid (show rs1.length + (goM M (sumP T) n (b ++ [t])).length ≤ 30000 by have := HCNT.out; omega)
        have HEQ := Lib.hid heq2
        have hfw := HF.out.turned HOG0.out (fun a e => .inl (HALT.out a e)) htu
        have HFW := Lib.hid hfw
        have HL1 := Lib.hid hl1
        have HTU := Lib.hid htu
        have HNO := Lib.hid hno
        have ht6 : t ≤ M := by omega
        have htf : fr ≤ t := by omega
        rw [ht7]
        clear heq heq2 hlen hfw hl1 htu hno hjf
        have HT := Lib.hid ht
        have HT7 := Lib.hid ht7
        clear ht ht7
        go_wp2_with fail
        refine (l1Own_any B bn bc b _ HFW.out.holds HBN.out (by omega) HNIL.out).mono ?_
        rintro e w3 ⟨A2, q2, rfl, hown2, hb2⟩
        rw [HBN.out] at hown2 ⊢
        have hs2 : wr.heap.size ≤ w3.heap.size := hb2.size
        have HO2 := Lib.hid (hown2.alloc (.cells #[.int .i64 t] 3))
        have HB3 := Lib.hid (hb2.alloc hs2 (.cells #[.int .i64 t] 3))
        have HMAX := Lib.hid (show bn + 1 ≤ maxLen by unfold maxLen; omega)
        have HBYT := Lib.hid (show (bn + 1) * 8 ≤ 140737488355328 by omega)
        have HBASE := Lib.hid (show wr.heap.size ≤ (w3.alloc (.cells #[.int .i64 t] 3)).heap.size by simp; omega)
        clear hown2 hb2 hs2
        go_wp2_with (at_builtin; refine wpList_append_lies _ rfl (.tmp 45) (.tmp 47) 25 rfl wr.heap.size 3 i0 (.int .i64 0) 1 8 Try.underlying25 HI.out HZ0.out HZ1.out HZ2.out rfl (by decide) (.slice A2 bn q2) bn (nums b) rfl HO2.out ⟨w3.heap.size, 0, none⟩ 1 1 [.int .i64 t] rfl rfl (cell_one_new _ _ _) (by simp [Value.oneCell']) (by decide) HMAX.out HBYT.out HBASE.out (w3.heap.size + 1) (by simp) ?_; intro g cap w4 hown4 hg4 hat hlt4)
        have HB4 := Lib.hid (HB3.out.grown hg4 HBASE.out (fun kk e => (HO2.out.lt kk e).1))
        have hnum : nums b ++ [.int .i64 t] = nums (b ++ [t]) := by simp [nums]
        rw [hnum] at hown4
        obtain ⟨A5, c5, hv5, hf5⟩ := Fresh.of_own hown4 (Nat.le_refl _)
        simp only [Value.slice.injEq, true_and] at hv5
        obtain ⟨rfl, rfl⟩ := hv5
        have HF5 := Lib.hid hf5
        clear hown4 hg4 hat hnum hf5
        refine (HIH.out (some ⟨g, 0, none⟩) (bn + 1) cap (b ++ [t]) w4 wr A1 c1 rs1 HL1.out HB4.out HF5.out (by simp [HBN.out]) (by have := HPN.out; omega) (begM_snoc HBEG.out (by omega) ht6) (fun h => by cases h) HC1.out).mono ?_
        rintro e w5 ⟨rfl, A6, c6, rs6, hl6, hr6, htu6, hno6⟩
        have HL6 := Lib.hid hl6
        have HR6 := Lib.hid hr6
        have HTU6 := Lib.hid ((HTU.out.trans HNO.out (Turned.of_below HB4.out)).trans HNO.out htu6)
        have HNO6 := Lib.hid (HNO.out.trans (Nat.le_trans HTU.out.size HB4.out.size) hno6)
        clear hl6 hr6 htu6 hno6 hlt4
        go_wp2
        go_roundw
        case rel => exact ⟨m, A6, c6, rs6, congrArg _ (by have := HT.out; omega), by omega, by have := HT.out; omega, HL6.out, by rw [HR6.out, List.append_assoc]; exact HEQ.out, HTU6.out, HNO6.out⟩
        case measure => have := HT.out; simp [intOf]; omega
      · obtain rfl : j = 0 := by omega
        have HEQ : Hid (rowNums rs1 = rowNums rs ++ goM M (sumP T) (n + 1) b) := by show _ = _; rw [← heq]; simp [tailM]
        have HL1 := Lib.hid hl1
        have HTU := Lib.hid htu
        have HNO := Lib.hid hno
        clear heq hl1 htu hno
        go_wp2
        go_end0
        exact ⟨rfl, A1, c1, rs1, HL1.out, HEQ.out, HTU.out, HNO.out⟩
  · have e0 : 0 < bn := by rw [← hbn]; exact List.length_pos_iff.2 hb0
    have hbz : (0 : Int) < bn := by omega
    have hbd : decide (0 < bn) = true := decide_eq_true e0
    obtain ⟨q, hq⟩ : ∃ q, q + 1 = bn := ⟨bn - 1, by omega⟩
    have hql : q < b.length := by omega
    obtain ⟨g0, o0, rfl, hgl, hc⟩ := hf.holds.look (k := q) (by rw [nums_len]; exact hql)
    simp only [nums, List.getElem_map] at hc
    rw [← fromL_last (by omega), ← hfr] at hc
    have hqm : (bn : Int) - 1 = q := by omega
    have hqw : IntKind.i64.wrap ((bn : Int) - 1) = q := by rw [hqm]; exact IntWalk.i64_in _ (by omega)
    have hq0 : (q : Int) < bn := by omega
    clear hi hz0 hz1 hz2 hl hb hp hcnt hog0 hAlt IH hbeg hnil hf hbn hfr e0 hb0 hq hql
    go_enter Try.func34, Try.ntmps34
    go_wp2_with fail
    clear hqm hqw hq0 hc
    go_loopw [11] (fun i wr => ∃ (j : Nat) (A1 : Option Addr) (c1 : Nat) (rs1 : List RowV), i = .int .i64 (M + 1 - (j : Int)) ∧ (j : Int) ≤ M ∧ fr ≤ M + 1 - (j : Int) ∧ LookAt og lo wb wr A1 c1 rs1 ∧ rowNums rs1 ++ tailM M (goM M (sumP T) n) b j = rowNums rs ++ goM M (sumP T) (n + 1) b ∧ Turned og A w wr ∧ NewOr A A1 w) (fun i _ => (M + 1 - intOf i).toNat)
    case atStart => exact ⟨(M + 1 - fr).toNat, A, c, rs, congrArg _ (by omega), by omega, by omega, HL.out, by rw [HGO.out], Turned.refl _ _ _, NewOr.refl _ _⟩
    case round =>
      obtain ⟨j, A1, c1, rs1, rfl, hj, hjf, hl1, heq, htu, hno⟩ := hrel
      by_cases hj0 : 0 < j
      · obtain ⟨m, rfl⟩ : ∃ m, j = m + 1 := ⟨j - 1, by omega⟩
        obtain ⟨t, ht⟩ : ∃ t : Int, t = M - (m : Int) := ⟨_, rfl⟩
        have ht7 : M + 1 - ((m + 1 : Nat) : Int) = t := by omega
        have heq2 : rowNums rs1 ++ (goM M (sumP T) n (b ++ [t]) ++ tailM M (goM M (sumP T) n) b m) = rowNums rs ++ goM M (sumP T) (n + 1) b := by rw [ht]; exact heq
        have hlen := congrArg List.length heq2
        simp only [List.length_append, rowNums_len] at hlen
        have HC1 := Lib.hid (show rs1.length + (goM M (sumP T) n (b ++ [t])).length ≤ 30000 by have := HCNT.out; omega)
        have HEQ := Lib.hid heq2
        have hfw := HF.out.turned HOG0.out (fun a e => .inl (HALT.out a e)) htu
        have HFW := Lib.hid hfw
        have HL1 := Lib.hid hl1
        have HTU := Lib.hid htu
        have HNO := Lib.hid hno
        have ht6 : t ≤ M := by omega
        have htf : fr ≤ t := by omega
        rw [ht7]
        clear heq heq2 hlen hfw hl1 htu hno hjf
        have HT := Lib.hid ht
        have HT7 := Lib.hid ht7
        clear ht ht7
        go_wp2_with fail
        refine (l1Own_any (some ⟨g0, o0, none⟩) bn bc b _ HFW.out.holds HBN.out (by omega) HNIL.out).mono ?_
        rintro e w3 ⟨A2, q2, rfl, hown2, hb2⟩
        rw [HBN.out] at hown2 ⊢
        have hs2 : wr.heap.size ≤ w3.heap.size := hb2.size
        have HO2 := Lib.hid (hown2.alloc (.cells #[.int .i64 t] 3))
        have HB3 := Lib.hid (hb2.alloc hs2 (.cells #[.int .i64 t] 3))
        have HMAX := Lib.hid (show bn + 1 ≤ maxLen by unfold maxLen; omega)
        have HBYT := Lib.hid (show (bn + 1) * 8 ≤ 140737488355328 by omega)
        have HBASE := Lib.hid (show wr.heap.size ≤ (w3.alloc (.cells #[.int .i64 t] 3)).heap.size by simp; omega)
        clear hown2 hb2 hs2
        go_wp2_with (at_builtin; refine wpList_append_lies _ rfl (.tmp 45) (.tmp 47) 25 rfl wr.heap.size 3 i0 (.int .i64 0) 1 8 Try.underlying25 HI.out HZ0.out HZ1.out HZ2.out rfl (by decide) (.slice A2 bn q2) bn (nums b) rfl HO2.out ⟨w3.heap.size, 0, none⟩ 1 1 [.int .i64 t] rfl rfl (cell_one_new _ _ _) (by simp [Value.oneCell']) (by decide) HMAX.out HBYT.out HBASE.out (w3.heap.size + 1) (by simp) ?_; intro g cap w4 hown4 hg4 hat hlt4)
        have HB4 := Lib.hid (HB3.out.grown hg4 HBASE.out (fun kk e => (HO2.out.lt kk e).1))
        have hnum : nums b ++ [.int .i64 t] = nums (b ++ [t]) := by simp [nums]
        rw [hnum] at hown4
        obtain ⟨A5, c5, hv5, hf5⟩ := Fresh.of_own hown4 (Nat.le_refl _)
        simp only [Value.slice.injEq, true_and] at hv5
        obtain ⟨rfl, rfl⟩ := hv5
        have HF5 := Lib.hid hf5
        clear hown4 hg4 hat hnum hf5
        refine (HIH.out (some ⟨g, 0, none⟩) (bn + 1) cap (b ++ [t]) w4 wr A1 c1 rs1 HL1.out HB4.out HF5.out (by simp [HBN.out]) (by have := HPN.out; omega) (begM_snoc HBEG.out (by omega) ht6) (fun h => by cases h) HC1.out).mono ?_
        rintro e w5 ⟨rfl, A6, c6, rs6, hl6, hr6, htu6, hno6⟩
        have HL6 := Lib.hid hl6
        have HR6 := Lib.hid hr6
        have HTU6 := Lib.hid ((HTU.out.trans HNO.out (Turned.of_below HB4.out)).trans HNO.out htu6)
        have HNO6 := Lib.hid (HNO.out.trans (Nat.le_trans HTU.out.size HB4.out.size) hno6)
        clear hl6 hr6 htu6 hno6 hlt4
        go_wp2
        go_roundw
        case rel => exact ⟨m, A6, c6, rs6, congrArg _ (by have := HT.out; omega), by omega, by have := HT.out; omega, HL6.out, by rw [HR6.out, List.append_assoc]; exact HEQ.out, HTU6.out, HNO6.out⟩
        case measure => have := HT.out; simp [intOf]; omega
      · obtain rfl : j = 0 := by omega
        have HEQ : Hid (rowNums rs1 = rowNums rs ++ goM M (sumP T) (n + 1) b) := by show _ = _; rw [← heq]; simp [tailM]
        have HL1 := Lib.hid hl1
        have HTU := Lib.hid htu
        have HNO := Lib.hid hno
        clear heq hl1 htu hno
        go_wp2
        go_end0
        exact ⟨rfl, A1, c1, rs1, HL1.out, HEQ.out, HTU.out, HNO.out⟩

theorem prLists_any (p M T : Int) (wb : World) (og lo : Nat) (hp1 : 1 ≤ p) (hp4 : p ≤ 4) (hM1 : 1 ≤ M) (hM : M ≤ 12) : ∀ n, PrAll p M T wb og lo n
  | 0 => fun B bn bc b w w0 A c rs hl hb hf hbn hp hbeg hnil hcnt => prLists_leaf p M T wb og lo B bn bc b w w0 A c rs hl hb hf hbn (by omega) (begM_ok hbeg hM (by omega) (by omega)) hnil hcnt
  | n + 1 => prLists_step p M T wb og lo n hp4 hM1 hM (prLists_any p M T wb og lo hp1 hp4 hM1 hM n)
end Go.Proofs.Ytgojakcepbdajaa

namespace Go.Proofs.Ytgojakcepbdajaa
open Go.RowKit

theorem prAsked_any (p m t : Int) (w : World) :
    Calls Try.prog 33 #[.int .i64 p, .int .i64 m, .int .i64 t] w fun e w' => e = .returned (.bool (prAskI p m t)) ∧ w = w' := by
  cases h1 : within p 1 4
  · have H1 := Lib.hid h1
    have HR := Lib.hid (show prAskI p m t = false by simp [prAskI, h1])
    clear h1
    go_enter Try.func33, Try.ntmps33
    go_wp2_with fail
    refine (l1In_any _ _ _ _).mono ?_
    rintro e w' ⟨rfl, rfl⟩
    rw [H1.out]
    go_wp2
    go_ret
    exact ⟨ret_of (by rw [HR.out]; rfl), rfl⟩
  · cases h2 : within m 1 12
    · have H1 := Lib.hid h1
      have H2 := Lib.hid h2
      have HR := Lib.hid (show prAskI p m t = false by simp [prAskI, h2])
      clear h1 h2
      go_enter Try.func33, Try.ntmps33
      go_wp2_with fail
      refine (l1In_any _ _ _ _).mono ?_
      rintro e w' ⟨rfl, rfl⟩
      rw [H1.out]
      go_wp2_with fail
      refine (l1In_any _ _ _ _).mono ?_
      rintro e w' ⟨rfl, rfl⟩
      rw [H2.out]
      go_wp2
      go_ret
      exact ⟨ret_of (by rw [HR.out]; rfl), rfl⟩
    · have H1 := Lib.hid h1
      have H2 := Lib.hid h2
      have HR := Lib.hid (show prAskI p m t = within t 0 1000 by simp [prAskI, h1, h2])
      clear h1 h2
      go_enter Try.func33, Try.ntmps33
      go_wp2_with fail
      refine (l1In_any _ _ _ _).mono ?_
      rintro e w' ⟨rfl, rfl⟩
      rw [H1.out]
      go_wp2_with fail
      refine (l1In_any _ _ _ _).mono ?_
      rintro e w' ⟨rfl, rfl⟩
      rw [H2.out]
      go_wp2_with fail
      refine (l1In_any _ _ _ _).mono ?_
      rintro e w' ⟨rfl, rfl⟩
      go_wp2
      go_ret
      exact ⟨ret_of (by rw [HR.out]; rfl), rfl⟩

set_option maxHeartbeats 1600000 in
set_option maxRecDepth 100000 in
theorem specCountPairLists_any (p m t : Int) (w : World) :
    Calls Try.prog 10 #[.int .i64 p, .int .i64 m, .int .i64 t] w fun e w' => e = .returned (.tuple #[.int .i64 ((prL p m t).length : Int), .bool (prAskI p m t)]) ∧ Below w.heap.size w w' := by
  cases hok : prAskI p m t
  · have HOK := Lib.hid hok
    have HS := Lib.hid (prL_no hok)
    clear hok
    go_enter Try.func10, Try.ntmps10
    go_wp2_with fail
    refine (prAsked_any p m t _).mono ?_
    rintro e w' ⟨rfl, rfl⟩
    rw [HOK.out]
    go_wp2
    go_ret2
    exact ⟨by rw [HS.out]; rfl, Below.refl _ _⟩
  · have HOK := Lib.hid hok
    have HS := Lib.hid (prL_yes hok)
    obtain ⟨hp1, hp4, hm1, hm12, -, -⟩ := prAsk_parts hok
    have hw0 := Whole.fresh w 48 #[.slice none 0 0]
    have hbl := below1 w (.cells #[.slice none 0 0] 48)
    have hlk : LookAt w.heap.size (w.heap.size + 1) w (w.alloc (.cells #[.slice none 0 0] 48)) none 0 [] := ⟨hw0, Heads.nil _ _, hbl, by omega, by simp⟩
    have HL := Lib.hid hlk
    have HALL := Lib.hid (prLists_any p m t w w.heap.size (w.heap.size + 1) hp1 hp4 hm1 hm12 p.toNat)
    have HCNT : Hid ((goM m (sumP t) p.toNat []).length ≤ 5000) := by show _ ≤ _; rw [← HS.out]; exact prL_len p m t
    clear hw0 hbl hlk hok
    go_enter Try.func10, Try.ntmps10
    go_wp2_with fail
    refine (prAsked_any p m t _).mono ?_
    rintro e w' ⟨rfl, rfl⟩
    rw [HOK.out]
    go_wp2_with fail
    refine (HALL.out none 0 0 [] _ _ none 0 [] HL.out (Below.refl _ _) (.inl rfl) rfl (by omega) (begM_nil m) (fun _ => rfl) (by have := HCNT.out; show 0 + _ ≤ _; omega)).mono ?_
    rintro e w3 ⟨rfl, A3, c3, rs, hl2, hr, -, -⟩
    have k0 := hl2.cell.cells1
    have hlt := hl2.cell.lt
    have HR : Hid (rowNums rs = prL p m t) := by show _ = _; rw [hr, HS.out]; rfl
    have HRL : Hid (rs.length = (prL p m t).length) := by show _ = _; rw [← HR.out, rowNums_len]
    have hrl : rs.length ≤ 5000 := by rw [HRL.out]; exact prL_len p m t
    have HH := Lib.hid (hl2.heads.lower (lo' := w.heap.size) (by omega))
    have HB := Lib.hid hl2.below
    clear hl2 hr
    go_wp2
    go_ret2
    rw [← HRL.out]
    exact ⟨rfl, HB.out⟩

set_option maxHeartbeats 1600000 in
set_option maxRecDepth 100000 in
theorem specFirstPairList_any (p m t : Int) (w : World) :
    Calls Try.prog 12 #[.int .i64 p, .int .i64 m, .int .i64 t] w (FirstPost (prL p m t) w) := by
  cases hok : prAskI p m t
  · have HOK := Lib.hid hok
    have HS := Lib.hid (prL_no hok)
    clear hok
    go_enter Try.func12, Try.ntmps12
    go_wp2_with fail
    refine (prAsked_any p m t _).mono ?_
    rintro e w' ⟨rfl, rfl⟩
    rw [HOK.out]
    go_wp2
    go_ret2
    exact ⟨none, 0, by rw [HS.out]; rfl, by rw [HS.out]; exact .inl rfl, Below.refl _ _⟩
  · have HOK := Lib.hid hok
    have HS := Lib.hid (prL_yes hok)
    obtain ⟨hp1, hp4, hm1, hm12, -, -⟩ := prAsk_parts hok
    have hw0 := Whole.fresh w 48 #[.slice none 0 0]
    have hbl := below1 w (.cells #[.slice none 0 0] 48)
    have hlk : LookAt w.heap.size (w.heap.size + 1) w (w.alloc (.cells #[.slice none 0 0] 48)) none 0 [] := ⟨hw0, Heads.nil _ _, hbl, by omega, by simp⟩
    have HL := Lib.hid hlk
    have HALL := Lib.hid (prLists_any p m t w w.heap.size (w.heap.size + 1) hp1 hp4 hm1 hm12 p.toNat)
    have HCNT : Hid ((goM m (sumP t) p.toNat []).length ≤ 5000) := by show _ ≤ _; rw [← HS.out]; exact prL_len p m t
    clear hw0 hbl hlk hok
    go_enter Try.func12, Try.ntmps12
    go_wp2_with fail
    refine (prAsked_any p m t _).mono ?_
    rintro e w' ⟨rfl, rfl⟩
    rw [HOK.out]
    go_wp2_with fail
    refine (HALL.out none 0 0 [] _ _ none 0 [] HL.out (Below.refl _ _) (.inl rfl) rfl (by omega) (begM_nil m) (fun _ => rfl) (by have := HCNT.out; show 0 + _ ≤ _; omega)).mono ?_
    rintro e w3 ⟨rfl, A3, c3, rs, hl2, hr, -, -⟩
    have k0 := hl2.cell.cells1
    have hlt := hl2.cell.lt
    have HR : Hid (rowNums rs = prL p m t) := by show _ = _; rw [hr, HS.out]; rfl
    have HRL : Hid (rs.length = (prL p m t).length) := by show _ = _; rw [← HR.out, rowNums_len]
    have hrl : rs.length ≤ 5000 := by rw [HRL.out]; exact prL_len p m t
    have HH := Lib.hid (hl2.heads.lower (lo' := w.heap.size) (by omega))
    have HB := Lib.hid hl2.below
    clear hl2 hr
    by_cases h0 : rs.length = 0
    · have hb0 : ((rs.length : Int) == 0) = true := by simp [h0]
      have HN : Hid (prL p m t = []) := by show _ = _; rw [← HR.out]; exact List.eq_nil_of_length_eq_zero (by rw [rowNums_len]; exact h0)
      clear h0
      go_wp2
      go_ret2
      exact ⟨none, 0, by rw [HN.out]; rfl, by rw [HN.out]; exact .inl rfl, HB.out⟩
    · have hb0 : ((rs.length : Int) == 0) = false := by simp [h0]
      have hpos : 0 < rs.length := by omega
      have hposI : (0 : Int) < rs.length := by omega
      have hgrid := HH.out.free.grid
      obtain ⟨b1, o1, rfl, hbl1, hc, -⟩ := hgrid.look hpos
      obtain ⟨hf, hn1⟩ := heads_first HH.out hpos
      have hfx := first_of HR.out hpos
      obtain ⟨R, hR⟩ : ∃ R, R = rs[0] := ⟨_, rfl⟩
      rw [← hR] at hc hf hn1 hfx
      obtain ⟨rA, rn, rc, rxs⟩ := R
      replace hc : World.cell? w3 ⟨b1, o1, none⟩ = some (.slice rA rn rc) := hc
      replace hn1 : rxs.length = rn := hn1
      replace hfx : rxs = (prL p m t).headD [] := hfx
      have HPOS : Hid (decide (0 < (prL p m t).length) = true) := by show _ = _; rw [← HRL.out]; exact decide_eq_true hpos
      have HFF : Hid (Fresh w3 w.heap.size w3.heap.size 3 rA (nums ((prL p m t).headD []))) := by show Fresh _ _ _ _ _ _; rw [← hfx]; exact hf
      have HN1 : Hid (rn = ((prL p m t).headD []).length) := by show _ = _; rw [← hfx]; exact hn1.symm
      clear hgrid hf hn1 hfx hR h0
      go_wp2
      go_ret2
      exact ⟨rA, rc, by rw [HPOS.out, ← HN1.out]; rfl, HFF.out, HB.out⟩

set_option maxHeartbeats 3200000 in
set_option maxRecDepth 100000 in
theorem pairLists_no (p m t : Int) (w : World) (hok : prAskI p m t = false) :
    Calls Try.prog 35 #[.int .i64 p, .int .i64 m, .int .i64 t] w (SolPost (prL p m t) (prAskI p m t) w) := by
  have hc : p < 1 ∨ (¬ p < 1 ∧ 4 < p) ∨ (¬ p < 1 ∧ ¬ 4 < p ∧ m < 1) ∨ (¬ p < 1 ∧ ¬ 4 < p ∧ ¬ m < 1 ∧ 12 < m) ∨ (¬ p < 1 ∧ ¬ 4 < p ∧ ¬ m < 1 ∧ ¬ 12 < m ∧ t < 0) ∨ (¬ p < 1 ∧ ¬ 4 < p ∧ ¬ m < 1 ∧ ¬ 12 < m ∧ ¬ t < 0 ∧ 1000 < t) := by
    have h : ¬ (prAskI p m t = true) := by rw [hok]; simp
    simp only [prAskI, Bool.and_eq_true, within_iff] at h
    omega
  have HOK := Lib.hid hok
  have HS := Lib.hid (prL_no hok)
  clear hok
  rcases hc with h | ⟨h1, h2⟩ | ⟨h1, h2, h3⟩ | ⟨h1, h2, h3, h4⟩ | ⟨h1, h2, h3, h4, h5⟩ | ⟨h1, h2, h3, h4, h5, h6⟩
  all_goals
    go_enter Try.func35, Try.ntmps35
    go_wp2
    go_ret2
    exact ⟨none, 0, [], by rw [HOK.out]; rfl, by rw [HS.out]; rfl, Heads.nil _ _, Below.refl _ _⟩
/-- Does a row's list take that long? -/
def sumR (t : Int) (r : RowV) : Bool := sumP t r.xs
theorem sumR_filter (t : Int) (rs : List RowV) : rowNums (rs.filter (sumR t)) = (rowNums rs).filter (sumP t) := by
  induction rs with
  | nil => rfl
  | cons r rs ih =>
    cases h : sumP t r.xs
    · rw [List.filter_cons_of_neg (by simp [sumR, h])]
      show _ = ((r.xs :: rowNums rs)).filter _
      rw [List.filter_cons_of_neg (by simp [h]), ih]
    · rw [List.filter_cons_of_pos (by simp [sumR, h])]
      show r.xs :: rowNums _ = ((r.xs :: rowNums rs)).filter _
      rw [List.filter_cons_of_pos (by simp [h]), ih]
theorem sumR_next {t : Int} {rs : List RowV} {i : Nat} (h : i < rs.length) (hf : sumR t rs[i] = true) : (rs.take (i + 1)).filter (sumR t) = (rs.take i).filter (sumR t) ++ [rs[i]] := by
  rw [List.take_succ_eq_append_getElem h, List.filter_append, List.filter_cons_of_pos hf]; rfl
theorem sumR_pass {t : Int} {rs : List RowV} {i : Nat} (h : i < rs.length) (hf : sumR t rs[i] = false) : (rs.take (i + 1)).filter (sumR t) = (rs.take i).filter (sumR t) := by
  rw [List.take_succ_eq_append_getElem h, List.filter_append, List.filter_cons_of_neg (by simp [hf])]; simp

set_option maxHeartbeats 3200000 in
set_option maxRecDepth 100000 in
theorem pairLists_yes (p m t : Int) (w : World) (hok : prAskI p m t = true) :
    Calls Try.prog 35 #[.int .i64 p, .int .i64 m, .int .i64 t] w (SolPost (prL p m t) true w) := by
  obtain ⟨i0, hi, hz0, hz1, hz2⟩ := info_parts info_row
  have HI := Lib.hid hi
  have HZ0 := Lib.hid hz0
  have HZ1 := Lib.hid hz1
  have HZ2 := Lib.hid hz2
  obtain ⟨hp1, hp4, hm1, hm12, ht0, ht1⟩ := prAsk_parts hok
  obtain ⟨P, rfl⟩ := Int.eq_ofNat_of_zero_le (show 0 ≤ p by omega)
  obtain ⟨M, rfl⟩ := Int.eq_ofNat_of_zero_le (show 0 ≤ m by omega)
  have hP1 : 1 ≤ P := by omega
  have hP4 : P ≤ 4 := by omega
  have hM1 : 1 ≤ M := by omega
  have hM12 : M ≤ 12 := by omega
  have HS : Hid (prL (P : Int) (M : Int) t = (upL P M).filter (sumP t)) := prL_up hok
  obtain ⟨-, hu2, hu1⟩ := upM_of hP1 hP4 hM1 hM12
  obtain ⟨L, hL⟩ : ∃ L, L = upL P M := ⟨_, rfl⟩
  have HUP := Lib.hid (listsUpTo_any P M)
  rw [← hL] at HS HUP hu1 hu2
  have HU1 := Lib.hid hu1
  have HU2 := Lib.hid hu2
  have q1 : ¬ ((P : Int) < 1) := by omega
  have q2 : ¬ ((4 : Int) < P) := by omega
  have q3 : ¬ ((M : Int) < 1) := by omega
  have q4 : ¬ ((12 : Int) < M) := by omega
  have q5 : ¬ (t < 0) := by omega
  have q6 : ¬ (1000 < t) := by omega
  have q7 : ¬ (4 < P) := by omega
  have q8 : ¬ (12 < M) := by omega
  clear hi hz0 hz1 hz2 hok hu1 hL
  go_enter Try.func35, Try.ntmps35
  go_wp2_with fail
  refine (HUP.out w hP1 hP4 hM1 hM12 hu2).mono ?_
  rintro e w3 ⟨A3, c3, rs, rfl, hr, hh, hb⟩
  have HB3 := Lib.hid hb
  have HR := Lib.hid hr
  have HH := Lib.hid hh
  have HW23 := Lib.hid hb.size
  have hrl : rs.length ≤ 5000 := by have h := congrArg List.length hr; rw [rowNums_len] at h; omega
  clear hr hh hb q1 q2 q3 q4 q5 q6 q7 q8
  go_wp2
  go_loopw [8, 39] (fun v i wr => ∃ (k : Nat) (D : Option Addr) (d : Nat), k ≤ rs.length ∧ i = .int .i64 k ∧ v = .slice D ((rs.take k).filter (sumR t)).length d ∧ wr.ownsRow w3.heap.size 25 1 (.slice D ((rs.take k).filter (sumR t)).length d) ((rs.take k).filter (sumR t)).length (rowVals ((rs.take k).filter (sumR t))) ∧ Below w3.heap.size w3 wr) (fun _ i _ => rs.length - (intOf i).toNat)
  case atStart => exact ⟨0, none, 0, Nat.zero_le _, rfl, rfl, World.ownsRow_nil _ _ _ _, Below.refl _ _⟩
  case round =>
    obtain ⟨k, D, d, hk, rfl, rfl, hown, hb⟩ := hrel
    have HOWN := Lib.hid hown
    have HB := Lib.hid hb
    clear hown
    by_cases hlt : k < rs.length
    · have hG := HH.out.free.grid
      have hkl : k < (rowNums rs).length := by rw [rowNums_len]; exact hlt
      have hmem : rs[k].xs ∈ L := by rw [← HR.out, ← rowNums_get hlt]; exact List.getElem_mem hkl
      have hpr := HU1.out _ hmem
      obtain ⟨b1, o1, rfl, hbl1, hc, hok⟩ := (hG.below hb).look hlt
      obtain ⟨R, hR⟩ : ∃ R, R = rs[k] := ⟨_, rfl⟩
      rw [← hR] at hc hok hpr
      have HFN := Lib.hid (fun h => sumR_next (t := t) hlt h)
      have HFP := Lib.hid (fun h => sumR_pass (t := t) hlt h)
      rw [← hR] at HFN HFP
      obtain ⟨rA, rn, rc, rxs⟩ := R
      replace hc : World.cell? wr ⟨b1, o1 + k, none⟩ = some (.slice rA rn rc) := hc
      replace hpr : prOk rxs = true := hpr
      obtain ⟨hrow, hrn, -⟩ := hok
      replace hrow : Holds wr rA (nums rxs) := hrow
      replace hrn : rxs.length = rn := hrn
      have HRN := Lib.hid hrn
      have HROW := Lib.hid hrow
      have HPR := Lib.hid hpr
      have hkI : (k : Int) < rs.length := by omega
      have hflt : ((rs.take k).filter (sumR t)).length ≤ 5000 := Nat.le_trans (List.length_filter_le _ _) (by simp; omega)
      have hwz : w3.heap.size ≤ wr.heap.size := hb.size
      obtain ⟨F, hF⟩ : ∃ F, F = (rs.take k).filter (sumR t) := ⟨_, rfl⟩
      rw [← hF] at HFN HFP HOWN hflt
      rw [← hF]
      clear hG hkl hmem hrow hb hF hR hrn hpr
      go_wp2_with fail
      refine (implPairTime_any rA rn rc rxs _ HROW.out HRN.out (by have h9 := HPR.out; simp only [prOk, Bool.and_eq_true, within_iff] at h9; have := HRN.out; omega)).mono ?_
      rintro e w5 ⟨rfl, hb5⟩
      rw [HPR.out]
      have HB5 := Lib.hid (below_then HB.out hb5 HB.out.size)
      have HO5 := Lib.hid (own_below HOWN.out hb5)
      have HOW5 := Lib.hid ((own_below HOWN.out hb5).alloc (.cells #[.slice rA rn rc] 25))
      have hz5 : w3.heap.size ≤ w5.heap.size := HB5.out.size
      cases hfit : sumP t rxs
      · have HF2 := Lib.hid (HFP.out hfit)
        have hd : (timeT (prTs true rxs) == t) = false := hfit
        clear hb5 hfit
        go_wp2
        go_roundw
        case rel => exact ⟨k + 1, D, d, by omega, by go_num, by rw [HF2.out], by rw [HF2.out]; exact HO5.out, HB5.out⟩
        case measure => simp [intOf]; omega
      · have HF2 := Lib.hid (HFN.out hfit)
        have hd : (timeT (prTs true rxs) == t) = true := hfit
        have HMAX := Lib.hid (show F.length + 1 ≤ maxLen by unfold maxLen; omega)
        have HBYT := Lib.hid (show (F.length + 1) * 24 ≤ 140737488355328 by omega)
        have HBASE := Lib.hid (show w3.heap.size ≤ (w5.alloc (.cells #[.slice rA rn rc] 25)).heap.size by simp; omega)
        clear hb5 hfit
        go_wp2_with (at_builtin; refine wpList_append_lies _ rfl (.tmp 54) (.tmp 56) 48 rfl w3.heap.size 25 i0 (.slice none 0 0) 1 24 Try.underlying48 HI.out HZ0.out HZ1.out HZ2.out rfl (by decide) (.slice D F.length d) F.length (rowVals F) rfl HOW5.out ⟨w5.heap.size, 0, none⟩ 1 1 [.slice rA rn rc] rfl rfl (cell_one_new _ _ _) (by simp [Value.oneCell']) (by decide) HMAX.out HBYT.out HBASE.out (w5.heap.size + 1) (by simp) ?_; intro g cap w6 hown6 hg6 hat hlt6)
        have HB6 := Lib.hid ((HB5.out.alloc hz5 (.cells #[.slice rA rn rc] 25)).grown hg6 HBASE.out (fun kk e => (HOW5.out.lt kk e).1))
        have HO6 : Hid (w6.ownsRow w3.heap.size 25 1 (.slice (some ⟨g, 0, none⟩) (F.length + 1) cap) (F.length + 1) (rowVals (F ++ [⟨rA, rn, rc, rxs⟩]))) := by
          show World.ownsRow _ _ _ _ _ _ _
          rw [show rowVals (F ++ [⟨rA, rn, rc, rxs⟩]) = rowVals F ++ [.slice rA rn rc] by simp [rowVals, RowV.val]]
          exact hown6
        clear hown6 hg6 hat hlt6
        go_roundw
        case rel => exact ⟨k + 1, some ⟨g, 0, none⟩, cap, by omega, by go_num, by rw [HF2.out, List.length_append]; rfl, by rw [HF2.out, List.length_append]; exact HO6.out, HB6.out⟩
        case measure => simp [intOf]; omega
    · obtain rfl : k = rs.length := by omega
      rw [List.take_length]
      have ho := HOWN.out
      rw [List.take_length] at ho
      have HHD := Lib.hid (Heads.part_of (sumR t) HH.out HB.out ho HW23.out)
      have HBB := Lib.hid (below_then HB3.out HB.out HB3.out.size)
      clear hb ho
      go_wp2
      go_ret2
      exact ⟨D, d, _, rfl, by rw [sumR_filter, HR.out, HS.out], HHD.out.lower (Nat.le_refl _), HBB.out⟩
theorem pairLists_any (p m t : Int) (w : World) :
    Calls Try.prog 35 #[.int .i64 p, .int .i64 m, .int .i64 t] w (SolPost (prL p m t) (prAskI p m t) w) := by
  cases hok : prAskI p m t
  · rw [← hok]; exact pairLists_no p m t w hok
  · exact pairLists_yes p m t w hok

set_option maxHeartbeats 1600000 in
theorem implCountPairLists_any (p m t : Int) (w : World) :
    Calls Try.prog 11 #[.int .i64 p, .int .i64 m, .int .i64 t] w fun e w' => e = .returned (.tuple #[.int .i64 ((prL p m t).length : Int), .bool (prAskI p m t)]) ∧ Below w.heap.size w w' := by
  have HC := Lib.hid (pairLists_any p m t w)
  have HLE := Lib.hid (prL_len p m t)
  go_enter Try.func11, Try.ntmps11
  go_wp2_with fail
  refine HC.out.mono ?_
  rintro e w3 ⟨A3, c3, rs, rfl, hr, hh, hb⟩
  have HR := Lib.hid hr
  have hrl : rs.length ≤ 5000 := by rw [heads_len hh hr]; exact HLE.out
  have HRL := Lib.hid (heads_len hh hr)
  have HH := Lib.hid hh
  have HB := Lib.hid hb
  clear hr hh hb
  go_wp2
  go_ret2
  rw [← HRL.out]
  exact ⟨rfl, HB.out⟩

set_option maxHeartbeats 1600000 in
theorem implFirstPairList_any (p m t : Int) (w : World) :
    Calls Try.prog 13 #[.int .i64 p, .int .i64 m, .int .i64 t] w (FirstPost (prL p m t) w) := by
  have HC := Lib.hid (pairLists_any p m t w)
  have HLE := Lib.hid (prL_len p m t)
  go_enter Try.func13, Try.ntmps13
  go_wp2_with fail
  refine HC.out.mono ?_
  rintro e w3 ⟨A3, c3, rs, rfl, hr, hh, hb⟩
  have HR := Lib.hid hr
  have hrl : rs.length ≤ 5000 := by rw [heads_len hh hr]; exact HLE.out
  have HRL := Lib.hid (heads_len hh hr)
  have HH := Lib.hid hh
  have HB := Lib.hid hb
  clear hr hh hb
  by_cases h0 : rs.length = 0
  · have hb0 : ((rs.length : Int) == 0) = true := by simp [h0]
    have HN : Hid (prL p m t = []) := by show _ = _; rw [← HR.out]; exact List.eq_nil_of_length_eq_zero (by rw [rowNums_len]; exact h0)
    clear h0
    go_wp2
    go_ret2
    exact ⟨none, 0, by rw [HN.out]; rfl, by rw [HN.out]; exact .inl rfl, HB.out⟩
  · have hb0 : ((rs.length : Int) == 0) = false := by simp [h0]
    have hpos : 0 < rs.length := by omega
    have hposI : (0 : Int) < rs.length := by omega
    have hgrid := HH.out.free.grid
    obtain ⟨b1, o1, rfl, hbl1, hc, -⟩ := hgrid.look hpos
    obtain ⟨hf, hn1⟩ := heads_first HH.out hpos
    have hfx := first_of HR.out hpos
    obtain ⟨R, hR⟩ : ∃ R, R = rs[0] := ⟨_, rfl⟩
    rw [← hR] at hc hf hn1 hfx
    obtain ⟨rA, rn, rc, rxs⟩ := R
    replace hc : World.cell? w3 ⟨b1, o1, none⟩ = some (.slice rA rn rc) := hc
    replace hn1 : rxs.length = rn := hn1
    replace hfx : rxs = (prL p m t).headD [] := hfx
    have HPOS : Hid (decide (0 < (prL p m t).length) = true) := by show _ = _; rw [← HRL.out]; exact decide_eq_true hpos
    have HFF : Hid (Fresh w3 w.heap.size w3.heap.size 3 rA (nums ((prL p m t).headD []))) := by show Fresh _ _ _ _ _ _; rw [← hfx]; exact hf
    have HN1 : Hid (rn = ((prL p m t).headD []).length) := by show _ = _; rw [← hfx]; exact hn1.symm
    clear hgrid hf hn1 hfx hR h0
    go_wp2
    go_ret2
    exact ⟨rA, rc, by rw [HPOS.out, ← HN1.out]; rfl, HFF.out, HB.out⟩

/-- The first one of the lists, and whether there is any. -/
def firstPr (p m t : Int) : List Int := (prL p m t).headD []
def anyPr (p m t : Int) : Bool := decide (0 < (prL p m t).length)
theorem firstPr_le (p m t : Int) : (firstPr p m t).length ≤ 1048576 := by
  unfold firstPr
  cases h : prAskI p m t
  · rw [prL_no h]; simp
  · obtain ⟨h1, h4, hm1, hm, -⟩ := prAsk_parts h
    rw [prL_up h]
    have hall := (upM_of (p := p.toNat) (m := m.toNat) (by omega) (by omega) (by omega) (by omega)).2.2
    cases hf : (upL p.toNat m.toNat).filter (sumP t) with
    | nil => simp
    | cons l ls =>
      have hl := hall l (List.mem_filter.1 (show l ∈ (upL p.toNat m.toNat).filter (sumP t) by rw [hf]; simp)).1
      simp only [prOk, Bool.and_eq_true, within_iff] at hl
      show l.length ≤ _
      omega
/-- What FirstPairList hands back, in the law's words. -/
def FirstPrPost (l : List Int) (ok : Bool) (w : World) (e : Ending) (w' : World) : Prop :=
  ∃ (B : Option Addr) (q : Nat), e = .returned (.tuple #[.slice B l.length q, .bool ok]) ∧ Fresh w' w.heap.size w'.heap.size 3 B (nums l) ∧ Below w.heap.size w w'
theorem back_of_pr {p m t : Int} {w : World} {e : Ending} {w' : World} (h : FirstPost (prL p m t) w e w') : FirstPrPost (firstPr p m t) (anyPr p m t) w e w' := h
theorem specFirstPairList_on (p m t : Int) (w : World) :
    Calls Try.prog 12 #[.int .i64 p, .int .i64 m, .int .i64 t] w (FirstPrPost (firstPr p m t) (anyPr p m t) w) :=
  (specFirstPairList_any p m t w).mono fun _ _ => back_of_pr
theorem implFirstPairList_on (p m t : Int) (w : World) :
    Calls Try.prog 13 #[.int .i64 p, .int .i64 m, .int .i64 t] w (FirstPrPost (firstPr p m t) (anyPr p m t) w) :=
  (implFirstPairList_any p m t w).mono fun _ _ => back_of_pr
end Go.Proofs.Ytgojakcepbdajaa

namespace Go.Proofs.Ytgojakcepbdajaa
open Go.RowKit

set_option maxHeartbeats 12800000 in
set_option maxRecDepth 100000 in
set_option linter.unusedSimpArgs false in
set_option linter.unusedVariables false in
theorem lawCountPairLists_small (k0 : Int) (k1 : Int) (k2 : Int) (w : World)   :
    Calls Try.prog 3 #[.int .i64 k0, .int .i64 k1, .int .i64 k2] w fun e w' => e = .returned (.bool true) ∧ Below w.heap.size w w' := by
  have ht := Below.refl w.heap.size w
  go_enter Try.func3, Try.ntmps3
  -- region 1
  go_wp2_with fail
  refine (specCountPairLists_any k0 k1 k2 _).mono ?_
  rintro e v1 ⟨rfl, hb⟩
  have hz1 : w.heap.size ≤ v1.heap.size := by have := hb.size; simpa using this
  replace ht := below_then ht hb ht.size
  clear hb
  -- region 2
  go_wp2_with fail
  refine (implCountPairLists_any k0 k1 k2 _).mono ?_
  rintro e v2 ⟨rfl, hb⟩
  have hz2 : v1.heap.size ≤ v2.heap.size := by have := hb.size; simpa using this
  replace ht := below_then ht hb ht.size
  clear hb
  go_wp2
  go_ret
  exact ⟨rfl, ht⟩

theorem lawCountPairLists_all (k0 : Int) (k1 : Int) (k2 : Int) (w : World) (_hk0 : -9223372036854775808 ≤ k0 ∧ k0 ≤ 9223372036854775807) (_hk1 : -9223372036854775808 ≤ k1 ∧ k1 ≤ 9223372036854775807) (_hk2 : -9223372036854775808 ≤ k2 ∧ k2 ≤ 9223372036854775807) :
    Calls Try.prog 3 #[.int .i64 k0, .int .i64 k1, .int .i64 k2] w fun e w' => e = .returned (.bool true) ∧ Below w.heap.size w w' := by
  exact lawCountPairLists_small k0 k1 k2 w  
end Go.Proofs.Ytgojakcepbdajaa
