/-
  What is proved: the contract of the model's paGroups: some people themselves and the rising lists that go on with others. Conditions: the lists are read as they lie; at most eight others, and at most eight to begin with.
-/
import Derived.Test.YtifaadjbkbdbnaaSubsI
import Derived.Test.YtifaadjbkbdbnaaSorted
import Derived.Deep.RegionHeld3
import Derived.Deep.DeepCutAuto
import Derived.Deep.CutBlock
namespace Go.Proofs.Ytifaadjbkbdbnaa
open Go.RowKit

/-- What one begins with, unless it is nobody. -/
def headOf (bs : List Int) : List (List Int) := if bs.length = 0 then [] else [bs]
def groups (m : Nat) (os bs : List Int) : List (List Int) := headOf bs ++ subs m os bs
/-- A list of lists under way. -/
def Under (G : List (List Int)) (m j lo : Nat) (os bs : List Int) (w : World) (v : Value) (wx : World) : Prop :=
  ∃ (E : Option Addr) (d : Nat) (acc : List RowV), v = .slice E acc.length d ∧ rowNums acc ++ subs m (os.drop j) bs = G ∧ (E = none → acc = [] ∧ d = 0) ∧ (∀ a, E = some a → a = ⟨a.block, 0, none⟩ ∧ 0 < acc.length) ∧ Heads wx lo E d acc ∧ Below lo w wx
theorem groups_next {m : Nat} {b o : List Int} {i : Nat} (hi : i < o.length) (h : b.length < m) : subs m (o.drop i) b = groups m (o.drop (i + 1)) (b ++ [o[i]]) ++ subs m (o.drop (i + 1)) b := by
  rw [subs_next hi h, groups, headOf, if_neg (by simp)]
  rfl

theorem holds_as {w : World} {A : Option Addr} {xs ys : List Value} (h : Holds w A xs) (e : xs = ys) : Holds w A ys := e ▸ h
theorem one_kept {w w' : World} {v : Value} {t : TypeId} (hb : Below (w.alloc (.cells #[v] t)).heap.size (w.alloc (.cells #[v] t)) w') : ∀ j u, [v][j]? = some u → w'.cell? ((⟨w.heap.size, 0, none⟩ : Addr).add j) = some u := fun j u hu => by
  rw [Addr.add_lit]
  refine (hb.cell (p := ⟨w.heap.size, 0 + j, none⟩) (by simp)).trans ?_
  have := cell_one_new w v t j u hu
  rwa [Addr.add_lit] at this
theorem subs_some {A : Option Addr} {c : Nat} {rs : List RowV} {G : List (List Int)} (hn : A = none → rs = [] ∧ c = 0) (hs : ∀ a, A = some a → a = ⟨a.block, 0, none⟩ ∧ 0 < rs.length) (hr : rowNums rs = G) (hp : 0 < G.length) : ∃ b, A = some ⟨b, 0, none⟩ ∧ 0 < rs.length := by
  cases A with
  | none =>
    obtain ⟨rfl, -⟩ := hn rfl
    rw [← hr] at hp
    simp [rowNums] at hp
  | some a =>
    obtain ⟨h1, h2⟩ := hs a rfl
    exact ⟨a.block, by rw [← h1], h2⟩
theorem rows_le {n b : Nat} {rs : List RowV} {G : List (List Int)} (h : n + G.length ≤ b) (hr : rowNums rs = G) : n + rs.length ≤ b := by
  rw [← hr, rowNums_len] at h
  exact h
theorem rows_len1 (rs : List RowV) : (rowVals rs).length = rs.length * 1 := by rw [rowVals_len, Nat.mul_one]
theorem heads_news {w : World} {lo b c : Nat} {rs : List RowV} (h : Heads w lo (some ⟨b, 0, none⟩) c rs) : ∀ j u, (rowVals rs)[j]? = some u → w.cell? ((⟨b, 0, none⟩ : Addr).add j) = some u := fun j u hu => by
  rw [Addr.add_lit]
  rcases holds_of_own h.1 with h | ⟨b', o, h, -, hcell⟩
  · rw [h] at hu; simp at hu
  · obtain ⟨rfl, rfl⟩ : b = b' ∧ 0 = o := by simpa using h
    exact hcell j u hu

set_option maxHeartbeats 6400000 in
set_option maxRecDepth 100000 in
theorem paGroups_any (m : Nat) (hm : m ≤ 8) : ∀ (g : Nat) (A B : Option Addr) (k z n c f : Nat) (bs os : List Int) (w : World), n - f < g → n ≤ 8 → f ≤ n → Holds w A (nums bs) → Holds w B (nums os) → bs.length = k → os.length = n → k ≤ m → (A = none → k = 0 ∧ z = 0) →
    Calls Try.prog 104 #[.slice B n c, .slice A k z, .int .i64 f, .int .i64 m] w (SubsPost (groups m (os.drop f) bs) w) := by
  intro g
  induction g with
  | zero => intro A B k z n c f bs os w hg; omega
  | succ g ih =>
    intro A B k z n c f bs os w hg hn8 hfn hA hB hk hn hkm hnil
    obtain ⟨i0, hi, hz0, hz1, hz2⟩ := info_parts info_int
    have HI := Lib.hid hi
    have HZ0 := Lib.hid hz0
    have HZ1 := Lib.hid hz1
    have HZ2 := Lib.hid hz2
    obtain ⟨i1, ri, rz0, rz1, rz2⟩ := info_parts info_row
    have RI := Lib.hid ri
    have RZ0 := Lib.hid rz0
    have RZ1 := Lib.hid rz1
    have RZ2 := Lib.hid rz2
    have HK := Lib.hid hk
    have HN := Lib.hid hn
    have HNIL := Lib.hid hnil
    have HIH := Lib.hid ih
    have hk8 : k ≤ 8 := by omega
    generalize hG : groups m (os.drop f) bs = G
    have HG := Lib.hid hG
    clear hi hz0 hz1 hz2 ri rz0 rz1 rz2 hk hn hnil ih hG
    go_enter Try.func104, Try.ntmps104
    go_upto_if 13 with fail
    go_cut [9] from 13 to 18 (fun s9 wx => Under G m f w.heap.size os bs w s9 wx)
    case first =>
      by_cases hk0 : k = 0
      · have hd : decide (0 < k) = false := by simp [hk0]
        have hd' : ¬ 0 < k := by omega
        have HB0 : Hid (bs = []) := List.length_eq_zero_iff.1 (by have := HK.out; omega)
        clear hk0
        go_wp2_with fail
        go_meet
        refine ⟨none, 0, [], rfl, ?_, fun _ => ⟨rfl, rfl⟩, fun a h => (by cases h), Heads.nil _ _, Below.refl _ _⟩
        rw [← HG.out, groups, headOf, HB0.out]
        rfl
      · have hd : decide (0 < k) = true := by simp; omega
        have hd' : 0 < k := by omega
        have HB0 : Hid (bs.length ≠ 0) := by show _ ≠ _; have := HK.out; omega
        clear hk0
        go_wp2_with fail
        refine (l1Own_any A k z bs _ hA HK.out (by omega) (fun h => (HNIL.out h).2)).mono ?_
        rintro e w1 ⟨A1, c1, rfl, hown1, hb1⟩
        rw [HK.out] at hown1 ⊢
        have hs1 : w.heap.size ≤ w1.heap.size := hb1.size
        have HO1 := Lib.hid hown1
        have HB1 := Lib.hid hb1
        have HZ := Lib.hid (show w.heap.size ≤ (w1.alloc (.cells #[.slice A1 k c1] 22)).heap.size by simp; omega)
        clear hown1 hb1
        go_wp2_with (at_builtin; refine wpList_append_lies _ rfl (.tmp 14) (.tmp 17) 30 rfl w.heap.size 22 i1 (.slice none 0 0) 1 24 Try.underlying30 RI.out RZ0.out RZ1.out RZ2.out rfl (by decide) (.slice none 0 0) 0 [] rfl (World.ownsRow_nil _ _ _ _) ⟨w1.heap.size, 0, none⟩ 1 1 [.slice A1 k c1] rfl rfl (cell_one_new _ _ _) (by simp [Value.oneCell']) (by decide) (by decide) (by decide) HZ.out (w1.heap.size + 1) (by simp) ?_; intro g3 c3 w3 hown3 hg3 hat3 hlt3)
        have hF := own_fresh0' HO1.out
        have hH3 := Heads.push (r := ⟨A1, k, c1, bs⟩) (Heads.nil w w.heap.size) (Nat.le_refl _) HB1.out hF HK.out (by show k ≤ _; omega) hown3 hg3 hat3
        have hb3 : Below w.heap.size w w3 := (HB1.out.alloc hs1 (.cells #[.slice A1 k c1] 22)).grown hg3 HZ.out (fun kk e => by simp [Value.ownBlock] at e)
        go_meet
        refine ⟨some ⟨g3, 0, none⟩, c3, [⟨A1, k, c1, bs⟩], rfl, ?_, fun h => (by cases h), fun a h => by obtain rfl := Option.some.inj h; exact ⟨rfl, by simp⟩, hH3, hb3⟩
        rw [← HG.out, groups, headOf, if_neg HB0.out]
        rfl
    case rest =>
      obtain ⟨E0, d0, acc0, rfl, hac0, hn0, hs0, hh0, hb0⟩ := hcut
      have HAC0 := Lib.hid hac0
      have HN0 := Lib.hid hn0
      have HS0 := Lib.hid hs0
      have HH0 := Lib.hid hh0
      have HB0 := Lib.hid hb0
      clear hac0 hn0 hs0 hh0 hb0
      by_cases hkm2 : k = m
      · subst hkm2
        have HR : Hid (rowNums acc0 = G) := by show _ = _; rw [← HAC0.out, subs_full (by have := HK.out; omega)]; simp
        go_wp2
        go_ret
        exact ⟨E0, d0, acc0, rfl, HR.out, HN0.out, HS0.out, HH0.out, HB0.out⟩
      · have hd1 : decide (k = m) = false := by simp [hkm2]
        have hne : ((k : Int) == (m : Int)) = false := by simp; omega
        have hkb : bs.length < m := by have := HK.out; omega
        have HKB := Lib.hid hkb
        have HKM := Lib.hid (show k + 1 ≤ m by omega)
        clear hkm2 hkb
        go_wp2_with fail
        go_loopw [9, 10] (fun v i wr => ∃ j : Nat, f ≤ j ∧ j ≤ n ∧ i = .int .i64 j ∧ Under G m j w.heap.size os bs w v wr) (fun _ i _ => n - (intOf i).toNat)
        case atStart => exact ⟨f, Nat.le_refl _, hfn, rfl, ⟨E0, d0, acc0, rfl, HAC0.out, HN0.out, HS0.out, HH0.out, HB0.out⟩⟩
        case round =>
          obtain ⟨j, hfj, hj, rfl, E, d, acc, rfl, hac, hEn, hEs, hh, hb⟩ := hrel
          clear HAC0 HN0 HS0 HH0 HB0
          by_cases hjn : j < n
          · have hjl : j < os.length := by have := HN.out; omega
            obtain ⟨b0, o0, rfl, hbl0, hcell0⟩ := hB.look (k := j) (by rw [nums_len]; exact hjl)
            simp only [nums, List.getElem_map] at hcell0
            have HNX : Hid (rowNums acc ++ groups m (os.drop (j + 1)) (bs ++ [os[j]]) ++ subs m (os.drop (j + 1)) bs = G) := by show _ = _; rw [List.append_assoc, ← groups_next hjl HKB.out]; exact hac
            have HAL : Hid (acc.length + (groups m (os.drop (j + 1)) (bs ++ [os[j]])).length ≤ 256) := by
              have h1 := congrArg List.length HNX.out
              have h2 := congrArg List.length HG.out
              have h3 := subs_small (m := m) (o := os.drop f) (b := bs) (by have := HN.out; simp; omega)
              have h4 : (headOf bs).length ≤ 1 := by unfold headOf; split <;> simp
              simp only [List.length_append, rowNums_len, groups] at h1 h2
              show _ ≤ _
              simp only [List.length_append, groups]
              omega
            have HPOS : Hid (0 < (groups m (os.drop (j + 1)) (bs ++ [os[j]])).length) := by show _ < _; simp [groups, headOf]
            have HH := Lib.hid hh
            have HB := Lib.hid hb
            have hbs : w.heap.size ≤ wr.heap.size := hb.size
            have hA1 := hA.below hb
            have hcell : wr.cell? ⟨b0, o0 + j, none⟩ = some (.int .i64 os[j]) := (hb.cell (p := ⟨b0, o0 + j, none⟩) hbl0).trans hcell0
            have HBL0 := Lib.hid hbl0
            have HBW := Lib.hid hB
            have hdl : (os.drop (j + 1)).length = n - (j + 1) := by have := HN.out; simp; omega
            generalize hx : os[j] = x at hcell hcell0 HNX HAL HPOS
            have hFl : (bs ++ [x]).length = k + 1 := by have := HK.out; simp; omega
            have HFL := Lib.hid hFl
            have HDL := Lib.hid hdl
            have HM1 := Lib.hid (show k + 1 ≤ maxLen by unfold maxLen; omega)
            have HY1 := Lib.hid (show (k + 1) * 8 ≤ 140737488355328 by omega)
            have hwj : IntKind.i64.wrap ((j : Int) + 1) = (j : Int) + 1 := IntWalk.i64_in _ (by omega)
            have hcast : ((j : Int) + 1) = ((j + 1 : Nat) : Int) := by omega
            have HCAST := Lib.hid hcast
            have hnx : nums bs ++ [Value.int .i64 x] = nums (bs ++ [x]) := by simp [nums]
            have HNM := Lib.hid hnx
            have hcellw := hcell0
            clear hac hEn hEs hh hb hx hdl hFl hcast hnx hcell0 hbl0
            go_upto_block 1 with fail
            go_cut [9] from 31 to 45 (fun s9 wx => Under G m (j + 1) w.heap.size os bs w s9 wx)
            case first =>
              go_wp2_with fail
              go_region_held3 (fun w' => w'.cell? ⟨b0, o0 + j, none⟩ = some (.int .i64 x)) (go_keep)
                (first | (go_at_call 112; refine (l1Own_any A k z bs _ (by with_reducible exact hA1.drew) HK.out (by omega) (fun h => (HNIL.out h).2)).mono ?_; rintro e w1 ⟨A1, c1, rfl, hown1, hb1⟩; rw [HK.out] at hown1 ⊢; have hc1 : Below wr.heap.size wr w1 := (by first | exact below_then (Below.refl wr.heap.size wr).drew hb1 (Nat.le_refl _)); have hs1 : wr.heap.size ≤ w1.heap.size := hc1.size; have hcx := (hc1.cell (p := ⟨b0, o0 + j, none⟩) (Nat.lt_of_lt_of_le HBL0.out hbs)).trans hcell; have HO1 := Lib.hid (hown1.alloc (.cells #[.int .i64 x] 3)); have HCB1 := Lib.hid (hc1.alloc hs1 (.cells #[.int .i64 x] 3)); have HZ1' := Lib.hid (show wr.heap.size ≤ (w1.alloc (.cells #[.int .i64 x] 3)).heap.size from (by simp; omega)); clear hown1 hb1 hc1) | (go_at_call 112; refine (l1Own_any A k z bs _ (by with_reducible exact (hA1.alloc _).drew) HK.out (by omega) (fun h => (HNIL.out h).2)).mono ?_; rintro e w1 ⟨A1, c1, rfl, hown1, hb1⟩; rw [HK.out] at hown1 ⊢; have hb1' : Below (wr.alloc (.cells #[.int .i64 x] 3)).heap.size (wr.alloc (.cells #[.int .i64 x] 3)) w1 := below_then (Below.refl _ _).drew hb1 (Nat.le_refl _); have hc1 : Below wr.heap.size wr w1 := below_then ((Below.refl wr.heap.size wr).alloc (Nat.le_refl _) (.cells #[.int .i64 x] 3)) hb1' (by simp); have hs1 : wr.heap.size ≤ w1.heap.size := hc1.size; have hcx := (hc1.cell (p := ⟨b0, o0 + j, none⟩) (Nat.lt_of_lt_of_le HBL0.out hbs)).trans hcell; have HOB := Lib.hid (own_lower (base' := wr.heap.size) hown1 (show wr.heap.size ≤ (wr.alloc (.cells #[.int .i64 x] 3)).heap.size from (by simp))); have HCB := Lib.hid hc1; have HNB := Lib.hid (one_kept hb1'); clear hb1'; clear hown1 hb1 hc1) | (refine step_append_lies _ rfl (.tmp 34) (.tmp 39) 22 rfl wr.heap.size 3 i0 (.int .i64 0) 1 8 Try.underlying22 HI.out HZ0.out HZ1.out HZ2.out rfl (by decide) (.slice A1 k c1) k (nums bs) (by simp [Act.eval]) HO1.out ⟨w1.heap.size, 0, none⟩ 1 1 [.int .i64 x] (by simp [Act.eval]) rfl (cell_one_new _ _ _) (by simp [Value.oneCell']) (by decide) HM1.out HY1.out HZ1'.out (w1.heap.size + 1) (by simp) ?_; intro g2 c2 w2 hown2 hg2 hat2 hlt2; have hc2 : Below wr.heap.size wr w2 := HCB1.out.grown hg2 HZ1'.out (fun kk e => (HO1.out.lt kk e).1); have hs2 : wr.heap.size ≤ w2.heap.size := hc2.size; have hcx2 := (hc2.cell (p := ⟨b0, o0 + j, none⟩) (Nat.lt_of_lt_of_le HBL0.out hbs)).trans hcell; have HL2 : Hid (Holds w2 (some ⟨g2, 0, none⟩) (nums (bs ++ [x]))) := holds_as (own_fresh0' hown2).holds HNM.out; have HW2 := Lib.hid ((HBW.out.below HB.out).below hc2); have HC2 := Lib.hid hc2; clear hown2 hg2 hat2 hc2) | (refine step_append_lies _ rfl (.tmp 34) (.tmp 39) 22 rfl wr.heap.size 3 i0 (.int .i64 0) 1 8 Try.underlying22 HI.out HZ0.out HZ1.out HZ2.out rfl (by decide) (.slice A1 k c1) k (nums bs) (by simp [Act.eval]) HOB.out ⟨wr.heap.size, 0, none⟩ 1 1 [.int .i64 x] (by simp [Act.eval]) rfl HNB.out (by simp [Value.oneCell']) (by decide) HM1.out HY1.out hs1 w1.heap.size rfl ?_; intro g2 c2 w2 hown2 hg2 hat2 hlt2; have hc2 : Below wr.heap.size wr w2 := HCB.out.grown hg2 hs1 (fun kk e => (HOB.out.lt kk e).1); have hs2 : wr.heap.size ≤ w2.heap.size := hc2.size; have hcx2 := (hc2.cell (p := ⟨b0, o0 + j, none⟩) (Nat.lt_of_lt_of_le HBL0.out hbs)).trans hcell; have HL2 : Hid (Holds w2 (some ⟨g2, 0, none⟩) (nums (bs ++ [x]))) := holds_as (own_fresh0' hown2).holds HNM.out; have HW2 := Lib.hid ((HBW.out.below HB.out).below hc2); have HC2 := Lib.hid hc2; clear hown2 hg2 hat2 hc2) | (go_at_call 104; have hcall := HIH.out (some ⟨g2, 0, none⟩) (some ⟨b0, o0, none⟩) (k + 1) c2 n c (j + 1) (bs ++ [x]) os w2 (by omega) hn8 (by omega) HL2.out HW2.out HFL.out HN.out HKM.out (fun h => (by cases h)); rw [← HCAST.out] at hcall; refine hcall.mono ?_; clear hcall; rintro e w4 ⟨A4, c4, rs4, rfl, hr4, hn4, hs4, hh4, hb4⟩; obtain ⟨b4, rfl, hp4⟩ := subs_some hn4 hs4 hr4 HPOS.out; have hc4 : Below wr.heap.size wr w4 := below_then HC2.out hb4 hs2; have hcx4 := (hc4.cell (p := ⟨b0, o0 + j, none⟩) (Nat.lt_of_lt_of_le HBL0.out hbs)).trans hcell; have hs4' : wr.heap.size ≤ w4.heap.size := hc4.size; have HR4 := Lib.hid hr4; have HH4 := Lib.hid (hh4.raise hs2); have HC4 := Lib.hid hc4; have HOA := Lib.hid (HH.out.below hc4).1; have HP4 := Lib.hid hp4; have HL4 : Hid (acc.length + rs4.length ≤ 256) := rows_le HAL.out hr4; have HM4 := Lib.hid (show acc.length + rs4.length ≤ maxLen from (by have := HL4.out; unfold maxLen; omega)); have HY4 := Lib.hid (show (acc.length + rs4.length) * 24 ≤ 140737488355328 from (by have := HL4.out; omega)); have HZ4 := Lib.hid (show w.heap.size ≤ w4.heap.size from (by omega)); clear hr4 hn4 hs4 hh4 hb4 hc4 hp4) | (refine step_append_lies _ rfl (.tmp 31) (.tmp 44) 30 rfl w.heap.size 22 i1 (.slice none 0 0) 1 24 Try.underlying30 RI.out RZ0.out RZ1.out RZ2.out rfl (by decide) (.slice E acc.length d) acc.length (rowVals acc) (by simp [Act.eval]) HOA.out ⟨b4, 0, none⟩ rs4.length c4 (rowVals rs4) (by simp [Act.eval]) (rows_len1 rs4) (heads_news HH4.out) (rowVals_one rs4) HP4.out HM4.out HY4.out HZ4.out w4.heap.size rfl ?_; intro g5 c5 w5 hown5 hg5 hat5 hlt5; have HJ := Lib.hid (Heads.join HH.out hbs HC4.out HH4.out hown5 hg5 hat5); have HB5 := Lib.hid ((below_then HB.out HC4.out hbs).grown hg5 HZ4.out (fun kk e => (HOA.out.lt kk e).1)); have hcx5 : w5.cell? ⟨b0, o0 + j, none⟩ = some (.int .i64 x) := (HB5.out.cell (p := ⟨b0, o0 + j, none⟩) HBL0.out).trans hcellw; clear hown5 hg5 hat5 hlt5) | fail)
              all_goals (go_wp2_with fail; go_meet)
              all_goals exact ⟨some ⟨g5, 0, none⟩, c5, acc ++ rs4, by rw [List.length_append], by rw [show rowNums (acc ++ rs4) = rowNums acc ++ rowNums rs4 by simp [rowNums], HR4.out]; exact HNX.out, fun h => (by cases h), fun a h => by obtain rfl := Option.some.inj h; exact ⟨rfl, by rw [List.length_append]; have := HP4.out; omega⟩, HJ.out, HB5.out⟩
            case rest =>
              obtain ⟨E', d', acc', rfl, r1, r2, r3, r4, r5⟩ := hcut
              have HR1 := Lib.hid r1
              have HR2 := Lib.hid r2
              have HR3 := Lib.hid r3
              have HR4 := Lib.hid r4
              have HR5 := Lib.hid r5
              clear r1 r2 r3 r4 r5
              go_wp2
              go_roundw
              case rel => exact ⟨j + 1, by omega, by omega, by go_num, E', d', acc', rfl, HR1.out, HR2.out, HR3.out, HR4.out, HR5.out⟩
              case measure => simp [intOf]; omega
          · obtain rfl : j = n := by omega
            have HR : Hid (rowNums acc = G) := by show _ = _; rw [← hac, List.drop_eq_nil_of_le (by have := HN.out; omega)]; simp [subs]
            have HH := Lib.hid hh
            have HEN := Lib.hid hEn
            have HES := Lib.hid hEs
            clear hac hh hEn hEs
            go_wp2
            go_ret
            exact ⟨E, d, acc, rfl, HR.out, HEN.out, HES.out, HH.out, hb⟩
end Go.Proofs.Ytifaadjbkbdbnaa
