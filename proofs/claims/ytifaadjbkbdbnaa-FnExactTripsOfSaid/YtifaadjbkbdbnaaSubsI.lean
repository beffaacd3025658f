/-
  What is proved: the contract of the program's listsFrom: the rising lists that begin with some people and go on with others. Conditions: the lists are read as they lie; at most eight others, and at most eight to begin with.
-/
import Derived.Test.YtifaadjbkbdbnaaSubs
import Derived.Test.YtifaadjbkbdbnaaDrop
import Derived.Test.YtifaadjbkbdbnaaSlow
namespace Go.Proofs.Ytifaadjbkbdbnaa
open Go.RowKit

/-- slices.Clone of a list, to which more can be appended. -/
def OwnOr (xs : List Int) (w : World) (e : Ending) (w' : World) : Prop :=
  ∃ (A : Option Addr) (c : Nat), e = .returned (.slice A xs.length c) ∧ w'.ownsRow w.heap.size 3 1 (.slice A xs.length c) xs.length (nums xs) ∧ Below w.heap.size w w'

set_option maxHeartbeats 800000 in
set_option maxRecDepth 100000 in
theorem cloneO_any (A : Option Addr) (n d : Nat) (bs : List Int) (w : World) (hB : Holds w A (nums bs)) (hy : bs.length = n) (hn : n ≤ 1048576) (hnil : A = none → n = 0 ∧ d = 0) :
    Calls Try.prog 106 #[.slice A n d] w (OwnOr bs w) := by
  subst hy
  cases A with
  | none =>
    obtain ⟨h0, rfl⟩ := hnil rfl
    obtain rfl := List.length_eq_zero_iff.1 h0
    clear h0
    go_enter Try.func106, Try.ntmps106
    have hnl := fun (W : World) => Lib.run_eql_slice_nil (P := Try.prog) W 22 3 none 0 0 0 0 Try.underlying22
    go_wp2
    go_ret
    exact ⟨none, 0, rfl, World.ownsRow_nil _ _ _ _, Below.refl _ _⟩
  | some ad =>
    obtain ⟨b, o, had⟩ : ∃ b o, (nums bs = [] ∨ ad = ⟨b, o, none⟩) := by
      rcases hB with h | ⟨b, o, h, -, -⟩
      · exact ⟨0, 0, .inl h⟩
      · exact ⟨b, o, .inr (Option.some.inj h)⟩
    obtain ⟨i0, hi, hz0, hz1, hz2⟩ := info_parts info_int
    have HI := Lib.hid hi
    have HZ0 := Lib.hid hz0
    have HZ1 := Lib.hid hz1
    have HZ2 := Lib.hid hz2
    have hnews : ∀ j u, (nums bs)[j]? = some u → (w.alloc (.cells #[] 3)).cell? (ad.add j) = some u := fun j u hu => by
      rcases hB with h | ⟨b, o, h, hb, hcell⟩
      · rw [h] at hu; simp at hu
      · obtain rfl : ad = ⟨b, o, none⟩ := by simpa using h
        rw [show (⟨b, o, none⟩ : Addr).add j = ⟨b, o + j, none⟩ from by unfold Addr.add; split <;> simp_all, World.cell?_alloc_lt _ _ _ hb]
        exact hcell j u hu
    clear hi hz0 hz1 hz2 had hnil
    go_enter Try.func106, Try.ntmps106
    have hnl := fun (W : World) => Lib.run_eql_slice_nil (P := Try.prog) W 22 3 (some ad) bs.length d 0 0 Try.underlying22
    have HOWN := Lib.hid (World.ownsRow_made (base := w.heap.size) (e := 3) (size := 1) w #[] 0 (Nat.le_refl _) (by unfold maxLen; omega) rfl)
    have HNEWS := Lib.hid hnews
    have HLEN := Lib.hid (show (nums bs).length = bs.length * 1 by rw [nums_len, Nat.mul_one])
    have HONE := Lib.hid (ints_one bs)
    have HMAX := Lib.hid (show 0 + bs.length ≤ maxLen by unfold maxLen; omega)
    have HBYT := Lib.hid (show (0 + bs.length) * 8 ≤ 140737488355328 by omega)
    clear hnews
    go_wp2_with (at_builtin; refine wpList_append_own _ rfl (.tmp 5) (.tmp 6) 22 rfl w.heap.size 3 i0 (.int .i64 0) 1 8 Try.underlying22 HI.out HZ0.out HZ1.out HZ2.out rfl (by decide) _ 0 [] rfl HOWN.out ad bs.length d (nums bs) rfl HLEN.out HNEWS.out HONE.out HMAX.out HBYT.out (by simp) ?_; intro v' w1 hown1 hg1 _)
    go_ret
    simp only [Nat.zero_add, List.nil_append] at hown1
    have hbe := (below1 w (.cells #[] 3)).grown hg1 (by simp) (fun k hk => Nat.le_of_eq (Option.some.inj (show some w.heap.size = some k from hk)))
    obtain ⟨A1, c1, rfl⟩ := own_shape hown1
    exact ⟨A1, c1, rfl, hown1, hbe⟩

/-- Where the list behind a place lies, nil or not: at the list's own address where no room is left behind that place. -/
theorem behind_at {w : World} {A : Option Addr} {n c k : Nat} {xs : List Int} (h : Holds w A (nums xs)) (hx : xs.length = n) (hn : n ≤ c) (hk : k < n) :
    ∃ b o d, A = some ⟨b, o, none⟩ ∧ b < w.heap.size ∧ (if c = k + 1 then some (⟨b, o, none⟩ : Addr) else some ⟨b, o + (k + 1), none⟩) = some ⟨b, d, none⟩ ∧ Holds w (some ⟨b, d, none⟩) (nums (xs.drop (k + 1))) := by
  rcases h with h | ⟨b, o, rfl, hb, hc⟩
  · have := congrArg List.length h
    rw [nums_len, List.length_nil] at this
    omega
  · obtain ⟨d, hd, hh⟩ := tail_at (w := w) (b := b) (o := o) (n := n) (c := c) (k := k) (xs := xs) hc hx hn
    exact ⟨b, o, d, rfl, hb, hd, .inr ⟨b, d, rfl, hb, hh.out⟩⟩

theorem holds_of_own {w : World} {base : Nat} {e : TypeId} {A : Option Addr} {n c : Nat} {xs : List Value} (h : w.ownsRow base e 1 (.slice A n c) n xs) : Holds w A xs := by
  obtain ⟨A', c', hv, hf⟩ := Fresh.of_own h (Nat.le_refl _)
  obtain ⟨rfl, -⟩ : A = A' ∧ c = c' := by simpa using hv
  exact hf.holds

theorem rowVals_one (rs : List RowV) : ∀ u ∈ rowVals rs, u.oneCell' = true := by
  intro v hv
  simp only [rowVals, List.mem_map] at hv
  obtain ⟨x, -, rfl⟩ := hv
  rfl
theorem own_fresh0' {w : World} {lo n c : Nat} {ty : TypeId} {A : Option Addr} {xs : List Value} (h : w.ownsRow lo ty 1 (.slice A n c) n xs) : Fresh w lo w.heap.size ty A xs := by
  obtain ⟨A', c', hv, hf⟩ := Fresh.of_own h (Nat.le_refl _)
  obtain ⟨rfl, -⟩ : A = A' ∧ c = c' := by simpa using hv
  exact hf

set_option maxHeartbeats 6400000 in
set_option maxRecDepth 100000 in
theorem listsFrom_any (m : Nat) (hm : m ≤ 8) : ∀ (g : Nat) (A B : Option Addr) (k z n c : Nat) (bs os : List Int) (w : World), os.length < g → g ≤ 9 → Holds w A (nums bs) → Holds w B (nums os) → bs.length = k → os.length = n → n ≤ c → (A = none → k = 0 ∧ z = 0) →
    Calls Try.prog 73 #[.slice A k z, .slice B n c, .int .i64 m] w (SubsPost (subs m os bs) w) := by
  intro g
  induction g with
  | zero => intro A B k z n c bs os w hg; omega
  | succ g ih =>
    intro A B k z n c bs os w hg hg8 hA hB hk hn hc hnil
    by_cases hfull : m ≤ k
    · have HS := Lib.hid (subs_full (by omega : m ≤ bs.length) os)
      have hge : (m : Int) ≤ (k : Int) := by omega
      clear ih hg hk hn hnil
      go_enter Try.func73, Try.ntmps73
      go_wp2
      go_ret
      rw [HS.out]
      exact ⟨none, 0, [], rfl, rfl, fun _ => ⟨rfl, rfl⟩, fun a h => (by cases h), Heads.nil _ _, Below.refl _ _⟩
    · obtain ⟨i0, hi, hz0, hz1, hz2⟩ := info_parts info_int
      have HI := Lib.hid hi
      have HZ0 := Lib.hid hz0
      have HZ1 := Lib.hid hz1
      have HZ2 := Lib.hid hz2
      obtain ⟨i1, ri, rz0, rz1, rz2⟩ := info_parts info_row
      have RI := Lib.hid ri
      have RZ0 := Lib.hid rz0
      have RZ1 := Lib.hid rz1
      have RZ2 := Lib.hid rz2
      have HK := Lib.hid hk
      have HN := Lib.hid hn
      have HG := Lib.hid hg
      have HNIL := Lib.hid hnil
      have HFU := Lib.hid hfull
      have hk8 : k ≤ 8 := by omega
      have hfd : decide (m ≤ k) = false := by simpa using hfull
      have hn8 : n ≤ 8 := by omega
      clear hi hz0 hz1 hz2 ri rz0 rz1 rz2 hk hn hg hnil hfull
      go_enter Try.func73, Try.ntmps73
      go_wp2
      go_loopw [7, 17] (fun v i wr => ∃ (j : Nat) (E : Option Addr) (d : Nat) (acc : List RowV), j ≤ n ∧ i = .int .i64 j ∧ v = .slice E acc.length d ∧ rowNums acc ++ subs m (os.drop j) bs = subs m os bs ∧ (E = none → acc = [] ∧ d = 0) ∧ (∀ a, E = some a → a = ⟨a.block, 0, none⟩ ∧ 0 < acc.length) ∧ Heads wr w.heap.size E d acc ∧ Below w.heap.size w wr) (fun _ i _ => n - (intOf i).toNat)
      case atStart => exact ⟨0, none, 0, [], Nat.zero_le _, rfl, rfl, rfl, fun _ => ⟨rfl, rfl⟩, fun a h => (by cases h), Heads.nil _ _, Below.refl _ _⟩
      case round =>
        obtain ⟨j, E, d, acc, hj, rfl, rfl, hacc, hEn, hEs, hh, hb⟩ := hrel
        by_cases hjn : j < n
        · have hjl : j < os.length := by have := HN.out; omega
          obtain ⟨b0, o0, d0, rfl, hbl, hd0, hrest⟩ := behind_at hB HN.out hc hjn
          obtain ⟨b1, o1, hab, hbl1, hcell⟩ := (hB.below hb).look (k := j) (by rw [nums_len]; exact hjl)
          obtain ⟨rfl, rfl⟩ : b0 = b1 ∧ o0 = o1 := by simpa using hab
          clear hab hbl1
          simp only [nums, List.getElem_map] at hcell
          have hkb : bs.length < m := by have := HK.out; have := HFU.out; omega
          have HNX : Hid (rowNums acc ++ ((bs ++ [os[j]]) :: subs m (os.drop (j + 1)) (bs ++ [os[j]])) ++ subs m (os.drop (j + 1)) bs = subs m os bs) := by show _ = _; rw [List.append_assoc, ← subs_next hjl hkb]; exact hacc
          have HAL : Hid (acc.length + (1 + (subs m (os.drop (j + 1)) (bs ++ [os[j]])).length) ≤ 255) := by
            have h1 := congrArg List.length HNX.out
            have h2 := subs_small (m := m) (o := os) (b := bs) (by have := HN.out; omega)
            simp only [List.length_append, List.length_cons, rowNums_len] at h1
            show _ ≤ _
            omega
          have HH := Lib.hid hh
          have HB := Lib.hid hb
          have HRE := Lib.hid hrest
          have hbs : w.heap.size ≤ wr.heap.size := hb.size
          have hA1 := hA.below hb
          generalize hx : os[j] = x at hcell HNX HAL
          clear hacc hEn hEs hh hb hrest hx
          go_wp2_with fail
          refine (cloneO_any A k z bs _ hA1 HK.out (by omega) HNIL.out).mono ?_
          rintro e w1 ⟨A1, c1, rfl, hown1, hb1⟩
          rw [HK.out] at hown1 ⊢
          have hs1 : wr.heap.size ≤ w1.heap.size := hb1.size
          have HO1 := Lib.hid (hown1.alloc (.cells #[.int .i64 x] 3))
          have HB1 := Lib.hid hb1
          have HM1 := Lib.hid (show k + 1 ≤ maxLen by unfold maxLen; omega)
          have HY1 := Lib.hid (show (k + 1) * 8 ≤ 140737488355328 by omega)
          have HZ1' := Lib.hid (show wr.heap.size ≤ (w1.alloc (.cells #[.int .i64 x] 3)).heap.size by simp; omega)
          clear hown1 hb1
          go_upto_region 8 with (at_builtin; refine wpList_append_lies _ rfl (.tmp 23) (.tmp 25) 22 rfl wr.heap.size 3 i0 (.int .i64 0) 1 8 Try.underlying22 HI.out HZ0.out HZ1.out HZ2.out rfl (by decide) (.slice A1 k c1) k (nums bs) rfl HO1.out ⟨w1.heap.size, 0, none⟩ 1 1 [.int .i64 x] rfl rfl (cell_one_new _ _ _) (by simp [Value.oneCell']) (by decide) HM1.out HY1.out HZ1'.out (w1.heap.size + 1) (by simp) ?_; intro g2 c2 w2 hown2 hg2 hat2 hlt2)
          have hb2 : Below wr.heap.size wr w2 := (HB1.out.alloc hs1 (.cells #[.int .i64 x] 3)).grown hg2 HZ1'.out (fun kk e => (HO1.out.lt kk e).1)
          have hs2 : wr.heap.size ≤ w2.heap.size := hb2.size
          have HO2 := Lib.hid (own_fresh0' hown2)
          have HB2 := Lib.hid hb2
          have HOE := Lib.hid ((HH.out.below hb2).alloc (.cells #[.slice (some ⟨g2, 0, none⟩) (k + 1) c2] 22)).1
          have HM2 := Lib.hid (show acc.length + 1 ≤ maxLen by have := HAL.out; unfold maxLen; omega)
          have HY2 := Lib.hid (show (acc.length + 1) * 24 ≤ 140737488355328 by have := HAL.out; omega)
          have HZ2' := Lib.hid (show w.heap.size ≤ (w2.alloc (.cells #[.slice (some ⟨g2, 0, none⟩) (k + 1) c2] 22)).heap.size by simp; omega)
          clear hown2 hg2 hat2 hb2
          go_upto_region 9 with (at_builtin; refine wpList_append_lies _ rfl (.tmp 27) (.tmp 29) 30 rfl w.heap.size 22 i1 (.slice none 0 0) 1 24 Try.underlying30 RI.out RZ0.out RZ1.out RZ2.out rfl (by decide) (.slice E acc.length d) acc.length (rowVals acc) rfl HOE.out ⟨w2.heap.size, 0, none⟩ 1 1 [.slice (some ⟨g2, 0, none⟩) (k + 1) c2] rfl rfl (cell_one_new _ _ _) (by simp [Value.oneCell']) (by decide) HM2.out HY2.out HZ2'.out (w2.heap.size + 1) (by simp) ?_; intro g3 c3 w3 hown3 hg3 hat3 hlt3)
          have hF2 := HO2.out
          have hFl : (bs ++ [x]).length = k + 1 := by have := HK.out; simp; omega
          have hnx : nums bs ++ [Value.int .i64 x] = nums (bs ++ [x]) := by simp [nums]
          rw [hnx] at hF2
          have hH3 := Heads.push (r := ⟨some ⟨g2, 0, none⟩, k + 1, c2, bs ++ [x]⟩) HH.out hbs HB2.out hF2 hFl (by show k + 1 ≤ _; omega) hown3 hg3 hat3
          have hb3 : Below w.heap.size w w3 := ((below_then HB.out HB2.out hbs).alloc (by omega) (.cells #[.slice (some ⟨g2, 0, none⟩) (k + 1) c2] 22)).grown hg3 HZ2'.out (fun kk e => (HOE.out.lt kk e).1)
          have hs3 : w2.heap.size + 1 ≤ w3.heap.size := by have := hg3.size; simpa using this
          have hL3 : Holds w3 (some ⟨g2, 0, none⟩) (nums (bs ++ [x])) := (fresh_grown (hF2.alloc (.cells #[.slice (some ⟨g2, 0, none⟩) (k + 1) c2] 22)) hg3 (fun q e => .inl (by have := (HH.out.1.lt q e).2; omega))).holds
          have hR3 : Holds w3 (some ⟨b0, d0, none⟩) (nums (os.drop (j + 1))) := HRE.out.below hb3
          have hdl : (os.drop (j + 1)).length = n - (j + 1) := by have := HN.out; simp; omega
          have hcall := ih (some ⟨g2, 0, none⟩) (some ⟨b0, d0, none⟩) (k + 1) c2 (n - (j + 1)) (c - (j + 1)) (bs ++ [x]) (os.drop (j + 1)) w3 (by have := HG.out; have := HN.out; omega) (by omega) hL3 hR3 hFl hdl (by omega) (fun h => by cases h)
          have HC := Lib.hid hcall
          have HH3 := Lib.hid hH3
          have HB3 := Lib.hid hb3
          have hp0 : (0 : Int) ≤ (j : Int) + 1 := by omega
          have hp1 : (j : Int) + 1 ≤ (n : Int) := by omega
          have hp2 : ((j : Int) + 1).toNat = j + 1 := by omega
          have hbs3 : w.heap.size ≤ w3.heap.size := hb3.size
          clear hF2 hFl hnx hH3 hb3 hown3 hg3 hat3 hlt3 hL3 hR3 hdl hcall ih
          go_wp2_with fail
          refine HC.out.mono ?_
          rintro e w4 ⟨A4, c4, rs4, rfl, hr4, hn4, hs4, hh4, hb4⟩
          have HR4 := Lib.hid hr4
          have HH4 := Lib.hid hh4
          have HB4 := Lib.hid hb4
          have HL4 : Hid (acc.length + (1 + rs4.length) ≤ 255) := by show _ ≤ _; have h1 := HAL.out; have h2 := rowNums_len rs4; rw [hr4] at h2; omega
          have HOA := Lib.hid (HH3.out.below hb4).1
          have hal : (acc ++ [(⟨some ⟨g2, 0, none⟩, k + 1, c2, bs ++ [x]⟩ : RowV)]).length = acc.length + 1 := by simp
          have HAL2 := Lib.hid hal
          have hbs4 : w3.heap.size ≤ w4.heap.size := hb4.size
          have hEnd : rowNums (acc ++ [(⟨some ⟨g2, 0, none⟩, k + 1, c2, bs ++ [x]⟩ : RowV)]) ++ rowNums rs4 ++ subs m (os.drop (j + 1)) bs = subs m os bs := by
            rw [← HNX.out, hr4]
            simp [rowNums]
          have HEND := Lib.hid hEnd
          rw [hal] at HOA
          clear hr4 hh4 hb4 hal hEnd
          cases A4 with
          | none =>
            obtain ⟨rfl, rfl⟩ := hn4 rfl
            clear hn4 hs4
            go_wp2_with (at_builtin; refine wpList_append_own_none rfl (.tmp 31) (.tmp 38) 30 rfl w.heap.size 22 i1 1 Try.underlying30 RI.out _ (acc.length + 1) _ rfl HOA.out rfl ?_)
            go_roundw
            case rel => exact ⟨j + 1, some ⟨g3, 0, none⟩, c3, acc ++ [⟨some ⟨g2, 0, none⟩, k + 1, c2, bs ++ [x]⟩], by omega, by go_num, by rw [HAL2.out], by simpa [rowNums] using HEND.out, fun h => (by cases h), fun a h => by obtain rfl := Option.some.inj h; exact ⟨rfl, by rw [HAL2.out]; omega⟩, HH3.out.below HB4.out, below_then HB3.out HB4.out hbs3⟩
            case measure => simp [intOf]; omega
          | some a4 =>
            obtain ⟨ha4, hpos⟩ := hs4 a4 rfl
            obtain ⟨b4, rfl⟩ : ∃ b4, a4 = ⟨b4, 0, none⟩ := ⟨_, ha4⟩
            have HNW : Hid (∀ j u, (rowVals rs4)[j]? = some u → w4.cell? ((⟨b4, 0, none⟩ : Addr).add j) = some u) := fun j u hu => by
              rw [Addr.add_lit]
              rcases holds_of_own HH4.out.1 with h | ⟨b, o, h, -, hcell⟩
              · rw [h] at hu; simp at hu
              · obtain ⟨rfl, rfl⟩ : b4 = b ∧ 0 = o := by simpa using h
                exact hcell j u hu
            have HLN := Lib.hid (show (rowVals rs4).length = rs4.length * 1 by rw [rowVals_len, Nat.mul_one])
            have HM4 := Lib.hid (show acc.length + 1 + rs4.length ≤ maxLen by have := HL4.out; unfold maxLen; omega)
            have HY4 := Lib.hid (show (acc.length + 1 + rs4.length) * 24 ≤ 140737488355328 by have := HL4.out; omega)
            have HZ4 := Lib.hid (show w.heap.size ≤ w4.heap.size by omega)
            clear hn4 hs4 ha4
            go_wp2_with (at_builtin; refine wpList_append_lies _ rfl (.tmp 31) (.tmp 38) 30 rfl w.heap.size 22 i1 (.slice none 0 0) 1 24 Try.underlying30 RI.out RZ0.out RZ1.out RZ2.out rfl (by decide) (.slice (some ⟨g3, 0, none⟩) (acc.length + 1) c3) (acc.length + 1) _ rfl HOA.out ⟨b4, 0, none⟩ rs4.length c4 (rowVals rs4) rfl HLN.out HNW.out (rowVals_one rs4) hpos HM4.out HY4.out HZ4.out w4.heap.size rfl ?_; intro g5 c5 w5 hown5 hg5 hat5 hlt5)
            rw [← HAL2.out] at hown5 hg5 hat5
            have HJ := Lib.hid (Heads.join HH3.out hbs3 HB4.out HH4.out hown5 hg5 hat5)
            have HB5 := Lib.hid ((below_then HB3.out HB4.out hbs3).grown hg5 HZ4.out (fun kk e => by rw [HAL2.out] at e; exact (HOA.out.lt kk e).1))
            clear hown5 hg5 hat5 hlt5
            go_roundw
            case rel => exact ⟨j + 1, some ⟨g5, 0, none⟩, c5, acc ++ [⟨some ⟨g2, 0, none⟩, k + 1, c2, bs ++ [x]⟩] ++ rs4, by omega, by go_num, by rw [List.length_append, HAL2.out], by rw [show rowNums (acc ++ [⟨some ⟨g2, 0, none⟩, k + 1, c2, bs ++ [x]⟩] ++ rs4) = rowNums (acc ++ [⟨some ⟨g2, 0, none⟩, k + 1, c2, bs ++ [x]⟩]) ++ rowNums rs4 by simp [rowNums]]; exact HEND.out, fun h => (by cases h), fun a h => by obtain rfl := Option.some.inj h; exact ⟨rfl, by rw [List.length_append]; omega⟩, HJ.out, HB5.out⟩
            case measure => simp [intOf]; omega
        · obtain rfl : j = n := by omega
          have HR : Hid (rowNums acc = subs m os bs) := by show _ = _; rw [← hacc, List.drop_eq_nil_of_le (by have := HN.out; omega)]; simp [subs]
          have HH := Lib.hid hh
          have HEN := Lib.hid hEn
          have HES := Lib.hid hEs
          clear hacc hh hEn hEs
          go_wp2
          go_ret
          exact ⟨E, d, acc, rfl, HR.out, HEN.out, HES.out, HH.out, hb⟩
end Go.Proofs.Ytifaadjbkbdbnaa
