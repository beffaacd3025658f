/-
  What is proved: contracts of the model's loFirst, FirstOfCrew and FirstCarried: the first plan of least cost of a crew. Conditions: the arguments are read as they lie.
  What is proved: contracts of the program's least number of moves over a crew's river, and of its FewestOfCrew. Conditions: the arguments are read as they lie.
  What is proved: the contract of the program's moves that lead nearer (onward) over a company's river. Conditions: there is a company; the map has a number for each state that it knows.
  What is proved: the contract of the program's moves that lead nearer (onward) over a crew's river. Conditions: at most eight people; the rides are rising lists of them.
  What is proved: two places compared by == are the same exactly if their numbers are. Conditions: at most eight people.
  What is proved: the contract of the program's first shortest list of moves over a crew's river. Conditions: at most seven people; the rides are rising lists of them.
  What is proved: contracts of the program's firstPlan and FirstBest: the way along the first trips that lose no time. Conditions: the party's times are read as they lie.
  What is proved: contracts of the program's LeastCarried and FirstCarried. Conditions: the arguments are read as they lie.
  What is proved: how a law's arguments, as they come in, are opened: a list of numbers, a party. Conditions: none beyond the reading itself.
  What is proved: how further arguments of a law, as they come in, are opened: a number, a list of lists of numbers. Conditions: none beyond the reading itself.
  What is proved: how a crew among a law's arguments, as it comes in, is opened. Conditions: none beyond the reading itself.
-/
import Derived.Test.YtlpeimlbpiofkaaRows
import Derived.WalkKit
import Derived.ProofKit
import Derived.OpenShut
import Derived.ChangeOld
import Derived.Below
import Derived.Lib.SmallJoins
import Derived.Deep.Slices
import Derived.Deep.Grids
import Derived.Deep.Matrix
import Derived.Test.YtlpeimlbpiofkaaJ9FirstCarried
set_option linter.unusedSimpArgs false
set_option linter.unusedVariables false
namespace Go.Proofs.Ytlpeimlbpiofkaa
open Go.RowKit

theorem filter_at {α : Type} {f : α → Bool} {l : α} {r : List α} : ∀ (ls : List α), ls.filter f = l :: r → ∃ j, ∃ h : j < ls.length, ls[j] = l ∧ f l = true ∧ ∀ i (hi : i < ls.length), i < j → f ls[i] = false
  | [], h => by cases h
  | x :: ls, h => by
    by_cases hx : f x = true
    · rw [List.filter_cons_of_pos hx] at h
      obtain ⟨rfl, -⟩ := List.cons.inj h
      exact ⟨0, by simp, rfl, hx, fun i _ hi => by omega⟩
    · rw [List.filter_cons_of_neg hx] at h
      obtain ⟨j, hj, h1, h2, h3⟩ := filter_at ls h
      refine ⟨j + 1, by simp; omega, by simpa using h1, h2, fun i hi hij => ?_⟩
      cases i with
      | zero => simpa using hx
      | succ i => simpa using h3 i (by simpa using hi) (by omega)

set_option maxHeartbeats 12800000 in
set_option maxRecDepth 100000 in
set_option linter.unusedVariables false in
set_option linter.unusedSimpArgs false in
theorem loFirst_any (A : Option Addr) (n c : Nat) (B : Option Addr) (m d : Nat) (xs : List Int) (bs : List Bool) (s : Int) (b : Bool) (v0 : Int) (w : World) (hA : Holds w A (nums xs)) (hB : Holds w B (bits bs)) (hx : xs.length = n) (hy : bs.length = m) (hok : CrewOk xs m s) (hv0 : costM xs bs s b n 0 = some v0) :
    Calls Try.prog 97 #[.agg #[.slice A n c, .slice B m d, .int .i64 s], .bool b] w (LPostR (goB (costOf xs b) (crewLists xs bs s) (costM xs bs s b n) 512 0) w) := by
  obtain ⟨i1, ri, rz0, rz1, rz2⟩ := info_parts info_row
  have RI := Lib.hid ri
  have RZ0 := Lib.hid rz0
  have RZ1 := Lib.hid rz1
  have RZ2 := Lib.hid rz2
  have HA := Lib.hid hA
  have HB0 := Lib.hid hB
  have HX := Lib.hid hx
  have HY := Lib.hid hy
  have HOK := Lib.hid hok
  have HG0 := Lib.hid hv0
  have hn7 : n ≤ 7 := by have := hok.seven; omega
  have hn8 : n ≤ 8 := by omega
  have h1n : 1 ≤ n := by have := hok.one; omega
  have HLO := Lib.hid (cost_ok (bs := bs) (b := b) hok hx)
  have HUPN : Hid (∀ l ∈ crewLists xs bs s, l ∈ upLists n n) := fun l hl => by have h := crew_up hl; rw [hx] at h; exact h
  have HFL : Hid ((falses n).length = n) := by show _ = _; simp [falses]
  have hq := Whole.fresh w 57 #[.slice A n c, .slice B m d, .int .i64 s]
  have ht := below1 w (.cells #[.slice A n c, .slice B m d, .int .i64 s] 57)
  obtain ⟨c0, c1, c2⟩ := hq.cells3
  obtain ⟨M, hM⟩ : ∃ M, costM xs bs s b n = M := ⟨_, rfl⟩
  obtain ⟨T, hT⟩ : ∃ T, costOf xs b = T := ⟨_, rfl⟩
  obtain ⟨Ls, hLs⟩ : ∃ Ls, crewLists xs bs s = Ls := ⟨_, rfl⟩
  have HMD := Lib.hid hM
  have HTD := Lib.hid hT
  have HLD := Lib.hid hLs
  rw [hM, hT, hLs] at HLO
  rw [hLs] at HUPN
  rw [hM] at HG0
  rw [hM, hT, hLs]
  clear hA hB hx hy hok hv0 hM hT hLs ri rz0 rz1 rz2
  go_enter Try.func97, Try.ntmps97
  go_wp2_with fail
  refine (loFar_any A n c B m d xs bs s b _ (HA.out.below ht) (HB0.out.below ht) HX.out HY.out HOK.out).mono ?_
  rintro e w1 ⟨gF, gW, done, o, W, rfl, hol, hf, -, -, hL, hno, hbd, -, hb⟩
  have HTE : Hid (TellsO n M o) := by show TellsO n M o; rw [← HMD.out]; exact cost_tells HOK.out HX.out hL hno (fun i => (hbd i).1)
  have HOL := Lib.hid hol
  have HNO := Lib.hid hbd
  have ht1 := below_then ht hb (by simp)
  have hq1 := hq.below hb
  obtain ⟨z, hz⟩ : ∃ z, o.length = z := ⟨_, rfl⟩
  rw [hz]
  have HZ := Lib.hid hz
  clear hb c0 c1 c2 hL hno hbd hol hz hq ht
  obtain ⟨c0, c1, c2⟩ := hq1.cells3
  have hlc := hq1.lt
  go_wp2_with fail
  refine (loParty_any A n c B m d s w1).mono ?_
  rintro e wp ⟨rfl, hbp⟩
  go_wp2_with fail
  refine (paFirst_any A n c 0 _ (by omega)).mono ?_
  rintro e w2 ⟨rfl, hw9, hbf⟩
  obtain ⟨g1, hg1⟩ : ∃ g, g = wp.heap.size + 1 + 1 := ⟨_, rfl⟩
  rw [← hg1] at hw9 ⊢
  have hg1l := hw9.lt
  have hb2 := below_then hbp hbf hbp.size
  have hFr2 := hf.below hb2
  have hq2 := hq1.below hb2
  have ht2 := below_then ht1 hb2 ht1.size
  clear hbp hbf hb2 c0 c1 c2 hlc hf hq1 ht1
  have HS3 := Lib.hid (Whole.fresh w2 44 #[.slice (some ⟨g1, 0, none⟩) n n, .bool false])
  have HF3 := Lib.hid (hFr2.alloc (.cells #[.slice (some ⟨g1, 0, none⟩) n n, .bool false] 44))
  have HQ3 := Lib.hid (hq2.alloc (.cells #[.slice (some ⟨g1, 0, none⟩) n n, .bool false] 44))
  have HT3 := Lib.hid (ht2.alloc ht2.size (.cells #[.slice (some ⟨g1, 0, none⟩) n n, .bool false] 44))
  have HD3 := Lib.hid (Fresh.of_whole (lo := 0) (hi := w2.heap.size) (hw9.alloc (.cells #[.slice (some ⟨g1, 0, none⟩) n n, .bool false] 44)) (Nat.zero_le _) hg1l)
  have hgS : gF < w2.heap.size := hFr2.lt
  have hws : w.heap.size < w2.heap.size := hq2.lt
  clear hw9 hg1l hFr2 hq2 ht2 hg1
  go_wp2
  go_loopg [8] 512 (fun gh v wr => ∃ (sb : List Bool) (t : Bool) (D : Option Addr) (dC fl fh : Nat) (u : Int) (rs : List RowV) (E : Option Addr) (cE : Nat), sb.length = n ∧ M (codeOf sb t) = some u ∧ lessN (sts 4) M u ≤ gh ∧ rowNums rs ++ goB T Ls M gh (codeOf sb t) = goB T Ls M 512 0 ∧ v = .slice E rs.length cE ∧ rs.length + gh = 512 ∧ Heads wr (w2.heap.size + 1) E cE rs ∧ Whole wr w2.heap.size 44 #[.slice D n dC, .bool t] ∧ Fresh wr fl fh 4 D (bits sb) ∧ (w2.heap.size < fl ∨ fh ≤ w2.heap.size) ∧ Whole wr gF 3 (nums o).toArray ∧ Whole wr w.heap.size 57 #[.slice A n c, .slice B m d, .int .i64 s] ∧ Below w.heap.size w wr)
  case atStart => exact ⟨falses n, false, some ⟨g1, 0, none⟩, n, 0, w2.heap.size, v0, [], none, 0, HFL.out, by rw [code_first n]; exact HG0.out, Nat.le_trans (less_le _ _ _) (by rw [show (sts 4).length = 512 from List.length_range]; exact Nat.le_refl _), by rw [code_first n]; rfl, rfl, rfl, Heads.nil _ _, HS3.out, HD3.out, .inr (Nat.le_refl _), HF3.out, HQ3.out, HT3.out⟩
  case round =>
    clear HS3 HF3 HQ3 HT3 HD3 HG0
    obtain ⟨sb, t, D, dC, fl, fh, u, rs, E, cE, hbl, hg, hless, hls, rfl, hlen, hH, hS, hD, hfh, hF, hQ, hb⟩ := hrel
    obtain ⟨wz, rfl⟩ : ∃ W : World, W = wr := ⟨_, rfl⟩
    obtain ⟨e0, e1, -, -⟩ := hS.two
    have hsl := hS.lt
    have HBL := Lib.hid hbl
    have HBZ0 := Lib.hid hb
    have HHD0 := Lib.hid hH
    have HS0 := Lib.hid hS
    have HD0 := Lib.hid hD
    have HF00 := Lib.hid hF
    have HQ0 := Lib.hid hQ
    have HLS9 := Lib.hid hls
    have HFA : Hid (farS o sb t = u) := by show _ = _; rw [HTE.out sb t hbl, hg]; rfl
    obtain ⟨x0, hx0⟩ : ∃ y, num sb t.toNat = y := ⟨_, rfl⟩
    have hxz : x0 < z := by have h := num_lt sb t; rw [hbl, hx0] at h; rw [← HZ.out, HOL.out]; exact h
    have hxi : (x0 : Int) < (z : Int) := by omega
    have HX0 := Lib.hid hx0
    have HF0 : Hid (o.getD x0 0 = u) := by show _ = _; rw [getD_m1W (by rw [HZ.out]; exact hxz), ← HX0.out]; exact HFA.out
    have hlo : w2.heap.size + 1 ≤ wz.heap.size := hS.lt
    clear hb hH hS hD hF hQ hls hbl hx0
    go_wp2_with fail
    refine (seIndex_any D n dC sb t wz HD0.out.holds HBL.out hn8).mono ?_
    rintro e wi ⟨rfl, hbi⟩
    rw [HX0.out]
    have HBI := Lib.hid hbi
    have k0 := num_cellW (v := u) (HF00.out.below hbi) (i := x0) (by rw [HZ.out]; exact hxz) HF0.out
    have hfl := (HF00.out.below hbi).lt
    clear hbi e0 e1 hsl
    by_cases hu : 0 < u
    · have hdu : decide (0 < u) = true := by simpa using hu
      have hub : u ≤ 512000000 := by have h := (HLO.out.low (codeOf sb t)).2; unfold lf at h; rw [hg] at h; exact h
      obtain ⟨f', l, r9, u2, rfl, hhd, hgo, hlm, hg2, hl2, -⟩ := goB_next HLO.out hg hu hless
      have hnb : nextO T Ls o sb t = l :: r9 := by rw [next_best HLO.out hn8 HUPN.out HBL.out HTE.out hg, hhd]
      have HST0 : Hid (∀ l ∈ ridesAt sb t Ls, StepsTo l ((n : Int) - 1) l.length ∧ l.length ≤ 8 ∧ 1 ≤ T l ∧ T l ≤ 1000000 ∧ 0 ≤ farS o (flipped sb l) (!t) ∧ farS o (flipped sb l) (!t) ≤ 512000000) := fun l hl => by
        have hl1 := (List.mem_filter.1 hl).1
        have h2 := up_steps (HUPN.out l hl1)
        have h3 := HLO.out.time l hl1
        have hst := step_code (t := t) HBL.out (fun y hy => by have := mem_steps h2.1 hy; omega : ∀ y ∈ l, 0 ≤ y ∧ y < (n : Int))
        have h4 : ridesAt sb t Ls = mvsW 4 Ls (codeOf sb t) := by
          have h5 := rides_pad (p := n) (x := codeOf sb t) (L := Ls) hn8 HUPN.out
          rwa [bits_back HBL.out, torch_back] at h5
        obtain ⟨u5, hu5⟩ := HLO.out.step hg (by rw [← h4]; exact hl)
        have h6 := HLO.out.low (stepC (codeOf sb t) l)
        unfold lf at h6
        rw [hu5] at h6
        have h7 := HTE.out (flipped sb l) (!t) (by rw [flipped_len]; exact HBL.out)
        rw [← hst, hu5] at h7
        rw [h7]
        exact ⟨h2.1, by omega, h3.1, h3.2, h6⟩
      obtain ⟨j0, hj0, hjl0, hjok, hjlow⟩ := filter_at _ hnb
      have hstp := step_code (t := t) HBL.out (fun y hy => by have := mem_steps (HST0.out l (by rw [← hjl0]; exact List.getElem_mem hj0)).1 hy; omega : ∀ y ∈ l, 0 ≤ y ∧ y < (n : Int))
      rw [hstp] at hg2 hgo
      have HG := Lib.hid hg2
      have HLE := Lib.hid hl2
      have HGO := Lib.hid hgo
      have HLEN := Lib.hid hlen
      clear hg hg2 hl2 hgo hhd hless hlm hstp hu hlen hnb
      obtain ⟨q0, q1, q2⟩ := (HQ0.out.below HBI.out).cells3
      have hql := (HQ0.out.below HBI.out).lt
      obtain ⟨e0, e1, -, -⟩ := (HS0.out.below HBI.out).two
      have hsl := (HS0.out.below HBI.out).lt
      go_wp2_with fail
      refine (loRides_any A n c B m d xs bs s D n dC sb t wi (HA.out.below (below_then HBZ0.out HBI.out HBZ0.out.size)) (HB0.out.below (below_then HBZ0.out HBI.out HBZ0.out.size)) (HD0.out.below HBI.out).holds HX.out HY.out HBL.out HOK.out (by rw [HX.out]; exact HBL.out)).mono ?_
      clear k0 hfl q0 q1 q2 hql e0 e1 hsl
      rintro e w4 ⟨G, cG, rs4, rfl, hrn, hh, hb4⟩
      rw [HLD.out] at hrn
      have HB4 := Lib.hid (below_then HBI.out hb4 HBI.out.size)
      have HB3C : Hid (Below wz.heap.size wz wi) := HBI.out
      have hrlen : rs4.length = (ridesAt sb t Ls).length := by rw [← hrn, rowNums_len]
      have HES : Hid (∀ k (hk : k < rs4.length), rs4[k].xs ∈ ridesAt sb t Ls ∧ (k = j0 → rs4[k].xs = l ∧ (decide (0 ≤ farS o (flipped sb l) (!t)) && decide (farS o (flipped sb l) (!t) + T l = farS o sb t)) = true) ∧ (k < j0 → (decide (0 ≤ farS o (flipped sb rs4[k].xs) (!t)) && decide (farS o (flipped sb rs4[k].xs) (!t) + T rs4[k].xs = farS o sb t)) = false)) := fun k hk => by
        have h1 : k < (ridesAt sb t Ls).length := by omega
        have h2 : (ridesAt sb t Ls)[k] = rs4[k].xs := by have h := rowNums_get hk; simp only [hrn] at h; exact h
        refine ⟨by rw [← h2]; exact List.getElem_mem h1, fun e => ?_, fun hlt => ?_⟩
        · subst e
          exact ⟨by rw [← h2]; exact hjl0, hjok⟩
        · have h3 := hjlow k h1 hlt
          rw [h2] at h3
          exact h3
      have hj0r : j0 < rs4.length := by omega
      have HHR := Lib.hid hh
      have HRL4 := Lib.hid (own_partsW hh.1)
      have hrl4 := own_partsW hh.1
      clear hb4 hrn hh hrlen hjl0 hjok hjlow hj0
      obtain ⟨w3c, hw3c⟩ : ∃ X, X = wi := ⟨_, rfl⟩
      rw [← hw3c] at HB3C HHR
      go_wp2
      go_loopw [8, 32] (fun v i wr => ∃ j : Nat, j ≤ j0 ∧ v = .slice E rs.length cE ∧ i = .int .i64 j ∧ Below w4.heap.size w4 wr) (fun _ i _ => rs4.length - (intOf i).toNat)
      case atStart => exact ⟨0, Nat.zero_le _, rfl, rfl, Below.refl _ _⟩
      case round =>
        obtain ⟨j, hj, rfl, rfl, hbj⟩ := hrel
        obtain ⟨wv, rfl⟩ : ∃ W : World, W = wr := ⟨_, rfl⟩
        have hjl : j < rs4.length := by omega
        have hd5 : decide ((j : Int) < (rs4.length : Int)) = true := by simp; omega
        obtain ⟨hmem, hyes, hno⟩ := HES.out j hjl
        obtain ⟨hst1, hl8, ht1', ht2', hv1, hv2⟩ := HST0.out _ hmem
        obtain ⟨b5, o5, rfl, hbl5, hcell5, hrow5, hrl5, hrn5⟩ := (HHR.out.free.grid.below hbj).look hjl
        have hfr5 := (HHR.out.row_freshR rs4[j] (List.getElem_mem hjl)).1
        obtain ⟨rr, hrr0⟩ : ∃ rr, rs4[j] = rr := ⟨_, rfl⟩
        rw [hrr0] at hcell5 hrow5 hrl5 hrn5 hst1 hl8 ht1' ht2' hv1 hv2 hyes hno hfr5
        clear hrr0 hmem
        obtain ⟨rA, rn, rc, rx⟩ := rr
        simp only [RowV.val] at hcell5 hrow5 hrl5 hrn5 hst1 hl8 ht1' ht2' hv1 hv2 hyes hno hfr5
        have HFR4 := Lib.hid hfr5
        obtain ⟨v, hv⟩ : ∃ v, farS o (flipped sb rx) (!t) = v := ⟨_, rfl⟩
        obtain ⟨tm, htm⟩ : ∃ tm, T rx = tm := ⟨_, rfl⟩
        have hcase : (j = j0 ∧ rx = l ∧ v + tm = u) ∨ (j < j0 ∧ ¬ v + tm = u) := by
          rcases Nat.lt_or_ge j j0 with h | h
          · right
            have h2 := hno h
            rw [hv, htm, HFA.out] at h2
            rw [hv] at hv1
            simp only [decide_eq_true hv1, Bool.true_and, decide_eq_false_iff_not] at h2
            exact ⟨h, h2⟩
          · left
            have hje : j = j0 := by omega
            obtain ⟨h3, h4⟩ := hyes hje
            rw [← h3, hv, htm, HFA.out] at h4
            simp only [Bool.and_eq_true, decide_eq_true_eq] at h4
            exact ⟨hje, h3, h4.2⟩
        rw [hv] at hv1 hv2
        rw [htm] at ht1' ht2'
        obtain ⟨y, hy⟩ : ∃ y, num (flipped sb rx) (!t).toNat = y := ⟨_, rfl⟩
        have hyz : y < z := by have h := num_lt (flipped sb rx) (!t); rw [flipped_len, HBL.out, hy] at h; rw [← HZ.out, HOL.out]; exact h
        have hyi : (y : Int) < (z : Int) := by omega
        have HV0 : Hid (o.getD y 0 = v) := by show _ = _; rw [getD_m1W (by rw [HZ.out]; exact hyz), ← hy]; exact hv
        have HY9 := Lib.hid hy
        have HT9 : Hid (costOf xs b rx = tm) := by show _ = _; rw [HTD.out]; exact htm
        have HLIN : Hid (∀ y ∈ rx, 0 ≤ y ∧ y < (n : Int)) := fun y hy => by have := mem_steps hst1 hy; omega
        have hwrp : IntKind.i64.wrap (v + tm) = v + tm := IntWalk.i64_in _ (by omega)
        have HRW := Lib.hid hrow5
        have HRL := Lib.hid hrl5
        have HST1 := Lib.hid hst1
        have HCS := Lib.hid hcase
        have HBJ := Lib.hid hbj
        have HZV := Lib.hid (below_then HB4.out hbj HB4.out.size)
        have HBZ := Lib.hid HBZ0.out
        have HHD := Lib.hid HHD0.out
        have hS1 := HS0.out.below HZV.out
        have hD1 := HD0.out.below HZV.out
        have hF1 := HF00.out.below HZV.out
        have hQ1 := HQ0.out.below HZV.out
        obtain ⟨e0, e1, -, -⟩ := hS1.two
        have hsl := hS1.lt
        obtain ⟨bD, oD, rfl, -, hDc⟩ := hD1.holds.spot (by simp [bits]; have := HBL.out; omega)
        have HDC := Lib.hid hDc
        have HF1 := Lib.hid hF1
        have hrn8 : rn ≤ 8 := by rw [← hrl5]; exact hl8
        clear hbj hrow5 hrl5 hst1 hyes hno hy hv htm hcase hS1 hD1 hF1 hQ1 hDc hfr5 hl8
        go_wp2_with fail
        refine (paCross_any bD oD n dC rA rn rc sb rx t wv HDC.out HBL.out (by omega) (by omega) HRW.out HRL.out (by omega) HST1.out).mono ?_
        rintro e wa ⟨A6, c6, rfl, hf6, hba⟩
        have hfln : (flipped sb rx).length = n := by rw [flipped_len, HBL.out]
        rw [hfln]
        have HFLN := Lib.hid hfln
        have hN0 := Whole.fresh wa 44 #[.slice A6 n c6, .bool (!t)]
        have hf7 := hf6.alloc (.cells #[.slice A6 n c6, .bool (!t)] 44)
        have hba2 := hba.alloc hba.size (.cells #[.slice A6 n c6, .bool (!t)] 44)
        obtain ⟨n0, n1, -, -⟩ := hN0.two
        have hnl := hN0.lt
        have hza := hba.size
        clear hba hf6 e0 e1 hsl hcell5 hbl5 hfln
        go_wp2_with fail
        refine (seIndex_any A6 n c6 (flipped sb rx) (!t) _ hf7.holds HFLN.out hn8).mono ?_
        rintro e wb ⟨rfl, hbb⟩
        rw [HY9.out]
        have HBX := Lib.hid (below_then hba2 hbb hba2.size)
        have HNB := Lib.hid (hN0.below hbb)
        have HDB := Lib.hid (hf7.below hbb)
        have HBW := Lib.hid (below_then HZV.out HBX.out HZV.out.size)
        have HRWb := Lib.hid (HRW.out.below HBX.out)
        have k0 := num_cellW (v := v) (HF1.out.below HBX.out) (i := y) (by rw [HZ.out]; exact hyz) HV0.out
        have hfl2 := (HF1.out.below HBX.out).lt
        have HQ := Lib.hid HQ0.out
        have HS := Lib.hid HS0.out
        have HF := Lib.hid HF00.out
        have HD := Lib.hid HD0.out
        have hdv : decide (0 ≤ v) = true := by simpa using hv1
        clear hba2 hbb hN0 hf7 n0 n1 hnl
        rcases HCS.out with ⟨hje, hrxl, heq⟩ | ⟨hjj, hneq⟩
        · have hbq : (v + tm == u) = true := by simpa using heq
          subst hrxl
          clear heq hje
          go_upto_region 10 with fail
          clear k0 hfl2
          go_wp2_with fail
          refine wp_region_held_drew (S := (fun w' => Box3 w.heap.size (.slice A n c) (.slice B m d) (.int .i64 s) w' ∧ TwoR w2.heap.size (.slice (some ⟨bD, oD, none⟩) n dC) (.bool t) w' ∧ w'.cell? ⟨gF, x0, none⟩ = some (.int .i64 u))) (by kernel_rfl) ⟨box3_of (HQ.out.below (below_then HBW.out (Below.refl wb.heap.size wb).drew HBW.out.size)), two_ofR (HS.out.below (below_then HBW.out (Below.refl wb.heap.size wb).drew HBW.out.size)), num_cellW (v := u) (HF.out.below (below_then HBW.out (Below.refl wb.heap.size wb).drew HBW.out.size)) (i := x0) (by rw [HZ.out]; exact hxz) HF0.out⟩ (fun hHeld => ?_)
          have hbr := (Below.refl wb.heap.size wb).drew
          generalize World.drew wb = wd at hbr hHeld ⊢
          refine wpAnyH_take (i := 0) (v := ?_) rfl (by kernel_rfl) (by kernel_rfl) (by kernel_rfl) (fun _ _ _ h => h) (Or.inl ⟨rfl, ?_⟩) hHeld ?_
          rotate_left
          · intro w' hS; obtain ⟨⟨s0, s1, s2⟩, ⟨s3, s4⟩, s5⟩ := hS; go_simp <;> with_reducible rfl
          simp only [Act.put, List.getElem_toArray, List.getElem_cons_succ, List.getElem_cons_zero, List.setIfInBounds_toArray, List.set_cons_succ, List.set_cons_zero]
          refine wpAnyH_take (i := 1) (v := ?_) rfl (by kernel_rfl) (by kernel_rfl) (by kernel_rfl) (fun _ _ _ h => h) (Or.inl ⟨rfl, ?_⟩) hHeld ?_
          rotate_left
          · intro w' hS; obtain ⟨⟨s0, s1, s2⟩, ⟨s3, s4⟩, s5⟩ := hS; go_simp <;> with_reducible rfl
          simp only [Act.put, List.getElem_toArray, List.getElem_cons_succ, List.getElem_cons_zero, List.setIfInBounds_toArray, List.set_cons_succ, List.set_cons_zero]
          refine wpAnyH_take (i := 2) (v := ?_) rfl (by kernel_rfl) (by kernel_rfl) (by kernel_rfl) (fun _ _ _ h => h) (Or.inl ⟨rfl, ?_⟩) hHeld ?_
          rotate_left
          · intro w' hS; obtain ⟨⟨s0, s1, s2⟩, ⟨s3, s4⟩, s5⟩ := hS; go_simp <;> with_reducible rfl
          simp only [Act.put, List.getElem_toArray, List.getElem_cons_succ, List.getElem_cons_zero, List.setIfInBounds_toArray, List.set_cons_succ, List.set_cons_zero]
          refine wpAnyH_take (i := 3) (v := ?_) rfl (by kernel_rfl) (by kernel_rfl) (by kernel_rfl) (fun _ _ _ h => h) (Or.inl ⟨rfl, ?_⟩) hHeld ?_
          rotate_left
          · intro w' hS; obtain ⟨⟨s0, s1, s2⟩, ⟨s3, s4⟩, s5⟩ := hS; go_simp <;> with_reducible rfl
          simp only [Act.put, List.getElem_toArray, List.getElem_cons_succ, List.getElem_cons_zero, List.setIfInBounds_toArray, List.set_cons_succ, List.set_cons_zero]
          refine wpAnyH_take (i := 4) (v := ?_) rfl (by kernel_rfl) (by kernel_rfl) (by kernel_rfl) (fun _ _ _ h => h) (Or.inl ⟨rfl, ?_⟩) hHeld ?_
          rotate_left
          · intro w' hS; obtain ⟨⟨s0, s1, s2⟩, ⟨s3, s4⟩, s5⟩ := hS; go_simp <;> with_reducible rfl
          simp only [Act.put, List.getElem_toArray, List.getElem_cons_succ, List.getElem_cons_zero, List.setIfInBounds_toArray, List.set_cons_succ, List.set_cons_zero]
          refine wpAnyH_take (i := 5) (v := ?_) rfl (by kernel_rfl) (by kernel_rfl) (by kernel_rfl) (fun _ _ _ h => h) (Or.inl ⟨rfl, ?_⟩) hHeld ?_
          rotate_left
          · intro w' hS; obtain ⟨⟨s0, s1, s2⟩, ⟨s3, s4⟩, s5⟩ := hS; go_simp <;> with_reducible rfl
          simp only [Act.put, List.getElem_toArray, List.getElem_cons_succ, List.getElem_cons_zero, List.setIfInBounds_toArray, List.set_cons_succ, List.set_cons_zero]
          refine wpAnyH_take (i := 6) (v := ?_) rfl (by kernel_rfl) (by kernel_rfl) (by kernel_rfl) (fun _ _ _ h => h) (Or.inl ⟨rfl, ?_⟩) hHeld ?_
          rotate_left
          · intro w' hS; obtain ⟨⟨s0, s1, s2⟩, ⟨s3, s4⟩, s5⟩ := hS; go_simp <;> with_reducible rfl
          simp only [Act.put, List.getElem_toArray, List.getElem_cons_succ, List.getElem_cons_zero, List.setIfInBounds_toArray, List.set_cons_succ, List.set_cons_zero]
          refine wpAnyH_take (i := 9) (v := ?_) rfl (by kernel_rfl) (by kernel_rfl) (by kernel_rfl) (fun _ _ _ h => h) (Or.inl ⟨rfl, ?_⟩) hHeld ?_
          rotate_left
          · intro w' hS; obtain ⟨⟨s0, s1, s2⟩, ⟨s3, s4⟩, s5⟩ := hS; go_simp <;> with_reducible rfl
          simp only [Act.put, List.getElem_toArray, List.getElem_cons_succ, List.getElem_cons_zero, List.setIfInBounds_toArray, List.set_cons_succ, List.set_cons_zero]
          refine wpAnyH_take (i := 10) (v := ?_) rfl (by kernel_rfl) (by kernel_rfl) (by kernel_rfl) (fun _ _ _ h => h) (Or.inl ⟨rfl, ?_⟩) hHeld ?_
          rotate_left
          · intro w' hS; obtain ⟨⟨s0, s1, s2⟩, ⟨s3, s4⟩, s5⟩ := hS; go_simp <;> with_reducible rfl
          simp only [Act.put, List.getElem_toArray, List.getElem_cons_succ, List.getElem_cons_zero, List.setIfInBounds_toArray, List.set_cons_succ, List.set_cons_zero]
          refine wpAnyH_ready (rs := [7]) (by kernel_rfl) (by simp) (AllReadyH.cons rfl (fun K hK => ?_) AllReadyH.nil)
          go_simp
          refine (loCost_any A n c B m d xs s rA rn rc rx b _ (HA.out.below (below_then HBZ.out (below_then HBW.out hbr HBW.out.size) HBZ.out.size)) (HRWb.out.below hbr) HX.out HRL.out (by omega) (by omega) HOK.out.weights HLIN.out (by omega)).mono ?_
          rintro e9 wdc ⟨rfl, hb⟩
          rw [HT9.out]
          replace hbr := below_then hbr hb hbr.size
          clear hb
          refine hK.out _ _ ⟨box3_of (HQ.out.below (below_then HBW.out hbr HBW.out.size)), two_ofR (HS.out.below (below_then HBW.out hbr HBW.out.size)), num_cellW (v := u) (HF.out.below (below_then HBW.out hbr HBW.out.size)) (i := x0) (by rw [HZ.out]; exact hxz) HF0.out⟩ (fun hHeld => ?_)
          clear hK K
          try simp only [Act.put, List.getElem_toArray, List.getElem_cons_succ, List.getElem_cons_zero, List.setIfInBounds_toArray, List.set_cons_succ, List.set_cons_zero]
          refine wpAnyH_take (i := 8) (v := ?_) rfl (by kernel_rfl) (by kernel_rfl) (by kernel_rfl) (fun _ _ _ h => h) (Or.inl ⟨rfl, ?_⟩) hHeld ?_
          rotate_left
          · intro w' hS; obtain ⟨⟨s0, s1, s2⟩, ⟨s3, s4⟩, s5⟩ := hS; go_simp <;> with_reducible rfl
          simp only [Act.put, List.getElem_toArray, List.getElem_cons_succ, List.getElem_cons_zero, List.setIfInBounds_toArray, List.set_cons_succ, List.set_cons_zero]
          refine wpAnyH_ready (rs := [11]) (by kernel_rfl) (by simp) (AllReadyH.cons rfl (fun K hK => ?_) AllReadyH.nil)
          go_simp
          refine (seIndex_any (some ⟨bD, oD, none⟩) n dC sb t _ (HD.out.below (below_then HBW.out hbr HBW.out.size)).holds HBL.out hn8).mono ?_
          rintro e9 wdcs ⟨rfl, hb⟩
          rw [HX0.out]
          replace hbr := below_then hbr hb hbr.size
          clear hb
          refine hK.out _ _ ⟨box3_of (HQ.out.below (below_then HBW.out hbr HBW.out.size)), two_ofR (HS.out.below (below_then HBW.out hbr HBW.out.size)), num_cellW (v := u) (HF.out.below (below_then HBW.out hbr HBW.out.size)) (i := x0) (by rw [HZ.out]; exact hxz) HF0.out⟩ (fun hHeld => ?_)
          clear hK K
          try simp only [Act.put, List.getElem_toArray, List.getElem_cons_succ, List.getElem_cons_zero, List.setIfInBounds_toArray, List.set_cons_succ, List.set_cons_zero]
          refine wpAnyH_take (i := 12) (v := ?_) rfl (by kernel_rfl) (by kernel_rfl) (by kernel_rfl) (fun _ _ _ h => h) (Or.inl ⟨rfl, ?_⟩) hHeld ?_
          rotate_left
          · intro w' hS; obtain ⟨⟨s0, s1, s2⟩, ⟨s3, s4⟩, s5⟩ := hS; go_simp <;> with_reducible rfl
          simp only [Act.put, List.getElem_toArray, List.getElem_cons_succ, List.getElem_cons_zero, List.setIfInBounds_toArray, List.set_cons_succ, List.set_cons_zero]
          refine wpAnyH_take (i := 13) (v := ?_) rfl (by kernel_rfl) (by kernel_rfl) (by kernel_rfl) (fun _ _ _ h => h) (Or.inl ⟨rfl, ?_⟩) hHeld ?_
          rotate_left
          · intro w' hS; obtain ⟨⟨s0, s1, s2⟩, ⟨s3, s4⟩, s5⟩ := hS; go_simp <;> with_reducible rfl
          simp only [Act.put, List.getElem_toArray, List.getElem_cons_succ, List.getElem_cons_zero, List.setIfInBounds_toArray, List.set_cons_succ, List.set_cons_zero]
          refine wpAnyH_take (i := 14) (v := ?_) rfl (by kernel_rfl) (by kernel_rfl) (by kernel_rfl) (fun _ _ _ h => h) (Or.inl ⟨rfl, ?_⟩) hHeld ?_
          rotate_left
          · intro w' hS; obtain ⟨⟨s0, s1, s2⟩, ⟨s3, s4⟩, s5⟩ := hS; go_simp <;> with_reducible rfl
          simp only [Act.put, List.getElem_toArray, List.getElem_cons_succ, List.getElem_cons_zero, List.setIfInBounds_toArray, List.set_cons_succ, List.set_cons_zero]
          refine wpAnyH_take (i := 15) (v := ?_) rfl (by kernel_rfl) (by kernel_rfl) (by kernel_rfl) (fun _ _ _ h => h) (Or.inl ⟨rfl, ?_⟩) hHeld ?_
          rotate_left
          · intro w' hS; obtain ⟨⟨s0, s1, s2⟩, ⟨s3, s4⟩, s5⟩ := hS; go_simp <;> with_reducible rfl
          simp only [Act.put, List.getElem_toArray, List.getElem_cons_succ, List.getElem_cons_zero, List.setIfInBounds_toArray, List.set_cons_succ, List.set_cons_zero]
          refine wpAnyH_done (by kernel_rfl) ?_ _
          clear hHeld
          have HBC := Lib.hid (below_then HBX.out hbr HBX.out.size)
          have HBS := Lib.hid (below_then HBW.out hbr HBW.out.size)
          have hlw := HBS.out.size
          have HOWN := Lib.hid ((HHD.out.below HBS.out).alloc (.cells #[.slice rA rn rc] 22)).1
          have HMAX := Lib.hid (show rs.length + 1 ≤ maxLen by have := HLEN.out; unfold maxLen; omega)
          have HBYT := Lib.hid (show (rs.length + 1) * 24 ≤ 140737488355328 by have := HLEN.out; omega)
          have hlo : w2.heap.size + 1 ≤ wz.heap.size := HS.out.lt
          have hzvs := HZV.out.size
          have HBASE := Lib.hid (show w2.heap.size + 1 ≤ (wdcs.alloc (.cells #[.slice rA rn rc] 22)).heap.size by simp; omega)
          have HBX9 := Lib.hid (HBS.out.alloc hlw (.cells #[.slice rA rn rc] 22))
          have HN9 := Lib.hid ((HNB.out.below hbr).alloc (.cells #[.slice rA rn rc] 22))
          have HD9 := Lib.hid ((HDB.out.below hbr).alloc (.cells #[.slice rA rn rc] 22))
          have HFRW := Lib.hid (HFR4.out.below (below_then HBJ.out HBC.out HBJ.out.size))
          clear hbr
          go_upto_region 12 with (at_builtin; refine wpList_append_lies _ rfl (.tmp 60) (.tmp 62) 32 rfl (w2.heap.size + 1) 22 i1 (.slice none 0 0) 1 24 Try.underlying32 RI.out RZ0.out RZ1.out RZ2.out rfl (by decide) (.slice E rs.length cE) rs.length (rowVals rs) rfl HOWN.out ⟨wdcs.heap.size, 0, none⟩ 1 1 [.slice rA rn rc] rfl rfl (cell_one_new _ _ _) (by simp [Value.oneCell']) (by decide) HMAX.out HBYT.out HBASE.out (wdcs.heap.size + 1) (by simp) ?_; intro g5 cap w5 hown4 hg4 hat4 hlt4)
          have hrr : ∀ k, (Value.slice E rs.length cE).ownBlock = some k → w2.heap.size + 1 ≤ k ∧ k < wz.heap.size := fun k hk => HHD.out.1.lt k hk
          have HFRX : Hid (Fresh wdcs wz.heap.size wdcs.heap.size 3 rA (nums rx)) := HFRW.out.more (show wz.heap.size ≤ w3c.heap.size from HB3C.out.size) (show w4.heap.size ≤ _ by have h1 := HBJ.out.size; have h2 := HBC.out.size; omega)
          have HH5 := Lib.hid (Heads.push (r := ⟨rA, rn, rc, rx⟩) HHD.out hlo HBS.out HFRX.out HRL.out (by show rn ≤ _; omega) hown4 hg4 hat4)
          have hB5 := (below_then HBZ.out HBX9.out HBZ.out.size).grown hg4 (show w.heap.size ≤ (wdcs.alloc (.cells #[.slice rA rn rc] 22)).heap.size by simp; omega) (fun kk hkk => by have := (hrr kk hkk).1; omega)
          have hS5 := whole_apart (HS.out.below HBX9.out) hg4 (fun e => absurd (hrr _ e.symm).1 (by omega))
          have hF5 := whole_apart (HF.out.below HBX9.out) hg4 (fun e => absurd (hrr _ e.symm).1 (by omega))
          have hQ5 := whole_apart (HQ.out.below HBX9.out) hg4 (fun e => absurd (hrr _ e.symm).1 (by omega))
          have hN5 := whole_apart HN9.out hg4 (fun e => absurd (hrr _ e.symm).2 (by omega))
          have hD5 := Fresh.kept_rowR HD9.out hg4 HOWN.out (by decide)
          obtain ⟨a0, a1, a2, a3⟩ := hS5.two
          have hal := hS5.lt
          obtain ⟨n0, n1, -, -⟩ := hN5.two
          have hnl := hN5.lt
          have hz5 := hB5.size
          have HB7 := Lib.hid (below_set (b := w2.heap.size) (o := 1) (u := .bool (!t)) (below_set (b := w2.heap.size) (o := 0) (u := .slice A6 n c6) hB5 (by omega)) (by omega))
          have HH7 := Lib.hid ((HH5.out.set_lowR (b := w2.heap.size) (by omega) 0 (.slice A6 n c6)).set_lowR (b := w2.heap.size) (by omega) 1 (.bool (!t)))
          have HS7 := Lib.hid ((hS5.set_ 0 (.slice A6 n c6)).set_ 1 (.bool (!t)))
          have HF7 := Lib.hid ((hF5.off (b := w2.heap.size) (o := 0) (u := .slice A6 n c6) (by omega)).off (b := w2.heap.size) (o := 1) (u := .bool (!t)) (by omega))
          have HQ7 := Lib.hid ((hQ5.off (b := w2.heap.size) (o := 0) (u := .slice A6 n c6) (by omega)).off (b := w2.heap.size) (o := 1) (u := .bool (!t)) (by omega))
          have HD7 := Lib.hid ((hD5.set_out (b := w2.heap.size) (o := 0) (u := .slice A6 n c6) (.inl (by omega))).set_out (b := w2.heap.size) (o := 1) (u := .bool (!t)) (.inl (by omega)))
          clear hown4 hg4 hat4 hlt4 hB5 hS5 hF5 hQ5 hN5 hD5
          go_wp2
          go_roundg f'
          case measure => omega
          case rel => exact ⟨flipped sb rx, !t, A6, c6, wv.heap.size, wa.heap.size, u2, rs ++ [⟨rA, rn, rc, rx⟩], some ⟨g5, 0, none⟩, cap, HFLN.out, HG.out, HLE.out, by have h := HLS9.out; rw [HGO.out] at h; rw [rowNums, List.map_append]; simpa [rowNums] using h, by rw [List.length_append]; rfl, by have h := HLEN.out; rw [List.length_append, List.length_singleton]; omega, HH7.out, HS7.out, HD7.out, .inl (by omega), HF7.out, HQ7.out, HB7.out⟩
        · have hbq : (v + tm == u) = false := by simpa using hneq
          clear hneq
          go_upto_region 10 with fail
          clear k0 hfl2
          go_wp2_with fail
          refine wp_region_held_drew (S := (fun w' => Box3 w.heap.size (.slice A n c) (.slice B m d) (.int .i64 s) w' ∧ TwoR w2.heap.size (.slice (some ⟨bD, oD, none⟩) n dC) (.bool t) w' ∧ w'.cell? ⟨gF, x0, none⟩ = some (.int .i64 u))) (by kernel_rfl) ⟨box3_of (HQ.out.below (below_then HBW.out (Below.refl wb.heap.size wb).drew HBW.out.size)), two_ofR (HS.out.below (below_then HBW.out (Below.refl wb.heap.size wb).drew HBW.out.size)), num_cellW (v := u) (HF.out.below (below_then HBW.out (Below.refl wb.heap.size wb).drew HBW.out.size)) (i := x0) (by rw [HZ.out]; exact hxz) HF0.out⟩ (fun hHeld => ?_)
          have hbr := (Below.refl wb.heap.size wb).drew
          generalize World.drew wb = wd at hbr hHeld ⊢
          refine wpAnyH_take (i := 0) (v := ?_) rfl (by kernel_rfl) (by kernel_rfl) (by kernel_rfl) (fun _ _ _ h => h) (Or.inl ⟨rfl, ?_⟩) hHeld ?_
          rotate_left
          · intro w' hS; obtain ⟨⟨s0, s1, s2⟩, ⟨s3, s4⟩, s5⟩ := hS; go_simp <;> with_reducible rfl
          simp only [Act.put, List.getElem_toArray, List.getElem_cons_succ, List.getElem_cons_zero, List.setIfInBounds_toArray, List.set_cons_succ, List.set_cons_zero]
          refine wpAnyH_take (i := 1) (v := ?_) rfl (by kernel_rfl) (by kernel_rfl) (by kernel_rfl) (fun _ _ _ h => h) (Or.inl ⟨rfl, ?_⟩) hHeld ?_
          rotate_left
          · intro w' hS; obtain ⟨⟨s0, s1, s2⟩, ⟨s3, s4⟩, s5⟩ := hS; go_simp <;> with_reducible rfl
          simp only [Act.put, List.getElem_toArray, List.getElem_cons_succ, List.getElem_cons_zero, List.setIfInBounds_toArray, List.set_cons_succ, List.set_cons_zero]
          refine wpAnyH_take (i := 2) (v := ?_) rfl (by kernel_rfl) (by kernel_rfl) (by kernel_rfl) (fun _ _ _ h => h) (Or.inl ⟨rfl, ?_⟩) hHeld ?_
          rotate_left
          · intro w' hS; obtain ⟨⟨s0, s1, s2⟩, ⟨s3, s4⟩, s5⟩ := hS; go_simp <;> with_reducible rfl
          simp only [Act.put, List.getElem_toArray, List.getElem_cons_succ, List.getElem_cons_zero, List.setIfInBounds_toArray, List.set_cons_succ, List.set_cons_zero]
          refine wpAnyH_take (i := 3) (v := ?_) rfl (by kernel_rfl) (by kernel_rfl) (by kernel_rfl) (fun _ _ _ h => h) (Or.inl ⟨rfl, ?_⟩) hHeld ?_
          rotate_left
          · intro w' hS; obtain ⟨⟨s0, s1, s2⟩, ⟨s3, s4⟩, s5⟩ := hS; go_simp <;> with_reducible rfl
          simp only [Act.put, List.getElem_toArray, List.getElem_cons_succ, List.getElem_cons_zero, List.setIfInBounds_toArray, List.set_cons_succ, List.set_cons_zero]
          refine wpAnyH_take (i := 4) (v := ?_) rfl (by kernel_rfl) (by kernel_rfl) (by kernel_rfl) (fun _ _ _ h => h) (Or.inl ⟨rfl, ?_⟩) hHeld ?_
          rotate_left
          · intro w' hS; obtain ⟨⟨s0, s1, s2⟩, ⟨s3, s4⟩, s5⟩ := hS; go_simp <;> with_reducible rfl
          simp only [Act.put, List.getElem_toArray, List.getElem_cons_succ, List.getElem_cons_zero, List.setIfInBounds_toArray, List.set_cons_succ, List.set_cons_zero]
          refine wpAnyH_take (i := 5) (v := ?_) rfl (by kernel_rfl) (by kernel_rfl) (by kernel_rfl) (fun _ _ _ h => h) (Or.inl ⟨rfl, ?_⟩) hHeld ?_
          rotate_left
          · intro w' hS; obtain ⟨⟨s0, s1, s2⟩, ⟨s3, s4⟩, s5⟩ := hS; go_simp <;> with_reducible rfl
          simp only [Act.put, List.getElem_toArray, List.getElem_cons_succ, List.getElem_cons_zero, List.setIfInBounds_toArray, List.set_cons_succ, List.set_cons_zero]
          refine wpAnyH_take (i := 6) (v := ?_) rfl (by kernel_rfl) (by kernel_rfl) (by kernel_rfl) (fun _ _ _ h => h) (Or.inl ⟨rfl, ?_⟩) hHeld ?_
          rotate_left
          · intro w' hS; obtain ⟨⟨s0, s1, s2⟩, ⟨s3, s4⟩, s5⟩ := hS; go_simp <;> with_reducible rfl
          simp only [Act.put, List.getElem_toArray, List.getElem_cons_succ, List.getElem_cons_zero, List.setIfInBounds_toArray, List.set_cons_succ, List.set_cons_zero]
          refine wpAnyH_take (i := 9) (v := ?_) rfl (by kernel_rfl) (by kernel_rfl) (by kernel_rfl) (fun _ _ _ h => h) (Or.inl ⟨rfl, ?_⟩) hHeld ?_
          rotate_left
          · intro w' hS; obtain ⟨⟨s0, s1, s2⟩, ⟨s3, s4⟩, s5⟩ := hS; go_simp <;> with_reducible rfl
          simp only [Act.put, List.getElem_toArray, List.getElem_cons_succ, List.getElem_cons_zero, List.setIfInBounds_toArray, List.set_cons_succ, List.set_cons_zero]
          refine wpAnyH_take (i := 10) (v := ?_) rfl (by kernel_rfl) (by kernel_rfl) (by kernel_rfl) (fun _ _ _ h => h) (Or.inl ⟨rfl, ?_⟩) hHeld ?_
          rotate_left
          · intro w' hS; obtain ⟨⟨s0, s1, s2⟩, ⟨s3, s4⟩, s5⟩ := hS; go_simp <;> with_reducible rfl
          simp only [Act.put, List.getElem_toArray, List.getElem_cons_succ, List.getElem_cons_zero, List.setIfInBounds_toArray, List.set_cons_succ, List.set_cons_zero]
          refine wpAnyH_ready (rs := [7]) (by kernel_rfl) (by simp) (AllReadyH.cons rfl (fun K hK => ?_) AllReadyH.nil)
          go_simp
          refine (loCost_any A n c B m d xs s rA rn rc rx b _ (HA.out.below (below_then HBZ.out (below_then HBW.out hbr HBW.out.size) HBZ.out.size)) (HRWb.out.below hbr) HX.out HRL.out (by omega) (by omega) HOK.out.weights HLIN.out (by omega)).mono ?_
          rintro e9 wdc ⟨rfl, hb⟩
          rw [HT9.out]
          replace hbr := below_then hbr hb hbr.size
          clear hb
          refine hK.out _ _ ⟨box3_of (HQ.out.below (below_then HBW.out hbr HBW.out.size)), two_ofR (HS.out.below (below_then HBW.out hbr HBW.out.size)), num_cellW (v := u) (HF.out.below (below_then HBW.out hbr HBW.out.size)) (i := x0) (by rw [HZ.out]; exact hxz) HF0.out⟩ (fun hHeld => ?_)
          clear hK K
          try simp only [Act.put, List.getElem_toArray, List.getElem_cons_succ, List.getElem_cons_zero, List.setIfInBounds_toArray, List.set_cons_succ, List.set_cons_zero]
          refine wpAnyH_take (i := 8) (v := ?_) rfl (by kernel_rfl) (by kernel_rfl) (by kernel_rfl) (fun _ _ _ h => h) (Or.inl ⟨rfl, ?_⟩) hHeld ?_
          rotate_left
          · intro w' hS; obtain ⟨⟨s0, s1, s2⟩, ⟨s3, s4⟩, s5⟩ := hS; go_simp <;> with_reducible rfl
          simp only [Act.put, List.getElem_toArray, List.getElem_cons_succ, List.getElem_cons_zero, List.setIfInBounds_toArray, List.set_cons_succ, List.set_cons_zero]
          refine wpAnyH_ready (rs := [11]) (by kernel_rfl) (by simp) (AllReadyH.cons rfl (fun K hK => ?_) AllReadyH.nil)
          go_simp
          refine (seIndex_any (some ⟨bD, oD, none⟩) n dC sb t _ (HD.out.below (below_then HBW.out hbr HBW.out.size)).holds HBL.out hn8).mono ?_
          rintro e9 wdcs ⟨rfl, hb⟩
          rw [HX0.out]
          replace hbr := below_then hbr hb hbr.size
          clear hb
          refine hK.out _ _ ⟨box3_of (HQ.out.below (below_then HBW.out hbr HBW.out.size)), two_ofR (HS.out.below (below_then HBW.out hbr HBW.out.size)), num_cellW (v := u) (HF.out.below (below_then HBW.out hbr HBW.out.size)) (i := x0) (by rw [HZ.out]; exact hxz) HF0.out⟩ (fun hHeld => ?_)
          clear hK K
          try simp only [Act.put, List.getElem_toArray, List.getElem_cons_succ, List.getElem_cons_zero, List.setIfInBounds_toArray, List.set_cons_succ, List.set_cons_zero]
          refine wpAnyH_take (i := 12) (v := ?_) rfl (by kernel_rfl) (by kernel_rfl) (by kernel_rfl) (fun _ _ _ h => h) (Or.inl ⟨rfl, ?_⟩) hHeld ?_
          rotate_left
          · intro w' hS; obtain ⟨⟨s0, s1, s2⟩, ⟨s3, s4⟩, s5⟩ := hS; go_simp <;> with_reducible rfl
          simp only [Act.put, List.getElem_toArray, List.getElem_cons_succ, List.getElem_cons_zero, List.setIfInBounds_toArray, List.set_cons_succ, List.set_cons_zero]
          refine wpAnyH_take (i := 13) (v := ?_) rfl (by kernel_rfl) (by kernel_rfl) (by kernel_rfl) (fun _ _ _ h => h) (Or.inl ⟨rfl, ?_⟩) hHeld ?_
          rotate_left
          · intro w' hS; obtain ⟨⟨s0, s1, s2⟩, ⟨s3, s4⟩, s5⟩ := hS; go_simp <;> with_reducible rfl
          simp only [Act.put, List.getElem_toArray, List.getElem_cons_succ, List.getElem_cons_zero, List.setIfInBounds_toArray, List.set_cons_succ, List.set_cons_zero]
          refine wpAnyH_take (i := 14) (v := ?_) rfl (by kernel_rfl) (by kernel_rfl) (by kernel_rfl) (fun _ _ _ h => h) (Or.inl ⟨rfl, ?_⟩) hHeld ?_
          rotate_left
          · intro w' hS; obtain ⟨⟨s0, s1, s2⟩, ⟨s3, s4⟩, s5⟩ := hS; go_simp <;> with_reducible rfl
          simp only [Act.put, List.getElem_toArray, List.getElem_cons_succ, List.getElem_cons_zero, List.setIfInBounds_toArray, List.set_cons_succ, List.set_cons_zero]
          refine wpAnyH_take (i := 15) (v := ?_) rfl (by kernel_rfl) (by kernel_rfl) (by kernel_rfl) (fun _ _ _ h => h) (Or.inl ⟨rfl, ?_⟩) hHeld ?_
          rotate_left
          · intro w' hS; obtain ⟨⟨s0, s1, s2⟩, ⟨s3, s4⟩, s5⟩ := hS; go_simp <;> with_reducible rfl
          simp only [Act.put, List.getElem_toArray, List.getElem_cons_succ, List.getElem_cons_zero, List.setIfInBounds_toArray, List.set_cons_succ, List.set_cons_zero]
          refine wpAnyH_done (by kernel_rfl) ?_ _
          clear hHeld
          have HB9 := Lib.hid (below_then HBJ.out (below_then HBX.out hbr HBX.out.size) HBJ.out.size)
          clear hbr
          go_wp2
          go_roundw
          case rel => exact ⟨j + 1, by omega, rfl, by go_num, HB9.out⟩
          case measure => simp [intOf]; omega
    · have hdu : decide (0 < u) = false := by simpa using hu
      have HDN : Hid (rowNums rs = goB T Ls M 512 0) := by
        have h := HLS9.out
        rw [goB_stop (by unfold lf; rw [hg]; show u ≤ 0; omega), List.append_nil] at h
        exact h
      have HHZ := Lib.hid ((HHD0.out.below HBI.out).raise (show w.heap.size ≤ w2.heap.size + 1 by omega))
      have HBZ := Lib.hid (below_then HBZ0.out HBI.out HBZ0.out.size)
      clear hg hless hlen hu
      go_wp2
      go_ret
      exact ⟨E, cE, rs, rfl, HDN.out, HHZ.out, HBZ.out⟩
/-- The first plan of least cost (b: with loads). -/
noncomputable def loPl (xs : List Int) (bs : List Bool) (m : Nat) (s : Int) (b : Bool) : List (List Int) := if loOk xs bs m s b then goB (costOf xs b) (crewLists xs bs s) (costM xs bs s b xs.length) 512 0 else []
theorem loPl_le (xs : List Int) (bs : List Bool) (m : Nat) (s : Int) (b : Bool) : (loPl xs bs m s b).length ≤ 1048576 ∧ ((loPl xs bs m s b).map List.length).sum ≤ 1048576 := by
  cases h : loOk xs bs m s b
  · rw [loPl, h]; simp
  · rw [loPl, if_pos h]
    have hok : CrewOk xs m s := isCrew_ok (Bool.and_eq_true_iff.1 h).1
    refine goB_smallR fun l hl => ?_
    have h3 := up_steps (crew_up hl)
    have h4 := hok.seven
    omega
set_option maxHeartbeats 3200000 in
set_option maxRecDepth 100000 in
theorem specFirstW_any (A : Option Addr) (n c : Nat) (B : Option Addr) (m d : Nat) (xs : List Int) (bs : List Bool) (s : Int) (w : World) (hA : Holds w A (nums xs)) (hB : Holds w B (bits bs)) (hx : xs.length = n) (hy : bs.length = m) (hn : n ≤ 9223372036854775807) :
    Calls Try.prog 45 #[.agg #[.slice A n c, .slice B m d, .int .i64 s]] w (BackPost (loPl xs bs m s false) (loOk xs bs m s false) w) := by
  have HX := Lib.hid hx
  have HY := Lib.hid hy
  have HA := Lib.hid hA
  have HB := Lib.hid hB
  have hc := Whole.fresh w 57 #[.slice A n c, .slice B m d, .int .i64 s]
  have ht := below1 w (.cells #[.slice A n c, .slice B m d, .int .i64 s] 57)
  obtain ⟨c0, c1, c2⟩ := hc.cells3
  have hlg := loGood_any A n c B m d xs s _ (hA.below ht) HX.out hn
  cases h1 : isCrew xs m s
  · have HV : Hid (loPl xs bs m s false = [] ∧ loOk xs bs m s false = false) := by show _ ∧ _; simp [loPl, loOk, h1]
    have H1 := Lib.hid h1
    clear h1 hA hB hx hy
    go_enter Try.func45, Try.ntmps45
    go_wp2_with fail
    refine hlg.mono ?_
    clear hlg
    rintro e w1 ⟨rfl, hb⟩
    rw [H1.out]
    replace ht := below_then ht hb (by simp)
    clear hb hc c0 c1 c2
    go_wp2
    go_ret2
    rw [HV.out.1, HV.out.2]
    exact BackPost.no ht
  · have HOK := Lib.hid (isCrew_ok h1)
    have H1 := Lib.hid h1
    obtain ⟨v, hv⟩ : ∃ v, loV xs bs s false n = v := ⟨_, rfl⟩
    have HV0 := Lib.hid hv
    by_cases h0 : v < 0
    · have HV : Hid (loPl xs bs m s false = [] ∧ loOk xs bs m s false = false) := by show _ ∧ _; have h9 : loOk xs bs m s false = false := (by rw [loOk, hx, hv, decide_eq_false (show ¬ 0 ≤ v by omega), Bool.and_false]); exact ⟨by rw [loPl, h9]; rfl, h9⟩
      have hd : decide (v < 0) = true := by simpa using h0
      clear h1 hv hA hB hx hy h0
      go_enter Try.func45, Try.ntmps45
      go_wp2_with fail
      refine hlg.mono ?_
      clear hlg
      rintro e w1 ⟨rfl, hb⟩
      rw [H1.out]
      replace ht := below_then ht hb (by simp)
      replace hc := hc.below hb
      clear hb c0 c1 c2
      obtain ⟨c0, c1, c2⟩ := hc.cells3
      have hlc := hc.lt
      go_wp2_with fail
      refine (loLeast_any A n c B m d xs bs s false _ (HA.out.below ht) (HB.out.below ht) HX.out HY.out HOK.out).mono ?_
      rintro e w2 ⟨rfl, hb⟩
      rw [HV0.out]
      replace ht := below_then ht hb ht.size
      clear hb c0 c1 c2 hc hlc
      go_wp2
      go_ret2
      rw [HV.out.1, HV.out.2]
      exact BackPost.no ht
    · have h00 : 0 ≤ v := by omega
      have HC0 : Hid (costM xs bs s false n 0 = some v) := by show _ = _; unfold loV at hv; cases hc9 : costM xs bs s false n 0 with | none => (rw [hc9] at hv; have hv' : (-1 : Int) = v := hv; omega) | some v9 => (rw [hc9] at hv; exact congrArg some hv)
      have HV : Hid (loPl xs bs m s false = goB (costOf xs false) (crewLists xs bs s) (costM xs bs s false n) 512 0 ∧ loOk xs bs m s false = true) := by show _ ∧ _; have h9 : loOk xs bs m s false = true := (by rw [loOk, hx, hv, h1, decide_eq_true h00, Bool.and_true]); exact ⟨by rw [loPl, if_pos h9, hx], h9⟩
      have hd : decide (v < 0) = false := by simpa using h00
      clear h1 hv hA hB hx hy h0 h00
      go_enter Try.func45, Try.ntmps45
      go_wp2_with fail
      refine hlg.mono ?_
      clear hlg
      rintro e w1 ⟨rfl, hb⟩
      rw [H1.out]
      replace ht := below_then ht hb (by simp)
      replace hc := hc.below hb
      clear hb c0 c1 c2
      obtain ⟨c0, c1, c2⟩ := hc.cells3
      have hlc := hc.lt
      go_wp2_with fail
      refine (loLeast_any A n c B m d xs bs s false _ (HA.out.below ht) (HB.out.below ht) HX.out HY.out HOK.out).mono ?_
      rintro e w2 ⟨rfl, hb⟩
      rw [HV0.out]
      replace ht := below_then ht hb ht.size
      replace hc := hc.below hb
      clear hb c0 c1 c2 hlc
      obtain ⟨c0, c1, c2⟩ := hc.cells3
      have hlc := hc.lt
      go_wp2_with fail
      refine (loFirst_any A n c B m d xs bs s false v _ (HA.out.below ht) (HB.out.below ht) HX.out HY.out HOK.out HC0.out).mono ?_
      rintro e w3 ⟨G, cG, rs, rfl, hrn, hh, hb⟩
      have HRN := Lib.hid hrn
      have HH := Lib.hid (hh.raise ht.size)
      replace ht := below_then ht hb ht.size
      clear hb hrn hh c0 c1 c2 hc hlc
      go_wp2
      go_ret2
      rw [HV.out.1, HV.out.2]
      exact ⟨G, rs.length, cG, rs, rfl, HRN.out, rfl, HH.out.free, ht⟩

set_option maxHeartbeats 3200000 in
set_option maxRecDepth 100000 in
theorem specFirstC_any (A : Option Addr) (n c : Nat) (B : Option Addr) (m d : Nat) (xs : List Int) (bs : List Bool) (s : Int) (w : World) (hA : Holds w A (nums xs)) (hB : Holds w B (bits bs)) (hx : xs.length = n) (hy : bs.length = m) (hn : n ≤ 9223372036854775807) :
    Calls Try.prog 52 #[.agg #[.slice A n c, .slice B m d, .int .i64 s]] w (BackPost (loPl xs bs m s true) (loOk xs bs m s true) w) := by
  have HX := Lib.hid hx
  have HY := Lib.hid hy
  have HA := Lib.hid hA
  have HB := Lib.hid hB
  have hc := Whole.fresh w 57 #[.slice A n c, .slice B m d, .int .i64 s]
  have ht := below1 w (.cells #[.slice A n c, .slice B m d, .int .i64 s] 57)
  obtain ⟨c0, c1, c2⟩ := hc.cells3
  have hlg := loGood_any A n c B m d xs s _ (hA.below ht) HX.out hn
  cases h1 : isCrew xs m s
  · have HV : Hid (loPl xs bs m s true = [] ∧ loOk xs bs m s true = false) := by show _ ∧ _; simp [loPl, loOk, h1]
    have H1 := Lib.hid h1
    clear h1 hA hB hx hy
    go_enter Try.func52, Try.ntmps52
    go_wp2_with fail
    refine hlg.mono ?_
    clear hlg
    rintro e w1 ⟨rfl, hb⟩
    rw [H1.out]
    replace ht := below_then ht hb (by simp)
    clear hb hc c0 c1 c2
    go_wp2
    go_ret2
    rw [HV.out.1, HV.out.2]
    exact BackPost.no ht
  · have HOK := Lib.hid (isCrew_ok h1)
    have H1 := Lib.hid h1
    obtain ⟨v, hv⟩ : ∃ v, loV xs bs s true n = v := ⟨_, rfl⟩
    have HV0 := Lib.hid hv
    by_cases h0 : v < 0
    · have HV : Hid (loPl xs bs m s true = [] ∧ loOk xs bs m s true = false) := by show _ ∧ _; have h9 : loOk xs bs m s true = false := (by rw [loOk, hx, hv, decide_eq_false (show ¬ 0 ≤ v by omega), Bool.and_false]); exact ⟨by rw [loPl, h9]; rfl, h9⟩
      have hd : decide (v < 0) = true := by simpa using h0
      clear h1 hv hA hB hx hy h0
      go_enter Try.func52, Try.ntmps52
      go_wp2_with fail
      refine hlg.mono ?_
      clear hlg
      rintro e w1 ⟨rfl, hb⟩
      rw [H1.out]
      replace ht := below_then ht hb (by simp)
      replace hc := hc.below hb
      clear hb c0 c1 c2
      obtain ⟨c0, c1, c2⟩ := hc.cells3
      have hlc := hc.lt
      go_wp2_with fail
      refine (loLeast_any A n c B m d xs bs s true _ (HA.out.below ht) (HB.out.below ht) HX.out HY.out HOK.out).mono ?_
      rintro e w2 ⟨rfl, hb⟩
      rw [HV0.out]
      replace ht := below_then ht hb ht.size
      clear hb c0 c1 c2 hc hlc
      go_wp2
      go_ret2
      rw [HV.out.1, HV.out.2]
      exact BackPost.no ht
    · have h00 : 0 ≤ v := by omega
      have HC0 : Hid (costM xs bs s true n 0 = some v) := by show _ = _; unfold loV at hv; cases hc9 : costM xs bs s true n 0 with | none => (rw [hc9] at hv; have hv' : (-1 : Int) = v := hv; omega) | some v9 => (rw [hc9] at hv; exact congrArg some hv)
      have HV : Hid (loPl xs bs m s true = goB (costOf xs true) (crewLists xs bs s) (costM xs bs s true n) 512 0 ∧ loOk xs bs m s true = true) := by show _ ∧ _; have h9 : loOk xs bs m s true = true := (by rw [loOk, hx, hv, h1, decide_eq_true h00, Bool.and_true]); exact ⟨by rw [loPl, if_pos h9, hx], h9⟩
      have hd : decide (v < 0) = false := by simpa using h00
      clear h1 hv hA hB hx hy h0 h00
      go_enter Try.func52, Try.ntmps52
      go_wp2_with fail
      refine hlg.mono ?_
      clear hlg
      rintro e w1 ⟨rfl, hb⟩
      rw [H1.out]
      replace ht := below_then ht hb (by simp)
      replace hc := hc.below hb
      clear hb c0 c1 c2
      obtain ⟨c0, c1, c2⟩ := hc.cells3
      have hlc := hc.lt
      go_wp2_with fail
      refine (loLeast_any A n c B m d xs bs s true _ (HA.out.below ht) (HB.out.below ht) HX.out HY.out HOK.out).mono ?_
      rintro e w2 ⟨rfl, hb⟩
      rw [HV0.out]
      replace ht := below_then ht hb ht.size
      replace hc := hc.below hb
      clear hb c0 c1 c2 hlc
      obtain ⟨c0, c1, c2⟩ := hc.cells3
      have hlc := hc.lt
      go_wp2_with fail
      refine (loFirst_any A n c B m d xs bs s true v _ (HA.out.below ht) (HB.out.below ht) HX.out HY.out HOK.out HC0.out).mono ?_
      rintro e w3 ⟨G, cG, rs, rfl, hrn, hh, hb⟩
      have HRN := Lib.hid hrn
      have HH := Lib.hid (hh.raise ht.size)
      replace ht := below_then ht hb ht.size
      clear hb hrn hh c0 c1 c2 hc hlc
      go_wp2
      go_ret2
      rw [HV.out.1, HV.out.2]
      exact ⟨G, rs.length, cG, rs, rfl, HRN.out, rfl, HH.out.free, ht⟩

end Go.Proofs.Ytlpeimlbpiofkaa

namespace Go.Proofs.Ytlpeimlbpiofkaa
open Go.RowKit Go.Maps Go.WideShapes

theorem plcW_last {p : Nat} (h1 : 1 ≤ p) (hp : p ≤ 7) : plcC 4 (2 * 2 ^ p - 1) = place9 (firstN p) true := by
  have h : p = 1 ∨ p = 2 ∨ p = 3 ∨ p = 4 ∨ p = 5 ∨ p = 6 ∨ p = 7 := by omega
  rcases h with rfl | rfl | rfl | rfl | rfl | rfl | rfl <;> rfl
theorem lastW_mem {p : Nat} (hp : p ≤ 7) : 2 * 2 ^ p - 1 ∈ sts 4 := by
  have h : 2 ^ p ≤ 2 ^ (2 * 4) := Nat.pow_le_pow_right (by omega) (by omega)
  have h2 := Nat.two_pow_pos p
  exact sts_mem.2 (by omega)
noncomputable def fewNW (p : Nat) (L : List (List Int)) : Int := (lk (finW 4 L (2 * 2 ^ p - 1)).1 0).getD 0
noncomputable def fewBW (p : Nat) (L : List (List Int)) : Bool := (lk (finW 4 L (2 * 2 ^ p - 1)).1 0).isSome
noncomputable def fewW (xs : List Int) (bs : List Bool) (m : Nat) (s : Int) : Int := if isCrew xs m s then fewNW xs.length (crewLists xs bs s) else 0
noncomputable def fewWO (xs : List Int) (bs : List Bool) (m : Nat) (s : Int) : Bool := isCrew xs m s && fewBW xs.length (crewLists xs bs s)
theorem yields_crew {ops : Array Oper} {S : World → Prop} {o : Oper} {a : Act} {g p gL : Nat} (hw : Region.wanted o (yielded ops a.tmps) = true) (x : Operand) (ho : o.op = .load 115 x) (hx : a.eval x = .pointer (some ⟨g, 0, none⟩))
    (hS : ∀ w, S w → Whole w g 115 (crewCells p gL)) : YieldsIf Try.prog ops S o (.agg (crewCells p gL)) a :=
  .inl ⟨hw, fun w hw' => by
    unfold execOp
    simp only [ho, hx, Instr.loadAt, Instr.sureAddr, Sem.run_bind, Sem.run_pure, Result.andThen_ok, run_loadVar_row (P := Try.prog) w g 115 115 (crewCells p gL) (0, 0) _ (hS w hw') Try.underlying115 rfl size_river]⟩
theorem w9l_of {w : World} {g p gL : Nat} {t : TypeId} (h : Whole w g t (crewCells p gL)) : w.cell? ⟨g, 9, none⟩ = some (.bool (firstN p 0)) ∧ w.cell? ⟨g, 10, none⟩ = some (.bool (firstN p 1)) ∧ w.cell? ⟨g, 11, none⟩ = some (.bool (firstN p 2)) ∧ w.cell? ⟨g, 12, none⟩ = some (.bool (firstN p 3)) ∧ w.cell? ⟨g, 13, none⟩ = some (.bool (firstN p 4)) ∧ w.cell? ⟨g, 14, none⟩ = some (.bool (firstN p 5)) ∧ w.cell? ⟨g, 15, none⟩ = some (.bool (firstN p 6)) ∧ w.cell? ⟨g, 16, none⟩ = some (.bool (firstN p 7)) ∧ w.cell? ⟨g, 17, none⟩ = some (.bool true) := ⟨h.cell 9, h.cell 10, h.cell 11, h.cell 12, h.cell 13, h.cell 14, h.cell 15, h.cell 16, h.cell 17⟩

set_option maxHeartbeats 6400000 in
set_option maxRecDepth 100000 in
set_option linter.unusedSimpArgs false in
theorem fewestMovesW_any (T : List Int → Int) (p gL g : Nat) (E0 : Option Addr) (c : Nat) (L : List (List Int)) (w : World) (hp1 : 1 ≤ p) (hp : p ≤ 7) (hL : L.length ≤ 255) (hup : ∀ l ∈ L, l ∈ upLists (2 * 4) (2 * 4)) (hF0 : RidesFn w T gL g E0 c L) :
    Calls Try.prog 95 #[.agg (crewCells p gL)] w fun e w' => e = .returned (.tuple #[.int .i64 (fewNW p L), .bool (fewBW p L)]) ∧ Below w.heap.size w w' := by
  have hR := Whole.fresh w 115 (crewCells p gL)
  have hF := hF0.alloc (.cells (crewCells p gL) 115)
  have ht := below1 w (.cells (crewCells p gL) 115)
  clear hF0
  go_enter Try.func95, Try.ntmps95
  go_wp2_with fail
  refine wp_region_held_drew (S := (fun w' => Whole w' w.heap.size 115 (crewCells p gL))) (by kernel_rfl) hR.drew (fun hHeld => ?_)
  replace hR := hR.drew
  replace hF := hF.drew
  replace ht := ht.drew
  refine wpAnyH_take (i := 0) (v := .agg (crewCells p gL)) rfl (by kernel_rfl) (by kernel_rfl) (by kernel_rfl) (fun _ _ _ h => h) (yields_crew rfl _ rfl rfl (fun _ h => h)) hHeld ?_
  simp only [Act.put, List.getElem_toArray, List.getElem_cons_succ, List.getElem_cons_zero, List.setIfInBounds_toArray, List.set_cons_succ, List.set_cons_zero]
  refine wpAnyH_take (i := 1) (v := ?_) rfl (by kernel_rfl) (by kernel_rfl) (by kernel_rfl) (fun _ _ _ h => h) (Or.inl ⟨rfl, ?_⟩) hHeld ?_
  rotate_left
  · intro w' hS; skip; go_simp <;> with_reducible rfl
  simp only [Act.put, List.getElem_toArray, List.getElem_cons_succ, List.getElem_cons_zero, List.setIfInBounds_toArray, List.set_cons_succ, List.set_cons_zero]
  refine wpAnyH_take (i := 2) (v := .agg #[.bool (firstN p 0), .bool (firstN p 1), .bool (firstN p 2), .bool (firstN p 3), .bool (firstN p 4), .bool (firstN p 5), .bool (firstN p 6), .bool (firstN p 7), .bool true]) rfl (by kernel_rfl) (by kernel_rfl) (by kernel_rfl) (fun _ _ _ h => h) (Or.inl ⟨rfl, fun w' hS => by obtain ⟨s0, s1, s2, s3, s4, s5, s6, s7, s8⟩ := w9l_of hS; go_simp⟩) hHeld ?_
  simp only [Act.put, List.getElem_toArray, List.getElem_cons_succ, List.getElem_cons_zero, List.setIfInBounds_toArray, List.set_cons_succ, List.set_cons_zero]
  refine wpAnyH_take (i := 4) (v := ?_) rfl (by kernel_rfl) (by kernel_rfl) (by kernel_rfl) (fun _ _ _ h => h) (Or.inl ⟨rfl, ?_⟩) hHeld ?_
  rotate_left
  · intro w' hS; skip; go_simp <;> with_reducible rfl
  simp only [Act.put, List.getElem_toArray, List.getElem_cons_succ, List.getElem_cons_zero, List.setIfInBounds_toArray, List.set_cons_succ, List.set_cons_zero]
  refine wpAnyH_take (i := 5) (v := .agg #[.bool false, .bool false, .bool false, .bool false, .bool false, .bool false, .bool false, .bool false, .bool false]) rfl (by kernel_rfl) (by kernel_rfl) (by kernel_rfl) (fun _ _ _ h => h) (Or.inl ⟨rfl, fun w' hS => by obtain ⟨s0, s1, s2, s3, s4, s5, s6, s7, s8⟩ := w9f_of hS; go_simp⟩) hHeld ?_
  simp only [Act.put, List.getElem_toArray, List.getElem_cons_succ, List.getElem_cons_zero, List.setIfInBounds_toArray, List.set_cons_succ, List.set_cons_zero]
  refine wpAnyH_ready (rs := [3]) (by kernel_rfl) (by simp) (AllReadyH.cons rfl (fun K hK => ?_) AllReadyH.nil)
  go_simp
  have hma := movesApartW_any T 4 p gL g E0 c (2 * 2 ^ p - 1) L _ (by omega) hL hup (lastW_mem hp) hF
  rw [plcW_last hp1 hp] at hma
  unfold place9 at hma
  refine hma.mono ?_
  clear hma
  rintro e w3 ⟨b, rfl, hM, hb⟩
  replace hR := hR.below hb
  replace ht := below_then ht hb ht.size
  clear hb hF
  refine hK.out _ _ hR (fun hHeld => ?_)
  clear hK K
  try simp only [Act.put, List.getElem_toArray, List.getElem_cons_succ, List.getElem_cons_zero, List.setIfInBounds_toArray, List.set_cons_succ, List.set_cons_zero]
  refine wpAnyH_ready (rs := [6]) (by kernel_rfl) (by simp) (AllReadyH.cons rfl (fun K hK => ?_) AllReadyH.nil)
  have hlk : (Instr.lookup 76 (.map (some b)) (.agg #[.bool false, .bool false, .bool false, .bool false, .bool false, .bool false, .bool false, .bool false, .bool false]) true).run Try.prog w3 = .ok (.tuple #[.int .i64 (fewNW p L), .bool (fewBW p L)]) w3 := by have h := MapIs.look_ok hM (place_keys (show 4 ≤ 4 by omega)) Try.underlying76 Try.underlying3 (hzero _) 0 (first_mem 4); rw [plc_first (show 4 ≤ 4 by omega)] at h; exact h
  go_simp
  clear hlk hM
  refine hK.out _ _ hR (fun hHeld => ?_)
  clear hK K
  try simp only [Act.put, List.getElem_toArray, List.getElem_cons_succ, List.getElem_cons_zero, List.setIfInBounds_toArray, List.set_cons_succ, List.set_cons_zero]
  refine wpAnyH_take (i := 7) (v := ?_) rfl (by kernel_rfl) (by kernel_rfl) (by kernel_rfl) (fun _ _ _ h => h) (Or.inl ⟨rfl, ?_⟩) hHeld ?_
  rotate_left
  · intro w' hS; skip; go_simp <;> with_reducible rfl
  simp only [Act.put, List.getElem_toArray, List.getElem_cons_succ, List.getElem_cons_zero, List.setIfInBounds_toArray, List.set_cons_succ, List.set_cons_zero]
  refine wpAnyH_take (i := 8) (v := ?_) rfl (by kernel_rfl) (by kernel_rfl) (by kernel_rfl) (fun _ _ _ h => h) (Or.inl ⟨rfl, ?_⟩) hHeld ?_
  rotate_left
  · intro w' hS; skip; go_simp <;> with_reducible rfl
  simp only [Act.put, List.getElem_toArray, List.getElem_cons_succ, List.getElem_cons_zero, List.setIfInBounds_toArray, List.set_cons_succ, List.set_cons_zero]
  refine wpAnyH_take (i := 9) (v := ?_) rfl (by kernel_rfl) (by kernel_rfl) (by kernel_rfl) (fun _ _ _ h => h) (Or.inl ⟨rfl, ?_⟩) hHeld ?_
  rotate_left
  · intro w' hS; skip; go_simp <;> with_reducible rfl
  simp only [Act.put, List.getElem_toArray, List.getElem_cons_succ, List.getElem_cons_zero, List.setIfInBounds_toArray, List.set_cons_succ, List.set_cons_zero]
  refine wpAnyH_take (i := 10) (v := ?_) rfl (by kernel_rfl) (by kernel_rfl) (by kernel_rfl) (fun _ _ _ h => h) (Or.inl ⟨rfl, ?_⟩) hHeld ?_
  rotate_left
  · intro w' hS; skip; go_simp <;> with_reducible rfl
  simp only [Act.put, List.getElem_toArray, List.getElem_cons_succ, List.getElem_cons_zero, List.setIfInBounds_toArray, List.set_cons_succ, List.set_cons_zero]
  refine wpAnyH_take (i := 11) (v := ?_) rfl (by kernel_rfl) (by kernel_rfl) (by kernel_rfl) (fun _ _ _ h => h) (Or.inl ⟨rfl, ?_⟩) hHeld ?_
  rotate_left
  · intro w' hS; skip; go_simp <;> with_reducible rfl
  simp only [Act.put, List.getElem_toArray, List.getElem_cons_succ, List.getElem_cons_zero, List.setIfInBounds_toArray, List.set_cons_succ, List.set_cons_zero]
  refine wpAnyH_done (by kernel_rfl) ?_ _
  clear hHeld
  go_wp2
  go_ret2
  exact ⟨rfl, ht⟩


set_option maxHeartbeats 1600000 in
set_option maxRecDepth 100000 in
theorem implFewestWC_any (A : Option Addr) (n kA : Nat) (B : Option Addr) (m d : Nat) (xs : List Int) (bs : List Bool) (s : Int) (w : World) (hA : Holds w A (nums xs)) (hB : Holds w B (bits bs)) (hx : xs.length = n) (hy : bs.length = m) (hn : n ≤ 9223372036854775807) (hkA : n ≤ kA) (hkB : kA ≤ 9223372036854775807) :
    Calls Try.prog 43 #[.agg #[.slice A n kA, .slice B m d, .int .i64 s]] w fun e w' => e = .returned (.tuple #[.int .i64 (fewW xs bs m s), .bool (fewWO xs bs m s)]) ∧ Below w.heap.size w w' := by
  have HX := Lib.hid hx
  have HY := Lib.hid hy
  have hc := Whole.fresh w 57 #[.slice A n kA, .slice B m d, .int .i64 s]
  have ht := below1 w (.cells #[.slice A n kA, .slice B m d, .int .i64 s] 57)
  have hic := isCrew_any A n kA B m d xs s _ (hA.below ht) HX.out hn
  cases h1 : isCrew xs m s
  · have HV : Hid (fewW xs bs m s = 0 ∧ fewWO xs bs m s = false) := by show _ ∧ _; simp [fewW, fewWO, h1]
    have H1 := Lib.hid h1
    clear h1
    go_enter Try.func43, Try.ntmps43
    go_wp2_with fail
    refine hic.mono ?_
    clear hic
    rintro e w1 ⟨rfl, hb⟩
    rw [H1.out]
    replace ht := below_then ht hb (by simp)
    clear hb hc
    go_wp2
    go_ret2
    exact ⟨by rw [HV.out.1, HV.out.2]; rfl, ht⟩
  · have hok := isCrew_ok h1
    have hn7 : n ≤ 7 := by have := hok.seven; omega
    have hn1 : 1 ≤ n := by have := hok.one; omega
    have hm8 : m ≤ 8 := by have := hok.rows; omega
    have HW := Lib.hid hok.weights
    have HSM := Lib.hid (crew_small (xs := xs) bs s (by omega))
    have HUP := Lib.hid (crew_up8 (xs := xs) (bs := bs) (s := s) (by omega))
    have HV : Hid (fewW xs bs m s = fewNW n (crewLists xs bs s) ∧ fewWO xs bs m s = fewBW n (crewLists xs bs s)) := by show _ ∧ _; simp [fewW, fewWO, h1, hx]
    have H1 := Lib.hid h1
    clear h1 hok hx hy
    obtain ⟨L, hL⟩ : ∃ L, L = crewLists xs bs s := ⟨_, rfl⟩
    have HL := Lib.hid hL
    rw [← HL.out] at HSM HUP HV
    clear hL
    go_enter Try.func43, Try.ntmps43
    go_wp2_with fail
    refine hic.mono ?_
    clear hic
    rintro e w1 ⟨rfl, hb⟩
    rw [H1.out]
    replace ht := below_then ht hb (by simp)
    replace hc := hc.below hb
    clear hb
    obtain ⟨c0, c1, c2⟩ := hc.cells3
    have hlw := hc.lt
    go_wp2_with fail
    have hcr := crewRiverC_any A n kA B m d xs bs s w1 (hA.below ht) (hB.below ht) HX.out HY.out hn1 hn7 hm8 HW.out hkA hkB
    rw [← HL.out] at hcr
    refine hcr.mono ?_
    clear hcr
    rintro e w2 ⟨gL, g, E, c, rfl, hF, hb⟩
    replace ht := below_then ht hb ht.size
    clear hb c0 c1 c2 hc hlw
    have hfm := fewestMovesW_any (loadOf xs) n gL g E c L w2 hn1 hn7 HSM.out HUP.out hF
    go_wp2_with fail
    refine hfm.mono ?_
    clear hfm
    rintro e w3 ⟨rfl, hb⟩
    replace ht := below_then ht hb ht.size
    clear hb hF
    go_wp2
    go_ret2
    exact ⟨by rw [HV.out.1, HV.out.2]; rfl, ht⟩
theorem implFewestW_any (A : Option Addr) (n : Nat) (B : Option Addr) (m d : Nat) (xs : List Int) (bs : List Bool) (s : Int) (w : World) (hA : Holds w A (nums xs)) (hB : Holds w B (bits bs)) (hx : xs.length = n) (hy : bs.length = m) (hn : n ≤ 9223372036854775807) :
    Calls Try.prog 43 #[.agg #[.slice A n n, .slice B m d, .int .i64 s]] w fun e w' => e = .returned (.tuple #[.int .i64 (fewW xs bs m s), .bool (fewWO xs bs m s)]) ∧ Below w.heap.size w w' := implFewestWC_any A n n B m d xs bs s w hA hB hx hy hn (Nat.le_refl _) hn
end Go.Proofs.Ytlpeimlbpiofkaa

namespace Go.Proofs.Ytlpeimlbpiofkaa
open Go.RowKit Go.Maps Go.WideShapes

/-- How many moves are left, as the program reads it. -/
def leftI (m : List (Nat × Int)) (y : Nat) : Int := (lk m y).getD 0
noncomputable def nearer (m : List (Nat × Int)) (x : Nat) (l : List Int) : Bool := decide (leftI m (stepC x l) < leftI m x)
noncomputable def onM (k q : Nat) (m : List (Nat × Int)) (x : Nat) : List (List Int) := (mvs k q x).filter (nearer m x)
noncomputable def nearJ (m : List (Nat × Int)) (x : Nat) (rs : List RowV) (j : Nat) : List RowV := (rs.take j).filter fun r => nearer m x r.xs
theorem nearJ_yes {m : List (Nat × Int)} {x : Nat} {rs : List RowV} {j : Nat} (hj : j < rs.length) (h : nearer m x rs[j].xs = true) : nearJ m x rs (j + 1) = nearJ m x rs j ++ [rs[j]] := by
  rw [nearJ, List.take_succ_eq_append_getElem hj, List.filter_append, nearJ]; simp only [List.filter_cons, h]; simp
theorem nearJ_no {m : List (Nat × Int)} {x : Nat} {rs : List RowV} {j : Nat} (hj : j < rs.length) (h : nearer m x rs[j].xs = false) : nearJ m x rs (j + 1) = nearJ m x rs j := by
  rw [nearJ, List.take_succ_eq_append_getElem hj, List.filter_append, nearJ]; simp only [List.filter_cons, h]; simp
theorem nearJ_len (m : List (Nat × Int)) (x : Nat) (rs : List RowV) (j : Nat) : (nearJ m x rs j).length ≤ rs.length :=
  Nat.le_trans (List.length_filter_le _ _) (List.length_take_le' _ _)
theorem nearJ_all {m : List (Nat × Int)} {x : Nat} {rs : List RowV} {ls : List (List Int)} (h : rowNums rs = ls) : rowNums (nearJ m x rs rs.length) = ls.filter (nearer m x) := by
  rw [nearJ, List.take_length, ← h, rowNums, rowNums, List.filter_map]; rfl
theorem nearJ_mem {m : List (Nat × Int)} {x : Nat} {rs : List RowV} {j : Nat} {r : RowV} (h : r ∈ nearJ m x rs j) : r ∈ rs := List.mem_of_mem_take (List.mem_filter.1 h).1
theorem fresh_lower {w : World} {lo lo' hi : Nat} {ty : TypeId} {A : Option Addr} {xs : List Value} (h : Fresh w lo hi ty A xs) (hl : lo' ≤ lo) : Fresh w lo' hi ty A xs := by
  rcases h with f1 | ⟨g, cs, e1, e2, e3, e4⟩
  · exact .inl f1
  · exact .inr ⟨g, cs, e1, by omega, e3, e4⟩
/-- Each of the rows lies in memory of the call's own. -/
theorem Spread.fresh {w : World} {lo : Nat} {A : Option Addr} {rs : List RowV} (h : Spread w lo A rs) : ∀ r ∈ rs, Fresh w lo w.heap.size 3 r.A (nums r.xs) ∧ r.xs.length = r.n ∧ r.n ≤ 1048576 := by
  obtain ⟨ps, ⟨h1, h2, -⟩, h3, -⟩ := h
  intro r hr
  obtain ⟨i, hi, rfl⟩ := List.getElem_of_mem hr
  obtain ⟨f1, f2, f3⟩ := h2 i rs[i] (ps[i]'(by omega)) (List.getElem?_eq_getElem hi) (List.getElem?_eq_getElem (by omega))
  obtain ⟨p1, p2⟩ := h3 (ps[i]'(by omega)) (List.getElem_mem _)
  refine ⟨?_, f2, f3⟩
  rcases f1 with f1 | ⟨g, cs, e1, e2, e3, e4⟩
  · exact .inl f1
  · exact .inr ⟨g, cs, e1, by omega, by omega, e4⟩
def OnwardPost (k q : Nat) (m : List (Nat × Int)) (x : Nat) (w : World) (e : Ending) (w' : World) : Prop :=
  ∃ (A : Option Addr) (c : Nat) (rs : List RowV), e = .returned (.slice A rs.length c) ∧ rowNums rs = onM k q m x ∧ w'.ownsRow w.heap.size 155 10 (.slice A rs.length c) rs.length (movesCells (bitsOf (x / 2) (2 * k)) (bitAt x 0) rs) ∧ (∀ r ∈ rs, Fresh w' w.heap.size w'.heap.size 3 r.A (nums r.xs) ∧ r.xs.length = r.n ∧ r.n ≤ 1048576) ∧ Below w.heap.size w w'

end Go.Proofs.Ytlpeimlbpiofkaa

namespace Go.Proofs.Ytlpeimlbpiofkaa
open Go.RowKit Go.Maps Go.WideShapes

noncomputable def onW (k : Nat) (L : List (List Int)) (m : List (Nat × Int)) (x : Nat) : List (List Int) := (mvsW k L x).filter (nearer m x)
def OnwardPostW (k : Nat) (L : List (List Int)) (m : List (Nat × Int)) (x : Nat) (w : World) (e : Ending) (w' : World) : Prop :=
  ∃ (A : Option Addr) (c : Nat) (rs : List RowV), e = .returned (.slice A rs.length c) ∧ rowNums rs = onW k L m x ∧ w'.ownsRow w.heap.size 155 10 (.slice A rs.length c) rs.length (movesCells (bitsOf (x / 2) (2 * k)) (bitAt x 0) rs) ∧ (∀ r ∈ rs, Fresh w' w.heap.size w'.heap.size 3 r.A (nums r.xs) ∧ r.xs.length = r.n ∧ r.n ≤ 1048576) ∧ Below w.heap.size w w'

set_option maxHeartbeats 12800000 in
set_option maxRecDepth 100000 in
set_option linter.unusedSimpArgs false in
theorem onwardW_any (T : List Int → Int) (k p gL g : Nat) (E0 : Option Addr) (c0 b x : Nat) (L : List (List Int)) (m : List (Nat × Int)) (w : World) (hk : k ≤ 4) (hL : L.length ≤ 255) (hup : ∀ l ∈ L, l ∈ upLists (2 * k) (2 * k)) (hxd : x ∈ sts k) (hM : SeaMap k w b m) (hF : RidesFn w T gL g E0 c0 L) :
    Calls Try.prog 135 #[.agg (crewCells p gL), .map (some b), .agg (plcC k x)] w (OnwardPostW k L m x w) := by
  have HLL := Lib.hid hL
  have HUP := Lib.hid hup
  clear hL hup
  obtain ⟨i0, hi, hz0, hz1, hz2⟩ := info_parts info_move
  have HI := Lib.hid hi
  have HZ0 := Lib.hid hz0
  have HZ1 := Lib.hid hz1
  have HZ2 := Lib.hid hz2
  have HR := (Whole.fresh w 115 (crewCells p gL)).alloc (.cells (plcC k x) 75)
  have hat := Whole.fresh (w.alloc (.cells (crewCells p gL) 115)) 75 (plcC k x)
  rw [World.size_alloc] at hat
  have ht := below2 w (.cells (crewCells p gL) 115) (.cells (plcC k x) 75)
  have HM := Lib.hid ((hM.alloc (.cells (crewCells p gL) 115)).alloc (.cells (plcC k x) 75))
  have HFN := Lib.hid ((hF.alloc (.cells (crewCells p gL) 115)).alloc (.cells (plcC k x) 75))
  have e18 := crew_cell HR
  have hrl0 := HR.lt
  have HT := Lib.hid ht
  have HAT := Lib.hid hat
  obtain ⟨e0, e1, e2, e3, e4, e5, e6, e7, e8⟩ := nine0_of hat
  have hal := hat.lt
  clear hi hz0 hz1 hz2 hM hF ht hat HR
  unfold plcC place9 crewCells ridesFnV at HM HFN HT HAT e18 hrl0 e0 e1 e2 e3 e4 e5 e6 e7 e8 hal
  unfold plcC place9 crewCells ridesFnV
  go_enter Try.func135, Try.ntmps135
  go_wp2_with fail
  have hrf := ridesFn_any T (2 * k) gL g E0 c0 L (bitsOf (x / 2) (2 * k)) (bitAt x 0) _ (by omega) (bitsOf_len _ _) HLL.out HUP.out HFN.out
  rw [show placeCells (bitsOf (x / 2) (2 * k)) (bitAt x 0) = plcC k x from rfl] at hrf
  unfold plcC place9 at hrf
  refine hrf.mono ?_
  clear hrf
  rintro e w2 ⟨A1, c1, rs, rfl, hrn, hMv, hb⟩
  have HRN : Hid (rowNums rs = mvsW k L x) := hrn
  have hrl : rs.length ≤ 255 := by have h1 := congrArg List.length hrn; have h2 := mvsW_len (k := k) (x := x) HLL.out; rw [rowNums_len] at h1; rw [h1]; exact h2
  have hw12 := hb.size
  simp only [World.size_alloc] at hw12
  have HLO : Hid (w.heap.size + 1 + 1 ≤ w2.heap.size) := hw12
  have HT2 := Lib.hid (below_then HT.out hb HT.out.size)
  have HA2 := Lib.hid (HAT.out.below hb)
  have HM2 := Lib.hid (HM.out.below hb)
  have HMV := Lib.hid hMv
  clear hb hMv hrn e0 e1 e2 e3 e4 e5 e6 e7 e8 e18 hrl0 hal hw12 HT HAT HM HFN
  go_wp2
  go_loopw [7, 15] (fun v i wr => ∃ (j : Nat) (D : Option Addr) (c : Nat), j ≤ rs.length ∧ i = .int .i64 j ∧ v = .slice D (nearJ m x rs j).length c ∧ wr.ownsRow w2.heap.size 155 10 (.slice D (nearJ m x rs j).length c) (nearJ m x rs j).length (movesCells (bitsOf (x / 2) (2 * k)) (bitAt x 0) (nearJ m x rs j)) ∧ Below w2.heap.size w2 wr) (fun _ i _ => rs.length - (intOf i).toNat)
  case atStart => exact ⟨0, none, 0, Nat.zero_le _, rfl, rfl, World.ownsRow_nil _ _ _ _, Below.refl _ _⟩
  case round =>
    obtain ⟨j, D, c, hj, rfl, rfl, hown, hb⟩ := hrel
    obtain ⟨wz, rfl⟩ : ∃ W : World, W = wr := ⟨_, rfl⟩
    by_cases hlt : j < rs.length
    · have hd1 : decide ((j : Int) < (rs.length : Int)) = true := by simp; omega
      have hjm : j < (mvsW k L x).length := by have h := congrArg List.length HRN.out; rw [rowNums_len] at h; omega
      have hlj : (mvsW k L x)[j] = rs[j].xs := by have h := rowNums_get hlt; simp only [HRN.out] at h; exact h
      have hmem : rs[j].xs ∈ mvsW k L x := by rw [← hlj]; exact List.getElem_mem hjm
      obtain ⟨hpc, hyd⟩ := plcW_step HUP.out hxd hmem
      obtain ⟨gr, hA1, hgrl, a0, a1, a2, a3, a4, a5, a6, a7, a8, a9⟩ := own_moves_row (HMV.out.below hb).1 hlt hpc
      subst hA1
      have hjy := nearJ_yes (m := m) (x := x) hlt
      have hjn := nearJ_no (m := m) (x := x) hlt
      have HMC : Hid (moveCells (bitsOf (x / 2) (2 * k)) (bitAt x 0) rs[j] = rs[j].val :: (plcC k (stepC x rs[j].xs)).toList) := by show _ = _; rw [moveCells, hpc]
      have hjl := nearJ_len m x rs j
      unfold nearer at hjy hjn
      obtain ⟨y, hy⟩ : ∃ y, stepC x rs[j].xs = y := ⟨_, rfl⟩
      rw [hy] at hyd a1 a2 a3 a4 a5 a6 a7 a8 a9 hjy hjn HMC
      obtain ⟨r, hr⟩ : ∃ r, rs[j] = r := ⟨_, rfl⟩
      rw [hr] at a0 hjy HMC
      have hrv : r.val = .slice r.A r.n r.c := rfl
      rw [hrv] at a0 HMC
      generalize r.A = rA at a0 HMC
      generalize r.n = rn at a0 HMC
      generalize r.c = rc at a0 HMC
      clear hpc hmem hlj hjm hy hr hrv
      generalize nearJ m x rs j = ns at hown hjy hjn hjl ⊢
      obtain ⟨dy, hdy⟩ : ∃ d, leftI m y = d := ⟨_, rfl⟩
      obtain ⟨dx, hdx⟩ : ∃ d, leftI m x = d := ⟨_, rfl⟩
      rw [hdy, hdx] at hjy hjn
      have HSY := Lib.hid hjy
      have HSN := Lib.hid hjn
      have HB := Lib.hid (hb.alloc hb.size (.cells #[.slice rA rn rc, .bool (pf k y 0), .bool (pf k y 1), .bool (pf k y 2), .bool (pf k y 3), .bool (pf k y 4), .bool (pf k y 5), .bool (pf k y 6), .bool (pf k y 7), .bool (pt y)] 155))
      have HOWN := Lib.hid (ownsRow_below hown (below1 wz (.cells #[.slice rA rn rc, .bool (pf k y 0), .bool (pf k y 1), .bool (pf k y 2), .bool (pf k y 3), .bool (pf k y 4), .bool (pf k y 5), .bool (pf k y 6), .bool (pf k y 7), .bool (pt y)] 155)))
      have HX := Whole.fresh wz 155 #[.slice rA rn rc, .bool (pf k y 0), .bool (pf k y 1), .bool (pf k y 2), .bool (pf k y 3), .bool (pf k y 4), .bool (pf k y 5), .bool (pf k y 6), .bool (pf k y 7), .bool (pt y)]
      have HXR : wz.heap.size < (wz.alloc (.cells #[.slice rA rn rc, .bool (pf k y 0), .bool (pf k y 1), .bool (pf k y 2), .bool (pf k y 3), .bool (pf k y 4), .bool (pf k y 5), .bool (pf k y 6), .bool (pf k y 7), .bool (pt y)] 155)).heap.size := by simp
      have hx0 := HX.cell 0
      obtain ⟨t0, t1, t2, t3, t4, t5, t6, t7, t8⟩ := nine1_of HX
      obtain ⟨n0, n1, n2, n3, n4, n5, n6, n7, n8⟩ := nine0_of (HA2.out.below HB.out)
      have HMB := (HM2.out.below HB.out)
      have hlk1 : (Instr.lookup 76 (.map (some b)) (.agg #[.bool (pf k y 0), .bool (pf k y 1), .bool (pf k y 2), .bool (pf k y 3), .bool (pf k y 4), .bool (pf k y 5), .bool (pf k y 6), .bool (pf k y 7), .bool (pt y)]) false).run Try.prog (World.drew (wz.alloc (.cells #[.slice rA rn rc, .bool (pf k y 0), .bool (pf k y 1), .bool (pf k y 2), .bool (pf k y 3), .bool (pf k y 4), .bool (pf k y 5), .bool (pf k y 6), .bool (pf k y 7), .bool (pt y)] 155))) = .ok (.int .i64 dy) (World.drew (wz.alloc (.cells #[.slice rA rn rc, .bool (pf k y 0), .bool (pf k y 1), .bool (pf k y 2), .bool (pf k y 3), .bool (pf k y 4), .bool (pf k y 5), .bool (pf k y 6), .bool (pf k y 7), .bool (pt y)] 155))) := by have h := MapIs.look (map_drew HMB) (place_keys hk) Try.underlying76 Try.underlying3 (hzero _) y hyd; rw [show (lk m y).getD 0 = dy from hdy] at h; exact h
      have hlk2 : (Instr.lookup 76 (.map (some b)) (.agg #[.bool (pf k x 0), .bool (pf k x 1), .bool (pf k x 2), .bool (pf k x 3), .bool (pf k x 4), .bool (pf k x 5), .bool (pf k x 6), .bool (pf k x 7), .bool (pt x)]) false).run Try.prog (World.drew (wz.alloc (.cells #[.slice rA rn rc, .bool (pf k y 0), .bool (pf k y 1), .bool (pf k y 2), .bool (pf k y 3), .bool (pf k y 4), .bool (pf k y 5), .bool (pf k y 6), .bool (pf k y 7), .bool (pt y)] 155))) = .ok (.int .i64 dx) (World.drew (wz.alloc (.cells #[.slice rA rn rc, .bool (pf k y 0), .bool (pf k y 1), .bool (pf k y 2), .bool (pf k y 3), .bool (pf k y 4), .bool (pf k y 5), .bool (pf k y 6), .bool (pf k y 7), .bool (pt y)] 155))) := by have h := MapIs.look (map_drew HMB) (place_keys hk) Try.underlying76 Try.underlying3 (hzero _) x hxd; rw [show (lk m x).getD 0 = dx from hdx] at h; exact h
      have hbs := hb.size
      have HBS := Lib.hid hbs
      have hlo2 := HLO.out
      have hxl := HX.lt
      have hal2 := (HA2.out.below HB.out).lt
      clear hown hb hjy hjn hdy hdx HMB
      go_wp2_with fail
      go_region
      clear n0 n1 n2 n3 n4 n5 n6 n7 n8 hlk1 hlk2 hal2 a0 a1 a2 a3 a4 a5 a6 a7 a8 a9
      by_cases hd : dy < dx
      · have hdd : decide (dy < dx) = true := by simpa using hd
        have HNX := Lib.hid (HSY.out hdd)
        have HB1 := Lib.hid (HB.out.drew.alloc (by have := HB.out.size; simpa using this) (.cells #[.slice rA rn rc, .bool (pf k y 0), .bool (pf k y 1), .bool (pf k y 2), .bool (pf k y 3), .bool (pf k y 4), .bool (pf k y 5), .bool (pf k y 6), .bool (pf k y 7), .bool (pt y)] 155))
        have HO1 := Lib.hid (ownsRow_below HOWN.out ((Below.refl (wz.alloc (.cells #[.slice rA rn rc, .bool (pf k y 0), .bool (pf k y 1), .bool (pf k y 2), .bool (pf k y 3), .bool (pf k y 4), .bool (pf k y 5), .bool (pf k y 6), .bool (pf k y 7), .bool (pt y)] 155)).heap.size (wz.alloc (.cells #[.slice rA rn rc, .bool (pf k y 0), .bool (pf k y 1), .bool (pf k y 2), .bool (pf k y 3), .bool (pf k y 4), .bool (pf k y 5), .bool (pf k y 6), .bool (pf k y 7), .bool (pt y)] 155))).drew.alloc (by simp) (.cells #[.slice rA rn rc, .bool (pf k y 0), .bool (pf k y 1), .bool (pf k y 2), .bool (pf k y 3), .bool (pf k y 4), .bool (pf k y 5), .bool (pf k y 6), .bool (pf k y 7), .bool (pt y)] 155)))
        have hne := cells_new (World.drew (wz.alloc (.cells #[.slice rA rn rc, .bool (pf k y 0), .bool (pf k y 1), .bool (pf k y 2), .bool (pf k y 3), .bool (pf k y 4), .bool (pf k y 5), .bool (pf k y 6), .bool (pf k y 7), .bool (pt y)] 155))) 155 #[.slice rA rn rc, .bool (pf k y 0), .bool (pf k y 1), .bool (pf k y 2), .bool (pf k y 3), .bool (pf k y 4), .bool (pf k y 5), .bool (pf k y 6), .bool (pf k y 7), .bool (pt y)]
        rw [show (World.drew (wz.alloc (.cells #[.slice rA rn rc, .bool (pf k y 0), .bool (pf k y 1), .bool (pf k y 2), .bool (pf k y 3), .bool (pf k y 4), .bool (pf k y 5), .bool (pf k y 6), .bool (pf k y 7), .bool (pt y)] 155))).heap.size = wz.heap.size + 1 by simp [World.drew]] at hne
        have HNEW := Lib.hid hne
        have HMAX := Lib.hid (show ns.length + 1 ≤ maxLen by unfold maxLen; omega)
        have HBYT := Lib.hid (show (ns.length + 1) * 40 ≤ 140737488355328 by omega)
        have HBASE := Lib.hid (show w2.heap.size ≤ ((World.drew (wz.alloc (.cells #[.slice rA rn rc, .bool (pf k y 0), .bool (pf k y 1), .bool (pf k y 2), .bool (pf k y 3), .bool (pf k y 4), .bool (pf k y 5), .bool (pf k y 6), .bool (pf k y 7), .bool (pt y)] 155))).alloc (.cells #[.slice rA rn rc, .bool (pf k y 0), .bool (pf k y 1), .bool (pf k y 2), .bool (pf k y 3), .bool (pf k y 4), .bool (pf k y 5), .bool (pf k y 6), .bool (pf k y 7), .bool (pt y)] 155)).heap.size by have := HBS.out; simp [World.drew]; omega)
        clear hne
        go_wp2_with (at_builtin; refine wpList_append_lies _ rfl (.tmp 27) (.tmp 29) 153 rfl w2.heap.size 155 i0 (.agg #[.slice none 0 0, .bool false, .bool false, .bool false, .bool false, .bool false, .bool false, .bool false, .bool false, .bool false]) 10 40 Try.underlying153 HI.out HZ0.out HZ1.out HZ2.out rfl (by decide) (.slice D ns.length c) ns.length (movesCells (bitsOf (x / 2) (2 * k)) (bitAt x 0) ns) rfl HO1.out ⟨wz.heap.size + 1, 0, none⟩ 1 1 [.slice rA rn rc, .bool (pf k y 0), .bool (pf k y 1), .bool (pf k y 2), .bool (pf k y 3), .bool (pf k y 4), .bool (pf k y 5), .bool (pf k y 6), .bool (pf k y 7), .bool (pt y)] rfl rfl HNEW.out (by simp [Value.oneCell']) (by decide) HMAX.out HBYT.out HBASE.out (wz.heap.size + 1 + 1) (by simp [World.drew]) ?_; intro g1 cap w5 hown4 hg4 hat4 hlt4)
        have HBN := Lib.hid (HB1.out.grown hg4 HBASE.out (fun kk hkk => (HO1.out.lt kk hkk).1))
        have HO4 : Hid (w5.ownsRow w2.heap.size 155 10 (.slice (some ⟨g1, 0, none⟩) (ns.length + 1) cap) (ns.length + 1) (movesCells (bitsOf (x / 2) (2 * k)) (bitAt x 0) (ns ++ [r]))) := by show World.ownsRow _ _ _ _ _ _ _; rw [movesCells_snoc, HMC.out]; exact hown4
        clear hown4 hg4 hat4 hlt4 hx0 t0 t1 t2 t3 t4 t5 t6 t7 t8
        go_roundw
        case rel => exact ⟨j + 1, some ⟨g1, 0, none⟩, cap, by omega, by go_num, by rw [HNX.out, List.length_append]; rfl, by rw [HNX.out, List.length_append]; exact HO4.out, HBN.out⟩
        case measure => simp [intOf]; omega
      · have hdd : decide (dy < dx) = false := by simpa using hd
        have HNX := Lib.hid (HSN.out hdd)
        have HB1 := Lib.hid HB.out.drew
        have HO1 := Lib.hid (ownsRow_below HOWN.out ((Below.refl (wz.alloc (.cells #[.slice rA rn rc, .bool (pf k y 0), .bool (pf k y 1), .bool (pf k y 2), .bool (pf k y 3), .bool (pf k y 4), .bool (pf k y 5), .bool (pf k y 6), .bool (pf k y 7), .bool (pt y)] 155)).heap.size (wz.alloc (.cells #[.slice rA rn rc, .bool (pf k y 0), .bool (pf k y 1), .bool (pf k y 2), .bool (pf k y 3), .bool (pf k y 4), .bool (pf k y 5), .bool (pf k y 6), .bool (pf k y 7), .bool (pt y)] 155))).drew))
        clear hx0 t0 t1 t2 t3 t4 t5 t6 t7 t8
        go_wp2
        go_roundw
        case rel => exact ⟨j + 1, D, c, by omega, by go_num, by rw [HNX.out], by rw [HNX.out]; exact HO1.out, HB1.out⟩
        case measure => simp [intOf]; omega
    · obtain rfl : j = rs.length := by omega
      have hd1 : decide ((rs.length : Int) < (rs.length : Int)) = false := by simp
      have HO := Lib.hid (own_lower hown (show w.heap.size ≤ w2.heap.size by have := HLO.out; omega))
      have HBN := Lib.hid (below_then HT2.out hb HT2.out.size)
      have HFR : Hid (∀ r ∈ nearJ m x rs rs.length, Fresh wz w.heap.size wz.heap.size 3 r.A (nums r.xs) ∧ r.xs.length = r.n ∧ r.n ≤ 1048576) := fun r hr => by
        obtain ⟨h1, h2, h3⟩ := (HMV.out.2.below hb).fresh r (nearJ_mem hr)
        exact ⟨fresh_lower h1 (by simp; omega), h2, h3⟩
      have HAL := Lib.hid (nearJ_all (m := m) (x := x) HRN.out)
      clear hown hb
      generalize nearJ m x rs rs.length = ns at *
      go_wp2
      go_ret
      exact ⟨_, _, _, rfl, HAL.out, HO.out, HFR.out, HBN.out⟩
end Go.Proofs.Ytlpeimlbpiofkaa

namespace Go.Proofs.Ytlpeimlbpiofkaa

theorem same_place {x y : Nat} (hx : x ∈ sts 4) (hy : y ∈ sts 4) : (samePlace (pf 4 x 0) (pf 4 x 1) (pf 4 x 2) (pf 4 x 3) (pf 4 x 4) (pf 4 x 5) (pf 4 x 6) (pf 4 x 7) (pt x) (pf 4 y 0) (pf 4 y 1) (pf 4 y 2) (pf 4 y 3) (pf 4 y 4) (pf 4 y 5) (pf 4 y 6) (pf 4 y 7) (pt y)) = decide (x = y) := by
  by_cases h : x = y
  · subst h
    simp [samePlace, sameEight]
  · rw [decide_eq_false h]
    cases hs : (samePlace (pf 4 x 0) (pf 4 x 1) (pf 4 x 2) (pf 4 x 3) (pf 4 x 4) (pf 4 x 5) (pf 4 x 6) (pf 4 x 7) (pt x) (pf 4 y 0) (pf 4 y 1) (pf 4 y 2) (pf 4 y 3) (pf 4 y 4) (pf 4 y 5) (pf 4 y 6) (pf 4 y 7) (pt y)) with
    | false => rfl
    | true =>
      simp only [samePlace, sameEight, Bool.and_eq_true, beq_iff_eq] at hs
      obtain ⟨⟨⟨⟨⟨⟨⟨⟨h0, h1⟩, h2⟩, h3⟩, h4⟩, h5⟩, h6⟩, h7⟩, h8⟩ := hs
      have hp : plc 4 x = plc 4 y := by rw [plc, plc, plcC, plcC, place9, place9, h0, h1, h2, h3, h4, h5, h6, h7, h8]
      have h9 := unplc_plc (k := 4) (by omega) hx
      rw [hp, unplc_plc (by omega) hy] at h9
      exact absurd h9.symm h
end Go.Proofs.Ytlpeimlbpiofkaa

namespace Go.Proofs.Ytlpeimlbpiofkaa
open Go.RowKit Go.Maps Go.WideShapes

theorem heads_only {w w' : World} {lo c b : Nat} {A : Option Addr} {rs : List RowV} {t : TypeId} {cs : Array Value} (h : Heads w lo A c rs) (ho : Only b w w') (hb : Whole w b t cs) (h1 : t ≠ 22) (h2 : t ≠ 3) : Heads w' lo A c rs := by
  obtain ⟨h0, ps, ⟨k1, k2, k3⟩, h3, h4⟩ := h
  refine ⟨own_only h0 ho hb h1, ps, ⟨k1, fun i r p hr hp => ?_, k3⟩, fun p hp => ⟨(h3 p hp).1, by rw [ho.size]; exact (h3 p hp).2⟩, h4⟩
  obtain ⟨f1, f2, f3⟩ := k2 i r p hr hp
  refine ⟨?_, f2, f3⟩
  rcases f1 with f1 | ⟨g, cs', e1, e2, e3, e4, e5⟩
  · exact .inl f1
  · exact .inr ⟨g, cs', e1, e2, e3, ho.whole e4 (whole_ne e4 hb h2.symm), e5⟩
theorem own_apart {w : World} {base size n b : Nat} {e t : TypeId} {v : Value} {xs : List Value} {cs : Array Value} (h : w.ownsRow base e size v n xs) (hb : Whole w b t cs) (hn : t ≠ e) : v.ownBlock ≠ some b := by
  obtain ⟨-, ⟨hv, -⟩ | ⟨q, cap, cur, hv, hq, hh, r⟩⟩ := h
  · rw [hv]; simp [Value.ownBlock]
  · have hw : Whole w q e cur := hh
    have h1 := whole_ne hb hw hn
    rw [hv]
    simp only [Value.ownBlock, Option.map_some]
    exact fun e => h1 (Option.some.inj e).symm
theorem fresh_wide {w : World} {lo hi hi' : Nat} {ty : TypeId} {A : Option Addr} {xs : List Value} (h : Fresh w lo hi ty A xs) (hl : hi ≤ hi') : Fresh w lo hi' ty A xs := by
  rcases h with f1 | ⟨g, cs, e1, e2, e3, e4⟩
  · exact .inl f1
  · exact .inr ⟨g, cs, e1, e2, by omega, e4⟩
theorem same_lastW {p x : Nat} (hp1 : 1 ≤ p) (hp : p ≤ 7) (hx : x ∈ sts 4) : (samePlace (pf 4 x 0) (pf 4 x 1) (pf 4 x 2) (pf 4 x 3) (pf 4 x 4) (pf 4 x 5) (pf 4 x 6) (pf 4 x 7) (pt x) (firstN p 0) (firstN p 1) (firstN p 2) (firstN p 3) (firstN p 4) (firstN p 5) (firstN p 6) (firstN p 7) true) = decide (x = 2 * 2 ^ p - 1) := by
  have h := same_place hx (lastW_mem hp)
  have h2 := plcW_last hp1 hp
  unfold plcC place9 at h2
  simp only [Array.mk.injEq, List.cons.injEq, Value.bool.injEq, and_true] at h2
  obtain ⟨e0, e1, e2, e3, e4, e5, e6, e7, e8⟩ := h2
  rw [e0, e1, e2, e3, e4, e5, e6, e7, e8] at h
  exact h
def oneT : List Int → Int := fun _ => 1
theorem one_leg (k : Nat) (L : List (List Int)) : One (RideE k L) = LegE oneT k L := by
  funext x t y
  refine propext ⟨?_, ?_⟩
  · rintro ⟨rfl, l, hl, rfl⟩
    exact ⟨l, hl, rfl, rfl⟩
  · rintro ⟨l, hl, h1, rfl⟩
    exact ⟨h1, l, hl, rfl⟩
theorem ones_ok {p : Nat} {L : List (List Int)} (hp1 : 1 ≤ p) (hp : p ≤ 7) (hL : L.length ≤ 255) (hup : ∀ l ∈ L, l ∈ upLists (2 * 4) (2 * 4)) : LeftOk oneT L (2 * 2 ^ p - 1) (lk (finW 4 L (2 * 2 ^ p - 1)).1) where
  least := by have h := leastW (k := 4) hL hup (lastW_mem hp); rwa [one_leg] at h
  dom := fun y v hy => (count_run hup (lastW_mem hp) (fun n y hy => (mild_runW hL hup (lastW_mem hp) n).dom y hy) (turns 4)).dom (y, v) (lk_mem hy)
  time := fun l _ => ⟨Int.le_refl _, by show (1 : Int) ≤ _; decide⟩
  up := hup
theorem onW_best {L : List (List Int)} {e x : Nat} {m : List (Nat × Int)} {v : Int} (h : LeftOk oneT L e (lk m)) (hx : lk m x = some v) : onW 4 L m x = bestOf oneT L (lk m) x := by
  have h3 : bestOf oneT L (lk m) x = (mvsW 4 L x).filter fun l => decide (oneT l + lf (lk m) (stepC x l) = lf (lk m) x) := by
    rw [bestOf, mvsW, ridesAt, List.filter_filter]
    exact List.filter_congr fun l _ => Bool.and_comm _ _
  rw [onW, h3]
  refine List.filter_congr fun l hl => ?_
  obtain ⟨u, hu⟩ := h.step hx hl
  obtain ⟨b, hb, hle⟩ := h.least.edge _ (oneT l) x u hu ⟨l, mvs_back h.up (h.dom _ _ hx) hl, rfl, (step_back l).symm⟩
  rw [hx] at hb
  obtain rfl := Option.some.inj hb
  unfold nearer leftI lf
  rw [hx, hu]
  show decide (u < v) = decide ((1 : Int) + u = v)
  rw [decide_eq_decide]
  unfold oneT at hle
  omega
theorem first_rowW {k x : Nat} {L : List (List Int)} {m : List (Nat × Int)} {rs : List RowV} {l : List Int} (hrn : rowNums rs = onW k L m x) (hh : (onW k L m x).head? = some l) : ∃ h : 0 < rs.length, rs[0].xs = l ∧ l ∈ mvsW k L x := by
  have hm : l ∈ onW k L m x := List.mem_of_head? hh
  rw [← hrn] at hh
  cases rs with
  | nil => simp [rowNums] at hh
  | cons r t =>
    simp [rowNums] at hh
    exact ⟨by simp, by simpa using hh, (List.mem_filter.1 hm).1⟩
/-- The first shortest list of rides. -/
noncomputable def planW (p : Nat) (L : List (List Int)) : List (List Int) := if fewBW p L then goB oneT L (lk (finW 4 L (2 * 2 ^ p - 1)).1) 512 0 else []

set_option maxHeartbeats 12800000 in
set_option maxRecDepth 100000 in
set_option linter.unusedSimpArgs false in
theorem firstMovesW_any (T : List Int → Int) (p gL g : Nat) (E0 : Option Addr) (c0 : Nat) (L : List (List Int)) (w : World) (hp1 : 1 ≤ p) (hp : p ≤ 7) (hL : L.length ≤ 255) (hup : ∀ l ∈ L, l ∈ upLists (2 * 4) (2 * 4)) (hF0 : RidesFn w T gL g E0 c0 L) :
    Calls Try.prog 98 #[.agg (crewCells p gL)] w (BackPost (planW p L) (fewBW p L) w) := by
  obtain ⟨i0, hi, hz0, hz1, hz2⟩ := info_parts info_row
  have HI := Lib.hid hi
  have HZ0 := Lib.hid hz0
  have HZ1 := Lib.hid hz1
  have HZ2 := Lib.hid hz2
  have hR := Whole.fresh w 115 (crewCells p gL)
  have hF := hF0.alloc (.cells (crewCells p gL) 115)
  have ht := below1 w (.cells (crewCells p gL) 115)
  clear hF0 hi hz0 hz1 hz2
  obtain ⟨l0, l1, l2, l3, l4, l5, l6, l7, l8⟩ := w9l_of hR
  have hrl := hR.lt
  go_enter Try.func98, Try.ntmps98
  go_wp2_with (refine wpList_load_row rfl 115 (.tmp 1) rfl w.heap.size rfl 115 (crewCells p gL) (0, 0) _ hR Try.underlying115 rfl size_river ?_)
  have hma := movesApartW_any T 4 p gL g E0 c0 (2 * 2 ^ p - 1) L _ (by omega) hL hup (lastW_mem hp) hF
  rw [plcW_last hp1 hp] at hma
  unfold place9 at hma
  refine hma.mono ?_
  clear hma
  rintro e w1 ⟨b, rfl, hM, hb⟩
  replace hR := hR.below hb
  replace hF := hF.below hb
  have hsz1 := hb.size
  rw [World.size_alloc] at hsz1
  replace ht := below_then ht hb ht.size
  clear hb l0 l1 l2 l3 l4 l5 l6 l7 l8 hrl
  obtain ⟨f0, f1, f2, f3, f4, f5, f6, f7, f8⟩ := w9f_of hR
  have hrl := hR.lt
  have hlk : (Instr.lookup 76 (.map (some b)) (.agg #[.bool false, .bool false, .bool false, .bool false, .bool false, .bool false, .bool false, .bool false, .bool false]) true).run Try.prog w1 = .ok (.tuple #[.int .i64 (fewNW p L), .bool (fewBW p L)]) w1 := by have h := MapIs.look_ok hM (place_keys (show 4 ≤ 4 by omega)) Try.underlying76 Try.underlying3 (hzero _) 0 (first_mem 4); rw [plc_first (show 4 ≤ 4 by omega)] at h; exact h
  have HM := Lib.hid (show SeaMap 4 w1 b (finW 4 L (2 * 2 ^ p - 1)).1 from hM)
  have HF := Lib.hid hF
  have HR := Lib.hid hR
  have HT := Lib.hid ht
  clear hM hF ht
  cases hB : fewBW p L
  · have HL : Hid (planW p L = [] ∧ fewBW p L = false) := by show _ ∧ _; simp [planW, hB]
    rw [hB] at hlk
    clear hB
    go_wp2
    go_ret2
    rw [HL.out.1, HL.out.2]
    exact BackPost.no HT.out
  · have HL : Hid (planW p L = goB oneT L (lk (finW 4 L (2 * 2 ^ p - 1)).1) 512 0 ∧ fewBW p L = true) := by show _ ∧ _; simp [planW, hB]
    have HOK := Lib.hid (ones_ok hp1 hp hL hup)
    have HUP := Lib.hid hup
    have HLL := Lib.hid hL
    obtain ⟨v0, hv0⟩ : ∃ v0, lk (finW 4 L (2 * 2 ^ p - 1)).1 0 = some v0 := Option.isSome_iff_exists.1 hB
    have HG := Lib.hid hv0
    clear hv0
    rw [hB] at hlk
    clear hB
    have hp0 := Whole.fresh w1 75 #[.bool false, .bool false, .bool false, .bool false, .bool false, .bool false, .bool false, .bool false, .bool false]
    have HP0 : Hid (Whole (w1.alloc (.cells #[.bool false, .bool false, .bool false, .bool false, .bool false, .bool false, .bool false, .bool false, .bool false] 75)) w1.heap.size 75 (plcC 4 0)) := by
      have e : plcC 4 0 = #[.bool false, .bool false, .bool false, .bool false, .bool false, .bool false, .bool false, .bool false, .bool false] := by have h := plc_first (show 4 ≤ 4 by omega); rw [plc] at h; exact Value.agg.inj h
      show Whole _ _ _ _
      rw [e]; exact hp0
    have hpl0 := hp0.lt
    clear hp0
    generalize (finW 4 L (2 * 2 ^ p - 1)).1 = m at HM HG HOK HL
    go_wp2
    go_loopg [7, 8] 512 (fun gh v pv wr => ∃ (x gp : Nat) (u : Int) (rs : List RowV) (D : Option Addr) (cD : Nat), lk m x = some u ∧ lessN (sts 4) (lk m) u ≤ gh ∧ rowNums rs ++ goB oneT L (lk m) gh x = goB oneT L (lk m) 512 0 ∧ v = .slice D rs.length cD ∧ pv = .pointer (some ⟨gp, 0, none⟩) ∧ rs.length + gh = 512 ∧ Heads wr w1.heap.size D cD rs ∧ Whole wr gp 75 (plcC 4 x) ∧ w1.heap.size ≤ gp ∧ Below w1.heap.size w1 wr)
    case atStart => exact ⟨0, w1.heap.size, v0, [], none, 0, HG.out, Nat.le_trans (less_le _ _ _) (by rw [show (sts 4).length = 512 from List.length_range]; exact Nat.le_refl _), rfl, rfl, rfl, rfl, Heads.nil _ _, HP0.out, Nat.le_refl _, below1 _ _⟩
    case round =>
      clear HP0 HG f0 f1 f2 f3 f4 f5 f6 f7 f8 hlk hrl hpl0
      obtain ⟨x, gp, u, rs, D, cD, hg, hless, hls, rfl, rfl, hlen, hH, hP, hgp, hb⟩ := hrel
      have hxd := HOK.out.dom x u hg
      obtain ⟨wz, rfl⟩ : ∃ W : World, W = wr := ⟨_, rfl⟩
      have hR1 := HR.out.below hb
      have hrl := hR1.lt
      obtain ⟨l0, l1, l2, l3, l4, l5, l6, l7, l8⟩ := w9l_of hR1
      obtain ⟨p0, p1, p2, p3, p4, p5, p6, p7, p8⟩ := nine0_of hP
      have hpl := hP.lt
      have hsp := same_lastW hp1 hp hxd
      have HB := Lib.hid hb
      have HHD := Lib.hid hH
      have HPP := Lib.hid hP
      have HR1 := Lib.hid hR1
      have HLS := Lib.hid hls
      clear hb hH hP hR1 hls
      by_cases hx : x = 2 * 2 ^ p - 1
      · rw [decide_eq_true hx] at hsp
        have HDN : Hid (rowNums rs = goB oneT L (lk m) 512 0) := by
          have h := HLS.out
          have h0 := (HOK.out.zero hg).2 hx
          rw [goB_stop (by unfold lf; rw [hg]; exact h0), List.append_nil] at h
          exact h
        clear hg hless hx hxd
        go_wp2
        go_ret2
        rw [HL.out.1, HL.out.2]
        exact ⟨D, rs.length, cD, rs, rfl, HDN.out, rfl, (HHD.out.raise (show w.heap.size ≤ w1.heap.size by omega)).free, below_then HT.out HB.out HT.out.size⟩
      · rw [decide_eq_false hx] at hsp
        have hu1 : ¬ u ≤ 0 := fun h => hx ((HOK.out.zero hg).1 h)
        obtain ⟨f', l, r9, u2, rfl, hhd, hgo, hlm9, hg2, hl2, -⟩ := goB_next HOK.out hg (by omega) hless
        have HG := Lib.hid hg2
        have HLE := Lib.hid hl2
        have HGO := Lib.hid hgo
        have HHL : Hid ((onW 4 L m x).head? = some l) := by show _ = _; rw [onW_best HOK.out hg, hhd]; rfl
        clear hg hg2 hl2 hgo hhd hx hless hu1 hlm9
        go_wp2_with (refine wpList_load_row rfl 115 (.tmp 1) rfl w.heap.size rfl 115 (crewCells p gL) (0, 0) _ HR1.out Try.underlying115 rfl size_river ?_)
        have HON := onwardW_any T 4 p gL g E0 c0 b x L m wz (by omega) HLL.out HUP.out hxd (HM.out.below HB.out) (HF.out.below HB.out)
        unfold plcC place9 at HON
        refine HON.mono ?_
        clear HON l0 l1 l2 l3 l4 l5 l6 l7 l8 p0 p1 p2 p3 p4 p5 p6 p7 p8 hrl hpl hsp
        rintro e w2 ⟨A1, c1, rs1, rfl, hrn, hown, hfr, hb⟩
        obtain ⟨h0, hl0, hlm⟩ := first_rowW hrn HHL.out
        obtain ⟨hpc, hyd⟩ := plcW_step HUP.out hxd hlm
        obtain ⟨gr, hA1, hgrl, a0, a1, a2, a3, a4, a5, a6, a7, a8, a9⟩ := own_moves_row hown h0 (by rw [hl0]; exact hpc)
        subst hA1
        simp only [Nat.zero_mul, Nat.zero_add] at a0 a1 a2 a3 a4 a5 a6 a7 a8 a9
        obtain ⟨hf1, hf2, hf3⟩ := hfr rs1[0] (List.getElem_mem h0)
        obtain ⟨r, hr⟩ : ∃ r, rs1[0] = r := ⟨_, rfl⟩
        rw [hr] at a0 hf1 hf2 hf3 hl0
        obtain ⟨rA, rn, rc, rx⟩ := r
        simp only [RowV.val] at a0
        simp only at hl0 hf1 hf2 hf3
        subst hl0
        obtain ⟨y, hy⟩ : ∃ y, stepC x rx = y := ⟨_, rfl⟩
        have HG' : Hid (lk m y = some u2) := by rw [← hy]; exact HG
        have HGO' : Hid (goB oneT L (lk m) (f' + 1) x = rx :: goB oneT L (lk m) f' y) := by rw [← hy]; exact HGO
        rw [hy] at hyd a1 a2 a3 a4 a5 a6 a7 a8 a9
        clear hr hpc hown hfr hrn HG HGO hy hlm HHL
        generalize rs1.length = n1 at h0
        have hsz2 := hb.size
        have hlo := HB.out.size
        have HBY := Lib.hid (hb.alloc hsz2 (.cells #[.slice rA rn rc, .bool (pf 4 y 0), .bool (pf 4 y 1), .bool (pf 4 y 2), .bool (pf 4 y 3), .bool (pf 4 y 4), .bool (pf 4 y 5), .bool (pf 4 y 6), .bool (pf 4 y 7), .bool (pt y)] 155))
        have HBZ := Lib.hid ((hb.alloc hsz2 (.cells #[.slice rA rn rc, .bool (pf 4 y 0), .bool (pf 4 y 1), .bool (pf 4 y 2), .bool (pf 4 y 3), .bool (pf 4 y 4), .bool (pf 4 y 5), .bool (pf 4 y 6), .bool (pf 4 y 7), .bool (pt y)] 155)).alloc (by simp; omega) (.cells #[.slice rA rn rc] 22))
        have HX := Lib.hid (Whole.fresh w2 155 #[.slice rA rn rc, .bool (pf 4 y 0), .bool (pf 4 y 1), .bool (pf 4 y 2), .bool (pf 4 y 3), .bool (pf 4 y 4), .bool (pf 4 y 5), .bool (pf 4 y 6), .bool (pf 4 y 7), .bool (pt y)])
        have hx0 := HX.out.cell 0
        have hxl := HX.out.lt
        have HFR := Lib.hid (fresh_wide (hf1.alloc (.cells #[.slice rA rn rc, .bool (pf 4 y 0), .bool (pf 4 y 1), .bool (pf 4 y 2), .bool (pf 4 y 3), .bool (pf 4 y 4), .bool (pf 4 y 5), .bool (pf 4 y 6), .bool (pf 4 y 7), .bool (pt y)] 155)) (show w2.heap.size ≤ (w2.alloc (.cells #[.slice rA rn rc, .bool (pf 4 y 0), .bool (pf 4 y 1), .bool (pf 4 y 2), .bool (pf 4 y 3), .bool (pf 4 y 4), .bool (pf 4 y 5), .bool (pf 4 y 6), .bool (pf 4 y 7), .bool (pt y)] 155)).heap.size by simp))
        have HOWN := Lib.hid (ownsRow_below HHD.out.1 HBZ.out)
        have hcn := cell_one_new (w2.alloc (.cells #[.slice rA rn rc, .bool (pf 4 y 0), .bool (pf 4 y 1), .bool (pf 4 y 2), .bool (pf 4 y 3), .bool (pf 4 y 4), .bool (pf 4 y 5), .bool (pf 4 y 6), .bool (pf 4 y 7), .bool (pt y)] 155)) (.slice rA rn rc) 22
        rw [World.size_alloc] at hcn
        have HCN := Lib.hid hcn
        have HMAX := Lib.hid (show rs.length + 1 ≤ maxLen by unfold maxLen; omega)
        have HBYT := Lib.hid (show (rs.length + 1) * 24 ≤ 140737488355328 by omega)
        have HBASE := Lib.hid (show w1.heap.size ≤ ((w2.alloc (.cells #[.slice rA rn rc, .bool (pf 4 y 0), .bool (pf 4 y 1), .bool (pf 4 y 2), .bool (pf 4 y 3), .bool (pf 4 y 4), .bool (pf 4 y 5), .bool (pf 4 y 6), .bool (pf 4 y 7), .bool (pt y)] 155)).alloc (.cells #[.slice rA rn rc] 22)).heap.size by simp; omega)
        have HF2 := Lib.hid hf2
        have HF3 := Lib.hid hf3
        have HLEN := Lib.hid hlen
        clear hcn hf1 hf2 hf3 hb hlen
        go_upto_region 10 with (at_builtin; refine wpList_append_lies _ rfl (.tmp 35) (.tmp 38) 32 rfl w1.heap.size 22 i0 (.slice none 0 0) 1 24 Try.underlying32 HI.out HZ0.out HZ1.out HZ2.out rfl (by decide) (.slice D rs.length cD) rs.length (rowVals rs) rfl HOWN.out ⟨w2.heap.size + 1, 0, none⟩ 1 1 [.slice rA rn rc] rfl rfl HCN.out (by simp [Value.oneCell']) (by decide) HMAX.out HBYT.out HBASE.out (w2.heap.size + 1 + 1) (by simp) ?_; intro g5 cap w5 hown4 hg4 hat4 hlt4)
        have hwp2 := HPP.out.below HBZ.out
        have HP5 := Lib.hid (whole_apart hwp2 hg4 (fun e => own_apart HOWN.out hwp2 (by decide) e.symm))
        have hwx2 := HX.out.alloc (.cells #[.slice rA rn rc] 22)
        have hx5 := whole_apart hwx2 hg4 (fun e => own_apart HOWN.out hwx2 (by decide) e.symm)
        have hat5 : (Value.slice D rs.length cD).ownBlock = some g5 ∨ g5 = (w2.alloc (.cells #[.slice rA rn rc, .bool (pf 4 y 0), .bool (pf 4 y 1), .bool (pf 4 y 2), .bool (pf 4 y 3), .bool (pf 4 y 4), .bool (pf 4 y 5), .bool (pf 4 y 6), .bool (pf 4 y 7), .bool (pt y)] 155)).heap.size + 1 := by
          rcases hat4 with h | h
          · exact .inl h
          · exact .inr (by rw [h]; simp)
        have HH5 := Lib.hid (Heads.push (r := ⟨rA, rn, rc, rx⟩) HHD.out hlo HBY.out HFR.out HF2.out HF3.out hown4 hg4 hat5)
        have HB5 := Lib.hid ((below_then HB.out HBZ.out HB.out.size).grown hg4 HBASE.out (fun kk hkk => (HOWN.out.lt kk hkk).1))
        obtain ⟨t0, t1, t2, t3, t4, t5, t6, t7, t8⟩ := nine1_of hx5
        have hxl5 := hx5.lt
        clear hown4 hg4 hat4 hlt4 hwp2 hwx2 hx5 hx0 hxl a0 a1 a2 a3 a4 a5 a6 a7 a8 a9
        go_upto_region 11 with (refine wpList_store_whole rfl 75 (.tmp 8) (.tmp 41) rfl gp #[.bool (pf 4 y 0), .bool (pf 4 y 1), .bool (pf 4 y 2), .bool (pf 4 y 3), .bool (pf 4 y 4), .bool (pf 4 y 5), .bool (pf 4 y 6), .bool (pf 4 y 7), .bool (pt y)] rfl rfl 75 _ HP5.out size_place rfl (by simp [Value.oneCell']) ?_; intro W5 hw5 ho5)
        have HH6 := Lib.hid (heads_only HH5.out ho5 HP5.out (by decide) (by decide))
        have HB6 := Lib.hid (ho5.below HB5.out hgp)
        obtain ⟨s0, s1, s2, s3, s4, s5, s6, s7, s8⟩ := nine0_of (show Whole W5 gp 75 (plcC 4 y) from hw5)
        have hl6 := hw5.lt
        clear ho5 hw5 t0 t1 t2 t3 t4 t5 t6 t7 t8 hxl5
        go_wp2
        go_roundg f'
        case measure => omega
        case rel => exact ⟨y, W5.heap.size, u2, rs ++ [⟨rA, rn, rc, rx⟩], some ⟨g5, 0, none⟩, cap, HG'.out, HLE.out, by have h := HLS.out; rw [HGO'.out] at h; rw [rowNums, List.map_append]; simpa [rowNums] using h, by rw [List.length_append]; rfl, rfl, by have h := HLEN.out; rw [List.length_append, List.length_singleton]; omega, HH6.out.alloc _, Whole.fresh _ _ _, HB6.out.size, HB6.out.alloc HB6.out.size _⟩
end Go.Proofs.Ytlpeimlbpiofkaa

namespace Go.Proofs.Ytlpeimlbpiofkaa
open Go.RowKit Go.Maps Go.WideShapes

set_option maxHeartbeats 12800000 in
set_option maxRecDepth 100000 in
set_option linter.unusedVariables false in
set_option linter.unusedSimpArgs false in
theorem firstPlan_any (T : List Int → Int) (lo : Nat) (E : Option Addr) (c : Nat) (Ls : List (List Int)) (e0 mb : Nat) (M : Nat → Option Int) (v0 : Int) (w : World) (hown0 : w.ownsRow lo 89 9 (.slice E Ls.length c) Ls.length (legsCells T Ls)) (hM0 : PlaceMap w mb M) (hOK : LeftOk T Ls e0 M) (hLs : Ls.length ≤ 255) (he : e0 ∈ sts 4) (hv0 : M 0 = some v0) :
    Calls Try.prog 66 #[.agg (routeC E Ls.length c e0 mb)] w (NextPost (goB T Ls M 512 0) w) := by
  obtain ⟨i1, ri, rz0, rz1, rz2⟩ := info_parts info_row
  have RI := Lib.hid ri
  have RZ0 := Lib.hid rz0
  have RZ1 := Lib.hid rz1
  have RZ2 := Lib.hid rz2
  have HOK := Lib.hid hOK
  have HLS := Lib.hid hLs
  have HED := Lib.hid he
  have HG := Lib.hid hv0
  have HR := Lib.hid (Whole.fresh w 78 (routeC E Ls.length c e0 mb))
  have HLG := Lib.hid (hown0.alloc (.cells (routeC E Ls.length c e0 mb) 78))
  have HM := Lib.hid (hM0.alloc (.cells (routeC E Ls.length c e0 mb) 78))
  have HT := Lib.hid (below1 w (.cells (routeC E Ls.length c e0 mb) 78))
  have hw1 : w.heap.size + 1 = (w.alloc (.cells (routeC E Ls.length c e0 mb) 78)).heap.size := by simp
  clear hown0 hM0 hOK hLs he hv0 ri rz0 rz1 rz2
  unfold routeC at HR HLG HM HT hw1
  unfold routeC
  go_enter Try.func66, Try.ntmps66
  go_upto_region 2 with fail
  generalize w.alloc (.cells #[.slice E Ls.length c, .bool (pf 4 e0 0), .bool (pf 4 e0 1), .bool (pf 4 e0 2), .bool (pf 4 e0 3), .bool (pf 4 e0 4), .bool (pf 4 e0 5), .bool (pf 4 e0 6), .bool (pf 4 e0 7), .bool (pt e0), .map (some mb)] 78) = w1 at HR HLG HM HT hw1 ⊢
  have HP0 : Hid (Whole (w1.alloc (.cells #[.bool false, .bool false, .bool false, .bool false, .bool false, .bool false, .bool false, .bool false, .bool false] 75)) w1.heap.size 75 (plcC 4 0)) := by
    show Whole _ _ _ _
    rw [show plcC 4 0 = #[.bool false, .bool false, .bool false, .bool false, .bool false, .bool false, .bool false, .bool false, .bool false] from rfl]
    exact Whole.fresh _ _ _
  go_wp2
  go_loopg [3, 4] 512 (fun gh v pv wr => ∃ (x gp : Nat) (u : Int) (rs : List RowV) (D : Option Addr) (cD : Nat), M x = some u ∧ lessN (sts 4) M u ≤ gh ∧ rowNums rs ++ goB T Ls M gh x = goB T Ls M 512 0 ∧ v = .slice D rs.length cD ∧ pv = .pointer (some ⟨gp, 0, none⟩) ∧ rs.length + gh = 512 ∧ Heads wr w1.heap.size D cD rs ∧ Whole wr gp 75 (plcC 4 x) ∧ w1.heap.size ≤ gp ∧ Below w1.heap.size w1 wr)
  case atStart => exact ⟨0, w1.heap.size, v0, [], none, 0, HG.out, Nat.le_trans (less_le _ _ _) (by rw [show (sts 4).length = 512 from List.length_range]; exact Nat.le_refl _), rfl, rfl, rfl, rfl, Heads.nil _ _, HP0.out, Nat.le_refl _, below1 _ _⟩
  case round =>
    clear HP0 HG
    obtain ⟨x, gp, u, rs, D, cD, hg, hless, hls, rfl, rfl, hlen, hH, hP, hgp, hb⟩ := hrel
    have hxd := HOK.out.dom x u hg
    obtain ⟨wz, rfl⟩ : ∃ W : World, W = wr := ⟨_, rfl⟩
    have hR1 := HR.out.below hb
    have hrl := hR1.lt
    obtain ⟨c0, c1, c2, c3, c4, c5, c6, c7, c8, c9, c10⟩ := cells11 hR1
    obtain ⟨p0, p1, p2, p3, p4, p5, p6, p7, p8⟩ := nine0_of hP
    have hpl := hP.lt
    have hsp := same_place hxd HED.out
    have HB := Lib.hid hb
    have HHD := Lib.hid hH
    have HPP := Lib.hid hP
    have HR1 := Lib.hid hR1
    have HLS9 := Lib.hid hls
    clear hb hH hP hR1 hls
    by_cases hx : x = e0
    · rw [decide_eq_true hx] at hsp
      have HDN : Hid (rowNums rs = goB T Ls M 512 0) := by
        have h := HLS9.out
        have h0 := (HOK.out.zero hg).2 hx
        rw [goB_stop (by unfold lf; rw [hg]; exact h0), List.append_nil] at h
        exact h
      clear hg hless hx hxd
      go_wp2
      go_ret
      exact ⟨D, cD, rs, rfl, HDN.out, HHD.out.raise (show w.heap.size ≤ w1.heap.size by omega), below_then HT.out HB.out HT.out.size⟩
    · rw [decide_eq_false hx] at hsp
      have hu1 : ¬ u ≤ 0 := fun h => hx ((HOK.out.zero hg).1 h)
      obtain ⟨f', l, r9, u2, rfl, hhd, hgo, hlm, hg2, hl2, -⟩ := goB_next HOK.out hg (by omega) hless
      have hlL := (List.mem_filter.1 hlm).1
      have hup := HOK.out.up l hlL
      have hst := (up_steps hup).1
      have hlen8 := (up_steps hup).2.2
      have hst2 := plcW_step (L := Ls) HOK.out.up hxd hlm
      have HOUT : Hid (∀ i, (bitsOf (x / 2) (2 * 4)).length ≤ i → has l i = false) := fun i hi => has_out hst (by rw [bitsOf_len] at hi; omega)
      have HST := Lib.hid hst
      have HG := Lib.hid hg2
      have HLE := Lib.hid hl2
      have HGO := Lib.hid hgo
      have HHL := Lib.hid hhd
      have HXD := Lib.hid hxd
      obtain ⟨y, hy⟩ : ∃ y, stepC x l = y := ⟨_, rfl⟩
      rw [hy] at hst2
      have HPF : Hid (placeCells (flipped (bitsOf (x / 2) (2 * 4)) l) (!bitAt x 0) = plcC 4 y) := hst2.1
      have HPC : Hid (placeCells (bitsOf (x / 2) (2 * 4)) (bitAt x 0) = plcC 4 x) := rfl
      have HG' : Hid (M y = some u2) := by rw [← hy]; exact HG
      have HGO' : Hid (goB T Ls M (f' + 1) x = l :: goB T Ls M f' y) := by rw [← hy]; exact HGO
      clear hg hg2 hl2 hgo hhd hx hless hu1 hlm hlL hup hst hst2 hy HG HGO hxd
      go_wp2_with (refine wpList_load_row rfl 78 (.tmp 1) rfl w.heap.size rfl 78 #[.slice E Ls.length c, .bool (pf 4 e0 0), .bool (pf 4 e0 1), .bool (pf 4 e0 2), .bool (pf 4 e0 3), .bool (pf 4 e0 4), .bool (pf 4 e0 5), .bool (pf 4 e0 6), .bool (pf 4 e0 7), .bool (pt e0), .map (some mb)] (0, 0) _ HR1.out Try.underlying78 rfl size_routes ?_)
      have HBL := bestLegs_any T lo E c Ls e0 mb M x wz (ownsRow_below HLG.out HB.out) HLS.out HOK.out.up HXD.out (HM.out.below HB.out) HOK.out.low HOK.out.time
      unfold routeC plcC place9 at HBL
      refine HBL.mono ?_
      clear HBL c0 c1 c2 c3 c4 c5 c6 c7 c8 c9 c10 p0 p1 p2 p3 p4 p5 p6 p7 p8 hrl hpl hsp
      rintro e w2 ⟨A1, c1, rfl, hown, hb⟩
      have hb0 : 0 < (bestOf T Ls M x).length := by rw [HHL.out]; simp
      have hbg : (bestOf T Ls M x)[0] = l := by simp only [HHL.out, List.getElem_cons_zero]
      obtain ⟨gs, rfl, hgl, a0, a1, a2, a3, a4, a5, a6, a7, a8⟩ := legs_row hown hb0
      rw [hbg] at a0 a1 a2 a3 a4 a5 a6 a7 a8
      simp only [Nat.zero_mul, Nat.zero_add] at a0 a1 a2 a3 a4 a5 a6 a7 a8
      obtain ⟨tl, htl⟩ : ∃ tl, T l = tl := ⟨_, rfl⟩
      rw [htl] at a8
      clear hown htl hbg
      generalize (bestOf T Ls M x).length = nb at hb0
      have hb0i : (0 : Int) < (nb : Int) := by omega
      have HBA := Lib.hid hb
      have hsz2 := hb.size
      have hlo := HB.out.size
      have HX := Lib.hid (Whole.fresh w2 89 (legC (has l) tl))
      have hxl := HX.out.lt
      obtain ⟨b0, b1, b2, b3, b4, b5, b6, b7⟩ : Row8 w2.heap.size (has l) (w2.alloc (.cells (legC (has l) tl) 89)) := ⟨HX.out.cell 0, HX.out.cell 1, HX.out.cell 2, HX.out.cell 3, HX.out.cell 4, HX.out.cell 5, HX.out.cell 6, HX.out.cell 7⟩
      clear hb
      unfold legC at b0 b1 b2 b3 b4 b5 b6 b7 hxl HX
      go_wp2_with fail
      have hls := list_any l ((2 * 4 : Nat) - 1 : Int) (w2.alloc (.cells #[.bool (has l 0), .bool (has l 1), .bool (has l 2), .bool (has l 3), .bool (has l 4), .bool (has l 5), .bool (has l 6), .bool (has l 7), .int .i64 tl] 89)) HST.out (by omega)
      rw [crowd8] at hls
      unfold cells8 at hls
      refine hls.mono ?_
      clear hls
      rintro e w3 ⟨A2, q2, rfl, hown2, hb2⟩
      have HX3 := Lib.hid (HX.out.below hb2)
      have hb3 : Below wz.heap.size wz w3 := below_then HBA.out (below_then (below1 w2 (.cells #[.bool (has l 0), .bool (has l 1), .bool (has l 2), .bool (has l 3), .bool (has l 4), .bool (has l 5), .bool (has l 6), .bool (has l 7), .int .i64 tl] 89)) hb2 (by simp)) HBA.out.size
      obtain ⟨A3, q3, hv3, hf3⟩ := Fresh.of_own hown2 (Nat.le_refl _)
      simp only [Value.slice.injEq, true_and] at hv3
      obtain ⟨rfl, rfl⟩ := hv3
      have hz3 := hb3.size
      have hzs : wz.heap.size ≤ (w2.alloc (.cells #[.bool (has l 0), .bool (has l 1), .bool (has l 2), .bool (has l 3), .bool (has l 4), .bool (has l 5), .bool (has l 6), .bool (has l 7), .int .i64 tl] 89)).heap.size := by have := HBA.out.size; simp; omega
      have HF := Lib.hid (hf3.more (lo' := wz.heap.size) (hi' := w3.heap.size) hzs (Nat.le_refl _))
      have HB3 := Lib.hid hb3
      have HOWN := Lib.hid ((HHD.out.below hb3).alloc (.cells #[.slice A2 l.length q2] 22)).1
      have HBZ := Lib.hid (hb3.alloc hz3 (.cells #[.slice A2 l.length q2] 22))
      have HMAX := Lib.hid (show rs.length + 1 ≤ maxLen by unfold maxLen; omega)
      have HBYT := Lib.hid (show (rs.length + 1) * 24 ≤ 140737488355328 by omega)
      have HBASE := Lib.hid (show w1.heap.size ≤ (w3.alloc (.cells #[.slice A2 l.length q2] 22)).heap.size by simp; omega)
      have HLEN := Lib.hid hlen
      clear hown2 hb2 hb3 hf3 a0 a1 a2 a3 a4 a5 a6 a7 a8 b0 b1 b2 b3 b4 b5 b6 b7 hgl hxl hlen
      go_upto_region 6 with (at_builtin; refine wpList_append_lies _ rfl (.tmp 16) (.tmp 20) 32 rfl w1.heap.size 22 i1 (.slice none 0 0) 1 24 Try.underlying32 RI.out RZ0.out RZ1.out RZ2.out rfl (by decide) (.slice D rs.length cD) rs.length (rowVals rs) rfl HOWN.out ⟨w3.heap.size, 0, none⟩ 1 1 [.slice A2 l.length q2] rfl rfl (cell_one_new _ _ _) (by simp [Value.oneCell']) (by decide) HMAX.out HBYT.out HBASE.out (w3.heap.size + 1) (by simp) ?_; intro g5 cap w5 hown4 hg4 hat4 hlt4)
      have hwp2 := HPP.out.below HBZ.out
      have hP5 := whole_apart hwp2 hg4 (fun e => own_apart HOWN.out hwp2 (by decide) e.symm)
      have hwx2 := HX3.out.alloc (.cells #[.slice A2 l.length q2] 22)
      have hx5 := whole_apart hwx2 hg4 (fun e => own_apart HOWN.out hwx2 (by decide) e.symm)
      have HH5 := Lib.hid (Heads.push (r := ⟨A2, l.length, q2, l⟩) HHD.out hlo HB3.out HF.out rfl (by show l.length ≤ _; omega) hown4 hg4 hat4)
      have HB5 := Lib.hid ((below_then HB.out HBZ.out HB.out.size).grown hg4 HBASE.out (fun kk hkk => (HOWN.out.lt kk hkk).1))
      obtain ⟨p0, p1, p2, p3, p4, p5, p6, p7, p8⟩ := nine0_of hP5
      have hpl5 := hP5.lt
      obtain ⟨b0, b1, b2, b3, b4, b5, b6, b7⟩ : Row8 w2.heap.size (has l) w5 := ⟨hx5.cell 0, hx5.cell 1, hx5.cell 2, hx5.cell 3, hx5.cell 4, hx5.cell 5, hx5.cell 6, hx5.cell 7⟩
      have hxl5 := hx5.lt
      have HP5 := Lib.hid hP5
      clear hown4 hg4 hat4 hlt4 hwp2 hwx2 hP5 hx5
      go_wp2_with fail
      have hcr := cross_any (bitsOf (x / 2) (2 * 4)) l (bitAt x 0) w5 HOUT.out
      rw [HPF.out, HPC.out, crowd8] at hcr
      unfold plcC place9 cells8 at hcr
      refine hcr.mono ?_
      clear hcr
      rintro e w6 ⟨rfl, hb6⟩
      have HP6 := Lib.hid (HP5.out.below hb6)
      have HH6 := Lib.hid (HH5.out.below hb6)
      have HB6 := Lib.hid (below_then HB5.out hb6 HB5.out.size)
      clear hb6 p0 p1 p2 p3 p4 p5 p6 p7 p8 b0 b1 b2 b3 b4 b5 b6 b7 hpl5 hxl5
      go_upto_region 7 with (refine wpList_store_whole rfl 75 (.tmp 4) (.tmp 25) rfl gp #[.bool (pf 4 y 0), .bool (pf 4 y 1), .bool (pf 4 y 2), .bool (pf 4 y 3), .bool (pf 4 y 4), .bool (pf 4 y 5), .bool (pf 4 y 6), .bool (pf 4 y 7), .bool (pt y)] rfl rfl 75 _ HP6.out size_place rfl (by simp [Value.oneCell']) ?_; intro W5 hw5 ho5)
      have HH7 := Lib.hid (heads_only HH6.out ho5 HP6.out (by decide) (by decide))
      have HB7 := Lib.hid (ho5.below HB6.out hgp)
      obtain ⟨s0, s1, s2, s3, s4, s5, s6, s7, s8⟩ := nine0_of (show Whole W5 gp 75 (plcC 4 y) from hw5)
      have hl6 := hw5.lt
      clear ho5 hw5
      go_wp2
      go_roundg f'
      case measure => omega
      case rel => exact ⟨y, W5.heap.size, u2, rs ++ [⟨A2, l.length, q2, l⟩], some ⟨g5, 0, none⟩, cap, HG'.out, HLE.out, by have h := HLS9.out; rw [HGO'.out] at h; rw [rowNums, List.map_append]; simpa [rowNums] using h, by rw [List.length_append]; rfl, rfl, by have h := HLEN.out; rw [List.length_append, List.length_singleton]; omega, HH7.out.alloc _, Whole.fresh _ _ _, HB7.out.size, HB7.out.alloc HB7.out.size _⟩

set_option maxHeartbeats 3200000 in
set_option maxRecDepth 100000 in
theorem firstPlan_zero (w : World) : Calls Try.prog 66 #[.agg zero11] w fun e w' => e = .returned (.slice none 0 0) ∧ Below w.heap.size w w' := by
  have hb := Whole.fresh w 78 zero11
  have HT := Lib.hid (below2 w (.cells zero11 78) (.cells #[.bool false, .bool false, .bool false, .bool false, .bool false, .bool false, .bool false, .bool false, .bool false] 75))
  have hp := Whole.fresh (w.alloc (.cells zero11 78)) 75 #[.bool false, .bool false, .bool false, .bool false, .bool false, .bool false, .bool false, .bool false, .bool false]
  have hb2 := hb.alloc (.cells #[.bool false, .bool false, .bool false, .bool false, .bool false, .bool false, .bool false, .bool false, .bool false] 75)
  rw [World.size_alloc] at hp
  have HRZ := Lib.hid hb2
  have HPZ := Lib.hid hp
  clear hb hb2 hp
  unfold zero11 at HT HRZ HPZ
  unfold zero11
  go_enter Try.func66, Try.ntmps66
  go_wp2
  go_loopw [3, 4] (fun v pv wr => v = .slice none 0 0 ∧ pv = .pointer (some ⟨w.heap.size + 1, 0, none⟩) ∧ Whole wr w.heap.size 78 #[.slice none 0 0, .bool false, .bool false, .bool false, .bool false, .bool false, .bool false, .bool false, .bool false, .bool false, .map none] ∧ Whole wr (w.heap.size + 1) 75 #[.bool false, .bool false, .bool false, .bool false, .bool false, .bool false, .bool false, .bool false, .bool false] ∧ Below w.heap.size w wr) (fun _ _ _ => 0)
  case atStart => exact ⟨rfl, rfl, HRZ.out, HPZ.out, HT.out⟩
  case round =>
    obtain ⟨rfl, rfl, hr, hp, hb⟩ := hrel
    have HT2 := Lib.hid hb
    obtain ⟨c0, c1, c2, c3, c4, c5, c6, c7, c8, c9, c10⟩ := cells11 hr
    have hrl := hr.lt
    obtain ⟨p0, p1, p2, p3, p4, p5, p6, p7, p8⟩ := nine0_of (show Whole wr (w.heap.size + 1) 75 (plcC 4 0) from hp)
    have hpl := hp.lt
    have hsp : samePlace false false false false false false false false false false false false false false false false false false = true := rfl
    clear hb
    go_wp2
    go_ret
    exact ⟨rfl, HT2.out⟩

/-- What FirstBest comes to. -/
noncomputable def bestPl (xs : List Int) (s : Int) : List (List Int) := if leastOk xs s then goB (slowOf xs) (upLists xs.length s.toNat) (leftM xs xs.length s.toNat) 512 0 else []
theorem bestPl_no {xs : List Int} {s : Int} (h : leastOk xs s = false) : bestPl xs s = [] := by simp [bestPl, h]
theorem bestPl_yes {xs : List Int} {n q : Nat} (hx : xs.length = n) (h : leastOk xs (q : Int) = true) : bestPl xs (q : Int) = goB (slowOf xs) (upLists n q) (leftM xs n q) 512 0 := by subst hx; simp [bestPl, h]
theorem goB_small {T : List Int → Int} {L : List (List Int)} {M : Nat → Option Int} (hL : ∀ l ∈ L, l.length ≤ 8) : (goB T L M 512 0).length ≤ 1048576 ∧ ((goB T L M 512 0).map List.length).sum ≤ 1048576 := by
  have h1 := goB_len T L M 512 0
  have h2 := sum_lens (ls := goB T L M 512 0) (k := 8) fun l hl => hL l (goB_mem _ _ l hl)
  exact ⟨by omega, by omega⟩
theorem bestPl_le (xs : List Int) (s : Int) (h8 : leastOk xs s = true → xs.length ≤ 8) : (bestPl xs s).length ≤ 1048576 ∧ ((bestPl xs s).map List.length).sum ≤ 1048576 := by
  cases h : leastOk xs s
  · rw [bestPl_no h]; simp
  · have h8' := h8 h
    rw [bestPl, if_pos h]
    refine goB_small fun l hl => ?_
    have h3 := up_steps hl
    have h4 := steps_len h3.1 (by omega)
    omega

set_option maxHeartbeats 6400000 in
set_option maxRecDepth 100000 in
theorem implFirstB_zero (A : Option Addr) (n c : Nat) (xs : List Int) (s : Int) (w : World)
    (hpl : Calls Try.prog 63 #[.agg #[.slice A n c, .int .i64 s]] (w.alloc (.cells #[.slice A n c, .int .i64 s] 28)) fun e w' => e = .returned (.tuple #[.agg zero11, .bool false]) ∧ Below (w.alloc (.cells #[.slice A n c, .int .i64 s] 28)).heap.size (w.alloc (.cells #[.slice A n c, .int .i64 s] 28)) w') :
    Calls Try.prog 21 #[.agg #[.slice A n c, .int .i64 s]] w (BackPost [] false w) := by
  have HT := Lib.hid (below1 w (.cells #[.slice A n c, .int .i64 s] 28))
  have HPL := Lib.hid hpl
  clear hpl
  go_enter Try.func21, Try.ntmps21
  go_wp2_with fail
  refine HPL.out.mono ?_
  rintro e w1 ⟨rfl, hb⟩
  have HT1 := Lib.hid (below_then HT.out hb HT.out.size)
  have hbx : Whole (w1.alloc (.cells #[.slice none 0 0, .bool false, .bool false, .bool false, .bool false, .bool false, .bool false, .bool false, .bool false, .bool false, .map none] 78)) w1.heap.size 78 #[.slice none 0 0, .bool false, .bool false, .bool false, .bool false, .bool false, .bool false, .bool false, .bool false, .bool false, .map none] := Whole.fresh _ _ _
  have HT2 := Lib.hid (HT1.out.alloc HT1.out.size (.cells #[.slice none 0 0, .bool false, .bool false, .bool false, .bool false, .bool false, .bool false, .bool false, .bool false, .bool false, .map none] 78))
  clear hb
  unfold zero11
  obtain ⟨c0, c1, c2, c3, c4, c5, c6, c7, c8, c9, c10⟩ := cells11 hbx
  have hbl := hbx.lt
  go_wp2_with fail
  have hln := firstPlan_zero (w1.alloc (.cells #[.slice none 0 0, .bool false, .bool false, .bool false, .bool false, .bool false, .bool false, .bool false, .bool false, .bool false, .map none] 78))
  unfold zero11 at hln
  refine hln.mono ?_
  clear hln
  rintro e w2 ⟨rfl, hb⟩
  have HT3 := Lib.hid (below_then HT2.out hb HT2.out.size)
  clear hb hbx c0 c1 c2 c3 c4 c5 c6 c7 c8 c9 c10 hbl
  go_wp2
  go_ret2
  exact BackPost.no HT3.out

set_option maxHeartbeats 6400000 in
set_option maxRecDepth 100000 in
theorem implFirstB_yes (A : Option Addr) (n c q : Nat) (xs : List Int) (w : World) (hA : Holds w A (nums xs)) (hx : xs.length = n) (hp : isParty xs (q : Int) = true) (hpl : planOk xs n q = true) :
    Calls Try.prog 21 #[.agg #[.slice A n c, .int .i64 (q : Int)]] w (BackPost (goB (slowOf xs) (upLists n q) (leftM xs n q) 512 0) true w) := by
  obtain ⟨g1, g8, gq1, gq8, gxs⟩ := party_parts hp
  rw [hx] at g1 g8
  have HLO := Lib.hid (left_ok (q := q) hx g8 gxs)
  have HUL := Lib.hid (upLists_small (n := n) (m := q) g8)
  have HPY := Lib.hid (planned_yes A n c q xs _ (hA.alloc (.cells #[.slice A n c, .int .i64 (q : Int)] 28)) hx hp hpl)
  have HT := Lib.hid (below1 w (.cells #[.slice A n c, .int .i64 (q : Int)] 28))
  obtain ⟨v0, hv0⟩ : ∃ v0, leftM xs n q 0 = some v0 := by
    rw [show leftM xs n q 0 = partyD xs n q (codeOf (trues n) true) 0 from rfl, party_first hx g8 (fun y hy => (gxs y hy).1)]
    exact Option.isSome_iff_exists.1 hpl
  have HV0 := Lib.hid hv0
  have HED : Hid (codeOf (trues n) true ∈ sts 4) := code_mem (by simp [trues]; omega)
  clear hp hA gxs hpl hx hv0
  obtain ⟨Ls, hLs⟩ : ∃ Ls, upLists n q = Ls := ⟨_, rfl⟩
  go_enter Try.func21, Try.ntmps21
  go_wp2_with fail
  refine HPY.out.mono ?_
  rintro e w1 ⟨E, cE, mb, rfl, hown, hmap, hb⟩
  have HT1 := Lib.hid (below_then HT.out hb HT.out.size)
  obtain ⟨x, hxx⟩ : ∃ x, codeOf (trues n) true = x := ⟨_, rfl⟩
  obtain ⟨M, hM⟩ : ∃ M, leftM xs n q = M := ⟨_, rfl⟩
  obtain ⟨T, hT⟩ : ∃ T, slowOf xs = T := ⟨_, rfl⟩
  have HQ9 : Hid (goB T Ls M 512 0 = goB (slowOf xs) (upLists n q) (leftM xs n q) 512 0) := by show _ = _; rw [← hLs, ← hT, ← hM]
  rw [show partyD xs n q (codeOf (trues n) true) = leftM xs n q from rfl, hM] at hmap
  rw [hLs, hT, hM, hxx] at HLO
  rw [hLs, hT] at hown
  rw [hLs] at HUL
  rw [hM] at HV0
  rw [hxx] at HED
  rw [hxx, hLs]
  have hfp := firstPlan_any T _ E cE Ls x mb M v0 (w1.alloc (.cells (routeC E Ls.length cE x mb) 78)) (hown.alloc _) (hmap.alloc _) HLO.out HUL.out HED.out HV0.out
  have HBL := Lib.hid hfp
  have hbx : Whole (w1.alloc (.cells (routeC E Ls.length cE x mb) 78)) w1.heap.size 78 (routeC E Ls.length cE x mb) := Whole.fresh _ _ _
  have HT2 := Lib.hid (HT1.out.alloc HT1.out.size (.cells (routeC E Ls.length cE x mb) 78))
  clear hb hown hmap hxx hM hT hfp
  unfold routeC at hbx HT2 HBL
  unfold routeC
  obtain ⟨c0, c1, c2, c3, c4, c5, c6, c7, c8, c9, c10⟩ := cells11 hbx
  have hbl := hbx.lt
  go_wp2_with fail
  refine HBL.out.mono ?_
  rintro e w2 ⟨A1, cA, rs, rfl, hrn, hh, hb⟩
  have HT3 := Lib.hid (below_then HT2.out hb HT2.out.size)
  have HRN := Lib.hid (hrn.trans HQ9.out)
  have HH := Lib.hid (hh.raise (show w.heap.size ≤ _ from HT2.out.size))
  clear hb hbx c0 c1 c2 c3 c4 c5 c6 c7 c8 c9 c10 hbl hrn hh HBL HPY
  go_wp2
  go_ret2
  exact ⟨A1, rs.length, cA, rs, rfl, HRN.out, rfl, HH.out.free, HT3.out⟩

theorem implFirstB_any (A : Option Addr) (n c : Nat) (xs : List Int) (s : Int) (w : World) (hA : Holds w A (nums xs)) (hx : xs.length = n) (hn : n ≤ 9223372036854775807) :
    Calls Try.prog 21 #[.agg #[.slice A n c, .int .i64 s]] w (BackPost (bestPl xs s) (leastOk xs s) w) := by
  have hA1 := hA.alloc (.cells #[.slice A n c, .int .i64 s] 28)
  cases hp : isParty xs s
  · have h0 := (leastOk_none hp).1
    rw [bestPl_no h0, h0]
    exact implFirstB_zero A n c xs s w (planned_none A n c xs s _ hA1 hx hn hp)
  · obtain ⟨q, rfl⟩ : ∃ q : Nat, s = (q : Int) := ⟨s.toNat, by simp only [isParty, Bool.and_eq_true, within_iff] at hp; omega⟩
    have hok := leastOk_at hp
    rw [hx] at hok
    cases hpl : planOk xs n q
    · rw [hpl] at hok
      rw [bestPl_no hok, hok]
      exact implFirstB_zero A n c xs (q : Int) w (planned_no A n c q xs _ hA1 hx hp hpl)
    · rw [hpl] at hok
      rw [bestPl_yes hx hok, hok]
      exact implFirstB_yes A n c q xs w hA hx hp hpl
end Go.Proofs.Ytlpeimlbpiofkaa

namespace Go.Proofs.Ytlpeimlbpiofkaa
open Go.RowKit Go.Maps Go.WideShapes

theorem loN_no {xs : List Int} {bs : List Bool} {m : Nat} {s : Int} {b : Bool} (h : loOk xs bs m s b = false) : loN xs bs m s b = 0 := by simp [loN, h]
theorem loN_yes {xs : List Int} {bs : List Bool} {m n : Nat} {s v : Int} {b : Bool} (h : loOk xs bs m s b = true) (hx : xs.length = n) (hv : costM xs bs s b n 0 = some v) : loN xs bs m s b = v := by rw [loN, if_pos h, hx, loV, hv]; rfl
theorem loPl_no {xs : List Int} {bs : List Bool} {m : Nat} {s : Int} {b : Bool} (h : loOk xs bs m s b = false) : loPl xs bs m s b = [] := by simp [loPl, h]
theorem loPl_yes {xs : List Int} {bs : List Bool} {m n : Nat} {s v : Int} {b : Bool} (h : loOk xs bs m s b = true) (hx : xs.length = n) (hv : costM xs bs s b n 0 = some v) : loPl xs bs m s b = goB (costOf xs b) (crewLists xs bs s) (costM xs bs s b n) 512 0 := by rw [loPl, if_pos h, hx]

set_option maxHeartbeats 6400000 in
set_option maxRecDepth 100000 in
set_option linter.unusedVariables false in
theorem implCarL_zero (A : Option Addr) (n kA : Nat) (B : Option Addr) (m d : Nat) (s : Int) (w : World)
    (hpl : Calls Try.prog 104 #[.agg #[.slice A n kA, .slice B m d, .int .i64 s]] (w.alloc (.cells #[.slice A n kA, .slice B m d, .int .i64 s] 57)) fun e w' => e = .returned (.tuple #[.agg zero11, .bool false]) ∧ Below (w.alloc (.cells #[.slice A n kA, .slice B m d, .int .i64 s] 57)).heap.size (w.alloc (.cells #[.slice A n kA, .slice B m d, .int .i64 s] 57)) w') :
    Calls Try.prog 51 #[.agg #[.slice A n kA, .slice B m d, .int .i64 s]] w (fun e w' => e = .returned (.tuple #[.int .i64 0, .bool false]) ∧ Below w.heap.size w w') := by
  have HT := Lib.hid (below1 w (.cells #[.slice A n kA, .slice B m d, .int .i64 s] 57))
  have HPL := Lib.hid hpl
  have hq := Whole.fresh w 57 #[.slice A n kA, .slice B m d, .int .i64 s]
  obtain ⟨q0, q1, q2⟩ := hq.cells3
  clear hpl
  go_enter Try.func51, Try.ntmps51
  go_wp2_with fail
  refine HPL.out.mono ?_
  rintro e w1 ⟨rfl, hb⟩
  have HT1 := Lib.hid (below_then HT.out hb HT.out.size)
  have hbx : Whole (w1.alloc (.cells #[.slice none 0 0, .bool false, .bool false, .bool false, .bool false, .bool false, .bool false, .bool false, .bool false, .bool false, .map none] 78)) w1.heap.size 78 #[.slice none 0 0, .bool false, .bool false, .bool false, .bool false, .bool false, .bool false, .bool false, .bool false, .bool false, .map none] := Whole.fresh _ _ _
  have HT2 := Lib.hid (HT1.out.alloc HT1.out.size (.cells #[.slice none 0 0, .bool false, .bool false, .bool false, .bool false, .bool false, .bool false, .bool false, .bool false, .bool false, .map none] 78))
  clear hb q0 q1 q2 hq
  unfold zero11
  obtain ⟨c0, c1, c2, c3, c4, c5, c6, c7, c8, c9, c10⟩ := cells11 hbx
  have hbl := hbx.lt
  go_wp2_with fail
  have hln := least_no (w1.alloc (.cells #[.slice none 0 0, .bool false, .bool false, .bool false, .bool false, .bool false, .bool false, .bool false, .bool false, .bool false, .map none] 78))
  unfold zero11 at hln
  refine hln.mono ?_
  clear hln
  rintro e w2 ⟨rfl, hb⟩
  have HT3 := Lib.hid (below_then HT2.out hb HT2.out.size)
  clear hb hbx c0 c1 c2 c3 c4 c5 c6 c7 c8 c9 c10 hbl
  go_wp2
  go_ret2
  exact ⟨rfl, HT3.out⟩

set_option maxHeartbeats 6400000 in
set_option maxRecDepth 100000 in
set_option linter.unusedVariables false in
theorem implCarL_yes (A : Option Addr) (n kA : Nat) (B : Option Addr) (m d : Nat) (xs : List Int) (bs : List Bool) (s v0 : Int) (w : World) (hok : CrewOk xs m s) (hx : xs.length = n) (hv : costM xs bs s true n 0 = some v0)
    (hpl : Calls Try.prog 104 #[.agg #[.slice A n kA, .slice B m d, .int .i64 s]] (w.alloc (.cells #[.slice A n kA, .slice B m d, .int .i64 s] 57)) (CarPost xs bs s n (w.alloc (.cells #[.slice A n kA, .slice B m d, .int .i64 s] 57)))) :
    Calls Try.prog 51 #[.agg #[.slice A n kA, .slice B m d, .int .i64 s]] w (fun e w' => e = .returned (.tuple #[.int .i64 v0, .bool true]) ∧ Below w.heap.size w w') := by
  have HT := Lib.hid (below1 w (.cells #[.slice A n kA, .slice B m d, .int .i64 s] 57))
  have HPL := Lib.hid hpl
  have h7 := hok.seven
  have HLO := Lib.hid (cost_ok (bs := bs) (b := true) hok hx)
  have HSM := Lib.hid (crew_small (xs := xs) bs s h7)
  have HV := Lib.hid hv
  have HED : Hid (codeOf (trues n) true ∈ sts 4) := code_mem (by simp [trues]; omega)
  have hq := Whole.fresh w 57 #[.slice A n kA, .slice B m d, .int .i64 s]
  obtain ⟨q0, q1, q2⟩ := hq.cells3
  rw [cost_true] at HLO
  clear hpl hv hok hx
  go_enter Try.func51, Try.ntmps51
  go_wp2_with fail
  refine HPL.out.mono ?_
  rintro e w1 ⟨E, cE, mb, rfl, hown, hmap, hb⟩
  have HT1 := Lib.hid (below_then HT.out hb HT.out.size)
  obtain ⟨x, hxx⟩ : ∃ x, codeOf (trues n) true = x := ⟨_, rfl⟩
  obtain ⟨M, hM⟩ : ∃ M, costM xs bs s true n = M := ⟨_, rfl⟩
  obtain ⟨Ls, hLs⟩ : ∃ Ls, crewLists xs bs s = Ls := ⟨_, rfl⟩
  have HQ9 : Hid (goB (loadOf xs) Ls M 512 0 = goB (costOf xs true) (crewLists xs bs s) (costM xs bs s true n) 512 0) := by show _ = _; rw [cost_true, ← hLs, ← hM]
  rw [hM] at hmap HV HLO
  rw [hLs] at hown HSM HLO
  rw [hxx] at HED HLO
  rw [hxx, hLs]
  have hfp := least_yes E Ls.length cE x mb M (w1.alloc (.cells (routeC E Ls.length cE x mb) 78)) (hmap.alloc _)
  have HBL := Lib.hid hfp
  have hbx : Whole (w1.alloc (.cells (routeC E Ls.length cE x mb) 78)) w1.heap.size 78 (routeC E Ls.length cE x mb) := Whole.fresh _ _ _
  have HT2 := Lib.hid (HT1.out.alloc HT1.out.size (.cells (routeC E Ls.length cE x mb) 78))
  clear hb hown hmap hxx hM hfp q0 q1 q2 hq
  obtain ⟨k, hk⟩ : ∃ k, Ls.length = k := ⟨_, rfl⟩
  rw [hk] at hbx HT2 HBL ⊢
  clear hk
  unfold routeC at hbx HT2 HBL
  unfold routeC
  obtain ⟨c0, c1, c2, c3, c4, c5, c6, c7, c8, c9, c10⟩ := cells11 hbx
  have hbl := hbx.lt
  go_wp2_with fail
  refine HBL.out.mono ?_
  rintro e w2 ⟨rfl, hb⟩
  have HT3 := Lib.hid (below_then HT2.out hb HT2.out.size)
  clear hb hbx c0 c1 c2 c3 c4 c5 c6 c7 c8 c9 c10 hbl HBL HPL
  have h0 : (M 0).getD 0 = v0 := by rw [HV.out]; rfl
  rw [h0]
  go_wp2
  go_ret2
  exact ⟨rfl, HT3.out⟩

set_option maxHeartbeats 6400000 in
set_option maxRecDepth 100000 in
set_option linter.unusedVariables false in
theorem implCarF_zero (A : Option Addr) (n kA : Nat) (B : Option Addr) (m d : Nat) (s : Int) (w : World)
    (hpl : Calls Try.prog 104 #[.agg #[.slice A n kA, .slice B m d, .int .i64 s]] (w.alloc (.cells #[.slice A n kA, .slice B m d, .int .i64 s] 57)) fun e w' => e = .returned (.tuple #[.agg zero11, .bool false]) ∧ Below (w.alloc (.cells #[.slice A n kA, .slice B m d, .int .i64 s] 57)).heap.size (w.alloc (.cells #[.slice A n kA, .slice B m d, .int .i64 s] 57)) w') :
    Calls Try.prog 53 #[.agg #[.slice A n kA, .slice B m d, .int .i64 s]] w (BackPost [] false w) := by
  have HT := Lib.hid (below1 w (.cells #[.slice A n kA, .slice B m d, .int .i64 s] 57))
  have HPL := Lib.hid hpl
  have hq := Whole.fresh w 57 #[.slice A n kA, .slice B m d, .int .i64 s]
  obtain ⟨q0, q1, q2⟩ := hq.cells3
  clear hpl
  go_enter Try.func53, Try.ntmps53
  go_wp2_with fail
  refine HPL.out.mono ?_
  rintro e w1 ⟨rfl, hb⟩
  have HT1 := Lib.hid (below_then HT.out hb HT.out.size)
  have hbx : Whole (w1.alloc (.cells #[.slice none 0 0, .bool false, .bool false, .bool false, .bool false, .bool false, .bool false, .bool false, .bool false, .bool false, .map none] 78)) w1.heap.size 78 #[.slice none 0 0, .bool false, .bool false, .bool false, .bool false, .bool false, .bool false, .bool false, .bool false, .bool false, .map none] := Whole.fresh _ _ _
  have HT2 := Lib.hid (HT1.out.alloc HT1.out.size (.cells #[.slice none 0 0, .bool false, .bool false, .bool false, .bool false, .bool false, .bool false, .bool false, .bool false, .bool false, .map none] 78))
  clear hb q0 q1 q2 hq
  unfold zero11
  obtain ⟨c0, c1, c2, c3, c4, c5, c6, c7, c8, c9, c10⟩ := cells11 hbx
  have hbl := hbx.lt
  go_wp2_with fail
  have hln := firstPlan_zero (w1.alloc (.cells #[.slice none 0 0, .bool false, .bool false, .bool false, .bool false, .bool false, .bool false, .bool false, .bool false, .bool false, .map none] 78))
  unfold zero11 at hln
  refine hln.mono ?_
  clear hln
  rintro e w2 ⟨rfl, hb⟩
  have HT3 := Lib.hid (below_then HT2.out hb HT2.out.size)
  clear hb hbx c0 c1 c2 c3 c4 c5 c6 c7 c8 c9 c10 hbl
  go_wp2
  go_ret2
  exact BackPost.no HT3.out

set_option maxHeartbeats 6400000 in
set_option maxRecDepth 100000 in
set_option linter.unusedVariables false in
theorem implCarF_yes (A : Option Addr) (n kA : Nat) (B : Option Addr) (m d : Nat) (xs : List Int) (bs : List Bool) (s v0 : Int) (w : World) (hok : CrewOk xs m s) (hx : xs.length = n) (hv : costM xs bs s true n 0 = some v0)
    (hpl : Calls Try.prog 104 #[.agg #[.slice A n kA, .slice B m d, .int .i64 s]] (w.alloc (.cells #[.slice A n kA, .slice B m d, .int .i64 s] 57)) (CarPost xs bs s n (w.alloc (.cells #[.slice A n kA, .slice B m d, .int .i64 s] 57)))) :
    Calls Try.prog 53 #[.agg #[.slice A n kA, .slice B m d, .int .i64 s]] w (BackPost (goB (costOf xs true) (crewLists xs bs s) (costM xs bs s true n) 512 0) true w) := by
  have HT := Lib.hid (below1 w (.cells #[.slice A n kA, .slice B m d, .int .i64 s] 57))
  have HPL := Lib.hid hpl
  have h7 := hok.seven
  have HLO := Lib.hid (cost_ok (bs := bs) (b := true) hok hx)
  have HSM := Lib.hid (crew_small (xs := xs) bs s h7)
  have HV := Lib.hid hv
  have HED : Hid (codeOf (trues n) true ∈ sts 4) := code_mem (by simp [trues]; omega)
  have hq := Whole.fresh w 57 #[.slice A n kA, .slice B m d, .int .i64 s]
  obtain ⟨q0, q1, q2⟩ := hq.cells3
  rw [cost_true] at HLO
  clear hpl hv hok hx
  go_enter Try.func53, Try.ntmps53
  go_wp2_with fail
  refine HPL.out.mono ?_
  rintro e w1 ⟨E, cE, mb, rfl, hown, hmap, hb⟩
  have HT1 := Lib.hid (below_then HT.out hb HT.out.size)
  obtain ⟨x, hxx⟩ : ∃ x, codeOf (trues n) true = x := ⟨_, rfl⟩
  obtain ⟨M, hM⟩ : ∃ M, costM xs bs s true n = M := ⟨_, rfl⟩
  obtain ⟨Ls, hLs⟩ : ∃ Ls, crewLists xs bs s = Ls := ⟨_, rfl⟩
  have HQ9 : Hid (goB (loadOf xs) Ls M 512 0 = goB (costOf xs true) (crewLists xs bs s) (costM xs bs s true n) 512 0) := by show _ = _; rw [cost_true, ← hLs, ← hM]
  rw [hM] at hmap HV HLO
  rw [hLs] at hown HSM HLO
  rw [hxx] at HED HLO
  rw [hxx, hLs]
  have hfp := firstPlan_any (loadOf xs) _ E cE Ls x mb M v0 (w1.alloc (.cells (routeC E Ls.length cE x mb) 78)) (hown.alloc _) (hmap.alloc _) HLO.out HSM.out HED.out HV.out
  have HBL := Lib.hid hfp
  have hbx : Whole (w1.alloc (.cells (routeC E Ls.length cE x mb) 78)) w1.heap.size 78 (routeC E Ls.length cE x mb) := Whole.fresh _ _ _
  have HT2 := Lib.hid (HT1.out.alloc HT1.out.size (.cells (routeC E Ls.length cE x mb) 78))
  clear hb hown hmap hxx hM hfp q0 q1 q2 hq
  obtain ⟨k, hk⟩ : ∃ k, Ls.length = k := ⟨_, rfl⟩
  rw [hk] at hbx HT2 HBL ⊢
  clear hk
  unfold routeC at hbx HT2 HBL
  unfold routeC
  obtain ⟨c0, c1, c2, c3, c4, c5, c6, c7, c8, c9, c10⟩ := cells11 hbx
  have hbl := hbx.lt
  go_wp2_with fail
  refine HBL.out.mono ?_
  rintro e w2 ⟨A1, cA, rs, rfl, hrn, hh, hb⟩
  have HT3 := Lib.hid (below_then HT2.out hb HT2.out.size)
  have HRN := Lib.hid (hrn.trans HQ9.out)
  have HH := Lib.hid (hh.raise (show w.heap.size ≤ _ from HT2.out.size))
  clear hb hbx c0 c1 c2 c3 c4 c5 c6 c7 c8 c9 c10 hbl hrn hh HBL HPL
  go_wp2
  go_ret2
  exact ⟨A1, rs.length, cA, rs, rfl, HRN.out, rfl, HH.out.free, HT3.out⟩

theorem implLeastCarried_any (A : Option Addr) (n kA : Nat) (B : Option Addr) (m d : Nat) (xs : List Int) (bs : List Bool) (s : Int) (w : World) (hA : Holds w A (nums xs)) (hB : Holds w B (bits bs)) (hx : xs.length = n) (hy : bs.length = m) (hn : n ≤ 9223372036854775807) (hkA : n ≤ kA) (hkB : kA ≤ 9223372036854775807) :
    Calls Try.prog 51 #[.agg #[.slice A n kA, .slice B m d, .int .i64 s]] w (fun e w' => e = .returned (.tuple #[.int .i64 (loN xs bs m s true), .bool (loOk xs bs m s true)]) ∧ Below w.heap.size w w') := by
  have hA1 := hA.alloc (.cells #[.slice A n kA, .slice B m d, .int .i64 s] 57)
  have hB1 := hB.alloc (.cells #[.slice A n kA, .slice B m d, .int .i64 s] 57)
  cases h1 : isCrew xs m s
  · have h0 : loOk xs bs m s true = false := by rw [loOk, h1, Bool.false_and]
    rw [loN_no h0, h0]
    exact implCarL_zero A n kA B m d s w (carried_none A n kA B m d xs bs s _ hA1 hB1 hx hy hn hkA hkB h1)
  · have hok := isCrew_ok h1
    have h2 := lo_someC (bs := bs) (b := true) hok hx
    have h3 : loOk xs bs m s true = (costM xs bs s true n 0).isSome := by rw [loOk, h1, hx, h2, Bool.true_and]
    cases hv : costM xs bs s true n 0 with
    | none =>
      have h0 : loOk xs bs m s true = false := by rw [h3, hv]; rfl
      rw [loN_no h0, h0]
      exact implCarL_zero A n kA B m d s w (carried_no A n kA B m d xs bs s _ hA1 hB1 hx hy hn hkA hkB h1 hv)
    | some v0 =>
      have h0 : loOk xs bs m s true = true := by rw [h3, hv]; rfl
      rw [loN_yes h0 hx hv, h0]
      exact implCarL_yes A n kA B m d xs bs s v0 w hok hx hv (carried_yes A n kA B m d xs bs s _ hA1 hB1 hx hy hn hkA hkB v0 h1 hv)

theorem implFirstC_any (A : Option Addr) (n kA : Nat) (B : Option Addr) (m d : Nat) (xs : List Int) (bs : List Bool) (s : Int) (w : World) (hA : Holds w A (nums xs)) (hB : Holds w B (bits bs)) (hx : xs.length = n) (hy : bs.length = m) (hn : n ≤ 9223372036854775807) (hkA : n ≤ kA) (hkB : kA ≤ 9223372036854775807) :
    Calls Try.prog 53 #[.agg #[.slice A n kA, .slice B m d, .int .i64 s]] w (BackPost (loPl xs bs m s true) (loOk xs bs m s true) w) := by
  have hA1 := hA.alloc (.cells #[.slice A n kA, .slice B m d, .int .i64 s] 57)
  have hB1 := hB.alloc (.cells #[.slice A n kA, .slice B m d, .int .i64 s] 57)
  cases h1 : isCrew xs m s
  · have h0 : loOk xs bs m s true = false := by rw [loOk, h1, Bool.false_and]
    rw [loPl_no h0, h0]
    exact implCarF_zero A n kA B m d s w (carried_none A n kA B m d xs bs s _ hA1 hB1 hx hy hn hkA hkB h1)
  · have hok := isCrew_ok h1
    have h2 := lo_someC (bs := bs) (b := true) hok hx
    have h3 : loOk xs bs m s true = (costM xs bs s true n 0).isSome := by rw [loOk, h1, hx, h2, Bool.true_and]
    cases hv : costM xs bs s true n 0 with
    | none =>
      have h0 : loOk xs bs m s true = false := by rw [h3, hv]; rfl
      rw [loPl_no h0, h0]
      exact implCarF_zero A n kA B m d s w (carried_no A n kA B m d xs bs s _ hA1 hB1 hx hy hn hkA hkB h1 hv)
    | some v0 =>
      have h0 : loOk xs bs m s true = true := by rw [h3, hv]; rfl
      rw [loPl_yes h0 hx hv, h0]
      exact implCarF_yes A n kA B m d xs bs s v0 w hok hx hv (carried_yes A n kA B m d xs bs s _ hA1 hB1 hx hy hn hkA hkB v0 h1 hv)
end Go.Proofs.Ytlpeimlbpiofkaa

namespace Go.Proofs.Ytlpeimlbpiofkaa
open Go.ChangeShapes Go.WideShapes Go.ChangeAt Go.RowKit Go.Joins

theorem own : ownKnob Try.prog.godebug = none := by kernel_rfl
theorem laidOut : laidOutB Try.prog = true := by kernel_rfl
theorem cells_party : Try.prog.cellsOf 24 = 2 := by kernel_rfl

theorem cells_state : Try.prog.cellsOf 40 = 2 := by kernel_rfl

theorem holds_row {w : World} {x : Addr} {len : Nat} {zs : List Int} (hl : len ≤ zs.length) (hc : ∀ i, i < zs.length → w.cell? (x.add i) = some (.int .i64 (zs.getD i 0))) : Holds w (some x) (nums (zs.take len)) := by
  by_cases h0 : len = 0
  · subst h0; exact .inl rfl
  · obtain ⟨b, o, spot⟩ := x
    have hf := hc 0 (by omega)
    have hs : spot = none := by simpa [Addr.add] using World.cell?_spot hf
    subst hs
    refine .inr ⟨b, o, rfl, ?_, fun j u hu => ?_⟩
    · rcases Nat.lt_or_ge b w.heap.size with h | h
      · exact h
      · have : w.cell? ((⟨b, o, none⟩ : Addr).add 0) = none := by simp [World.cell?, Addr.add, Array.getElem?_eq_none h]
        rw [this] at hf; cases hf
    · have hj : j < len := by
        have h := List.getElem?_eq_some_iff.1 hu
        obtain ⟨h, -⟩ := h
        rw [nums_len, List.length_take] at h
        omega
      have h := hc j (by omega)
      rw [show (⟨b, o + j, none⟩ : Addr) = (⟨b, o, none⟩ : Addr).add j from by unfold Addr.add; split <;> simp_all, h]
      simp only [nums, List.getElem?_map, List.getElem?_take, hj, if_true] at hu
      rw [← hu, List.getD_eq_getElem?_getD, List.getElem?_eq_getElem (show j < zs.length by omega)]
      rfl

set_option maxRecDepth 100000 in
theorem open_nums {H : Type} {enc : TypeId × Value → H} {W : World} {n : Nat} {c : Value} {y : DataW H × List MemPlace} (h : DataW.trod enc Try.prog W 0 (fun _ => true) true n 22 [c] = some y) :
    ∃ (A : Option Addr) (len cap : Nat) (xs : List Int), c = .slice A len cap ∧ Holds W A (nums xs) ∧ xs.length = len ∧ len ≤ 9223372036854775807 := by
  rcases open_ints Try.underlying22 Try.underlying3 (by kernel_rfl) h with ⟨hcs, _⟩ | ⟨x, l, cp, zs, hcs, _, hl, hm, hz, _, hcell, _⟩
  · simp only [List.cons.injEq, and_true] at hcs
    exact ⟨none, 0, 0, [], hcs, .inl rfl, rfl, by omega⟩
  · simp only [List.cons.injEq, and_true] at hcs
    have hz' : zs.length = cp := by simpa using hz
    unfold maxLen at hm
    exact ⟨some x, l, cp, zs.take l, hcs, holds_row (by omega) hcell, by simp; omega, by omega⟩

set_option maxRecDepth 100000 in
theorem open_party {H : Type} {enc : TypeId × Value → H} {W : World} {base : Nat} {v : Value} {d : DataW H} {p : List MemPlace} (hv : Value.okWide Try.prog W .any base 24 v)
    (h : DataW.Trod enc Try.prog W 0 (fun _ => true) true 24 v d p) :
    ∃ (A : Option Addr) (n c : Nat) (xs : List Int) (s : Int), v = .agg #[.slice A n c, .int .i64 s] ∧ Holds W A (nums xs) ∧ xs.length = n ∧ n ≤ 9223372036854775807 := by
  obtain ⟨c0, c1, y0, y1, m, rfl, rfl, rfl, hy0, hy1⟩ := open_agg2 Try.underlying24 (by kernel_rfl) cells_party hv h
  obtain ⟨s, e1, -, -⟩ := DataW.trod_int Try.underlying3 hy1
  simp only [List.cons.injEq, and_true] at e1
  obtain ⟨A, n, c, xs, rfl, hA, hx, hn⟩ := open_nums hy0
  exact ⟨A, n, c, xs, s, by rw [e1], hA, hx, hn⟩

theorem holds_bits {w : World} {x : Addr} {len : Nat} {zs : List Bool} (hl : len ≤ zs.length) (hc : ∀ i, i < zs.length → w.cell? (x.add i) = some (.bool (zs.getD i false))) : Holds w (some x) (bits (zs.take len)) := by
  by_cases h0 : len = 0
  · subst h0; exact .inl rfl
  · obtain ⟨b, o, spot⟩ := x
    have hf := hc 0 (by omega)
    have hs : spot = none := by simpa [Addr.add] using World.cell?_spot hf
    subst hs
    refine .inr ⟨b, o, rfl, ?_, fun j u hu => ?_⟩
    · rcases Nat.lt_or_ge b w.heap.size with h | h
      · exact h
      · have : w.cell? ((⟨b, o, none⟩ : Addr).add 0) = none := by simp [World.cell?, Addr.add, Array.getElem?_eq_none h]
        rw [this] at hf; cases hf
    · have hj : j < len := by
        have h := List.getElem?_eq_some_iff.1 hu
        obtain ⟨h, -⟩ := h
        rw [bits_len, List.length_take] at h
        omega
      have h := hc j (by omega)
      rw [show (⟨b, o + j, none⟩ : Addr) = (⟨b, o, none⟩ : Addr).add j from by unfold Addr.add; split <;> simp_all, h]
      simp only [bits, List.getElem?_map, List.getElem?_take, hj, if_true] at hu
      rw [← hu, List.getD_eq_getElem?_getD, List.getElem?_eq_getElem (show j < zs.length by omega)]
      rfl

set_option maxRecDepth 100000 in
theorem open_bits {H : Type} {enc : TypeId × Value → H} {W : World} {n : Nat} {c : Value} {y : DataW H × List MemPlace} (h : DataW.trod enc Try.prog W 0 (fun _ => true) true n 38 [c] = some y) :
    ∃ (A : Option Addr) (len cap : Nat) (xs : List Bool), c = .slice A len cap ∧ Holds W A (bits xs) ∧ xs.length = len ∧ len ≤ 9223372036854775807 := by
  rcases Go.Deep.open_bools Try.underlying38 Try.underlying4 (by kernel_rfl) h with ⟨hcs, _⟩ | ⟨x, l, cp, f, hcs, _, hl, hm, _, hcell⟩
  · simp only [List.cons.injEq, and_true] at hcs
    exact ⟨none, 0, 0, [], hcs, .inl rfl, rfl, by omega⟩
  · simp only [List.cons.injEq, and_true] at hcs
    unfold maxLen at hm
    have hz' : ((List.range cp).map f).length = cp := by simp
    exact ⟨some x, l, cp, ((List.range cp).map f).take l, hcs, holds_bits (by omega) (fun i hi => by
      have hi' : i < cp := by omega
      rw [hcell i hi']
      simp [List.getD_eq_getElem?_getD, hi']), by simp; omega, by omega⟩

set_option maxRecDepth 100000 in
theorem open_state {H : Type} {enc : TypeId × Value → H} {W : World} {base : Nat} {v : Value} {d : DataW H} {p : List MemPlace} (hv : Value.okWide Try.prog W .any base 40 v)
    (h : DataW.Trod enc Try.prog W 0 (fun _ => true) true 40 v d p) :
    ∃ (A : Option Addr) (n c : Nat) (xs : List Bool) (s : Bool), v = .agg #[.slice A n c, .bool s] ∧ Holds W A (bits xs) ∧ xs.length = n ∧ n ≤ 9223372036854775807 := by
  obtain ⟨c0, c1, y0, y1, m, rfl, rfl, rfl, hy0, hy1⟩ := open_agg2 Try.underlying40 (by kernel_rfl) cells_state hv h
  obtain ⟨s, e1, -⟩ := DataW.trod_bool Try.underlying4 hy1
  simp only [List.cons.injEq, and_true] at e1
  obtain ⟨A, n, c, xs, rfl, hA, hx, hn⟩ := open_bits hy0
  exact ⟨A, n, c, xs, s, by rw [e1], hA, hx, hn⟩

set_option maxRecDepth 100000 in
theorem open_list {H : Type} {enc : TypeId × Value → H} {W : World} {base : Nat} {v : Value} {d : DataW H} {p : List MemPlace} (hv : Value.okWide Try.prog W .any base 22 v)
    (h : DataW.Trod enc Try.prog W 0 (fun _ => true) true 22 v d p) :
    ∃ (A : Option Addr) (n c : Nat) (xs : List Int), v = .slice A n c ∧ Holds W A (nums xs) ∧ xs.length = n ∧ n ≤ 9223372036854775807 := by
  obtain ⟨a0, len, cap, rfl⟩ := okWide_slice Try.underlying22 hv
  obtain ⟨fuel, hf⟩ := h
  exact open_nums (by simpa [Value.cells] using hf)
end Go.Proofs.Ytlpeimlbpiofkaa

namespace Go.Proofs.Ytlpeimlbpiofkaa
open Go.ChangeShapes Go.WideShapes Go.ChangeAt Go.RowKit Go.Joins

set_option maxRecDepth 100000 in
theorem open_whole {H : Type} {enc : TypeId × Value → H} {W : World} {base : Nat} {v : Value} {d : DataW H} {p : List MemPlace} (hv : Value.okWide Try.prog W .any base 3 v)
    (h : DataW.Trod enc Try.prog W 0 (fun _ => true) true 3 v d p) : ∃ k : Int, v = .int .i64 k ∧ -9223372036854775808 ≤ k ∧ k ≤ 9223372036854775807 := by
  obtain ⟨n, rfl, -, -, hw⟩ := open_int Try.underlying3 hv h
  simp only [Lit.wf, Bool.and_eq_true, decide_eq_true_eq] at hw
  exact ⟨n, rfl, hw.1, hw.2⟩

theorem holds_fn {w : World} {x : Addr} {len cap : Nat} {f : Nat → Value} (hl : len ≤ cap) (hc : ∀ i, i < cap → w.cell? (x.add i) = some (f i)) : Holds w (some x) ((List.range len).map f) := by
  by_cases h0 : len = 0
  · subst h0; exact .inl rfl
  · obtain ⟨b, o, spot⟩ := x
    have hf := hc 0 (by omega)
    have hs : spot = none := by simpa [Addr.add] using World.cell?_spot hf
    subst hs
    refine .inr ⟨b, o, rfl, ?_, fun j u hu => ?_⟩
    · rcases Nat.lt_or_ge b w.heap.size with h | h
      · exact h
      · have : w.cell? ((⟨b, o, none⟩ : Addr).add 0) = none := by simp [World.cell?, Addr.add, Array.getElem?_eq_none h]
        rw [this] at hf; cases hf
    · have hj : j < len := by
        have h := List.getElem?_eq_some_iff.1 hu
        obtain ⟨h, -⟩ := h
        simpa using h
      have h := hc j (by omega)
      rw [show (⟨b, o + j, none⟩ : Addr) = (⟨b, o, none⟩ : Addr).add j from by unfold Addr.add; split <;> simp_all, h]
      simp only [List.getElem?_map, List.getElem?_range hj, Option.map_some] at hu
      exact hu

set_option maxRecDepth 100000 in
theorem open_grid {H : Type} {enc : TypeId × Value → H} {W : World} {base : Nat} {v : Value} {d : DataW H} {p : List MemPlace} (hv : Value.okWide Try.prog W .any base 32 v)
    (h : DataW.Trod enc Try.prog W 0 (fun _ => true) true 32 v d p) :
    ∃ (A : Option Addr) (n c : Nat) (rs : List RowV), v = .slice A n c ∧ Grid W A rs ∧ rs.length = n ∧ n ≤ 9223372036854775807 := by
  obtain ⟨a0, len0, cap0, rfl⟩ := okWide_slice Try.underlying32 hv
  obtain ⟨fuel, hf⟩ := h
  have hf' : DataW.trod enc Try.prog W 0 (fun _ => true) true fuel 32 [.slice a0 len0 cap0] = some (d, p) := by simpa [Value.cells] using hf
  rcases Go.Deep.open_int_rows Try.underlying32 Try.underlying22 Try.underlying3 (by kernel_rfl) (by kernel_rfl) hf' with ⟨hcs, _⟩ | ⟨a, len, cap, A, L, C, Z, hcs, _, hl, hm, _, hrow⟩
  · simp only [List.cons.injEq, and_true] at hcs
    exact ⟨none, 0, 0, [], hcs, ⟨.inl rfl, fun r hr => by cases hr⟩, rfl, by omega⟩
  · simp only [List.cons.injEq, and_true] at hcs
    unfold maxLen at hm
    refine ⟨some a, len, cap, (List.range len).map fun r => ⟨A r, L r, C r, (Z r).take (L r)⟩, hcs, ⟨?_, fun r hr => ?_⟩, by simp, by omega⟩
    · have h1 := holds_fn (f := fun r => Value.slice (A r) (L r) (C r)) hl (fun i hi => (hrow i hi).1)
      simpa [rowVals, RowV.val, Function.comp_def] using h1
    · simp only [List.mem_map, List.mem_range] at hr
      obtain ⟨j, hj, rfl⟩ := hr
      obtain ⟨-, hLC, hCm, hZ, -, hnone, hsome⟩ := hrow j (by omega)
      unfold maxLen at hCm
      refine ⟨?_, by simp; omega, by show L j ≤ _; omega⟩
      show Holds W (A j) (nums ((Z j).take (L j)))
      cases hA : A j with
      | none =>
        have h0 := hnone hA
        have : Z j = [] := List.eq_nil_of_length_eq_zero (by omega)
        rw [this]
        exact .inl (by simp [nums])
      | some a' => exact holds_row (by omega) (fun i hi => (hsome a' hA).2 i (by omega))
end Go.Proofs.Ytlpeimlbpiofkaa

namespace Go.Proofs.Ytlpeimlbpiofkaa
open Go.ChangeShapes Go.WideShapes Go.ChangeAt Go.RowKit Go.Joins

theorem cells_crew : Try.prog.cellsOf 54 = 3 := by kernel_rfl

set_option maxRecDepth 100000 in
theorem open_crew {H : Type} {enc : TypeId × Value → H} {W : World} {base : Nat} {v : Value} {d : DataW H} {p : List MemPlace} (hv : Value.okWide Try.prog W .any base 54 v)
    (h : DataW.Trod enc Try.prog W 0 (fun _ => true) true 54 v d p) :
    ∃ (A : Option Addr) (n c : Nat) (xs : List Int) (B : Option Addr) (m d : Nat) (bs : List Bool) (s : Int), v = .agg #[.slice A n c, .slice B m d, .int .i64 s] ∧ Holds W A (nums xs) ∧ xs.length = n ∧ n ≤ 9223372036854775807 ∧ Holds W B (bits bs) ∧ bs.length = m ∧ m ≤ 9223372036854775807 := by
  obtain ⟨c0, c1, c2, y0, y1, y2, m, rfl, rfl, rfl, hy0, hy1, hy2⟩ := open_agg3 Try.underlying54 (by kernel_rfl) cells_crew hv h
  obtain ⟨s, e2, -, -⟩ := DataW.trod_int Try.underlying3 hy2
  simp only [List.cons.injEq, and_true] at e2
  obtain ⟨A, n, c, xs, rfl, hA, hx, hn⟩ := open_nums hy0
  obtain ⟨B, m, d, bs, rfl, hB, hy, hm⟩ := open_bits hy1
  exact ⟨A, n, c, xs, B, m, d, bs, s, by rw [e2], hA, hx, hn, hB, hy, hm⟩
end Go.Proofs.Ytlpeimlbpiofkaa
