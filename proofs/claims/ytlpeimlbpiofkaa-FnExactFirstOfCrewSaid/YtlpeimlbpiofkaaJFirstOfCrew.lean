/-
  What is proved: the given statement on FnExactFirstOfCrew: at every argument of its kinds the law returns true and the arguments read as before. Conditions: none beyond the statement's own.
  Beside it, what it stands on:
  What is proved: how lists of rows of one's own stand over stores and appends; what a call hands back that makes a list of rows. Conditions: none beyond the reading itself.
  What is proved: contracts of the model's loFirst, FirstOfCrew and FirstCarried: the first plan of least cost of a crew. Conditions: the arguments are read as they lie.
  What is proved: the contract of the program's FirstOfCrew. Conditions: the arguments are read as they lie.
  What is proved: the law FnExactFirstOfCrew returns true at every argument, and leaves all that was there as it was. Conditions: the arguments are read as they lie.
-/
import Derived.Deep.RegionHeld3
import Derived.JoinedOf
import Derived.Test.YtlpeimlbpiofkaaJ1FirstOfCrew
set_option linter.unusedSimpArgs false
set_option linter.unusedVariables false
namespace Go.Proofs.Ytlpeimlbpiofkaa
open Go.RowKit

/-- What a call hands back that makes a list of rows. -/
def LPostR (ls : List (List Int)) (w : World) (e : Ending) (w' : World) : Prop :=
  ∃ (A : Option Addr) (c : Nat) (rs : List RowV), e = .returned (.slice A rs.length c) ∧ rowNums rs = ls ∧ Heads w' w.heap.size A c rs ∧ Below w.heap.size w w'
theorem own_apartR {w : World} {base size n b : Nat} {e t : TypeId} {v : Value} {xs : List Value} {cs : Array Value} (h : w.ownsRow base e size v n xs) (hb : Whole w b t cs) (hn : t ≠ e) : v.ownBlock ≠ some b := by
  obtain ⟨-, ⟨hv, -⟩ | ⟨q, cap, cur, hv, hq, hh, r⟩⟩ := h
  · rw [hv]; simp [Value.ownBlock]
  · have hw : Whole w q e cur := hh
    have h1 := whole_ne hb hw hn
    rw [hv]
    simp only [Value.ownBlock, Option.map_some]
    exact fun e => h1 (Option.some.inj e).symm
theorem Fresh.kept_rowR {w w' : World} {lo hi base size n : Nat} {ty e : TypeId} {A : Option Addr} {v : Value} {xs ys : List Value} (hf : Fresh w lo hi ty A xs) (hg : w.grownBy w' v.ownBlock) (ho : w.ownsRow base e size v n ys) (hne : ty ≠ e) : Fresh w' lo hi ty A xs := by
  rcases hf with rfl | ⟨g, cs, hA, h1, h2, hw, h3, h4⟩
  · exact .inl rfl
  · exact .inr ⟨g, cs, hA, h1, h2, whole_apart hw hg (fun e => own_apartR ho hw hne e.symm), h3, h4⟩
theorem Heads.set_lowR {w : World} {lo c b : Nat} {A : Option Addr} {rs : List RowV} (h : Heads w lo A c rs) (hb : b < lo) (o : Nat) (u : Value) : Heads (w.setCell ⟨b, o, none⟩ u) lo A c rs := by
  obtain ⟨h1, ps, ⟨k1, k2, k3⟩, h3, h4⟩ := h
  refine ⟨ownsRow_setCell_below h1 (a := ⟨b, o, none⟩) hb u, ps, ⟨k1, fun k r p hk hp => ⟨(k2 k r p hk hp).1.set_out (.inl (by have := (h3 p (List.mem_of_getElem? hp)).1; omega)), (k2 k r p hk hp).2⟩, k3⟩, fun p hp => ⟨(h3 p hp).1, by have := (h3 p hp).2; simpa [World.setCell] using this⟩, h4⟩
theorem Heads.row_freshR {w : World} {lo c : Nat} {A : Option Addr} {rs : List RowV} (h : Heads w lo A c rs) : ∀ r ∈ rs, Fresh w lo w.heap.size 3 r.A (nums r.xs) ∧ r.xs.length = r.n ∧ r.n ≤ 1048576 := by
  obtain ⟨-, ps, ⟨k1, k2, -⟩, h3, -⟩ := h
  intro r hr
  obtain ⟨i, hi, rfl⟩ := List.getElem_of_mem hr
  have hp : i < ps.length := by omega
  obtain ⟨f1, f2, f3⟩ := k2 i rs[i] ps[i] (by simp [hi]) (by simp [hp])
  obtain ⟨h4, h5⟩ := h3 ps[i] (List.getElem_mem hp)
  exact ⟨f1.more h4 h5, f2, f3⟩
def TwoR (g : Nat) (x y : Value) (w : World) : Prop := w.cell? ⟨g, 0, none⟩ = some x ∧ w.cell? ⟨g, 1, none⟩ = some y
theorem two_ofR {g : Nat} {t : TypeId} {x y : Value} {w : World} (h1 : Whole w g t #[x, y]) : TwoR g x y w := ⟨h1.cell 0, h1.cell 1⟩
theorem goB_smallR {T : List Int → Int} {L : List (List Int)} {M : Nat → Option Int} (hL : ∀ l ∈ L, l.length ≤ 8) : (goB T L M 512 0).length ≤ 1048576 ∧ ((goB T L M 512 0).map List.length).sum ≤ 1048576 := by
  have h1 := goB_len T L M 512 0
  have h2 := sum_lens (ls := goB T L M 512 0) (k := 8) fun l hl => hL l (goB_mem _ _ l hl)
  exact ⟨by omega, by omega⟩
end Go.Proofs.Ytlpeimlbpiofkaa

namespace Go.Proofs.Ytlpeimlbpiofkaa
open Go.RowKit

theorem filter_at {α : Type} {f : α → Bool} {l : α} {r : List α} : ∀ (ls : List α), ls.filter f = l :: r → ∃ j, ∃ h : j < ls.length, ls[j] = l ∧ f l = true ∧ ∀ i (hi : i < ls.length), i < j → f ls[i] = false
  | [], h => by cases h
  | x :: ls, h => by
    by_cases hx : f x = true
    · rw [List.filter_cons_of_pos hx] at h
      obtain ⟨rfl, -⟩ := List.cons.inj h
      exact ⟨0, by simp, rfl, hx, fun i _ hi => by omega⟩
    · rw [List.filter_cons_of_neg hx] at h
      obtain ⟨j, hj, h1, h2, h3⟩ := filter_at ls h
      refine ⟨j + 1, by simp; omega, by simpa using h1, h2, fun i hi hij => ?_⟩
      cases i with
      | zero => simpa using hx
      | succ i => simpa using h3 i (by simpa using hi) (by omega)

set_option maxHeartbeats 12800000 in
set_option maxRecDepth 100000 in
set_option linter.unusedVariables false in
set_option linter.unusedSimpArgs false in
theorem loFirst_any (A : Option Addr) (n c : Nat) (B : Option Addr) (m d : Nat) (xs : List Int) (bs : List Bool) (s : Int) (b : Bool) (v0 : Int) (w : World) (hA : Holds w A (nums xs)) (hB : Holds w B (bits bs)) (hx : xs.length = n) (hy : bs.length = m) (hok : CrewOk xs m s) (hv0 : costM xs bs s b n 0 = some v0) :
    Calls Try.prog 97 #[.agg #[.slice A n c, .slice B m d, .int .i64 s], .bool b] w (LPostR (goB (costOf xs b) (crewLists xs bs s) (costM xs bs s b n) 512 0) w) := by
  obtain ⟨i1, ri, rz0, rz1, rz2⟩ := info_parts info_row
  have RI := Lib.hid ri
  have RZ0 := Lib.hid rz0
  have RZ1 := Lib.hid rz1
  have RZ2 := Lib.hid rz2
  have HA := Lib.hid hA
  have HB0 := Lib.hid hB
  have HX := Lib.hid hx
  have HY := Lib.hid hy
  have HOK := Lib.hid hok
  have HG0 := Lib.hid hv0
  have hn7 : n ≤ 7 := by have := hok.seven; omega
  have hn8 : n ≤ 8 := by omega
  have h1n : 1 ≤ n := by have := hok.one; omega
  have HLO := Lib.hid (cost_ok (bs := bs) (b := b) hok hx)
  have HUPN : Hid (∀ l ∈ crewLists xs bs s, l ∈ upLists n n) := fun l hl => by have h := crew_up hl; rw [hx] at h; exact h
  have HFL : Hid ((falses n).length = n) := by show _ = _; simp [falses]
  have hq := Whole.fresh w 57 #[.slice A n c, .slice B m d, .int .i64 s]
  have ht := below1 w (.cells #[.slice A n c, .slice B m d, .int .i64 s] 57)
  obtain ⟨c0, c1, c2⟩ := hq.cells3
  obtain ⟨M, hM⟩ : ∃ M, costM xs bs s b n = M := ⟨_, rfl⟩
  obtain ⟨T, hT⟩ : ∃ T, costOf xs b = T := ⟨_, rfl⟩
  obtain ⟨Ls, hLs⟩ : ∃ Ls, crewLists xs bs s = Ls := ⟨_, rfl⟩
  have HMD := Lib.hid hM
  have HTD := Lib.hid hT
  have HLD := Lib.hid hLs
  rw [hM, hT, hLs] at HLO
  rw [hLs] at HUPN
  rw [hM] at HG0
  rw [hM, hT, hLs]
  clear hA hB hx hy hok hv0 hM hT hLs ri rz0 rz1 rz2
  go_enter Try.func97, Try.ntmps97
  go_wp2_with fail
  refine (loFar_any A n c B m d xs bs s b _ (HA.out.below ht) (HB0.out.below ht) HX.out HY.out HOK.out).mono ?_
  rintro e w1 ⟨gF, gW, done, o, W, rfl, hol, hf, -, -, hL, hno, hbd, -, hb⟩
  have HTE : Hid (TellsO n M o) := by show TellsO n M o; rw [← HMD.out]; exact cost_tells HOK.out HX.out hL hno (fun i => (hbd i).1)
  have HOL := Lib.hid hol
  have HNO := Lib.hid hbd
  have ht1 := below_then ht hb (by simp)
  have hq1 := hq.below hb
  obtain ⟨z, hz⟩ : ∃ z, o.length = z := ⟨_, rfl⟩
  rw [hz]
  have HZ := Lib.hid hz
  clear hb c0 c1 c2 hL hno hbd hol hz hq ht
  obtain ⟨c0, c1, c2⟩ := hq1.cells3
  have hlc := hq1.lt
  go_wp2_with fail
  refine (loParty_any A n c B m d s w1).mono ?_
  rintro e wp ⟨rfl, hbp⟩
  go_wp2_with fail
  refine (paFirst_any A n c 0 _ (by omega)).mono ?_
  rintro e w2 ⟨rfl, hw9, hbf⟩
  obtain ⟨g1, hg1⟩ : ∃ g, g = wp.heap.size + 1 + 1 := ⟨_, rfl⟩
  rw [← hg1] at hw9 ⊢
  have hg1l := hw9.lt
  have hb2 := below_then hbp hbf hbp.size
  have hFr2 := hf.below hb2
  have hq2 := hq1.below hb2
  have ht2 := below_then ht1 hb2 ht1.size
  clear hbp hbf hb2 c0 c1 c2 hlc hf hq1 ht1
  have HS3 := Lib.hid (Whole.fresh w2 44 #[.slice (some ⟨g1, 0, none⟩) n n, .bool false])
  have HF3 := Lib.hid (hFr2.alloc (.cells #[.slice (some ⟨g1, 0, none⟩) n n, .bool false] 44))
  have HQ3 := Lib.hid (hq2.alloc (.cells #[.slice (some ⟨g1, 0, none⟩) n n, .bool false] 44))
  have HT3 := Lib.hid (ht2.alloc ht2.size (.cells #[.slice (some ⟨g1, 0, none⟩) n n, .bool false] 44))
  have HD3 := Lib.hid (Fresh.of_whole (lo := 0) (hi := w2.heap.size) (hw9.alloc (.cells #[.slice (some ⟨g1, 0, none⟩) n n, .bool false] 44)) (Nat.zero_le _) hg1l)
  have hgS : gF < w2.heap.size := hFr2.lt
  have hws : w.heap.size < w2.heap.size := hq2.lt
  clear hw9 hg1l hFr2 hq2 ht2 hg1
  go_wp2
  go_loopg [8] 512 (fun gh v wr => ∃ (sb : List Bool) (t : Bool) (D : Option Addr) (dC fl fh : Nat) (u : Int) (rs : List RowV) (E : Option Addr) (cE : Nat), sb.length = n ∧ M (codeOf sb t) = some u ∧ lessN (sts 4) M u ≤ gh ∧ rowNums rs ++ goB T Ls M gh (codeOf sb t) = goB T Ls M 512 0 ∧ v = .slice E rs.length cE ∧ rs.length + gh = 512 ∧ Heads wr (w2.heap.size + 1) E cE rs ∧ Whole wr w2.heap.size 44 #[.slice D n dC, .bool t] ∧ Fresh wr fl fh 4 D (bits sb) ∧ (w2.heap.size < fl ∨ fh ≤ w2.heap.size) ∧ Whole wr gF 3 (nums o).toArray ∧ Whole wr w.heap.size 57 #[.slice A n c, .slice B m d, .int .i64 s] ∧ Below w.heap.size w wr)
  case atStart => exact ⟨falses n, false, some ⟨g1, 0, none⟩, n, 0, w2.heap.size, v0, [], none, 0, HFL.out, by rw [code_first n]; exact HG0.out, Nat.le_trans (less_le _ _ _) (by rw [show (sts 4).length = 512 from List.length_range]; exact Nat.le_refl _), by rw [code_first n]; rfl, rfl, rfl, Heads.nil _ _, HS3.out, HD3.out, .inr (Nat.le_refl _), HF3.out, HQ3.out, HT3.out⟩
  case round =>
    clear HS3 HF3 HQ3 HT3 HD3 HG0
    obtain ⟨sb, t, D, dC, fl, fh, u, rs, E, cE, hbl, hg, hless, hls, rfl, hlen, hH, hS, hD, hfh, hF, hQ, hb⟩ := hrel
    obtain ⟨wz, rfl⟩ : ∃ W : World, W = wr := ⟨_, rfl⟩
    obtain ⟨e0, e1, -, -⟩ := hS.two
    have hsl := hS.lt
    have HBL := Lib.hid hbl
    have HBZ0 := Lib.hid hb
    have HHD0 := Lib.hid hH
    have HS0 := Lib.hid hS
    have HD0 := Lib.hid hD
    have HF00 := Lib.hid hF
    have HQ0 := Lib.hid hQ
    have HLS9 := Lib.hid hls
    have HFA : Hid (farS o sb t = u) := by show _ = _; rw [HTE.out sb t hbl, hg]; rfl
    obtain ⟨x0, hx0⟩ : ∃ y, num sb t.toNat = y := ⟨_, rfl⟩
    have hxz : x0 < z := by have h := num_lt sb t; rw [hbl, hx0] at h; rw [← HZ.out, HOL.out]; exact h
    have hxi : (x0 : Int) < (z : Int) := by omega
    have HX0 := Lib.hid hx0
    have HF0 : Hid (o.getD x0 0 = u) := by show _ = _; rw [getD_m1W (by rw [HZ.out]; exact hxz), ← HX0.out]; exact HFA.out
    have hlo : w2.heap.size + 1 ≤ wz.heap.size := hS.lt
    clear hb hH hS hD hF hQ hls hbl hx0
    go_wp2_with fail
    refine (seIndex_any D n dC sb t wz HD0.out.holds HBL.out hn8).mono ?_
    rintro e wi ⟨rfl, hbi⟩
    rw [HX0.out]
    have HBI := Lib.hid hbi
    have k0 := num_cellW (v := u) (HF00.out.below hbi) (i := x0) (by rw [HZ.out]; exact hxz) HF0.out
    have hfl := (HF00.out.below hbi).lt
    clear hbi e0 e1 hsl
    by_cases hu : 0 < u
    · have hdu : decide (0 < u) = true := by simpa using hu
      have hub : u ≤ 512000000 := by have h := (HLO.out.low (codeOf sb t)).2; unfold lf at h; rw [hg] at h; exact h
      obtain ⟨f', l, r9, u2, rfl, hhd, hgo, hlm, hg2, hl2, -⟩ := goB_next HLO.out hg hu hless
      have hnb : nextO T Ls o sb t = l :: r9 := by rw [next_best HLO.out hn8 HUPN.out HBL.out HTE.out hg, hhd]
      have HST0 : Hid (∀ l ∈ ridesAt sb t Ls, StepsTo l ((n : Int) - 1) l.length ∧ l.length ≤ 8 ∧ 1 ≤ T l ∧ T l ≤ 1000000 ∧ 0 ≤ farS o (flipped sb l) (!t) ∧ farS o (flipped sb l) (!t) ≤ 512000000) := fun l hl => by
        have hl1 := (List.mem_filter.1 hl).1
        have h2 := up_steps (HUPN.out l hl1)
        have h3 := HLO.out.time l hl1
        have hst := step_code (t := t) HBL.out (fun y hy => by have := mem_steps h2.1 hy; omega : ∀ y ∈ l, 0 ≤ y ∧ y < (n : Int))
        have h4 : ridesAt sb t Ls = mvsW 4 Ls (codeOf sb t) := by
          have h5 := rides_pad (p := n) (x := codeOf sb t) (L := Ls) hn8 HUPN.out
          rwa [bits_back HBL.out, torch_back] at h5
        obtain ⟨u5, hu5⟩ := HLO.out.step hg (by rw [← h4]; exact hl)
        have h6 := HLO.out.low (stepC (codeOf sb t) l)
        unfold lf at h6
        rw [hu5] at h6
        have h7 := HTE.out (flipped sb l) (!t) (by rw [flipped_len]; exact HBL.out)
        rw [← hst, hu5] at h7
        rw [h7]
        exact ⟨h2.1, by omega, h3.1, h3.2, h6⟩
      obtain ⟨j0, hj0, hjl0, hjok, hjlow⟩ := filter_at _ hnb
      have hstp := step_code (t := t) HBL.out (fun y hy => by have := mem_steps (HST0.out l (by rw [← hjl0]; exact List.getElem_mem hj0)).1 hy; omega : ∀ y ∈ l, 0 ≤ y ∧ y < (n : Int))
      rw [hstp] at hg2 hgo
      have HG := Lib.hid hg2
      have HLE := Lib.hid hl2
      have HGO := Lib.hid hgo
      have HLEN := Lib.hid hlen
      clear hg hg2 hl2 hgo hhd hless hlm hstp hu hlen hnb
      obtain ⟨q0, q1, q2⟩ := (HQ0.out.below HBI.out).cells3
      have hql := (HQ0.out.below HBI.out).lt
      obtain ⟨e0, e1, -, -⟩ := (HS0.out.below HBI.out).two
      have hsl := (HS0.out.below HBI.out).lt
      go_wp2_with fail
      refine (loRides_any A n c B m d xs bs s D n dC sb t wi (HA.out.below (below_then HBZ0.out HBI.out HBZ0.out.size)) (HB0.out.below (below_then HBZ0.out HBI.out HBZ0.out.size)) (HD0.out.below HBI.out).holds HX.out HY.out HBL.out HOK.out (by rw [HX.out]; exact HBL.out)).mono ?_
      clear k0 hfl q0 q1 q2 hql e0 e1 hsl
      rintro e w4 ⟨G, cG, rs4, rfl, hrn, hh, hb4⟩
      rw [HLD.out] at hrn
      have HB4 := Lib.hid (below_then HBI.out hb4 HBI.out.size)
      have HB3C : Hid (Below wz.heap.size wz wi) := HBI.out
      have hrlen : rs4.length = (ridesAt sb t Ls).length := by rw [← hrn, rowNums_len]
      have HES : Hid (∀ k (hk : k < rs4.length), rs4[k].xs ∈ ridesAt sb t Ls ∧ (k = j0 → rs4[k].xs = l ∧ (decide (0 ≤ farS o (flipped sb l) (!t)) && decide (farS o (flipped sb l) (!t) + T l = farS o sb t)) = true) ∧ (k < j0 → (decide (0 ≤ farS o (flipped sb rs4[k].xs) (!t)) && decide (farS o (flipped sb rs4[k].xs) (!t) + T rs4[k].xs = farS o sb t)) = false)) := fun k hk => by
        have h1 : k < (ridesAt sb t Ls).length := by omega
        have h2 : (ridesAt sb t Ls)[k] = rs4[k].xs := by have h := rowNums_get hk; simp only [hrn] at h; exact h
        refine ⟨by rw [← h2]; exact List.getElem_mem h1, fun e => ?_, fun hlt => ?_⟩
        · subst e
          exact ⟨by rw [← h2]; exact hjl0, hjok⟩
        · have h3 := hjlow k h1 hlt
          rw [h2] at h3
          exact h3
      have hj0r : j0 < rs4.length := by omega
      have HHR := Lib.hid hh
      have HRL4 := Lib.hid (own_partsW hh.1)
      have hrl4 := own_partsW hh.1
      clear hb4 hrn hh hrlen hjl0 hjok hjlow hj0
      obtain ⟨w3c, hw3c⟩ : ∃ X, X = wi := ⟨_, rfl⟩
      rw [← hw3c] at HB3C HHR
      go_wp2
      go_loopw [8, 32] (fun v i wr => ∃ j : Nat, j ≤ j0 ∧ v = .slice E rs.length cE ∧ i = .int .i64 j ∧ Below w4.heap.size w4 wr) (fun _ i _ => rs4.length - (intOf i).toNat)
      case atStart => exact ⟨0, Nat.zero_le _, rfl, rfl, Below.refl _ _⟩
      case round =>
        obtain ⟨j, hj, rfl, rfl, hbj⟩ := hrel
        obtain ⟨wv, rfl⟩ : ∃ W : World, W = wr := ⟨_, rfl⟩
        have hjl : j < rs4.length := by omega
        have hd5 : decide ((j : Int) < (rs4.length : Int)) = true := by simp; omega
        obtain ⟨hmem, hyes, hno⟩ := HES.out j hjl
        obtain ⟨hst1, hl8, ht1', ht2', hv1, hv2⟩ := HST0.out _ hmem
        obtain ⟨b5, o5, rfl, hbl5, hcell5, hrow5, hrl5, hrn5⟩ := (HHR.out.free.grid.below hbj).look hjl
        have hfr5 := (HHR.out.row_freshR rs4[j] (List.getElem_mem hjl)).1
        obtain ⟨rr, hrr0⟩ : ∃ rr, rs4[j] = rr := ⟨_, rfl⟩
        rw [hrr0] at hcell5 hrow5 hrl5 hrn5 hst1 hl8 ht1' ht2' hv1 hv2 hyes hno hfr5
        clear hrr0 hmem
        obtain ⟨rA, rn, rc, rx⟩ := rr
        simp only [RowV.val] at hcell5 hrow5 hrl5 hrn5 hst1 hl8 ht1' ht2' hv1 hv2 hyes hno hfr5
        have HFR4 := Lib.hid hfr5
        obtain ⟨v, hv⟩ : ∃ v, farS o (flipped sb rx) (!t) = v := ⟨_, rfl⟩
        obtain ⟨tm, htm⟩ : ∃ tm, T rx = tm := ⟨_, rfl⟩
        have hcase : (j = j0 ∧ rx = l ∧ v + tm = u) ∨ (j < j0 ∧ ¬ v + tm = u) := by
          rcases Nat.lt_or_ge j j0 with h | h
          · right
            have h2 := hno h
            rw [hv, htm, HFA.out] at h2
            rw [hv] at hv1
            simp only [decide_eq_true hv1, Bool.true_and, decide_eq_false_iff_not] at h2
            exact ⟨h, h2⟩
          · left
            have hje : j = j0 := by omega
            obtain ⟨h3, h4⟩ := hyes hje
            rw [← h3, hv, htm, HFA.out] at h4
            simp only [Bool.and_eq_true, decide_eq_true_eq] at h4
            exact ⟨hje, h3, h4.2⟩
        rw [hv] at hv1 hv2
        rw [htm] at ht1' ht2'
        obtain ⟨y, hy⟩ : ∃ y, num (flipped sb rx) (!t).toNat = y := ⟨_, rfl⟩
        have hyz : y < z := by have h := num_lt (flipped sb rx) (!t); rw [flipped_len, HBL.out, hy] at h; rw [← HZ.out, HOL.out]; exact h
        have hyi : (y : Int) < (z : Int) := by omega
        have HV0 : Hid (o.getD y 0 = v) := by show _ = _; rw [getD_m1W (by rw [HZ.out]; exact hyz), ← hy]; exact hv
        have HY9 := Lib.hid hy
        have HT9 : Hid (costOf xs b rx = tm) := by show _ = _; rw [HTD.out]; exact htm
        have HLIN : Hid (∀ y ∈ rx, 0 ≤ y ∧ y < (n : Int)) := fun y hy => by have := mem_steps hst1 hy; omega
        have hwrp : IntKind.i64.wrap (v + tm) = v + tm := IntWalk.i64_in _ (by omega)
        have HRW := Lib.hid hrow5
        have HRL := Lib.hid hrl5
        have HST1 := Lib.hid hst1
        have HCS := Lib.hid hcase
        have HBJ := Lib.hid hbj
        have HZV := Lib.hid (below_then HB4.out hbj HB4.out.size)
        have HBZ := Lib.hid HBZ0.out
        have HHD := Lib.hid HHD0.out
        have hS1 := HS0.out.below HZV.out
        have hD1 := HD0.out.below HZV.out
        have hF1 := HF00.out.below HZV.out
        have hQ1 := HQ0.out.below HZV.out
        obtain ⟨e0, e1, -, -⟩ := hS1.two
        have hsl := hS1.lt
        obtain ⟨bD, oD, rfl, -, hDc⟩ := hD1.holds.spot (by simp [bits]; have := HBL.out; omega)
        have HDC := Lib.hid hDc
        have HF1 := Lib.hid hF1
        have hrn8 : rn ≤ 8 := by rw [← hrl5]; exact hl8
        clear hbj hrow5 hrl5 hst1 hyes hno hy hv htm hcase hS1 hD1 hF1 hQ1 hDc hfr5 hl8
        go_wp2_with fail
        refine (paCross_any bD oD n dC rA rn rc sb rx t wv HDC.out HBL.out (by omega) (by omega) HRW.out HRL.out (by omega) HST1.out).mono ?_
        rintro e wa ⟨A6, c6, rfl, hf6, hba⟩
        have hfln : (flipped sb rx).length = n := by rw [flipped_len, HBL.out]
        rw [hfln]
        have HFLN := Lib.hid hfln
        have hN0 := Whole.fresh wa 44 #[.slice A6 n c6, .bool (!t)]
        have hf7 := hf6.alloc (.cells #[.slice A6 n c6, .bool (!t)] 44)
        have hba2 := hba.alloc hba.size (.cells #[.slice A6 n c6, .bool (!t)] 44)
        obtain ⟨n0, n1, -, -⟩ := hN0.two
        have hnl := hN0.lt
        have hza := hba.size
        clear hba hf6 e0 e1 hsl hcell5 hbl5 hfln
        go_wp2_with fail
        refine (seIndex_any A6 n c6 (flipped sb rx) (!t) _ hf7.holds HFLN.out hn8).mono ?_
        rintro e wb ⟨rfl, hbb⟩
        rw [HY9.out]
        have HBX := Lib.hid (below_then hba2 hbb hba2.size)
        have HNB := Lib.hid (hN0.below hbb)
        have HDB := Lib.hid (hf7.below hbb)
        have HBW := Lib.hid (below_then HZV.out HBX.out HZV.out.size)
        have HRWb := Lib.hid (HRW.out.below HBX.out)
        have k0 := num_cellW (v := v) (HF1.out.below HBX.out) (i := y) (by rw [HZ.out]; exact hyz) HV0.out
        have hfl2 := (HF1.out.below HBX.out).lt
        have HQ := Lib.hid HQ0.out
        have HS := Lib.hid HS0.out
        have HF := Lib.hid HF00.out
        have HD := Lib.hid HD0.out
        have hdv : decide (0 ≤ v) = true := by simpa using hv1
        clear hba2 hbb hN0 hf7 n0 n1 hnl
        rcases HCS.out with ⟨hje, hrxl, heq⟩ | ⟨hjj, hneq⟩
        · have hbq : (v + tm == u) = true := by simpa using heq
          subst hrxl
          clear heq hje
          go_upto_region 10 with fail
          clear k0 hfl2
          go_wp2_with fail
          refine wp_region_held_drew (S := (fun w' => Box3 w.heap.size (.slice A n c) (.slice B m d) (.int .i64 s) w' ∧ TwoR w2.heap.size (.slice (some ⟨bD, oD, none⟩) n dC) (.bool t) w' ∧ w'.cell? ⟨gF, x0, none⟩ = some (.int .i64 u))) (by kernel_rfl) ⟨box3_of (HQ.out.below (below_then HBW.out (Below.refl wb.heap.size wb).drew HBW.out.size)), two_ofR (HS.out.below (below_then HBW.out (Below.refl wb.heap.size wb).drew HBW.out.size)), num_cellW (v := u) (HF.out.below (below_then HBW.out (Below.refl wb.heap.size wb).drew HBW.out.size)) (i := x0) (by rw [HZ.out]; exact hxz) HF0.out⟩ (fun hHeld => ?_)
          have hbr := (Below.refl wb.heap.size wb).drew
          generalize World.drew wb = wd at hbr hHeld ⊢
          refine wpAnyH_take (i := 0) (v := ?_) rfl (by kernel_rfl) (by kernel_rfl) (by kernel_rfl) (fun _ _ _ h => h) (Or.inl ⟨rfl, ?_⟩) hHeld ?_
          rotate_left
          · intro w' hS; obtain ⟨⟨s0, s1, s2⟩, ⟨s3, s4⟩, s5⟩ := hS; go_simp <;> with_reducible rfl
          simp only [Act.put, List.getElem_toArray, List.getElem_cons_succ, List.getElem_cons_zero, List.setIfInBounds_toArray, List.set_cons_succ, List.set_cons_zero]
          refine wpAnyH_take (i := 1) (v := ?_) rfl (by kernel_rfl) (by kernel_rfl) (by kernel_rfl) (fun _ _ _ h => h) (Or.inl ⟨rfl, ?_⟩) hHeld ?_
          rotate_left
          · intro w' hS; obtain ⟨⟨s0, s1, s2⟩, ⟨s3, s4⟩, s5⟩ := hS; go_simp <;> with_reducible rfl
          simp only [Act.put, List.getElem_toArray, List.getElem_cons_succ, List.getElem_cons_zero, List.setIfInBounds_toArray, List.set_cons_succ, List.set_cons_zero]
          refine wpAnyH_take (i := 2) (v := ?_) rfl (by kernel_rfl) (by kernel_rfl) (by kernel_rfl) (fun _ _ _ h => h) (Or.inl ⟨rfl, ?_⟩) hHeld ?_
          rotate_left
          · intro w' hS; obtain ⟨⟨s0, s1, s2⟩, ⟨s3, s4⟩, s5⟩ := hS; go_simp <;> with_reducible rfl
          simp only [Act.put, List.getElem_toArray, List.getElem_cons_succ, List.getElem_cons_zero, List.setIfInBounds_toArray, List.set_cons_succ, List.set_cons_zero]
          refine wpAnyH_take (i := 3) (v := ?_) rfl (by kernel_rfl) (by kernel_rfl) (by kernel_rfl) (fun _ _ _ h => h) (Or.inl ⟨rfl, ?_⟩) hHeld ?_
          rotate_left
          · intro w' hS; obtain ⟨⟨s0, s1, s2⟩, ⟨s3, s4⟩, s5⟩ := hS; go_simp <;> with_reducible rfl
          simp only [Act.put, List.getElem_toArray, List.getElem_cons_succ, List.getElem_cons_zero, List.setIfInBounds_toArray, List.set_cons_succ, List.set_cons_zero]
          refine wpAnyH_take (i := 4) (v := ?_) rfl (by kernel_rfl) (by kernel_rfl) (by kernel_rfl) (fun _ _ _ h => h) (Or.inl ⟨rfl, ?_⟩) hHeld ?_
          rotate_left
          · intro w' hS; obtain ⟨⟨s0, s1, s2⟩, ⟨s3, s4⟩, s5⟩ := hS; go_simp <;> with_reducible rfl
          simp only [Act.put, List.getElem_toArray, List.getElem_cons_succ, List.getElem_cons_zero, List.setIfInBounds_toArray, List.set_cons_succ, List.set_cons_zero]
          refine wpAnyH_take (i := 5) (v := ?_) rfl (by kernel_rfl) (by kernel_rfl) (by kernel_rfl) (fun _ _ _ h => h) (Or.inl ⟨rfl, ?_⟩) hHeld ?_
          rotate_left
          · intro w' hS; obtain ⟨⟨s0, s1, s2⟩, ⟨s3, s4⟩, s5⟩ := hS; go_simp <;> with_reducible rfl
          simp only [Act.put, List.getElem_toArray, List.getElem_cons_succ, List.getElem_cons_zero, List.setIfInBounds_toArray, List.set_cons_succ, List.set_cons_zero]
          refine wpAnyH_take (i := 6) (v := ?_) rfl (by kernel_rfl) (by kernel_rfl) (by kernel_rfl) (fun _ _ _ h => h) (Or.inl ⟨rfl, ?_⟩) hHeld ?_
          rotate_left
          · intro w' hS; obtain ⟨⟨s0, s1, s2⟩, ⟨s3, s4⟩, s5⟩ := hS; go_simp <;> with_reducible rfl
          simp only [Act.put, List.getElem_toArray, List.getElem_cons_succ, List.getElem_cons_zero, List.setIfInBounds_toArray, List.set_cons_succ, List.set_cons_zero]
          refine wpAnyH_take (i := 9) (v := ?_) rfl (by kernel_rfl) (by kernel_rfl) (by kernel_rfl) (fun _ _ _ h => h) (Or.inl ⟨rfl, ?_⟩) hHeld ?_
          rotate_left
          · intro w' hS; obtain ⟨⟨s0, s1, s2⟩, ⟨s3, s4⟩, s5⟩ := hS; go_simp <;> with_reducible rfl
          simp only [Act.put, List.getElem_toArray, List.getElem_cons_succ, List.getElem_cons_zero, List.setIfInBounds_toArray, List.set_cons_succ, List.set_cons_zero]
          refine wpAnyH_take (i := 10) (v := ?_) rfl (by kernel_rfl) (by kernel_rfl) (by kernel_rfl) (fun _ _ _ h => h) (Or.inl ⟨rfl, ?_⟩) hHeld ?_
          rotate_left
          · intro w' hS; obtain ⟨⟨s0, s1, s2⟩, ⟨s3, s4⟩, s5⟩ := hS; go_simp <;> with_reducible rfl
          simp only [Act.put, List.getElem_toArray, List.getElem_cons_succ, List.getElem_cons_zero, List.setIfInBounds_toArray, List.set_cons_succ, List.set_cons_zero]
          refine wpAnyH_ready (rs := [7]) (by kernel_rfl) (by simp) (AllReadyH.cons rfl (fun K hK => ?_) AllReadyH.nil)
          go_simp
          refine (loCost_any A n c B m d xs s rA rn rc rx b _ (HA.out.below (below_then HBZ.out (below_then HBW.out hbr HBW.out.size) HBZ.out.size)) (HRWb.out.below hbr) HX.out HRL.out (by omega) (by omega) HOK.out.weights HLIN.out (by omega)).mono ?_
          rintro e9 wdc ⟨rfl, hb⟩
          rw [HT9.out]
          replace hbr := below_then hbr hb hbr.size
          clear hb
          refine hK.out _ _ ⟨box3_of (HQ.out.below (below_then HBW.out hbr HBW.out.size)), two_ofR (HS.out.below (below_then HBW.out hbr HBW.out.size)), num_cellW (v := u) (HF.out.below (below_then HBW.out hbr HBW.out.size)) (i := x0) (by rw [HZ.out]; exact hxz) HF0.out⟩ (fun hHeld => ?_)
          clear hK K
          try simp only [Act.put, List.getElem_toArray, List.getElem_cons_succ, List.getElem_cons_zero, List.setIfInBounds_toArray, List.set_cons_succ, List.set_cons_zero]
          refine wpAnyH_take (i := 8) (v := ?_) rfl (by kernel_rfl) (by kernel_rfl) (by kernel_rfl) (fun _ _ _ h => h) (Or.inl ⟨rfl, ?_⟩) hHeld ?_
          rotate_left
          · intro w' hS; obtain ⟨⟨s0, s1, s2⟩, ⟨s3, s4⟩, s5⟩ := hS; go_simp <;> with_reducible rfl
          simp only [Act.put, List.getElem_toArray, List.getElem_cons_succ, List.getElem_cons_zero, List.setIfInBounds_toArray, List.set_cons_succ, List.set_cons_zero]
          refine wpAnyH_ready (rs := [11]) (by kernel_rfl) (by simp) (AllReadyH.cons rfl (fun K hK => ?_) AllReadyH.nil)
          go_simp
          refine (seIndex_any (some ⟨bD, oD, none⟩) n dC sb t _ (HD.out.below (below_then HBW.out hbr HBW.out.size)).holds HBL.out hn8).mono ?_
          rintro e9 wdcs ⟨rfl, hb⟩
          rw [HX0.out]
          replace hbr := below_then hbr hb hbr.size
          clear hb
          refine hK.out _ _ ⟨box3_of (HQ.out.below (below_then HBW.out hbr HBW.out.size)), two_ofR (HS.out.below (below_then HBW.out hbr HBW.out.size)), num_cellW (v := u) (HF.out.below (below_then HBW.out hbr HBW.out.size)) (i := x0) (by rw [HZ.out]; exact hxz) HF0.out⟩ (fun hHeld => ?_)
          clear hK K
          try simp only [Act.put, List.getElem_toArray, List.getElem_cons_succ, List.getElem_cons_zero, List.setIfInBounds_toArray, List.set_cons_succ, List.set_cons_zero]
          refine wpAnyH_take (i := 12) (v := ?_) rfl (by kernel_rfl) (by kernel_rfl) (by kernel_rfl) (fun _ _ _ h => h) (Or.inl ⟨rfl, ?_⟩) hHeld ?_
          rotate_left
          · intro w' hS; obtain ⟨⟨s0, s1, s2⟩, ⟨s3, s4⟩, s5⟩ := hS; go_simp <;> with_reducible rfl
          simp only [Act.put, List.getElem_toArray, List.getElem_cons_succ, List.getElem_cons_zero, List.setIfInBounds_toArray, List.set_cons_succ, List.set_cons_zero]
          refine wpAnyH_take (i := 13) (v := ?_) rfl (by kernel_rfl) (by kernel_rfl) (by kernel_rfl) (fun _ _ _ h => h) (Or.inl ⟨rfl, ?_⟩) hHeld ?_
          rotate_left
          · intro w' hS; obtain ⟨⟨s0, s1, s2⟩, ⟨s3, s4⟩, s5⟩ := hS; go_simp <;> with_reducible rfl
          simp only [Act.put, List.getElem_toArray, List.getElem_cons_succ, List.getElem_cons_zero, List.setIfInBounds_toArray, List.set_cons_succ, List.set_cons_zero]
          refine wpAnyH_take (i := 14) (v := ?_) rfl (by kernel_rfl) (by kernel_rfl) (by kernel_rfl) (fun _ _ _ h => h) (Or.inl ⟨rfl, ?_⟩) hHeld ?_
          rotate_left
          · intro w' hS; obtain ⟨⟨s0, s1, s2⟩, ⟨s3, s4⟩, s5⟩ := hS; go_simp <;> with_reducible rfl
          simp only [Act.put, List.getElem_toArray, List.getElem_cons_succ, List.getElem_cons_zero, List.setIfInBounds_toArray, List.set_cons_succ, List.set_cons_zero]
          refine wpAnyH_take (i := 15) (v := ?_) rfl (by kernel_rfl) (by kernel_rfl) (by kernel_rfl) (fun _ _ _ h => h) (Or.inl ⟨rfl, ?_⟩) hHeld ?_
          rotate_left
          · intro w' hS; obtain ⟨⟨s0, s1, s2⟩, ⟨s3, s4⟩, s5⟩ := hS; go_simp <;> with_reducible rfl
          simp only [Act.put, List.getElem_toArray, List.getElem_cons_succ, List.getElem_cons_zero, List.setIfInBounds_toArray, List.set_cons_succ, List.set_cons_zero]
          refine wpAnyH_done (by kernel_rfl) ?_ _
          clear hHeld
          have HBC := Lib.hid (below_then HBX.out hbr HBX.out.size)
          have HBS := Lib.hid (below_then HBW.out hbr HBW.out.size)
          have hlw := HBS.out.size
          have HOWN := Lib.hid ((HHD.out.below HBS.out).alloc (.cells #[.slice rA rn rc] 22)).1
          have HMAX := Lib.hid (show rs.length + 1 ≤ maxLen by have := HLEN.out; unfold maxLen; omega)
          have HBYT := Lib.hid (show (rs.length + 1) * 24 ≤ 140737488355328 by have := HLEN.out; omega)
          have hlo : w2.heap.size + 1 ≤ wz.heap.size := HS.out.lt
          have hzvs := HZV.out.size
          have HBASE := Lib.hid (show w2.heap.size + 1 ≤ (wdcs.alloc (.cells #[.slice rA rn rc] 22)).heap.size by simp; omega)
          have HBX9 := Lib.hid (HBS.out.alloc hlw (.cells #[.slice rA rn rc] 22))
          have HN9 := Lib.hid ((HNB.out.below hbr).alloc (.cells #[.slice rA rn rc] 22))
          have HD9 := Lib.hid ((HDB.out.below hbr).alloc (.cells #[.slice rA rn rc] 22))
          have HFRW := Lib.hid (HFR4.out.below (below_then HBJ.out HBC.out HBJ.out.size))
          clear hbr
          go_upto_region 12 with (at_builtin; refine wpList_append_lies _ rfl (.tmp 60) (.tmp 62) 32 rfl (w2.heap.size + 1) 22 i1 (.slice none 0 0) 1 24 Try.underlying32 RI.out RZ0.out RZ1.out RZ2.out rfl (by decide) (.slice E rs.length cE) rs.length (rowVals rs) rfl HOWN.out ⟨wdcs.heap.size, 0, none⟩ 1 1 [.slice rA rn rc] rfl rfl (cell_one_new _ _ _) (by simp [Value.oneCell']) (by decide) HMAX.out HBYT.out HBASE.out (wdcs.heap.size + 1) (by simp) ?_; intro g5 cap w5 hown4 hg4 hat4 hlt4)
          have hrr : ∀ k, (Value.slice E rs.length cE).ownBlock = some k → w2.heap.size + 1 ≤ k ∧ k < wz.heap.size := fun k hk => HHD.out.1.lt k hk
          have HFRX : Hid (Fresh wdcs wz.heap.size wdcs.heap.size 3 rA (nums rx)) := HFRW.out.more (show wz.heap.size ≤ w3c.heap.size from HB3C.out.size) (show w4.heap.size ≤ _ by have h1 := HBJ.out.size; have h2 := HBC.out.size; omega)
          have HH5 := Lib.hid (Heads.push (r := ⟨rA, rn, rc, rx⟩) HHD.out hlo HBS.out HFRX.out HRL.out (by show rn ≤ _; omega) hown4 hg4 hat4)
          have hB5 := (below_then HBZ.out HBX9.out HBZ.out.size).grown hg4 (show w.heap.size ≤ (wdcs.alloc (.cells #[.slice rA rn rc] 22)).heap.size by simp; omega) (fun kk hkk => by have := (hrr kk hkk).1; omega)
          have hS5 := whole_apart (HS.out.below HBX9.out) hg4 (fun e => absurd (hrr _ e.symm).1 (by omega))
          have hF5 := whole_apart (HF.out.below HBX9.out) hg4 (fun e => absurd (hrr _ e.symm).1 (by omega))
          have hQ5 := whole_apart (HQ.out.below HBX9.out) hg4 (fun e => absurd (hrr _ e.symm).1 (by omega))
          have hN5 := whole_apart HN9.out hg4 (fun e => absurd (hrr _ e.symm).2 (by omega))
          have hD5 := Fresh.kept_rowR HD9.out hg4 HOWN.out (by decide)
          obtain ⟨a0, a1, a2, a3⟩ := hS5.two
          have hal := hS5.lt
          obtain ⟨n0, n1, -, -⟩ := hN5.two
          have hnl := hN5.lt
          have hz5 := hB5.size
          have HB7 := Lib.hid (below_set (b := w2.heap.size) (o := 1) (u := .bool (!t)) (below_set (b := w2.heap.size) (o := 0) (u := .slice A6 n c6) hB5 (by omega)) (by omega))
          have HH7 := Lib.hid ((HH5.out.set_lowR (b := w2.heap.size) (by omega) 0 (.slice A6 n c6)).set_lowR (b := w2.heap.size) (by omega) 1 (.bool (!t)))
          have HS7 := Lib.hid ((hS5.set_ 0 (.slice A6 n c6)).set_ 1 (.bool (!t)))
          have HF7 := Lib.hid ((hF5.off (b := w2.heap.size) (o := 0) (u := .slice A6 n c6) (by omega)).off (b := w2.heap.size) (o := 1) (u := .bool (!t)) (by omega))
          have HQ7 := Lib.hid ((hQ5.off (b := w2.heap.size) (o := 0) (u := .slice A6 n c6) (by omega)).off (b := w2.heap.size) (o := 1) (u := .bool (!t)) (by omega))
          have HD7 := Lib.hid ((hD5.set_out (b := w2.heap.size) (o := 0) (u := .slice A6 n c6) (.inl (by omega))).set_out (b := w2.heap.size) (o := 1) (u := .bool (!t)) (.inl (by omega)))
          clear hown4 hg4 hat4 hlt4 hB5 hS5 hF5 hQ5 hN5 hD5
          go_wp2
          go_roundg f'
          case measure => omega
          case rel => exact ⟨flipped sb rx, !t, A6, c6, wv.heap.size, wa.heap.size, u2, rs ++ [⟨rA, rn, rc, rx⟩], some ⟨g5, 0, none⟩, cap, HFLN.out, HG.out, HLE.out, by have h := HLS9.out; rw [HGO.out] at h; rw [rowNums, List.map_append]; simpa [rowNums] using h, by rw [List.length_append]; rfl, by have h := HLEN.out; rw [List.length_append, List.length_singleton]; omega, HH7.out, HS7.out, HD7.out, .inl (by omega), HF7.out, HQ7.out, HB7.out⟩
        · have hbq : (v + tm == u) = false := by simpa using hneq
          clear hneq
          go_upto_region 10 with fail
          clear k0 hfl2
          go_wp2_with fail
          refine wp_region_held_drew (S := (fun w' => Box3 w.heap.size (.slice A n c) (.slice B m d) (.int .i64 s) w' ∧ TwoR w2.heap.size (.slice (some ⟨bD, oD, none⟩) n dC) (.bool t) w' ∧ w'.cell? ⟨gF, x0, none⟩ = some (.int .i64 u))) (by kernel_rfl) ⟨box3_of (HQ.out.below (below_then HBW.out (Below.refl wb.heap.size wb).drew HBW.out.size)), two_ofR (HS.out.below (below_then HBW.out (Below.refl wb.heap.size wb).drew HBW.out.size)), num_cellW (v := u) (HF.out.below (below_then HBW.out (Below.refl wb.heap.size wb).drew HBW.out.size)) (i := x0) (by rw [HZ.out]; exact hxz) HF0.out⟩ (fun hHeld => ?_)
          have hbr := (Below.refl wb.heap.size wb).drew
          generalize World.drew wb = wd at hbr hHeld ⊢
          refine wpAnyH_take (i := 0) (v := ?_) rfl (by kernel_rfl) (by kernel_rfl) (by kernel_rfl) (fun _ _ _ h => h) (Or.inl ⟨rfl, ?_⟩) hHeld ?_
          rotate_left
          · intro w' hS; obtain ⟨⟨s0, s1, s2⟩, ⟨s3, s4⟩, s5⟩ := hS; go_simp <;> with_reducible rfl
          simp only [Act.put, List.getElem_toArray, List.getElem_cons_succ, List.getElem_cons_zero, List.setIfInBounds_toArray, List.set_cons_succ, List.set_cons_zero]
          refine wpAnyH_take (i := 1) (v := ?_) rfl (by kernel_rfl) (by kernel_rfl) (by kernel_rfl) (fun _ _ _ h => h) (Or.inl ⟨rfl, ?_⟩) hHeld ?_
          rotate_left
          · intro w' hS; obtain ⟨⟨s0, s1, s2⟩, ⟨s3, s4⟩, s5⟩ := hS; go_simp <;> with_reducible rfl
          simp only [Act.put, List.getElem_toArray, List.getElem_cons_succ, List.getElem_cons_zero, List.setIfInBounds_toArray, List.set_cons_succ, List.set_cons_zero]
          refine wpAnyH_take (i := 2) (v := ?_) rfl (by kernel_rfl) (by kernel_rfl) (by kernel_rfl) (fun _ _ _ h => h) (Or.inl ⟨rfl, ?_⟩) hHeld ?_
          rotate_left
          · intro w' hS; obtain ⟨⟨s0, s1, s2⟩, ⟨s3, s4⟩, s5⟩ := hS; go_simp <;> with_reducible rfl
          simp only [Act.put, List.getElem_toArray, List.getElem_cons_succ, List.getElem_cons_zero, List.setIfInBounds_toArray, List.set_cons_succ, List.set_cons_zero]
          refine wpAnyH_take (i := 3) (v := ?_) rfl (by kernel_rfl) (by kernel_rfl) (by kernel_rfl) (fun _ _ _ h => h) (Or.inl ⟨rfl, ?_⟩) hHeld ?_
          rotate_left
          · intro w' hS; obtain ⟨⟨s0, s1, s2⟩, ⟨s3, s4⟩, s5⟩ := hS; go_simp <;> with_reducible rfl
          simp only [Act.put, List.getElem_toArray, List.getElem_cons_succ, List.getElem_cons_zero, List.setIfInBounds_toArray, List.set_cons_succ, List.set_cons_zero]
          refine wpAnyH_take (i := 4) (v := ?_) rfl (by kernel_rfl) (by kernel_rfl) (by kernel_rfl) (fun _ _ _ h => h) (Or.inl ⟨rfl, ?_⟩) hHeld ?_
          rotate_left
          · intro w' hS; obtain ⟨⟨s0, s1, s2⟩, ⟨s3, s4⟩, s5⟩ := hS; go_simp <;> with_reducible rfl
          simp only [Act.put, List.getElem_toArray, List.getElem_cons_succ, List.getElem_cons_zero, List.setIfInBounds_toArray, List.set_cons_succ, List.set_cons_zero]
          refine wpAnyH_take (i := 5) (v := ?_) rfl (by kernel_rfl) (by kernel_rfl) (by kernel_rfl) (fun _ _ _ h => h) (Or.inl ⟨rfl, ?_⟩) hHeld ?_
          rotate_left
          · intro w' hS; obtain ⟨⟨s0, s1, s2⟩, ⟨s3, s4⟩, s5⟩ := hS; go_simp <;> with_reducible rfl
          simp only [Act.put, List.getElem_toArray, List.getElem_cons_succ, List.getElem_cons_zero, List.setIfInBounds_toArray, List.set_cons_succ, List.set_cons_zero]
          refine wpAnyH_take (i := 6) (v := ?_) rfl (by kernel_rfl) (by kernel_rfl) (by kernel_rfl) (fun _ _ _ h => h) (Or.inl ⟨rfl, ?_⟩) hHeld ?_
          rotate_left
          · intro w' hS; obtain ⟨⟨s0, s1, s2⟩, ⟨s3, s4⟩, s5⟩ := hS; go_simp <;> with_reducible rfl
          simp only [Act.put, List.getElem_toArray, List.getElem_cons_succ, List.getElem_cons_zero, List.setIfInBounds_toArray, List.set_cons_succ, List.set_cons_zero]
          refine wpAnyH_take (i := 9) (v := ?_) rfl (by kernel_rfl) (by kernel_rfl) (by kernel_rfl) (fun _ _ _ h => h) (Or.inl ⟨rfl, ?_⟩) hHeld ?_
          rotate_left
          · intro w' hS; obtain ⟨⟨s0, s1, s2⟩, ⟨s3, s4⟩, s5⟩ := hS; go_simp <;> with_reducible rfl
          simp only [Act.put, List.getElem_toArray, List.getElem_cons_succ, List.getElem_cons_zero, List.setIfInBounds_toArray, List.set_cons_succ, List.set_cons_zero]
          refine wpAnyH_take (i := 10) (v := ?_) rfl (by kernel_rfl) (by kernel_rfl) (by kernel_rfl) (fun _ _ _ h => h) (Or.inl ⟨rfl, ?_⟩) hHeld ?_
          rotate_left
          · intro w' hS; obtain ⟨⟨s0, s1, s2⟩, ⟨s3, s4⟩, s5⟩ := hS; go_simp <;> with_reducible rfl
          simp only [Act.put, List.getElem_toArray, List.getElem_cons_succ, List.getElem_cons_zero, List.setIfInBounds_toArray, List.set_cons_succ, List.set_cons_zero]
          refine wpAnyH_ready (rs := [7]) (by kernel_rfl) (by simp) (AllReadyH.cons rfl (fun K hK => ?_) AllReadyH.nil)
          go_simp
          refine (loCost_any A n c B m d xs s rA rn rc rx b _ (HA.out.below (below_then HBZ.out (below_then HBW.out hbr HBW.out.size) HBZ.out.size)) (HRWb.out.below hbr) HX.out HRL.out (by omega) (by omega) HOK.out.weights HLIN.out (by omega)).mono ?_
          rintro e9 wdc ⟨rfl, hb⟩
          rw [HT9.out]
          replace hbr := below_then hbr hb hbr.size
          clear hb
          refine hK.out _ _ ⟨box3_of (HQ.out.below (below_then HBW.out hbr HBW.out.size)), two_ofR (HS.out.below (below_then HBW.out hbr HBW.out.size)), num_cellW (v := u) (HF.out.below (below_then HBW.out hbr HBW.out.size)) (i := x0) (by rw [HZ.out]; exact hxz) HF0.out⟩ (fun hHeld => ?_)
          clear hK K
          try simp only [Act.put, List.getElem_toArray, List.getElem_cons_succ, List.getElem_cons_zero, List.setIfInBounds_toArray, List.set_cons_succ, List.set_cons_zero]
          refine wpAnyH_take (i := 8) (v := ?_) rfl (by kernel_rfl) (by kernel_rfl) (by kernel_rfl) (fun _ _ _ h => h) (Or.inl ⟨rfl, ?_⟩) hHeld ?_
          rotate_left
          · intro w' hS; obtain ⟨⟨s0, s1, s2⟩, ⟨s3, s4⟩, s5⟩ := hS; go_simp <;> with_reducible rfl
          simp only [Act.put, List.getElem_toArray, List.getElem_cons_succ, List.getElem_cons_zero, List.setIfInBounds_toArray, List.set_cons_succ, List.set_cons_zero]
          refine wpAnyH_ready (rs := [11]) (by kernel_rfl) (by simp) (AllReadyH.cons rfl (fun K hK => ?_) AllReadyH.nil)
          go_simp
          refine (seIndex_any (some ⟨bD, oD, none⟩) n dC sb t _ (HD.out.below (below_then HBW.out hbr HBW.out.size)).holds HBL.out hn8).mono ?_
          rintro e9 wdcs ⟨rfl, hb⟩
          rw [HX0.out]
          replace hbr := below_then hbr hb hbr.size
          clear hb
          refine hK.out _ _ ⟨box3_of (HQ.out.below (below_then HBW.out hbr HBW.out.size)), two_ofR (HS.out.below (below_then HBW.out hbr HBW.out.size)), num_cellW (v := u) (HF.out.below (below_then HBW.out hbr HBW.out.size)) (i := x0) (by rw [HZ.out]; exact hxz) HF0.out⟩ (fun hHeld => ?_)
          clear hK K
          try simp only [Act.put, List.getElem_toArray, List.getElem_cons_succ, List.getElem_cons_zero, List.setIfInBounds_toArray, List.set_cons_succ, List.set_cons_zero]
          refine wpAnyH_take (i := 12) (v := ?_) rfl (by kernel_rfl) (by kernel_rfl) (by kernel_rfl) (fun _ _ _ h => h) (Or.inl ⟨rfl, ?_⟩) hHeld ?_
          rotate_left
          · intro w' hS; obtain ⟨⟨s0, s1, s2⟩, ⟨s3, s4⟩, s5⟩ := hS; go_simp <;> with_reducible rfl
          simp only [Act.put, List.getElem_toArray, List.getElem_cons_succ, List.getElem_cons_zero, List.setIfInBounds_toArray, List.set_cons_succ, List.set_cons_zero]
          refine wpAnyH_take (i := 13) (v := ?_) rfl (by kernel_rfl) (by kernel_rfl) (by kernel_rfl) (fun _ _ _ h => h) (Or.inl ⟨rfl, ?_⟩) hHeld ?_
          rotate_left
          · intro w' hS; obtain ⟨⟨s0, s1, s2⟩, ⟨s3, s4⟩, s5⟩ := hS; go_simp <;> with_reducible rfl
          simp only [Act.put, List.getElem_toArray, List.getElem_cons_succ, List.getElem_cons_zero, List.setIfInBounds_toArray, List.set_cons_succ, List.set_cons_zero]
          refine wpAnyH_take (i := 14) (v := ?_) rfl (by kernel_rfl) (by kernel_rfl) (by kernel_rfl) (fun _ _ _ h => h) (Or.inl ⟨rfl, ?_⟩) hHeld ?_
          rotate_left
          · intro w' hS; obtain ⟨⟨s0, s1, s2⟩, ⟨s3, s4⟩, s5⟩ := hS; go_simp <;> with_reducible rfl
          simp only [Act.put, List.getElem_toArray, List.getElem_cons_succ, List.getElem_cons_zero, List.setIfInBounds_toArray, List.set_cons_succ, List.set_cons_zero]
          refine wpAnyH_take (i := 15) (v := ?_) rfl (by kernel_rfl) (by kernel_rfl) (by kernel_rfl) (fun _ _ _ h => h) (Or.inl ⟨rfl, ?_⟩) hHeld ?_
          rotate_left
          · intro w' hS; obtain ⟨⟨s0, s1, s2⟩, ⟨s3, s4⟩, s5⟩ := hS; go_simp <;> with_reducible rfl
          simp only [Act.put, List.getElem_toArray, List.getElem_cons_succ, List.getElem_cons_zero, List.setIfInBounds_toArray, List.set_cons_succ, List.set_cons_zero]
          refine wpAnyH_done (by kernel_rfl) ?_ _
          clear hHeld
          have HB9 := Lib.hid (below_then HBJ.out (below_then HBX.out hbr HBX.out.size) HBJ.out.size)
          clear hbr
          go_wp2
          go_roundw
          case rel => exact ⟨j + 1, by omega, rfl, by go_num, HB9.out⟩
          case measure => simp [intOf]; omega
    · have hdu : decide (0 < u) = false := by simpa using hu
      have HDN : Hid (rowNums rs = goB T Ls M 512 0) := by
        have h := HLS9.out
        rw [goB_stop (by unfold lf; rw [hg]; show u ≤ 0; omega), List.append_nil] at h
        exact h
      have HHZ := Lib.hid ((HHD0.out.below HBI.out).raise (show w.heap.size ≤ w2.heap.size + 1 by omega))
      have HBZ := Lib.hid (below_then HBZ0.out HBI.out HBZ0.out.size)
      clear hg hless hlen hu
      go_wp2
      go_ret
      exact ⟨E, cE, rs, rfl, HDN.out, HHZ.out, HBZ.out⟩
/-- The first plan of least cost (b: with loads). -/
noncomputable def loPl (xs : List Int) (bs : List Bool) (m : Nat) (s : Int) (b : Bool) : List (List Int) := if loOk xs bs m s b then goB (costOf xs b) (crewLists xs bs s) (costM xs bs s b xs.length) 512 0 else []
theorem loPl_le (xs : List Int) (bs : List Bool) (m : Nat) (s : Int) (b : Bool) : (loPl xs bs m s b).length ≤ 1048576 ∧ ((loPl xs bs m s b).map List.length).sum ≤ 1048576 := by
  cases h : loOk xs bs m s b
  · rw [loPl, h]; simp
  · rw [loPl, if_pos h]
    have hok : CrewOk xs m s := isCrew_ok (Bool.and_eq_true_iff.1 h).1
    refine goB_smallR fun l hl => ?_
    have h3 := up_steps (crew_up hl)
    have h4 := hok.seven
    omega
set_option maxHeartbeats 3200000 in
set_option maxRecDepth 100000 in
theorem specFirstW_any (A : Option Addr) (n c : Nat) (B : Option Addr) (m d : Nat) (xs : List Int) (bs : List Bool) (s : Int) (w : World) (hA : Holds w A (nums xs)) (hB : Holds w B (bits bs)) (hx : xs.length = n) (hy : bs.length = m) (hn : n ≤ 9223372036854775807) :
    Calls Try.prog 45 #[.agg #[.slice A n c, .slice B m d, .int .i64 s]] w (BackPost (loPl xs bs m s false) (loOk xs bs m s false) w) := by
  have HX := Lib.hid hx
  have HY := Lib.hid hy
  have HA := Lib.hid hA
  have HB := Lib.hid hB
  have hc := Whole.fresh w 57 #[.slice A n c, .slice B m d, .int .i64 s]
  have ht := below1 w (.cells #[.slice A n c, .slice B m d, .int .i64 s] 57)
  obtain ⟨c0, c1, c2⟩ := hc.cells3
  have hlg := loGood_any A n c B m d xs s _ (hA.below ht) HX.out hn
  cases h1 : isCrew xs m s
  · have HV : Hid (loPl xs bs m s false = [] ∧ loOk xs bs m s false = false) := by show _ ∧ _; simp [loPl, loOk, h1]
    have H1 := Lib.hid h1
    clear h1 hA hB hx hy
    go_enter Try.func45, Try.ntmps45
    go_wp2_with fail
    refine hlg.mono ?_
    clear hlg
    rintro e w1 ⟨rfl, hb⟩
    rw [H1.out]
    replace ht := below_then ht hb (by simp)
    clear hb hc c0 c1 c2
    go_wp2
    go_ret2
    rw [HV.out.1, HV.out.2]
    exact BackPost.no ht
  · have HOK := Lib.hid (isCrew_ok h1)
    have H1 := Lib.hid h1
    obtain ⟨v, hv⟩ : ∃ v, loV xs bs s false n = v := ⟨_, rfl⟩
    have HV0 := Lib.hid hv
    by_cases h0 : v < 0
    · have HV : Hid (loPl xs bs m s false = [] ∧ loOk xs bs m s false = false) := by show _ ∧ _; have h9 : loOk xs bs m s false = false := (by rw [loOk, hx, hv, decide_eq_false (show ¬ 0 ≤ v by omega), Bool.and_false]); exact ⟨by rw [loPl, h9]; rfl, h9⟩
      have hd : decide (v < 0) = true := by simpa using h0
      clear h1 hv hA hB hx hy h0
      go_enter Try.func45, Try.ntmps45
      go_wp2_with fail
      refine hlg.mono ?_
      clear hlg
      rintro e w1 ⟨rfl, hb⟩
      rw [H1.out]
      replace ht := below_then ht hb (by simp)
      replace hc := hc.below hb
      clear hb c0 c1 c2
      obtain ⟨c0, c1, c2⟩ := hc.cells3
      have hlc := hc.lt
      go_wp2_with fail
      refine (loLeast_any A n c B m d xs bs s false _ (HA.out.below ht) (HB.out.below ht) HX.out HY.out HOK.out).mono ?_
      rintro e w2 ⟨rfl, hb⟩
      rw [HV0.out]
      replace ht := below_then ht hb ht.size
      clear hb c0 c1 c2 hc hlc
      go_wp2
      go_ret2
      rw [HV.out.1, HV.out.2]
      exact BackPost.no ht
    · have h00 : 0 ≤ v := by omega
      have HC0 : Hid (costM xs bs s false n 0 = some v) := by show _ = _; unfold loV at hv; cases hc9 : costM xs bs s false n 0 with | none => (rw [hc9] at hv; have hv' : (-1 : Int) = v := hv; omega) | some v9 => (rw [hc9] at hv; exact congrArg some hv)
      have HV : Hid (loPl xs bs m s false = goB (costOf xs false) (crewLists xs bs s) (costM xs bs s false n) 512 0 ∧ loOk xs bs m s false = true) := by show _ ∧ _; have h9 : loOk xs bs m s false = true := (by rw [loOk, hx, hv, h1, decide_eq_true h00, Bool.and_true]); exact ⟨by rw [loPl, if_pos h9, hx], h9⟩
      have hd : decide (v < 0) = false := by simpa using h00
      clear h1 hv hA hB hx hy h0 h00
      go_enter Try.func45, Try.ntmps45
      go_wp2_with fail
      refine hlg.mono ?_
      clear hlg
      rintro e w1 ⟨rfl, hb⟩
      rw [H1.out]
      replace ht := below_then ht hb (by simp)
      replace hc := hc.below hb
      clear hb c0 c1 c2
      obtain ⟨c0, c1, c2⟩ := hc.cells3
      have hlc := hc.lt
      go_wp2_with fail
      refine (loLeast_any A n c B m d xs bs s false _ (HA.out.below ht) (HB.out.below ht) HX.out HY.out HOK.out).mono ?_
      rintro e w2 ⟨rfl, hb⟩
      rw [HV0.out]
      replace ht := below_then ht hb ht.size
      replace hc := hc.below hb
      clear hb c0 c1 c2 hlc
      obtain ⟨c0, c1, c2⟩ := hc.cells3
      have hlc := hc.lt
      go_wp2_with fail
      refine (loFirst_any A n c B m d xs bs s false v _ (HA.out.below ht) (HB.out.below ht) HX.out HY.out HOK.out HC0.out).mono ?_
      rintro e w3 ⟨G, cG, rs, rfl, hrn, hh, hb⟩
      have HRN := Lib.hid hrn
      have HH := Lib.hid (hh.raise ht.size)
      replace ht := below_then ht hb ht.size
      clear hb hrn hh c0 c1 c2 hc hlc
      go_wp2
      go_ret2
      rw [HV.out.1, HV.out.2]
      exact ⟨G, rs.length, cG, rs, rfl, HRN.out, rfl, HH.out.free, ht⟩

set_option maxHeartbeats 3200000 in
set_option maxRecDepth 100000 in
theorem specFirstC_any (A : Option Addr) (n c : Nat) (B : Option Addr) (m d : Nat) (xs : List Int) (bs : List Bool) (s : Int) (w : World) (hA : Holds w A (nums xs)) (hB : Holds w B (bits bs)) (hx : xs.length = n) (hy : bs.length = m) (hn : n ≤ 9223372036854775807) :
    Calls Try.prog 52 #[.agg #[.slice A n c, .slice B m d, .int .i64 s]] w (BackPost (loPl xs bs m s true) (loOk xs bs m s true) w) := by
  have HX := Lib.hid hx
  have HY := Lib.hid hy
  have HA := Lib.hid hA
  have HB := Lib.hid hB
  have hc := Whole.fresh w 57 #[.slice A n c, .slice B m d, .int .i64 s]
  have ht := below1 w (.cells #[.slice A n c, .slice B m d, .int .i64 s] 57)
  obtain ⟨c0, c1, c2⟩ := hc.cells3
  have hlg := loGood_any A n c B m d xs s _ (hA.below ht) HX.out hn
  cases h1 : isCrew xs m s
  · have HV : Hid (loPl xs bs m s true = [] ∧ loOk xs bs m s true = false) := by show _ ∧ _; simp [loPl, loOk, h1]
    have H1 := Lib.hid h1
    clear h1 hA hB hx hy
    go_enter Try.func52, Try.ntmps52
    go_wp2_with fail
    refine hlg.mono ?_
    clear hlg
    rintro e w1 ⟨rfl, hb⟩
    rw [H1.out]
    replace ht := below_then ht hb (by simp)
    clear hb hc c0 c1 c2
    go_wp2
    go_ret2
    rw [HV.out.1, HV.out.2]
    exact BackPost.no ht
  · have HOK := Lib.hid (isCrew_ok h1)
    have H1 := Lib.hid h1
    obtain ⟨v, hv⟩ : ∃ v, loV xs bs s true n = v := ⟨_, rfl⟩
    have HV0 := Lib.hid hv
    by_cases h0 : v < 0
    · have HV : Hid (loPl xs bs m s true = [] ∧ loOk xs bs m s true = false) := by show _ ∧ _; have h9 : loOk xs bs m s true = false := (by rw [loOk, hx, hv, decide_eq_false (show ¬ 0 ≤ v by omega), Bool.and_false]); exact ⟨by rw [loPl, h9]; rfl, h9⟩
      have hd : decide (v < 0) = true := by simpa using h0
      clear h1 hv hA hB hx hy h0
      go_enter Try.func52, Try.ntmps52
      go_wp2_with fail
      refine hlg.mono ?_
      clear hlg
      rintro e w1 ⟨rfl, hb⟩
      rw [H1.out]
      replace ht := below_then ht hb (by simp)
      replace hc := hc.below hb
      clear hb c0 c1 c2
      obtain ⟨c0, c1, c2⟩ := hc.cells3
      have hlc := hc.lt
      go_wp2_with fail
      refine (loLeast_any A n c B m d xs bs s true _ (HA.out.below ht) (HB.out.below ht) HX.out HY.out HOK.out).mono ?_
      rintro e w2 ⟨rfl, hb⟩
      rw [HV0.out]
      replace ht := below_then ht hb ht.size
      clear hb c0 c1 c2 hc hlc
      go_wp2
      go_ret2
      rw [HV.out.1, HV.out.2]
      exact BackPost.no ht
    · have h00 : 0 ≤ v := by omega
      have HC0 : Hid (costM xs bs s true n 0 = some v) := by show _ = _; unfold loV at hv; cases hc9 : costM xs bs s true n 0 with | none => (rw [hc9] at hv; have hv' : (-1 : Int) = v := hv; omega) | some v9 => (rw [hc9] at hv; exact congrArg some hv)
      have HV : Hid (loPl xs bs m s true = goB (costOf xs true) (crewLists xs bs s) (costM xs bs s true n) 512 0 ∧ loOk xs bs m s true = true) := by show _ ∧ _; have h9 : loOk xs bs m s true = true := (by rw [loOk, hx, hv, h1, decide_eq_true h00, Bool.and_true]); exact ⟨by rw [loPl, if_pos h9, hx], h9⟩
      have hd : decide (v < 0) = false := by simpa using h00
      clear h1 hv hA hB hx hy h0 h00
      go_enter Try.func52, Try.ntmps52
      go_wp2_with fail
      refine hlg.mono ?_
      clear hlg
      rintro e w1 ⟨rfl, hb⟩
      rw [H1.out]
      replace ht := below_then ht hb (by simp)
      replace hc := hc.below hb
      clear hb c0 c1 c2
      obtain ⟨c0, c1, c2⟩ := hc.cells3
      have hlc := hc.lt
      go_wp2_with fail
      refine (loLeast_any A n c B m d xs bs s true _ (HA.out.below ht) (HB.out.below ht) HX.out HY.out HOK.out).mono ?_
      rintro e w2 ⟨rfl, hb⟩
      rw [HV0.out]
      replace ht := below_then ht hb ht.size
      replace hc := hc.below hb
      clear hb c0 c1 c2 hlc
      obtain ⟨c0, c1, c2⟩ := hc.cells3
      have hlc := hc.lt
      go_wp2_with fail
      refine (loFirst_any A n c B m d xs bs s true v _ (HA.out.below ht) (HB.out.below ht) HX.out HY.out HOK.out HC0.out).mono ?_
      rintro e w3 ⟨G, cG, rs, rfl, hrn, hh, hb⟩
      have HRN := Lib.hid hrn
      have HH := Lib.hid (hh.raise ht.size)
      replace ht := below_then ht hb ht.size
      clear hb hrn hh c0 c1 c2 hc hlc
      go_wp2
      go_ret2
      rw [HV.out.1, HV.out.2]
      exact ⟨G, rs.length, cG, rs, rfl, HRN.out, rfl, HH.out.free, ht⟩

end Go.Proofs.Ytlpeimlbpiofkaa

namespace Go.Proofs.Ytlpeimlbpiofkaa
open Go.RowKit Go.Maps Go.WideShapes

theorem back_lowerW {ls : List (List Int)} {ok : Bool} {w w2 wf : World} {e : Ending} (h : BackPost ls ok w2 e wf) (hb : Below w.heap.size w w2) : BackPost ls ok w e wf := by
  obtain ⟨A, n, c, rs, rfl, h1, h2, h3, h4⟩ := h
  refine ⟨A, n, c, rs, rfl, h1, h2, ?_, below_then hb h4 hb.size⟩
  obtain ⟨ps, k1, k2, k3⟩ := h3
  have hsz := hb.size
  refine ⟨ps, k1, fun p hp => ⟨Nat.le_trans hsz (k2 p hp).1, (k2 p hp).2⟩, ?_⟩
  rcases k3 with k3 | ⟨b, o, j1, j2, j3, j4⟩
  · exact .inl k3
  · exact .inr ⟨b, o, j1, j2, Nat.le_trans hsz j3, j4⟩
theorem plan_both {xs : List Int} {bs : List Bool} {m n : Nat} {s : Int} (h : isCrew xs m s = true) (hx : xs.length = n) : loPl xs bs m s false = planW n (crewLists xs bs s) ∧ loOk xs bs m s false = fewBW n (crewLists xs bs s) := by
  have hok := isCrew_ok h
  have h1 := ones_cost (bs := bs) hok hx
  have h2 := lo_some (bs := bs) (b := false) hok hx
  have h3 : loOk xs bs m s false = fewBW n (crewLists xs bs s) := by rw [loOk, h, hx, h2, fewBW, h1, Bool.true_and]
  refine ⟨?_, h3⟩
  rw [loPl, planW, h3, h1, cost_false, hx]

set_option maxHeartbeats 1600000 in
set_option maxRecDepth 100000 in
theorem implFirstW_any (A : Option Addr) (n kA : Nat) (B : Option Addr) (m d : Nat) (xs : List Int) (bs : List Bool) (s : Int) (w : World) (hA : Holds w A (nums xs)) (hB : Holds w B (bits bs)) (hx : xs.length = n) (hy : bs.length = m) (hn : n ≤ 9223372036854775807) (hkA : n ≤ kA) (hkB : kA ≤ 9223372036854775807) :
    Calls Try.prog 46 #[.agg #[.slice A n kA, .slice B m d, .int .i64 s]] w (BackPost (loPl xs bs m s false) (loOk xs bs m s false) w) := by
  have HX := Lib.hid hx
  have HY := Lib.hid hy
  have hc := Whole.fresh w 57 #[.slice A n kA, .slice B m d, .int .i64 s]
  have ht := below1 w (.cells #[.slice A n kA, .slice B m d, .int .i64 s] 57)
  have hic := isCrew_any A n kA B m d xs s _ (hA.below ht) HX.out hn
  cases h1 : isCrew xs m s
  · have HV : Hid (loPl xs bs m s false = [] ∧ loOk xs bs m s false = false) := by show _ ∧ _; simp [loPl, loOk, h1]
    have H1 := Lib.hid h1
    clear h1
    go_enter Try.func46, Try.ntmps46
    go_wp2_with fail
    refine hic.mono ?_
    clear hic
    rintro e w1 ⟨rfl, hb⟩
    rw [H1.out]
    replace ht := below_then ht hb (by simp)
    clear hb hc
    go_wp2
    go_ret2
    rw [HV.out.1, HV.out.2]
    exact BackPost.no ht
  · have hok := isCrew_ok h1
    have hn7 : n ≤ 7 := by have := hok.seven; omega
    have hn1 : 1 ≤ n := by have := hok.one; omega
    have hm8 : m ≤ 8 := by have := hok.rows; omega
    have HW := Lib.hid hok.weights
    have HSM := Lib.hid (crew_small (xs := xs) bs s (by omega))
    have HUP := Lib.hid (crew_up8 (xs := xs) (bs := bs) (s := s) (by omega))
    have HV : Hid (loPl xs bs m s false = planW n (crewLists xs bs s) ∧ loOk xs bs m s false = fewBW n (crewLists xs bs s)) := plan_both h1 hx
    have H1 := Lib.hid h1
    clear h1 hok hx hy
    obtain ⟨L, hL⟩ : ∃ L, L = crewLists xs bs s := ⟨_, rfl⟩
    have HL := Lib.hid hL
    rw [← HL.out] at HSM HUP HV
    clear hL
    go_enter Try.func46, Try.ntmps46
    go_wp2_with fail
    refine hic.mono ?_
    clear hic
    rintro e w1 ⟨rfl, hb⟩
    rw [H1.out]
    replace ht := below_then ht hb (by simp)
    replace hc := hc.below hb
    clear hb
    obtain ⟨c0, c1, c2⟩ := hc.cells3
    have hlw := hc.lt
    go_wp2_with fail
    have hcr := crewRiverC_any A n kA B m d xs bs s w1 (hA.below ht) (hB.below ht) HX.out HY.out hn1 hn7 hm8 HW.out hkA hkB
    rw [← HL.out] at hcr
    refine hcr.mono ?_
    clear hcr
    rintro e w2 ⟨gL, g, E, c, rfl, hF, hb⟩
    replace ht := below_then ht hb ht.size
    clear hb c0 c1 c2 hc hlw
    have hfm := firstMovesW_any (loadOf xs) n gL g E c L w2 hn1 hn7 HSM.out HUP.out hF
    go_wp2_with fail
    refine hfm.mono ?_
    clear hfm
    rintro e w3 hP
    have HP := Lib.hid (back_lowerW hP ht)
    obtain ⟨A', n', c', rs, rfl, -, -, -, -⟩ := hP
    clear hF
    go_wp2
    go_ret2
    rw [HV.out.1, HV.out.2]
    exact HP.out
end Go.Proofs.Ytlpeimlbpiofkaa

namespace Go.Proofs.Ytlpeimlbpiofkaa
open Go.RowKit

set_option maxHeartbeats 800000 in
set_option linter.unusedVariables false in
theorem lawFirstOfCrew_big0 (A0 : Option Addr) (n0 c0 : Nat) (x0 : List Int) (A1 : Option Addr) (n1 c1 : Nat) (x1 : List Bool) (k0 : Int) (w : World) (h0 : Holds w A0 (nums x0)) (hx0 : x0.length = n0) (hn0 : n0 ≤ 9223372036854775807) (h1 : Holds w A1 (bits x1)) (hx1 : x1.length = n1) (hn1 : n1 ≤ 9223372036854775807)  (hbig : 1048576 - (n0 : Int) - (n1 : Int) < 0) :
    Calls Try.prog 10 #[.agg #[.slice A0 n0 c0, .slice A1 n1 c1, .int .i64 k0]] w fun e w' => e = .returned (.bool true) ∧ Below w.heap.size w w' := by
  have hb0 := (Whole.fresh w 54 #[.slice A0 n0 c0, .slice A1 n1 c1, .int .i64 k0])
  have ht := below1 w (.cells #[.slice A0 n0 c0, .slice A1 n1 c1, .int .i64 k0] 54)
  have HX0 := Lib.hid hx0
  have HX1 := Lib.hid hx1
  clear hx0 hx1
  obtain ⟨hb0_0, hb0_1, hb0_2⟩ := hb0.cells3
  have hb0_l := hb0.lt
  go_enter Try.func10, Try.ntmps10
  go_wp2_with fail
  refine (szCrew_any A0 n0 c0 A1 n1 c1 k0 (1048576) _ (by omega) (by omega) (by omega) (by omega)).mono ?_
  rintro e v1 ⟨rfl, hb⟩
  rw [crewLeft_bad (by omega)]
  have hz1 : w.heap.size + 1 ≤ v1.heap.size := by have := hb.size; simpa using this
  replace ht := below_then ht hb ht.size
  replace hb0 := hb0.below hb
  clear hb
  clear hb0_0 hb0_1 hb0_2 hb0_l
  go_wp2
  go_ret
  exact ⟨rfl, ht⟩

set_option maxHeartbeats 12800000 in
set_option maxRecDepth 100000 in
set_option linter.unusedSimpArgs false in
set_option linter.unusedVariables false in
theorem lawFirstOfCrew_small (A0 : Option Addr) (n0 c0 : Nat) (x0 : List Int) (A1 : Option Addr) (n1 c1 : Nat) (x1 : List Bool) (k0 : Int) (w : World) (h0 : Holds w A0 (nums x0)) (hx0 : x0.length = n0) (hn0 : n0 ≤ 9223372036854775807) (h1 : Holds w A1 (bits x1)) (hx1 : x1.length = n1) (hn1 : n1 ≤ 9223372036854775807) (g0 : 0 ≤ 1048576 - (n0 : Int) - (n1 : Int)) :
    Calls Try.prog 10 #[.agg #[.slice A0 n0 c0, .slice A1 n1 c1, .int .i64 k0]] w fun e w' => e = .returned (.bool true) ∧ Below w.heap.size w w' := by
  have hb0 := (Whole.fresh w 54 #[.slice A0 n0 c0, .slice A1 n1 c1, .int .i64 k0])
  have ht := below1 w (.cells #[.slice A0 n0 c0, .slice A1 n1 c1, .int .i64 k0] 54)
  have HX0 := Lib.hid hx0
  have HX1 := Lib.hid hx1
  clear hx0 hx1
  have hlen : ((loPl x0 x1 n1 k0 false)).length ≤ 1048576 ∧ (((loPl x0 x1 n1 k0 false)).map List.length).sum ≤ 1048576 := loPl_le _ _ _ _ _
  obtain ⟨hb0_0, hb0_1, hb0_2⟩ := hb0.cells3
  have hb0_l := hb0.lt
  go_enter Try.func10, Try.ntmps10
  -- region 2
  go_wp2_with fail
  refine (szCrew_any A0 n0 c0 A1 n1 c1 k0 (1048576) _ (by omega) (by omega) (by omega) (by omega)).mono ?_
  rintro e v1 ⟨rfl, hb⟩
  rw [crewLeft_ok (by omega)]
  have hz1 : w.heap.size + 1 ≤ v1.heap.size := by have := hb.size; simpa using this
  replace ht := below_then ht hb ht.size
  replace hb0 := hb0.below hb
  clear hb
  clear hb0_0 hb0_1 hb0_2 hb0_l
  obtain ⟨hb0_0, hb0_1, hb0_2⟩ := hb0.cells3
  have hb0_l := hb0.lt
  -- region 5
  go_wp2_with fail
  refine (toCrew_own A0 n0 c0 x0 A1 n1 c1 x1 k0 _ (by exact h0.below ht) (by exact h1.below ht) HX0.out HX1.out (by omega) (by omega)).mono ?_
  rintro e v2 ⟨gp0, gp1, rfl, hgp0, hwp0, hgp1, hwp1, hb⟩
  have hz2 : v1.heap.size ≤ v2.heap.size := by have := hb.size; simpa using this
  replace ht := below_then ht hb ht.size
  replace hb0 := hb0.below hb
  have hgmp0 : v1.heap.size ≤ gp1 ∧ gp1 < v2.heap.size := ⟨by have := hgp0; (try simp at this); omega, hwp1.lt⟩
  have hp0 := Fresh.of_whole (lo := v1.heap.size) (hi := gp1) hwp0 (by simpa using hgp0) hgp1
  have hp1 := Fresh.of_whole (lo := gp1) (hi := v2.heap.size) hwp1 (Nat.le_refl _) hwp1.lt
  clear hgp0 hwp0 hgp1 hwp1
  clear hb
  clear hb0_0 hb0_1 hb0_2 hb0_l
  obtain ⟨hb0_0, hb0_1, hb0_2⟩ := hb0.cells3
  have hb0_l := hb0.lt
  go_wp2_with fail
  refine (specFirstW_any _ n0 _ _ n1 _ x0 x1 k0 _ (by exact hp0.holds) (by exact hp1.holds) HX0.out HX1.out (by omega)).mono ?_
  rintro e v3 ⟨B0, m0, q0, rs0, rfl, he0, hl0, hF0, hb⟩
  have hz3 : v2.heap.size ≤ v3.heap.size := by have := hb.size; simpa using this
  replace ht := below_then ht hb ht.size
  replace hb0 := hb0.below hb
  replace hp0 := hp0.below hb
  replace hp1 := hp1.below hb
  have HER0 := Lib.hid he0
  have HLR0 := Lib.hid hl0
  have hnr0 : m0 ≤ 1048576 := by have h1 := hl0; have h2 := congrArg List.length he0; rw [rowNums_len] at h2; have h3 := hlen.1; omega
  clear he0 hl0
  replace hF0 := hF0.more (lo' := v2.heap.size) (hi' := v3.heap.size) (by simp) (Nat.le_refl _)
  clear hb
  clear hp0 hp1
  clear hb0_0 hb0_1 hb0_2 hb0_l
  obtain ⟨hb0_0, hb0_1, hb0_2⟩ := hb0.cells3
  have hb0_l := hb0.lt
  -- region 6
  go_wp2_with fail
  refine (toCrew_own A0 n0 c0 x0 A1 n1 c1 x1 k0 _ (by exact h0.below ht) (by exact h1.below ht) HX0.out HX1.out (by omega) (by omega)).mono ?_
  rintro e v4 ⟨gx0, gx1, rfl, hgx0, hwx0, hgx1, hwx1, hb⟩
  have hz4 : v3.heap.size ≤ v4.heap.size := by have := hb.size; simpa using this
  replace ht := below_then ht hb ht.size
  replace hb0 := hb0.below hb
  replace hF0 := hF0.below hb
  have hgmx0 : v3.heap.size ≤ gx1 ∧ gx1 < v4.heap.size := ⟨by have := hgx0; (try simp at this); omega, hwx1.lt⟩
  have hx0 := Fresh.of_whole (lo := v3.heap.size) (hi := gx1) hwx0 (by simpa using hgx0) hgx1
  have hx1 := Fresh.of_whole (lo := gx1) (hi := v4.heap.size) hwx1 (Nat.le_refl _) hwx1.lt
  clear hgx0 hwx0 hgx1 hwx1
  clear hb
  have hx90 := Whole.fresh v4 57 #[.slice (some ⟨gx0, 0, none⟩) n0 n0, .slice (some ⟨gx1, 0, none⟩) n1 n1, .int .i64 k0]
  replace ht := ht.alloc ht.size (.cells #[.slice (some ⟨gx0, 0, none⟩) n0 n0, .slice (some ⟨gx1, 0, none⟩) n1 n1, .int .i64 k0] 57)
  replace hb0 := hb0.alloc (.cells #[.slice (some ⟨gx0, 0, none⟩) n0 n0, .slice (some ⟨gx1, 0, none⟩) n1 n1, .int .i64 k0] 57)
  replace hF0 := hF0.alloc (.cells #[.slice (some ⟨gx0, 0, none⟩) n0 n0, .slice (some ⟨gx1, 0, none⟩) n1 n1, .int .i64 k0] 57)
  replace hx0 := hx0.alloc (.cells #[.slice (some ⟨gx0, 0, none⟩) n0 n0, .slice (some ⟨gx1, 0, none⟩) n1 n1, .int .i64 k0] 57)
  replace hx1 := hx1.alloc (.cells #[.slice (some ⟨gx0, 0, none⟩) n0 n0, .slice (some ⟨gx1, 0, none⟩) n1 n1, .int .i64 k0] 57)
  clear hb0_0 hb0_1 hb0_2 hb0_l
  obtain ⟨hb0_0, hb0_1, hb0_2⟩ := hb0.cells3
  have hb0_l := hb0.lt
  obtain ⟨hx90_0, hx90_1, hx90_2⟩ := hx90.cells3
  have hx90_l := hx90.lt
  -- region 7
  go_wp2_with fail
  refine (implFirstW_any _ n0 _ _ n1 _ x0 x1 k0 _ (by exact hx0.holds) (by exact hx1.holds) HX0.out HX1.out (by omega) (Nat.le_refl _) (by omega)).mono ?_
  rintro e v5 ⟨B1, m1, q1, rs1, rfl, he1, hl1, hF1, hb⟩
  have hz5 : v4.heap.size + 1 ≤ v5.heap.size := by have := hb.size; simpa using this
  replace ht := below_then ht hb ht.size
  replace hb0 := hb0.below hb
  replace hF0 := hF0.below hb
  replace hx0 := hx0.below hb
  replace hx1 := hx1.below hb
  replace hx90 := hx90.below hb
  have HER1 := Lib.hid he1
  have HLR1 := Lib.hid hl1
  have hnr1 : m1 ≤ 1048576 := by have h1 := hl1; have h2 := congrArg List.length he1; rw [rowNums_len] at h2; have h3 := hlen.1; omega
  clear he1 hl1
  replace hF1 := hF1.more (lo' := v4.heap.size + 1) (hi' := v5.heap.size) (by simp) (Nat.le_refl _)
  clear hb
  clear hb0_0 hb0_1 hb0_2 hb0_l hx90_0 hx90_1 hx90_2 hx90_l
  obtain ⟨hb0_0, hb0_1, hb0_2⟩ := hb0.cells3
  have hb0_l := hb0.lt
  obtain ⟨hx90_0, hx90_1, hx90_2⟩ := hx90.cells3
  have hx90_l := hx90.lt
  -- region 8
  go_wp2_with fail
  refine (eqIntSS_yes B1 B0 m1 m0 q1 q0 rs1 rs0 _ (by exact hF1.grid) (by exact hF0.grid) (by rw [HER1.out, HER0.out]) HLR1.out HLR0.out (by omega)).mono ?_
  rintro e v6 ⟨rfl, hb⟩
  have hz6 : v5.heap.size ≤ v6.heap.size := by have := hb.size; simpa using this
  replace ht := below_then ht hb ht.size
  replace hb0 := hb0.below hb
  replace hF0 := hF0.below hb
  replace hx0 := hx0.below hb
  replace hx1 := hx1.below hb
  replace hx90 := hx90.below hb
  replace hF1 := hF1.below hb
  clear hb
  clear hb0_0 hb0_1 hb0_2 hb0_l hx90_0 hx90_1 hx90_2 hx90_l
  obtain ⟨hb0_0, hb0_1, hb0_2⟩ := hb0.cells3
  have hb0_l := hb0.lt
  obtain ⟨hx90_0, hx90_1, hx90_2⟩ := hx90.cells3
  have hx90_l := hx90.lt
  -- region 10
  clear hb0_0 hb0_1 hb0_2 hb0_l hx90_0 hx90_1 hx90_2 hx90_l
  go_wp2_with fail
  refine wp_region_held_drew (S := (fun w' => w'.cell? ⟨w.heap.size, 0, none⟩ = some (.slice A0 n0 c0) ∧ w'.cell? ⟨w.heap.size, 1, none⟩ = some (.slice A1 n1 c1) ∧ w'.cell? ⟨w.heap.size, 2, none⟩ = some (.int .i64 k0) ∧ w'.cell? ⟨v4.heap.size, 0, none⟩ = some (.slice (some ⟨gx0, 0, none⟩) n0 n0) ∧ w'.cell? ⟨v4.heap.size, 1, none⟩ = some (.slice (some ⟨gx1, 0, none⟩) n1 n1) ∧ w'.cell? ⟨v4.heap.size, 2, none⟩ = some (.int .i64 k0))) (by kernel_rfl) ⟨hb0.drew.cell 0, hb0.drew.cell 1, hb0.drew.cell 2, hx90.drew.cell 0, hx90.drew.cell 1, hx90.drew.cell 2⟩ (fun hHeld => ?_)
  replace ht := ht.drew
  replace hb0 := hb0.drew
  replace hF0 := hF0.drew
  replace hx0 := hx0.drew
  replace hx1 := hx1.drew
  replace hx90 := hx90.drew
  replace hF1 := hF1.drew
  refine wpAnyH_take (i := 0) (v := ?_) rfl (by kernel_rfl) (by kernel_rfl) (by kernel_rfl) (fun _ _ _ h => h) (Or.inl ⟨rfl, ?_⟩) hHeld ?_
  rotate_left
  · intro w' hS; obtain ⟨s0, s1, s2, s3, s4, s5⟩ := hS; go_simp <;> with_reducible rfl
  simp only [Act.put, List.getElem_toArray, List.getElem_cons_succ, List.getElem_cons_zero, List.setIfInBounds_toArray, List.set_cons_succ, List.set_cons_zero]
  refine wpAnyH_take (i := 1) (v := ?_) rfl (by kernel_rfl) (by kernel_rfl) (by kernel_rfl) (fun _ _ _ h => h) (Or.inl ⟨rfl, ?_⟩) hHeld ?_
  rotate_left
  · intro w' hS; obtain ⟨s0, s1, s2, s3, s4, s5⟩ := hS; go_simp <;> with_reducible rfl
  simp only [Act.put, List.getElem_toArray, List.getElem_cons_succ, List.getElem_cons_zero, List.setIfInBounds_toArray, List.set_cons_succ, List.set_cons_zero]
  refine wpAnyH_ready (rs := [2]) (by kernel_rfl) (by simp) (AllReadyH.cons rfl (fun K hK => ?_) AllReadyH.nil)
  go_simp
  refine (toCrew_own A0 n0 c0 x0 A1 n1 c1 x1 k0 _ (by exact h0.below ht) (by exact h1.below ht) HX0.out HX1.out (by omega) (by omega)).mono ?_
  rintro e v7 ⟨gy0, gy1, rfl, hgy0, hwy0, hgy1, hwy1, hb⟩
  have hz7 : v6.heap.size ≤ v7.heap.size := by have := hb.size; simpa using this
  replace ht := below_then ht hb ht.size
  replace hb0 := hb0.below hb
  replace hF0 := hF0.below hb
  replace hx0 := hx0.below hb
  replace hx1 := hx1.below hb
  replace hx90 := hx90.below hb
  replace hF1 := hF1.below hb
  have hgmy0 : v6.heap.size ≤ gy1 ∧ gy1 < v7.heap.size := ⟨by have := hgy0; (try simp at this); omega, hwy1.lt⟩
  have hy0 := Fresh.of_whole (lo := v6.heap.size) (hi := gy1) hwy0 (by simpa using hgy0) hgy1
  have hy1 := Fresh.of_whole (lo := gy1) (hi := v7.heap.size) hwy1 (Nat.le_refl _) hwy1.lt
  clear hgy0 hwy0 hgy1 hwy1
  clear hb
  refine hK.out _ _ ⟨hb0.cell 0, hb0.cell 1, hb0.cell 2, hx90.cell 0, hx90.cell 1, hx90.cell 2⟩ (fun hHeld => ?_)
  clear hK K
  try simp only [Act.put, List.getElem_toArray, List.getElem_cons_succ, List.getElem_cons_zero, List.setIfInBounds_toArray, List.set_cons_succ, List.set_cons_zero]
  refine wpAnyH_ready (rs := [3]) (by kernel_rfl) (by simp) (AllReadyH.cons rfl (fun K hK => ?_) AllReadyH.nil)
  go_simp
  refine (eqCrew_yes _ _ n0 _ _ x0 _ _ n1 _ _ x1 k0 _ (by exact hx0.holds) (by exact hy0.holds) (by exact hx1.holds) (by exact hy1.holds) HX0.out HX1.out (by omega) (by omega)).mono ?_
  rintro e v8 ⟨rfl, hb⟩
  have hz8 : v7.heap.size ≤ v8.heap.size := by have := hb.size; simpa using this
  replace ht := below_then ht hb ht.size
  replace hb0 := hb0.below hb
  replace hF0 := hF0.below hb
  replace hx0 := hx0.below hb
  replace hx1 := hx1.below hb
  replace hx90 := hx90.below hb
  replace hF1 := hF1.below hb
  replace hy0 := hy0.below hb
  replace hy1 := hy1.below hb
  clear hb
  clear hy0 hy1
  refine hK.out _ _ ⟨hb0.cell 0, hb0.cell 1, hb0.cell 2, hx90.cell 0, hx90.cell 1, hx90.cell 2⟩ (fun hHeld => ?_)
  clear hK K
  try simp only [Act.put, List.getElem_toArray, List.getElem_cons_succ, List.getElem_cons_zero, List.setIfInBounds_toArray, List.set_cons_succ, List.set_cons_zero]
  refine wpAnyH_take (i := 4) (v := ?_) rfl (by kernel_rfl) (by kernel_rfl) (by kernel_rfl) (fun _ _ _ h => h) (Or.inl ⟨rfl, ?_⟩) hHeld ?_
  rotate_left
  · intro w' hS; obtain ⟨s0, s1, s2, s3, s4, s5⟩ := hS; go_simp <;> with_reducible rfl
  simp only [Act.put, List.getElem_toArray, List.getElem_cons_succ, List.getElem_cons_zero, List.setIfInBounds_toArray, List.set_cons_succ, List.set_cons_zero]
  refine wpAnyH_done (by kernel_rfl) ?_ _
  clear hHeld
  obtain ⟨hb0_0, hb0_1, hb0_2⟩ := hb0.cells3
  have hb0_l := hb0.lt
  obtain ⟨hx90_0, hx90_1, hx90_2⟩ := hx90.cells3
  have hx90_l := hx90.lt
  -- region 13
  go_wp2_with fail
  refine (markCrew_any (some ⟨gx0, 0, none⟩) n0 n0 _ _ _ _ (some ⟨gx1, 0, none⟩) n1 n1 _ k0 (1) _ hx0 hx1 (by rw [nums_len]; exact HX0.out) (by rw [bits_len]; exact HX1.out) (by omega) (by omega) (by omega) (by omega) (by omega) (by omega) (by omega)).mono ?_
  rintro e v9 ⟨rfl, hs, -⟩
  have hsz := ht.size
  replace ht := hs.below ht (by omega) hsz
  replace hb0 := hs.whole hb0 (by omega)
  replace hF0 := hs.freeGrid hF0 (by omega)
  replace hF1 := hs.freeGrid hF1 (by omega)
  clear hs hsz hx0 hx1 hx90
  have hk_1 : (0 : Int) ≤ 1 + (n0 : Int) + (n1 : Int) := by omega
  clear hb0_0 hb0_1 hb0_2 hb0_l hx90_0 hx90_1 hx90_2 hx90_l
  obtain ⟨hb0_0, hb0_1, hb0_2⟩ := hb0.cells3
  have hb0_l := hb0.lt
  -- region 14
  go_wp2_with fail
  refine (eqIntSS_yes B1 B0 m1 m0 q1 q0 rs1 rs0 _ (by exact hF1.grid) (by exact hF0.grid) (by rw [HER1.out, HER0.out]) HLR1.out HLR0.out (by omega)).mono ?_
  rintro e v10 ⟨rfl, hb⟩
  have hz10 : v9.heap.size ≤ v10.heap.size := by have := hb.size; simpa using this
  replace ht := below_then ht hb ht.size
  replace hb0 := hb0.below hb
  replace hF0 := hF0.below hb
  replace hF1 := hF1.below hb
  clear hb
  clear hb0_0 hb0_1 hb0_2 hb0_l
  obtain ⟨hb0_0, hb0_1, hb0_2⟩ := hb0.cells3
  have hb0_l := hb0.lt
  -- region 17
  go_wp2_with fail
  have hprt : part rs1 rs1.length ≤ 1048576 := by have h1 := part_lens hF1.grid; have h2 := hlen.2; rw [HER1.out] at h1; omega
  refine (markIntSS_any B1 m1 q1 _ _ rs1 1 _ hF1 HLR1.out (by omega) (by omega) hnr1 hprt).mono ?_
  rintro e v11 ⟨rfl, hs, hM⟩
  have hsz := ht.size
  replace ht := hs.below ht (by omega) hsz
  replace hb0 := hs.whole hb0 (by omega)
  replace hF0 := hs.freeGrid hF0 (by omega)
  clear hs hF1 hsz
  clear hb0_0 hb0_1 hb0_2 hb0_l
  obtain ⟨hb0_0, hb0_1, hb0_2⟩ := hb0.cells3
  have hb0_l := hb0.lt
  -- region 19
  go_wp2_with fail
  refine (heldIntSS_any B1 m1 q1 rs1 1 _ (by exact hM.grid) HLR1.out (by omega) (by omega) hnr1 hprt).mono ?_
  rintro e v12 ⟨rfl, hb⟩
  have hz12 : v11.heap.size ≤ v12.heap.size := by have := hb.size; simpa using this
  replace ht := below_then ht hb ht.size
  replace hb0 := hb0.below hb
  replace hF0 := hF0.below hb
  replace hM := hM.below hb
  clear hb
  have hm0 : (0 : Int) ≤ 1 + ((part rs1 rs1.length : Nat) : Int) := by omega
  clear hb0_0 hb0_1 hb0_2 hb0_l
  obtain ⟨hb0_0, hb0_1, hb0_2⟩ := hb0.cells3
  have hb0_l := hb0.lt
  -- region 24
  go_wp2_with fail
  refine (toCrew_own A0 n0 c0 x0 A1 n1 c1 x1 k0 _ (by exact h0.below ht) (by exact h1.below ht) HX0.out HX1.out (by omega) (by omega)).mono ?_
  rintro e v13 ⟨gr0, gr1, rfl, hgr0, hwr0, hgr1, hwr1, hb⟩
  have hz13 : v12.heap.size ≤ v13.heap.size := by have := hb.size; simpa using this
  replace ht := below_then ht hb ht.size
  replace hb0 := hb0.below hb
  replace hF0 := hF0.below hb
  replace hM := hM.below hb
  have hgmr0 : v12.heap.size ≤ gr1 ∧ gr1 < v13.heap.size := ⟨by have := hgr0; (try simp at this); omega, hwr1.lt⟩
  have hr0 := Fresh.of_whole (lo := v12.heap.size) (hi := gr1) hwr0 (by simpa using hgr0) hgr1
  have hr1 := Fresh.of_whole (lo := gr1) (hi := v13.heap.size) hwr1 (Nat.le_refl _) hwr1.lt
  clear hgr0 hwr0 hgr1 hwr1
  clear hb
  clear hb0_0 hb0_1 hb0_2 hb0_l
  obtain ⟨hb0_0, hb0_1, hb0_2⟩ := hb0.cells3
  have hb0_l := hb0.lt
  go_wp2_with fail
  refine (implFirstW_any _ n0 _ _ n1 _ x0 x1 k0 _ (by exact hr0.holds) (by exact hr1.holds) HX0.out HX1.out (by omega) (Nat.le_refl _) (by omega)).mono ?_
  rintro e v14 ⟨B2, m2, q2, rs2, rfl, he2, hl2, hF2, hb⟩
  have hz14 : v13.heap.size ≤ v14.heap.size := by have := hb.size; simpa using this
  replace ht := below_then ht hb ht.size
  replace hb0 := hb0.below hb
  replace hF0 := hF0.below hb
  replace hM := hM.below hb
  replace hr0 := hr0.below hb
  replace hr1 := hr1.below hb
  have HER2 := Lib.hid he2
  have HLR2 := Lib.hid hl2
  have hnr2 : m2 ≤ 1048576 := by have h1 := hl2; have h2 := congrArg List.length he2; rw [rowNums_len] at h2; have h3 := hlen.1; omega
  clear he2 hl2
  replace hF2 := hF2.more (lo' := v13.heap.size) (hi' := v14.heap.size) (by simp) (Nat.le_refl _)
  clear hb
  clear hr0 hr1
  clear hb0_0 hb0_1 hb0_2 hb0_l
  obtain ⟨hb0_0, hb0_1, hb0_2⟩ := hb0.cells3
  have hb0_l := hb0.lt
  -- region 25
  go_wp2_with fail
  refine (eqIntSS_yes B2 B0 m2 m0 q2 q0 rs2 rs0 _ (by exact hF2.grid) (by exact hF0.grid) (by rw [HER2.out, HER0.out]) HLR2.out HLR0.out (by omega)).mono ?_
  rintro e v15 ⟨rfl, hb⟩
  have hz15 : v14.heap.size ≤ v15.heap.size := by have := hb.size; simpa using this
  replace ht := below_then ht hb ht.size
  replace hb0 := hb0.below hb
  replace hF0 := hF0.below hb
  replace hM := hM.below hb
  replace hF2 := hF2.below hb
  clear hb
  clear hb0_0 hb0_1 hb0_2 hb0_l
  obtain ⟨hb0_0, hb0_1, hb0_2⟩ := hb0.cells3
  have hb0_l := hb0.lt
  -- region 28
  go_wp2_with fail
  refine (heldIntSS_any B1 m1 q1 rs1 1 _ (by exact hM.grid) HLR1.out (by omega) (by omega) hnr1 hprt).mono ?_
  rintro e v16 ⟨rfl, hb⟩
  have hz16 : v15.heap.size ≤ v16.heap.size := by have := hb.size; simpa using this
  replace ht := below_then ht hb ht.size
  replace hb0 := hb0.below hb
  replace hF0 := hF0.below hb
  replace hM := hM.below hb
  replace hF2 := hF2.below hb
  clear hb
  clear hb0_0 hb0_1 hb0_2 hb0_l
  obtain ⟨hb0_0, hb0_1, hb0_2⟩ := hb0.cells3
  have hb0_l := hb0.lt
  go_wp2
  go_ret
  exact ⟨rfl, ht⟩

theorem lawFirstOfCrew_all (A0 : Option Addr) (n0 c0 : Nat) (x0 : List Int) (A1 : Option Addr) (n1 c1 : Nat) (x1 : List Bool) (k0 : Int) (w : World) (h0 : Holds w A0 (nums x0)) (hx0 : x0.length = n0) (hn0 : n0 ≤ 9223372036854775807) (h1 : Holds w A1 (bits x1)) (hx1 : x1.length = n1) (hn1 : n1 ≤ 9223372036854775807) :
    Calls Try.prog 10 #[.agg #[.slice A0 n0 c0, .slice A1 n1 c1, .int .i64 k0]] w fun e w' => e = .returned (.bool true) ∧ Below w.heap.size w w' := by
  rcases (inferInstance : Decidable (0 ≤ 1048576 - (n0 : Int) - (n1 : Int))) with g0 | g0
  · exact lawFirstOfCrew_big0 A0 n0 c0 x0 A1 n1 c1 x1 k0 w h0 hx0 hn0 h1 hx1 hn1  (by omega)
  exact lawFirstOfCrew_small A0 n0 c0 x0 A1 n1 c1 x1 k0 w h0 hx0 hn0 h1 hx1 hn1 g0
end Go.Proofs.Ytlpeimlbpiofkaa

namespace Go.Proofs.Ytlpeimlbpiofkaa.firstOfCrew
open Go.ChangeShapes Go.WideShapes Go.ChangeAt Go.RowKit Go.Joins

set_option maxRecDepth 100000 in
theorem lifted (os : Os) (started : os.Started) (H : Type) (enc : TypeId × Value → H) :
    ReturnsInHanded {} Try.checked os 10 .any (Rows.fnExactFirstOfCrewSpec.pre6 enc Try.prog Try.f10 Rows.fnExactFirstOfCrewRow.domain false) (Rows.fnExactFirstOfCrewSpec.post enc Try.prog Try.f10 false true false false) := by
  refine returnsInHanded_of_change (C := Try.checked) own started (by kernel_rfl) Try.func10
    (ChangeSpec.witness6 (enc := enc) (C := Try.checked) false ⟨#[], #[.agg #[.slice none 0 0, .slice none 0 0, .int .i64 0]], []⟩ 8 (by kernel_rfl) (by kernel_rfl) (by kernel_rfl) (by kernel_rfl)) ?_
  intro W base args ds gs before hval0 hW hcnd _
  have hval : ∀ (j : Nat) t v, Try.f10.params[j]? = some t → args[j]? = some v → Value.okWide Try.prog W .any base t v := hval0
  have hW' := hW
  obtain ⟨p, q, hA0, hV, rfl, hfz, hnd⟩ := hW
  have hA : DataW.TrodAll enc Try.prog W 0 (fun _ => true) true Try.f10.params.toList args.toList ds p := hA0
  rw [Try.params10] at hA hval
  obtain ⟨v0, vs0, d0, ds0, p0, q0, hargs, rfl, rfl, h0, r0⟩ := trodAll_cons hA
  obtain ⟨rfl, rfl, rfl⟩ := trodAll_nil r0
  obtain rfl : args = #[v0] := by cases args; simp_all
  obtain ⟨rfl, rfl⟩ := trodVars_none hV
  have lt0 : ∀ x ∈ p0, x.block < W.heap.size := by obtain ⟨m, hm⟩ := h0; exact DataW.trod_lt m _ _ _ hm
  obtain ⟨A0, n0, c0, xs0, B0, q0_, d0, ys0, k0, hv0, hr0, hx0, hn0, hs0, hy0, hm0⟩ := open_crew (hval 0 54 v0 rfl rfl) h0
  subst hv0
  clear hA0 hval0
  refine (lawFirstOfCrew_all A0 n0 c0 xs0 B0 q0_ d0 ys0 k0 W hr0 hx0 hn0 hs0 hy0 hm0).mono fun e W' ⟨he, bel⟩ => ?_
  subst he
  exact ⟨_, rfl, _, _, _, [], _, [], hW', trodAll_mk1 (shut_bool Try.underlying4 _), (trodAll_cons_mk (Below.trod laidOut (by kernel_rfl) (of_decide_eq_true (by kernel_rfl)) h0 bel lt0) trodAll_mk0), rfl, bel.frame _, fun h => by cases h⟩

set_option maxHeartbeats 8000000 in
theorem facts : joinedFacts Try.prog 10 Try.f10 Rows.fnExactFirstOfCrewSpec Rows.fnExactFirstOfCrewRow = true := by
  unfold joinedFacts
  rw [enter.laid, enter.rowed, enter.heard, enter.keys, enter.mayEnter, enter.liftsFinal, enter.make]
  simp only [Bool.and_eq_true]
  repeat' apply And.intro
  all_goals (first | exact True.intro | (as_aux_lemma => kernel_rfl))

theorem named_ : Try.prog.funcNamed Rows.fnExactFirstOfCrewRow.func = some 10 := by kernel_rfl
theorem instance_ : Try.f10.isInstance Try.prog Rows.fnExactFirstOfCrewRow.origin Rows.fnExactFirstOfCrewRow.targs := of_decide_eq_true (by kernel_rfl)
theorem wrapper_ : Try.f10.isWrapper Try.prog Rows.fnExactFirstOfCrewRow.wrapper Rows.fnExactFirstOfCrewRow.mainSum := by
  unfold Func.isWrapper; first | (rw [if_pos (by decide +kernel)]; kernel_rfl) | (rw [if_neg (by decide +kernel)]; exact ⟨rfl, rfl⟩)

theorem proved : Rows.FnExactFirstOfCrewSaid :=
  OpenClaim.holds_of_wide 10 Try.f10 rfl rfl rfl rfl rfl rfl rfl ⟨rfl, rfl, rfl, rfl, rfl⟩ rfl rfl rfl rfl rfl named_ Try.func10 facts
    instance_ wrapper_ (fun os started H enc _ => lifted os started H enc)
#print axioms proved
end Go.Proofs.Ytlpeimlbpiofkaa.firstOfCrew
