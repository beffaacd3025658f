/-
  What is proved: contracts of PairRounds and HasEvenRound, of the model and of the program. Conditions: the times are read as they lie.
-/
import Derived.Test.YtgcobhnodjfgiaaFetch
import Derived.Test.YtgcobhnodjfgiaaByteK
import Derived.Test.YtgcobhnodjfgiaaShelfB
import Derived.Test.YtgcobhnodjfgiaaPrTrips
namespace Go.Proofs.Ytgcobhnodjfgiaa
open Go.RowKit

theorem mild_ordR {xs : List Int} (h : ∀ y ∈ xs, 1 ≤ y ∧ y ≤ 1000) : Mild (mk xs (ord xs)) := by
  intro k
  by_cases hk : k < (ord xs).length
  · rw [wk_mk hk]
    have hm := ord_mem (List.getElem_mem hk)
    have hx : ((ord xs)[k]).toNat < xs.length := by omega
    have := h _ (List.getElem_mem hx)
    show 0 ≤ tm xs (ord xs)[k] ∧ tm xs (ord xs)[k] ≤ 1000
    simp only [tm, List.getD_eq_getElem?_getD, List.getElem?_eq_getElem hx, Option.getD_some]
    omega
  · have : wk (mk xs (ord xs)) k = (0, 0) := by
      simp [wk, List.getD_eq_getElem?_getD, List.getElem?_eq_none (show (mk xs (ord xs)).length ≤ k by rw [mk_len]; omega)]
    rw [this]
    simp
theorem holdsR {w : World} {base : Nat} {e : TypeId} {A : Option Addr} {n c : Nat} {xs : List Value} (h : w.ownsRow base e 1 (.slice A n c) n xs) : Holds w A xs := (own_fresh1 h).holds
theorem prTripsR (A : Option Addr) (n c : Nat) (xs : List Int) (e : Bool) (w : World) (hA : Holds w A (nums xs)) (hx : xs.length = n) (hp : prOk xs = true) :
    Calls Try.prog 68 #[.slice A n c, .bool e] w (PrPost ((tripsT (!e) (mk xs (ord xs)) xs.length).map listT) (signsT (!e) (mk xs (ord xs)) xs.length) (evenT (mk xs (ord xs)) xs.length) w) := by
  have h := prTrips_any A n c xs e w hA hx hp
  rw [hx]
  exact h
/-- What a call hands back that makes a text and tells whether it did. -/
def TextR (l : List UInt8) (ok : Bool) (w : World) (e : Ending) (w' : World) : Prop := e = .returned (.tuple #[.string ⟨l.toArray⟩, .bool ok]) ∧ Below w.heap.size w w'

set_option maxHeartbeats 400000 in
theorem chooseR (b : Bool) (x y : Int) (w : World) :
    Calls Try.prog 73 #[.bool b, .int .u8 x, .int .u8 y] w fun e w' => e = .returned (.int .u8 (if b then x else y)) ∧ w = w' := by
  cases b
  all_goals
    go_enter Try.func73, Try.ntmps73
    go_wp2
    go_ret
    exact ⟨rfl, rfl⟩
theorem byteCellsR (l : List UInt8) (c : UInt8) : Lib.byteCells l ++ [.int .u8 (c.toNat : Nat)] = Lib.byteCells (l ++ [c]) := by simp [Lib.byteCells]
theorem byteCellsRl (l : List UInt8) : (Lib.byteCells l).length = l.length := by simp [Lib.byteCells]

/-- What is gained in each round, if there are times; else no round. -/
def gainsX (xs : List Int) : List Int := gainsT (sqW xs) (sqW xs).length
def gsign (g : Int) : UInt8 := if 0 < g then 102 else 101
def roundsX (xs : List Int) : List UInt8 := (gainsX xs).map gsign
theorem gainsX_yes {xs : List Int} (h : prOk xs = true) : gainsX xs = gainsT (mk xs (ord xs)) xs.length := by rw [gainsX, sqW_yes h, mk_len, ord_len]
theorem gainsX_no {xs : List Int} (h : prOk xs = false) : gainsX xs = [] := by rw [gainsX, sqW_no h]; rfl
theorem gainsX_len (xs : List Int) : (gainsX xs).length ≤ 12 := Nat.le_trans (gainsT_len _ _) (sqW_len xs)
theorem rounds_signs {xs : List Int} (h : prOk xs = true) : signsT true (mk xs (ord xs)) xs.length = roundsX xs := by rw [signs_gains, roundsX, gainsX_yes h]; rfl
theorem rounds_even {xs : List Int} (h : prOk xs = true) : evenT (mk xs (ord xs)) xs.length = (gainsX xs).any (· == 0) := by rw [even_gains, gainsX_yes h]
theorem mild_sq (xs : List Int) : Mild (sqW xs) := by
  cases h : prOk xs
  · rw [sqW_no h]
    intro k
    simp [wk]
  · rw [sqW_yes h]
    exact mild_ordR (prOk_parts h).2.2
theorem gsign_num (g : Int) : (if decide (0 < g) = true then (102 : Int) else 101) = ((gsign g).toNat : Nat) := by
  unfold gsign
  by_cases h : 0 < g <;> simp [h]
theorem rounds_next {gs : List Int} {k : Nat} (hk : k < gs.length) : (gs.take (k + 1)).map gsign = (gs.take k).map gsign ++ [gsign gs[k]] := by
  rw [List.take_succ_eq_append_getElem hk, List.map_append]
  rfl

set_option maxHeartbeats 1600000 in
theorem specRounds_any (A : Option Addr) (n c : Nat) (xs : List Int) (w : World) (hA : Holds w A (nums xs)) (hx : xs.length = n) (hn : n ≤ 9223372036854775807) :
    Calls Try.prog 35 #[.slice A n c] w (TextR (roundsX xs) (prOk xs) w) := by
  have HX := Lib.hid hx
  clear hx
  cases hp : prOk xs
  · have HP := Lib.hid hp
    clear hp
    go_enter Try.func35, Try.ntmps35
    go_wp2_with (go_at_call 64; refine (prGood_any A n c xs _ hA HX.out hn).mono ?_; rintro e w' ⟨rfl, rfl⟩; rw [HP.out])
    go_ret2
    exact ⟨by rw [roundsX, gainsX_no HP.out]; rfl, Below.refl _ _⟩
  · have HP := Lib.hid hp
    clear hp
    go_enter Try.func35, Try.ntmps35
    go_wp2_with (go_at_call 64; refine (prGood_any A n c xs _ hA HX.out hn).mono ?_; rintro e w' ⟨rfl, rfl⟩; rw [HP.out])
    have ht := prTripsR A n c xs false _ hA HX.out HP.out
    rw [show (!false) = true from rfl, rounds_signs HP.out, rounds_even HP.out] at ht
    refine ht.mono ?_
    clear ht
    rintro e w1 ⟨E, d, rs, rfl, -, -, hb⟩
    have HB := Lib.hid hb
    clear hb
    go_wp2
    go_ret2
    exact ⟨rfl, HB.out⟩

set_option maxHeartbeats 1600000 in
theorem specEven_any (A : Option Addr) (n c : Nat) (xs : List Int) (w : World) (hA : Holds w A (nums xs)) (hx : xs.length = n) (hn : n ≤ 9223372036854775807) :
    Calls Try.prog 45 #[.slice A n c] w fun e w' => e = .returned (.tuple #[.bool ((gainsX xs).any (· == 0)), .bool (prOk xs)]) ∧ Below w.heap.size w w' := by
  have HX := Lib.hid hx
  clear hx
  cases hp : prOk xs
  · have HP := Lib.hid hp
    clear hp
    go_enter Try.func45, Try.ntmps45
    go_wp2_with (go_at_call 64; refine (prGood_any A n c xs _ hA HX.out hn).mono ?_; rintro e w' ⟨rfl, rfl⟩; rw [HP.out])
    go_ret2
    exact ⟨by rw [gainsX_no HP.out]; rfl, Below.refl _ _⟩
  · have HP := Lib.hid hp
    clear hp
    go_enter Try.func45, Try.ntmps45
    go_wp2_with (go_at_call 64; refine (prGood_any A n c xs _ hA HX.out hn).mono ?_; rintro e w' ⟨rfl, rfl⟩; rw [HP.out])
    have ht := prTripsR A n c xs false _ hA HX.out HP.out
    rw [show (!false) = true from rfl, rounds_signs HP.out, rounds_even HP.out] at ht
    generalize hev : (gainsX xs).any (· == 0) = ev at ht
    have HEV := Lib.hid hev
    clear hev
    refine ht.mono ?_
    clear ht
    rintro e w1 ⟨E, d, rs, rfl, -, -, hb⟩
    have HB := Lib.hid hb
    clear hb
    go_wp2
    go_ret2
    exact ⟨by rw [HEV.out]; rfl, HB.out⟩

def NoneI (bs : List Int) (t : Int) (k : Nat) : Prop := ∀ j (h : j < bs.length), j < k → bs[j] ≠ t
theorem NoneI.next {bs : List Int} {t : Int} {k : Nat} (h : NoneI bs t k) (hk : k < bs.length) (hne : bs[k] ≠ t) : NoneI bs t (k + 1) := fun j hj hlt => by
  rcases (show j < k ∨ j = k by omega) with h1 | h1
  · exact h j hj h1
  · subst h1
    exact hne
def IndexI (bs : List Int) (t : Int) (w : World) (e : Ending) (w' : World) : Prop := ∃ r : Int, e = .returned (.int .i64 r) ∧ decide (0 ≤ r) = bs.any (· == t) ∧ w = w'

set_option maxHeartbeats 400000 in
theorem sliceIndexI_any (B : Option Addr) (m d : Nat) (bs : List Int) (t : Int) (w : World) (hB : Holds w B (nums bs)) (hy : bs.length = m) (hm : m ≤ 9223372036854775807) :
    Calls Try.prog 101 #[.slice B m d, .int .i64 t] w (IndexI bs t w) := by
  subst hy
  go_enter Try.func101, Try.ntmps101
  go_wp2
  go_loop [8] (fun i => ∃ k : Nat, k ≤ bs.length ∧ i = .int .i64 k ∧ NoneI bs t k) (fun i => bs.length - (intOf i).toNat)
  case atStart => exact ⟨0, Nat.zero_le _, rfl, fun _ _ h => absurd h (by omega)⟩
  case round =>
    obtain ⟨k, hk, rfl, hs⟩ := hrel
    by_cases hlt : k < bs.length
    · obtain ⟨b, o, rfl, hb, hc⟩ := hB.look (k := k) (by simpa [nums] using hlt)
      simp only [nums, List.getElem_map] at hc
      by_cases he : bs[k] = t
      · have HP : Hid (bs.any (· == t) = true) := by
          show _ = _
          rw [List.any_eq_true]
          exact ⟨bs[k], List.getElem_mem hlt, by simp [he]⟩
        have ht : (t == bs[k]) = true := by simp [he]
        clear he
        go_wp2
        go_ret
        exact ⟨(k : Int), rfl, by rw [HP.out]; simp, rfl⟩
      · have ht : (t == bs[k]) = false := by simp; exact fun h => he h.symm
        have HN := Lib.hid he
        have HS := Lib.hid hs
        clear he hs
        go_wp2
        go_round
        case rel => exact ⟨k + 1, by omega, by go_num, NoneI.next HS.out hlt HN.out⟩
        case measure => simp [intOf]; omega
    · have HP : Hid (bs.any (· == t) = false) := by
        show _ = _
        rw [List.any_eq_false]
        intro x hx
        obtain ⟨j, hj, rfl⟩ := List.getElem_of_mem hx
        simpa using hs j hj (by omega)
      clear hs
      go_wp2
      go_ret
      exact ⟨-1, rfl, by rw [HP.out]; rfl, rfl⟩

set_option maxHeartbeats 400000 in
theorem containsI_any (B : Option Addr) (m d : Nat) (bs : List Int) (t : Int) (w : World) (hB : Holds w B (nums bs)) (hy : bs.length = m) (hm : m ≤ 9223372036854775807) :
    Calls Try.prog 77 #[.slice B m d, .int .i64 t] w fun e w' => e = .returned (.bool (bs.any (· == t))) ∧ w = w' := by
  have HY := Lib.hid hy
  clear hy
  go_enter Try.func77, Try.ntmps77
  go_wp2_with fail
  refine (sliceIndexI_any B m d bs t _ hB HY.out hm).mono ?_
  rintro e w' ⟨r, rfl, hr, rfl⟩
  have HR := Lib.hid hr
  clear hr
  go_wp2
  go_ret
  exact ⟨ret_of (by rw [← HR.out]; rfl), rfl⟩

set_option maxHeartbeats 3200000 in
set_option maxRecDepth 100000 in
theorem implEven_any (A : Option Addr) (n c : Nat) (xs : List Int) (w : World) (hA : Holds w A (nums xs)) (hx : xs.length = n) (hn : n ≤ 9223372036854775807) :
    Calls Try.prog 46 #[.slice A n c] w fun e w' => e = .returned (.tuple #[.bool ((gainsX xs).any (· == 0)), .bool (prOk xs)]) ∧ Below w.heap.size w w' := by
  have HX := Lib.hid hx
  clear hx
  go_enter Try.func46, Try.ntmps46
  go_wp2_with fail
  refine (squadOf_any A n c xs _ hA HX.out hn).mono ?_
  rintro e w1 hpost
  obtain ⟨rfl, hb⟩ := squad_as hpost
  have h12 := sqW_len xs
  have HB := Lib.hid hb
  have HM := Lib.hid (mild_sq xs)
  have HGX : Hid (gainsX xs = gainsT (sqW xs) (sqW xs).length) := rfl
  have HGL := Lib.hid (gainsX_len xs)
  clear hpost hb
  generalize hWe : sqW xs = W at h12 HM HGX ⊢
  clear hWe
  generalize hge : gainsX xs = gs at HGX HGL ⊢
  have HGE := Lib.hid hge
  clear hge
  go_upto_region 2 with (refine wpList_store_whole rfl 85 (.tmp 4) (.tmp 9) rfl w1.heap.size (squadCells W W.length) rfl rfl 85 _ (Whole.fresh _ _ _) size_squad rfl (squad_one _ _) ?_; intro W2 hw2 ho2)
  have hb2 := ho2.below (HB.out.alloc HB.out.size (.cells (squadCells [] 0) 85)) HB.out.size
  have HW2 := Lib.hid hw2
  have HB2 := Lib.hid hb2
  clear hw2 ho2 hb2
  go_wp2_with (refine wpList_load_row rfl 85 (.tmp 4) rfl w1.heap.size rfl 85 (squadCells W W.length) (0, 0) _ HW2.out Try.underlying85 rfl size_squad ?_)
  refine (fetchGains_any W W2 h12 HM.out).mono ?_
  rw [← HGX.out]
  rintro e w3 ⟨E, d, rfl, hown, hb3⟩
  have hE := holdsR hown
  have HB3 := Lib.hid (below_then HB2.out hb3 HB2.out.size)
  clear hown hb3
  go_wp2_with fail
  refine (containsI_any E gs.length d gs 0 _ hE rfl (by have := HGL.out; omega)).mono ?_
  rintro e w4 ⟨rfl, rfl⟩
  go_wp2
  go_ret2
  exact ⟨by rw [HGE.out]; rfl, HB3.out⟩

set_option maxHeartbeats 3200000 in
set_option maxRecDepth 100000 in
theorem implRounds_any (A : Option Addr) (n c : Nat) (xs : List Int) (w : World) (hA : Holds w A (nums xs)) (hx : xs.length = n) (hn : n ≤ 9223372036854775807) :
    Calls Try.prog 36 #[.slice A n c] w (TextR (roundsX xs) (prOk xs) w) := by
  have HX := Lib.hid hx
  clear hx
  go_enter Try.func36, Try.ntmps36
  go_wp2_with fail
  refine (squadOf_any A n c xs _ hA HX.out hn).mono ?_
  rintro e w1 hpost
  obtain ⟨rfl, hb⟩ := squad_as hpost
  have h12 := sqW_len xs
  have HB := Lib.hid hb
  have HM := Lib.hid (mild_sq xs)
  have HGX : Hid (gainsX xs = gainsT (sqW xs) (sqW xs).length) := rfl
  have HGL := Lib.hid (gainsX_len xs)
  have HRX : Hid (roundsX xs = (gainsX xs).map gsign) := rfl
  clear hpost hb
  generalize hWe : sqW xs = W at h12 HM HGX ⊢
  clear hWe
  generalize hge : gainsX xs = gs at HGX HGL HRX ⊢
  clear hge
  go_upto_region 2 with (refine wpList_store_whole rfl 85 (.tmp 4) (.tmp 12) rfl w1.heap.size (squadCells W W.length) rfl rfl 85 _ (Whole.fresh _ _ _) size_squad rfl (squad_one _ _) ?_; intro W2 hw2 ho2)
  have hb2 := ho2.below (HB.out.alloc HB.out.size (.cells (squadCells [] 0) 85)) HB.out.size
  have HW3 := Lib.hid (hw2.alloc (.cells #[.pointer none, .slice none 0 0] 91))
  have HB3 := Lib.hid (hb2.alloc hb2.size (.cells #[.pointer none, .slice none 0 0] 91))
  have hgl2 := hw2.lt
  have hbs : w.heap.size ≤ W2.heap.size := hb2.size
  clear hw2 ho2 hb2
  go_wp2_with (refine wpList_load_row rfl 85 (.tmp 4) rfl w1.heap.size rfl 85 (squadCells W W.length) (0, 0) _ HW3.out Try.underlying85 rfl size_squad ?_)
  refine (fetchGains_any W _ h12 HM.out).mono ?_
  rw [← HGX.out]
  rintro e w3 ⟨E, d, rfl, hown, hb3⟩
  have hs3 : W2.heap.size + 1 ≤ w3.heap.size := by have := hb3.size; rw [World.size_alloc] at this; exact this
  have hE := holdsR hown
  have hEB : ∀ b o, E = some ⟨b, o, none⟩ → W2.heap.size + 1 ≤ b ∧ b < w3.heap.size := fun b o e => by
    have := hown.lt b (by rw [e]; rfl)
    rw [World.size_alloc] at this
    exact this
  have HBU : Hid (BuiltIn W2.heap.size w3.heap.size (Lib.byteCells ((gs.take 0).map gsign)) w3) := by
    refine ⟨by omega, .pointer none, .slice none 0 0, .inl rfl, ?_, World.ownsRow_nil _ _ _ _⟩
    have h := (Whole.fresh W2 91 #[.pointer none, .slice none 0 0]).below hb3
    exact h
  have HB4 := Lib.hid (below_then HB3.out hb3 HB3.out.size)
  clear hown hb3
  go_wp2_with fail
  go_loopw [17] (fun i wr => ∃ k : Nat, k ≤ gs.length ∧ i = .int .i64 k ∧ BuiltIn W2.heap.size w3.heap.size (Lib.byteCells ((gs.take k).map gsign)) wr ∧ Far W2.heap.size w3.heap.size w3 wr ∧ Below w.heap.size w wr ∧ w3.heap.size ≤ wr.heap.size) (fun i _ => gs.length - (intOf i).toNat)
  case atStart => exact ⟨0, Nat.zero_le _, rfl, HBU.out, Far.refl _ _ _, HB4.out, Nat.le_refl _⟩
  case round =>
    obtain ⟨k, hk, rfl, hF, hfar, ht, hsz⟩ := hrel
    by_cases hlt : k < gs.length
    · obtain ⟨b1, o1, rfl, hbl1, hc⟩ := hE.look (k := k) (by simpa [nums] using hlt)
      simp only [nums, List.getElem_map] at hc
      have hbb := hEB b1 o1 rfl
      have hcr : wr.cell? ⟨b1, o1 + k, none⟩ = some (.int .i64 gs[k]) := (hfar.cell (p := ⟨b1, o1 + k, none⟩) (by show b1 ≠ _; omega) hbb.2).trans hc
      have HNX := Lib.hid (rounds_next hlt)
      have hlen : (Lib.byteCells ((gs.take k).map gsign)).length + 1 ≤ 140737488355328 := by rw [byteCellsRl, List.length_map, List.length_take]; have := HGL.out; omega
      have HLEN := Lib.hid hlen
      generalize gs[k] = g at hcr HNX
      have HF := Lib.hid hF
      have HFA := Lib.hid hfar
      have HT := Lib.hid ht
      clear hlen hc hF hfar ht
      go_wp2_with fail
      refine (chooseR (decide (0 < g)) 102 101 _).mono ?_
      rintro e w2 ⟨rfl, rfl⟩
      rw [gsign_num]
      go_wp2_with fail
      refine (writeByteK W2.heap.size w3.heap.size _ _ _ HF.out HLEN.out hsz).mono ?_
      rintro e w5 ⟨rfl, hF2, hf2, hb2⟩
      rw [byteCellsR, ← HNX.out] at hF2
      have HF2 := Lib.hid hF2
      have HFB := Lib.hid (HFA.out.trans hf2)
      have HTB := Lib.hid (HT.out.trans (hb2.mono (B' := w.heap.size) hbs))
      have hsz2 : w3.heap.size ≤ w5.heap.size := Nat.le_trans hsz hb2.size
      clear hF2 hf2 hb2 hcr
      have hgl12 := HGL.out
      go_wp2
      go_roundw
      case rel => exact ⟨k + 1, by omega, by go_num, HF2.out, HFB.out, HTB.out, hsz2⟩
      case measure => simp [intOf]; omega
    · have hkn : gs.take k = gs := List.take_of_length_le (by omega)
      rw [hkn, ← HRX.out] at hF
      have HF := Lib.hid hF.built
      have HT := Lib.hid ht
      clear hkn hF hfar ht
      go_wp2_with fail
      refine (Try.Builder_String_any W2.heap.size W2.heap.size (roundsX xs) _ HF.out (by omega)).mono ?_
      rintro e w5 ⟨rfl, hb5⟩
      have HE := Lib.hid (HT.out.trans (hb5.mono (B' := w.heap.size) hbs))
      clear hb5
      go_wp2
      go_ret2
      exact ⟨rfl, HE.out⟩
end Go.Proofs.Ytgcobhnodjfgiaa
