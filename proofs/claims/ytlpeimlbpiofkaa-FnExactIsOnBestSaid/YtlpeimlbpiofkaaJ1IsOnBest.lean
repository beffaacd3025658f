/-
  What is proved: maps of truth values that hold yes alone, whose keys come out of a finite list, told by which keys are there: made, looked up, stored into, counted. Conditions: as each says.
  What is proved: the contract of the program's onBest: the places on ways of least time. Conditions: at most eight people; the lists are rising ones of people; what is left is told by a map.
  What is proved: the contract of the model's seOn: the numbers of the states on best plans. Conditions: at most eight people, at most eight seats; each person's time is from 1 to 1000; there is a plan.
  What is proved: contracts of CountOnBest, of the model and of the program. Conditions: the party's times are read as they lie.
  What is proved: contracts of IsOnBest, of the model and of the program. Conditions: the party's times and the state are read as they lie.
  What is proved: the contract of the program's IsOnBest. Conditions: the party's times and the state are read as they lie.
-/
import Derived.Test.YtlpeimlbpiofkaaJ3FirstBest
set_option linter.unusedSimpArgs false
set_option linter.unusedVariables false
namespace Go.Proofs.Ytlpeimlbpiofkaa
open Go.RowKit Go.Maps Go.WideShapes

/-- What is read holds just what M says. -/
structure ReadsB {H α : Type} (lit : α → Lit) (dom : List α) (D : DataW H) (M : α → Bool) : Prop where
  keys : ∀ kl, Go.Maps.has D kl = true → ∃ a, a ∈ dom ∧ kl = lit a
  out : ∀ a, M a = true → a ∈ dom
  there : ∀ a, a ∈ dom → Go.Maps.has D (lit a) = M a
  at_ : ∀ a, M a = true → ∀ z, D.atKey (lit a) z = .lit (.bool true)
section
variable {H α : Type} {P : Program} {k e : TypeId} {val : α → Value} {lit : α → Lit} {dom : List α} {D : DataW H} {M : α → Bool}
theorem ReadsB.size_le {n b : Nat} {w : World} {R : Value → Option (DataW H × List MemPlace)} (h : ReadsB lit dom D M) (K : Keyed P k) (ho : w.ownsMap P k R b n D) : Maps.size D ≤ dom.length := by
  obtain ⟨es, rfl, hp, hk⟩ := ho.entries K
  have h1 : (es.map (·.1)).length ≤ (dom.map lit).length := by
    refine nodup_le _ _ ?_ ?_
    · rw [List.Nodup, List.pairwise_map]
      exact hp
    · intro x hx
      obtain ⟨p, hp, rfl⟩ := List.mem_map.1 hx
      obtain ⟨a, ha, hl⟩ := h.keys p.1 (List.any_eq_true.2 ⟨p, hp, WideAt.sameKey_self (hk p hp)⟩)
      exact List.mem_map.2 ⟨a, ha, hl.symm⟩
  simpa [Maps.size] using h1
/-- M and a. -/
noncomputable def updB (M : α → Bool) (a : α) : α → Bool := fun x => open Classical in if x = a then true else M x
theorem updB_same (M : α → Bool) (a : α) : updB M a a = true := by simp [updB]
theorem updB_other (M : α → Bool) {a x : α} (h : x ≠ a) : updB M a x = M x := by simp [updB, h]
theorem ReadsB.empty : ReadsB lit dom (.map [] : DataW H) (fun _ => false) :=
  ⟨fun kl h => (by cases h), fun a h => (by cases h), fun a _ => rfl, fun a h => (by cases h)⟩
theorem ReadsB.put (h : ReadsB lit dom D M) (K : KeyT P k val lit dom) (hD : IsMap D) {a : α} (ha : a ∈ dom) : ReadsB lit dom (D.put (lit a) (.lit (.bool true))) (updB M a) := by
  have hk := K.law.key (K.reads a ha)
  refine ⟨fun kl hkl => ?_, fun x hx => ?_, fun x hx => ?_, fun x hx z => ?_⟩
  · by_cases e : kl = lit a
    · exact ⟨a, ha, e⟩
    · rw [has_put_other e] at hkl
      exact h.keys kl hkl
  · by_cases e : x = a
    · subst e; exact ha
    · rw [updB_other M e] at hx
      exact h.out x hx
  · by_cases e : x = a
    · subst e
      rw [has_put_same hD hk, updB_same]
    · rw [has_put_other (fun e2 => e (K.inj x hx a ha e2)), updB_other M e, h.there x hx]
  · by_cases e : x = a
    · subst e
      rw [atKey_put_same hD hk]
    · rw [updB_other M e] at hx
      rw [atKey_put_other (fun e2 => e (K.inj x (h.out x hx) a ha e2)), h.at_ x hx z]
end
/-- Block b of the world is a map that holds just what M says. -/
def SetIs (P : Program) (k e : TypeId) {α : Type} (lit : α → Lit) (dom : List α) (w : World) (b : Nat) (M : α → Bool) : Prop :=
  ∃ D : DataW Unit, w.ownsMap P k (plainElem P e) b dom.length D ∧ ReadsB lit dom D M
theorem plainElem_bool_inv {P : Program} {e : TypeId} (he : P.underlying e = some .bool) {v : Value} {z : DataW Unit × List MemPlace} (h : plainElem P e v = some z) : ∃ a, v = .bool a ∧ z = (.lit (.bool a), []) := by
  unfold plainElem at h
  rw [he] at h
  cases v <;> simp at h
  obtain rfl := h
  exact ⟨_, rfl, rfl⟩
section
variable {α : Type} {P : Program} {k e t : TypeId} {val : α → Value} {lit : α → Lit} {dom : List α} {M : α → Bool} {w : World} {b : Nat}
theorem SetIs.lt (h : SetIs P k e lit dom w b M) : b < w.heap.size := by obtain ⟨D, ho, -⟩ := h; exact ho.lt
theorem SetIs.kept {w' : World} {row : Option Nat} (h : SetIs P k e lit dom w b M) (hg : w.grownBy w' row) (hne : some b ≠ row) : SetIs P k e lit dom w' b M := by
  obtain ⟨D, ho, hr⟩ := h; exact ⟨D, ho.kept hg hne, hr⟩
theorem SetIs.alloc (h : SetIs P k e lit dom w b M) (o : Obj) : SetIs P k e lit dom (w.alloc o) b M := by
  obtain ⟨D, ho, hr⟩ := h; exact ⟨D, ho.alloc o, hr⟩
theorem SetIs.below {w' : World} (h : SetIs P k e lit dom w b M) (hb : Below w.heap.size w w') : SetIs P k e lit dom w' b M := by
  have hl := h.lt
  obtain ⟨D, ⟨es, clock, hh, r⟩, hr⟩ := h
  exact ⟨D, ⟨es, clock, (hb.block b hl).trans hh, r⟩, hr⟩
theorem SetIs.out (h : SetIs P k e lit dom w b M) {a : α} (ha : M a = true) : a ∈ dom := by obtain ⟨D, -, hr⟩ := h; exact hr.out a ha
theorem SetIs.made (w : World) (P : Program) (k e : TypeId) (lit : α → Lit) (dom : List α) : SetIs P k e lit dom (w.alloc (.map #[] 0)) w.heap.size (fun _ => false) :=
  ⟨.map [], (World.ownsMap_made w P k _).mono (Nat.zero_le _), ReadsB.empty⟩
theorem SetIs.look (h : SetIs P k e lit dom w b M) (K : KeyT P k val lit dom) (ht : P.underlying t = some (.map k e)) (he : P.underlying e = some .bool) (hz : (zeroValue e).run P w = .ok (.bool false) w) (key : α) (hkd : key ∈ dom) :
    (Instr.lookup t (.map (some b)) (val key) false).run P w = .ok (.bool (M key)) w := by
  obtain ⟨D, ho, hr⟩ := h
  obtain ⟨v, ps, hrun, hv⟩ := ho.lookup K.law ht hz (plainElem_bool he false) (K.reads key hkd)
  obtain ⟨c, rfl, hc⟩ := plainElem_bool_inv he hv
  simp only [Prod.mk.injEq] at hc
  rw [hrun]
  congr 2
  cases hm : M key with
  | true =>
    have h1 := hr.at_ key hm (.lit (.bool false))
    rw [hc.1] at h1
    simpa using h1
  | false =>
    have h1 := hr.there key hkd
    rw [hm] at h1
    have h2 := hc.1
    rw [atKey_of_not_has h1] at h2
    simpa using h2.symm
theorem SetIs.update (h : SetIs P k e lit dom w b M) (K : KeyT P k val lit dom) (ht : P.underlying t = some (.map k e)) (he : P.underlying e = some .bool) (hdom : dom.length < maxLen) (key : α) (hkd : key ∈ dom) :
    ∃ w', (Instr.mapUpdate t (.map (some b)) (val key) (.bool true)).run P w = .ok () w' ∧ SetIs P k e lit dom w' b (updB M key) ∧ w.grownBy w' (some b) := by
  obtain ⟨D, ho, hr⟩ := h
  obtain ⟨w', hrun, r1, r2⟩ := ho.update K.law ht hdom (K.reads key hkd) (plainElem_bool he true)
  have hr' := hr.put K ho.isMap hkd
  exact ⟨w', hrun, ⟨_, (owns_tight r1).mono (hr'.size_le K.law r1), hr'⟩, r2⟩
/-- 'm[k] = true', as an operation of a list. -/
theorem wpList_set_put {ops : Array Oper} {rest : List Oper} {o : Oper} {a : Act} {Q : Exit → Act → World → Prop} (hg : o.guard = none) (m x v : Operand) (hop : o.op = Op.mapUpdate t m x v) (K : KeyT P k val lit dom) (ht : P.underlying t = some (.map k e)) (he : P.underlying e = some .bool) (hdom : dom.length < maxLen)
    (hm : a.eval m = .map (some b)) (hown : SetIs P k e lit dom w b M) (key : α) (hkd : key ∈ dom) (hx : a.eval x = val key) (hv : a.eval v = .bool true)
    (hK : ∀ w', SetIs P k e lit dom w' b (updB M key) → w.grownBy w' (some b) → wpList P ops Q rest (a.put o.dst undef) w') : wpList P ops Q (o :: rest) a w := by
  obtain ⟨w', hrun, r1, r2⟩ := hown.update K ht he hdom key hkd
  refine wpList_plain hg fun K' hK' => ?_
  unfold Oper.wp
  simp [execOp, hop, hm, hx, hv, hrun, Result.andThen]
  exact hK' _ _ (hK w' r1 r2)
/-- How many keys are there. -/
def countB (dom : List α) (M : α → Bool) : Nat := (dom.filter M).length
theorem SetIs.count {b : Nat} {w : World} (K : KeyT P k val lit dom) (hd : dom.Nodup) {D : DataW Unit} (ho : w.ownsMap P k (plainElem P e) b dom.length D) (hr : ReadsB lit dom D M) : Maps.size D = countB dom M := by
  obtain ⟨es, rfl, hp, hk⟩ := ho.entries K.law
  have hkeys : ∀ x, x ∈ es.map (·.1) ↔ x ∈ (dom.filter M).map lit := by
    intro x
    constructor
    · intro hx
      obtain ⟨p, hp, rfl⟩ := List.mem_map.1 hx
      have hh : Go.Maps.has (.map es) p.1 = true := List.any_eq_true.2 ⟨p, hp, WideAt.sameKey_self (hk p hp)⟩
      obtain ⟨a, ha, hl⟩ := hr.keys p.1 hh
      refine List.mem_map.2 ⟨a, List.mem_filter.2 ⟨ha, ?_⟩, hl.symm⟩
      rw [← hr.there a ha, ← hl]
      exact hh
    · intro hx
      obtain ⟨a, ha, rfl⟩ := List.mem_map.1 hx
      obtain ⟨ha, hs⟩ := List.mem_filter.1 ha
      rw [← hr.there a ha] at hs
      obtain ⟨p, hp, hpk⟩ := List.any_eq_true.1 hs
      exact List.mem_map.2 ⟨p, hp, WideAt.sameKey_eq hpk⟩
  have n1 : (es.map (·.1)).Nodup := by
    rw [List.Nodup, List.pairwise_map]
    exact hp
  have n2 : ((dom.filter M).map lit).Nodup := by
    rw [List.Nodup, List.pairwise_map]
    refine List.Pairwise.imp_of_mem ?_ (hd.filter _)
    intro a b ha hb hne e
    exact hne (K.inj a (List.mem_filter.1 ha).1 b (List.mem_filter.1 hb).1 e)
  have h1 := nodup_le _ _ n1 fun x hx => (hkeys x).1 hx
  have h2 := nodup_le _ _ n2 fun x hx => (hkeys x).2 hx
  simp only [List.length_map] at h1 h2
  show es.length = _
  unfold countB
  omega
/-- 'len(m)'. -/
theorem wpList_set_len {ops : Array Oper} {rest : List Oper} {o : Oper} {a : Act} {Q : Exit → Act → World → Prop} (hg : o.guard = none) (m : Operand) (hop : o.op = Op.call { callee := Callee.builtin Builtin.len, args := #[m], argTypes := #[t] }) (K : KeyT P k val lit dom) (hd : dom.Nodup) (ht : P.underlying t = some (.map k e))
    (hm : a.eval m = .map (some b)) (hown : SetIs P k e lit dom w b M)
    (hK : wpList P ops Q rest (a.put o.dst (.int .i64 (countB dom M : Nat))) w) : wpList P ops Q (o :: rest) a w := by
  obtain ⟨D, ho, hr⟩ := hown
  refine wpList_len_own w hg m t hop k e ht _ b dom.length D hm ho ?_
  rw [SetIs.count K hd ho hr]
  exact hK
end
/-- A set of places. -/
def PlaceSet (w : World) (b : Nat) (M : Nat → Bool) : Prop := SetIs Try.prog 75 4 (plcL 4) (sts 4) w b M
end Go.Proofs.Ytlpeimlbpiofkaa

namespace Go.Proofs.Ytlpeimlbpiofkaa
open Go.RowKit Go.Maps Go.WideShapes

/-- Is a place told on a way of least time, as far as the loop has come? -/
def onS (D M : Nat → Option Int) (left : Nat → Bool) (x : Nat) : Bool := !left x && (match D x with | some t => decide (t + lf M x = lf M 0) | none => false)
def onB (D M : Nat → Option Int) (x : Nat) : Bool := match D x with | some t => decide (t + lf M x = lf M 0) | none => false
theorem onS_start (D M : Nat → Option Int) : onS D M (fun x => (D x).isSome) = fun _ => false := by
  funext x
  unfold onS
  cases h : D x <;> simp [h]
theorem onS_end (D M : Nat → Option Int) : onS D M (fun _ => false) = onB D M := by
  funext x
  unfold onS onB
  rfl
theorem onS_yes {D M : Nat → Option Int} {left left' : Nat → Bool} {x : Nat} {c : Int} (hD : D x = some c) (h1 : left' x = false) (h2 : ∀ z, z ≠ x → left' z = left z) (h : c + lf M x = lf M 0) : updB (onS D M left) x = onS D M left' := by
  funext z
  by_cases e : z = x
  · subst e
    rw [updB_same]
    unfold onS
    rw [h1, hD]
    exact (decide_eq_true h).symm
  · rw [updB_other _ e]
    unfold onS
    rw [h2 z e]
theorem onS_no {D M : Nat → Option Int} {left left' : Nat → Bool} {x : Nat} {c : Int} (hD : D x = some c) (hl : left x = true) (h1 : left' x = false) (h2 : ∀ z, z ≠ x → left' z = left z) (h : ¬ c + lf M x = lf M 0) : onS D M left = onS D M left' := by
  funext z
  by_cases e : z = x
  · subst e
    unfold onS
    rw [hl, h1, hD]
    exact (decide_eq_false h).symm
  · unfold onS
    rw [h2 z e]
theorem yields_route {ops : Array Oper} {S : World → Prop} {o : Oper} {a : Act} {g : Nat} {E : Option Addr} {k c x mb : Nat} (hw : Region.wanted o (yielded ops a.tmps) = true) (y : Operand) (ho : o.op = .load 78 y) (hx : a.eval y = .pointer (some ⟨g, 0, none⟩))
    (hS : ∀ w, S w → Whole w g 78 (routeC E k c x mb)) : YieldsIf Try.prog ops S o (.agg (routeC E k c x mb)) a :=
  .inl ⟨hw, fun w hw' => by
    unfold execOp
    simp only [ho, hx, Instr.loadAt, Instr.sureAddr, Sem.run_bind, Sem.run_pure, Result.andThen_ok, run_loadVar_row (P := Try.prog) w g 78 78 (routeC E k c x mb) (0, 0) _ (hS w hw') Try.underlying78 rfl size_routes]⟩
theorem set_apart {w : World} {b : Nat} {M : Nat → Option Int} {v : Int} (hs : PlaceSet w b (fun _ => false)) (hm : PlaceMap w b M) (h0 : M 0 = some v) : False := by
  obtain ⟨D', ho', hr'⟩ := hs
  obtain ⟨D, ho, hr⟩ := hm
  have c1 := SetIs.count (place_keys (show 4 ≤ 4 by omega)) (sts_nodup 4) ho' hr'
  have c2 := MapIs.count (place_keys (show 4 ≤ 4 by omega)) (sts_nodup 4) ho hr
  have c3 : 0 < countIs (sts 4) M := by
    unfold countIs
    refine List.length_pos_of_mem (a := 0) (List.mem_filter.2 ⟨zero_mem4, ?_⟩)
    rw [h0]
    rfl
  have c4 : countB (sts 4) (fun _ => false) = 0 := by simp [countB]
  obtain ⟨es, clock, hb, F, hsz, rfl⟩ := ho
  obtain ⟨es', clock', hb', F', hsz', rfl⟩ := ho'
  rw [hb] at hb'
  cases hb'
  simp [Maps.size, length_sorted] at c1 c2
  omega
/-- What onBest hands back. -/
def OnPost (N : Nat → Bool) (w : World) (e : Ending) (w' : World) : Prop := ∃ b, e = .returned (.map (some b)) ∧ PlaceSet w' b N ∧ Below w.heap.size w w'

set_option maxHeartbeats 12800000 in
set_option maxRecDepth 100000 in
set_option linter.unusedSimpArgs false in
set_option linter.unusedVariables false in
theorem onBest_any (T : List Int → Int) (lo : Nat) (E : Option Addr) (c : Nat) (Ls : List (List Int)) (e0 mb : Nat) (M : Nat → Option Int) (w : World) (hown0 : w.ownsRow lo 89 9 (.slice E Ls.length c) Ls.length (legsCells T Ls)) (hLs : Ls.length ≤ 255) (hM0 : PlaceMap w mb M) (hOK : LeftOk T Ls e0 M) (hD : LeftOk T Ls 0 (leastD (LegE T 4 Ls) 0)) :
    Calls Try.prog 80 #[.agg (routeC E Ls.length c e0 mb)] w (OnPost (onB (leastD (LegE T 4 Ls) 0) M) w) := by
  have hmm := @run_makeMap Try.prog
  have HUP := Lib.hid hOK.up
  have HTM := Lib.hid hOK.time
  have HLOW := Lib.hid hOK.low
  have HDLOW := Lib.hid hD.low
  have HLS := Lib.hid hLs
  have HST := Lib.hid hD.least.start
  have hbx := Whole.fresh w 78 (routeC E Ls.length c e0 mb)
  have HR0 := Lib.hid (hbx.alloc (.map #[] 0))
  have HO0 := Lib.hid ((hown0.alloc (.cells (routeC E Ls.length c e0 mb) 78)).alloc (.map #[] 0))
  have HM0 := Lib.hid ((hM0.alloc (.cells (routeC E Ls.length c e0 mb) 78)).alloc (.map #[] 0))
  have HB0 := Lib.hid (below2 w (.cells (routeC E Ls.length c e0 mb) 78) (.map #[] 0))
  have hset0 := SetIs.made (w.alloc (.cells (routeC E Ls.length c e0 mb) 78)) Try.prog 75 4 (plcL 4) (sts 4)
  rw [World.size_alloc] at hset0
  have HSET0 := Lib.hid hset0
  have hmbl := hM0.lt
  have hk0 := (cells11 (x0 := .slice E Ls.length c) HR0.out).1
  have hbl := HR0.out.lt
  clear hown0 hM0 hOK hD hLs hset0 hbx
  unfold routeC at HR0 HO0 HM0 HB0 HSET0 hk0 hbl
  unfold routeC
  go_enter Try.func80, Try.ntmps80
  go_wp2_with fail
  refine (onwardBy_any T lo E c Ls _ HO0.out).mono ?_
  rintro e w1 ⟨gB, rfl, hfn, hb⟩
  have hz1 := hb.size
  simp only [World.size_alloc] at hz1
  have HSET1 := Lib.hid ((HSET0.out.below hb).alloc (.cells #[.bool false, .bool false, .bool false, .bool false, .bool false, .bool false, .bool false, .bool false, .bool false] 75))
  have HM1 := Lib.hid ((HM0.out.below hb).alloc (.cells #[.bool false, .bool false, .bool false, .bool false, .bool false, .bool false, .bool false, .bool false, .bool false] 75))
  have HR1 := Lib.hid ((HR0.out.below hb).alloc (.cells #[.bool false, .bool false, .bool false, .bool false, .bool false, .bool false, .bool false, .bool false, .bool false] 75))
  have hb1 := below_then HB0.out hb HB0.out.size
  have HB1 := Lib.hid (hb1.alloc hb1.size (.cells #[.bool false, .bool false, .bool false, .bool false, .bool false, .bool false, .bool false, .bool false, .bool false] 75))
  have HF1 := Lib.hid (hfn.below (below1 w1 (.cells #[.bool false, .bool false, .bool false, .bool false, .bool false, .bool false, .bool false, .bool false, .bool false] 75)))
  have hrow : Whole (w1.alloc (.cells #[.bool false, .bool false, .bool false, .bool false, .bool false, .bool false, .bool false, .bool false, .bool false] 75)) w1.heap.size 75 (plcC 4 0) := Whole.fresh _ _ _
  have HLT0 := Lib.hid (leastTimes_any T gB lo w1.heap.size E c Ls 0 _ HF1.out HLS.out HUP.out HTM.out zero_mem4 hrow)
  clear hb hfn hrow hb1 hk0 hbl HSET0 HM0 HR0 HB0 HO0 hmm
  unfold arrFnV at HLT0
  unfold arrFnV
  go_wp2_with fail
  refine HLT0.out.mono ?_
  rintro e w2 ⟨mt, rfl, hmap, hb⟩
  obtain ⟨D, hDD⟩ : ∃ D, leastD (LegE T 4 Ls) 0 = D := ⟨_, rfl⟩
  have hz2 := hb.size
  simp only [World.size_alloc] at hz2
  have HSET2 := Lib.hid (HSET1.out.below hb)
  have HM2 := Lib.hid (HM1.out.below hb)
  have HR2 := Lib.hid (HR1.out.below hb)
  have HB2 := Lib.hid (below_then HB1.out hb HB1.out.size)
  rw [hDD] at hmap HDLOW HST
  have HDN := Lib.hid hDD
  have hmtl := hmap.lt
  have hmtne : mt ≠ w.heap.size + 1 := by
    intro h
    subst h
    exact set_apart HSET2.out hmap HST.out
  clear hb hDD HSET1 HM1 HR1 HB1 HF1 HLT0
  go_wp2_with (first
    | (at_range; refine wpList_map_range _ rfl _ rfl (place_keys (by omega)) Try.underlying76 rfl hmap ?_; intro w0 hrg0 hg0 hs0)
    | fail)
  go_frame
  have HRG0 := Lib.hid hrg0
  have HSET3 := Lib.hid (HSET2.out.kept hg0 (by simp))
  have HM3 := Lib.hid (HM2.out.kept hg0 (by simp))
  have HR3 := Lib.hid (whole_apart HR2.out hg0 (by simp))
  have HB3 := Lib.hid (HB2.out.grown hg0 HB2.out.size (fun y hy => by cases hy))
  clear hrg0 hg0 HSET2 HM2 HR2 HB2
  go_loopw [5] (fun v wr => ∃ (left : Nat → Bool), PlaceRange wr mt w2.heap.size D left ∧ PlaceSet wr (w.heap.size + 1) (onS D M left) ∧ PlaceMap wr mb M ∧ Whole wr w.heap.size 78 #[.slice E Ls.length c, .bool (pf 4 e0 0), .bool (pf 4 e0 1), .bool (pf 4 e0 2), .bool (pf 4 e0 3), .bool (pf 4 e0 4), .bool (pf 4 e0 5), .bool (pf 4 e0 6), .bool (pf 4 e0 7), .bool (pt e0), .map (some mb)] ∧ Below w.heap.size w wr)
    (fun _ wr => wr.rangeLeft mt w2.heap.size)
  case atStart => exact ⟨_, HRG0.out, by rw [onS_start]; exact HSET3.out, HM3.out, HR3.out, HB3.out⟩
  case round =>
    clear HRG0 HSET3 HM3 HR3 HB3 hs0
    obtain ⟨left, hrg, hset, hm, hr, hb⟩ := hrel
    obtain ⟨wz, rfl⟩ : ∃ X : World, X = wr := ⟨_, rfl⟩
    have HRGz := Lib.hid hrg
    have HSETz := Lib.hid hset
    have HMz := Lib.hid hm
    have HRz := Lib.hid hr
    have HBz := Lib.hid hb
    clear hset hm hr hb
    go_wp2_with (first
      | (at_next; refine wpList_map_next _ rfl _ rfl (place_keys (by omega)) Try.underlying3 rfl hrg ?_ ?_)
      | fail)
    · intro hl0
      have hlf : left = fun _ => false := funext hl0
      subst hlf
      clear hrg hl0
      go_wp2
      go_ret
      exact ⟨_, rfl, by rw [HDN.out, ← onS_end]; exact HSETz.out, HBz.out⟩
    · intro x c' w3 hxd hlx hMx hwc hrg1 hlt hg1 hs1 hen
      have HLT := Lib.hid hlt
      obtain ⟨lf', hlf1, hlf2, HRG1⟩ : ∃ lf' : Nat → Bool, lf' x = false ∧ (∀ z, z ≠ x → lf' z = left z) ∧ Hid (PlaceRange w3 mt w2.heap.size D lf') := ⟨_, by simp, fun z hz => by simp [hz], Lib.hid hrg1⟩
      have HYS := Lib.hid (fun h : c' + lf M x = lf M 0 => onS_yes hMx hlf1 hlf2 h)
      have HNS := Lib.hid (fun h : ¬ c' + lf M x = lf M 0 => onS_no hMx hlx hlf1 hlf2 h)
      have hcb : 0 ≤ c' ∧ c' ≤ 512000000 := by have h := HDLOW.out x; unfold lf at h; rw [hMx] at h; exact h
      have hzz := HBz.out.size
      have hset3 := HSETz.out.kept hg1 (fun e => absurd (Option.some.inj e) (by omega))
      have hm3 := HMz.out.kept hg1 (fun e => absurd (Option.some.inj e) (by omega))
      have hr3 := whole_apart HRz.out hg1 (fun e => absurd (Option.some.inj e) (by omega))
      have hb3 := HBz.out.grown hg1 hzz (fun y hy => by have := Option.some.inj hy; omega)
      have hw23 : w2.heap.size < w3.heap.size := HRG1.out.lt
      have hp := Whole.fresh w3 75 (plcC 4 x)
      have HSET4 := Lib.hid (hset3.alloc (.cells (plcC 4 x) 75))
      have HM4 := Lib.hid (hm3.alloc (.cells (plcC 4 x) 75))
      have HR4 := Lib.hid (hr3.alloc (.cells (plcC 4 x) 75))
      have HB4 := Lib.hid (hb3.alloc hb3.size (.cells (plcC 4 x) 75))
      have hwa := below1 w3 (.cells (plcC 4 x) 75)
      have HRG4 := Lib.hid (HRG1.out.below hwa)
      have HLA := Lib.hid (HRG1.out.left_below hwa)
      unfold plc plcC place9 at hen
      rw [← HLA.out] at HLT
      obtain ⟨dx, hdx⟩ : ∃ d, lf M x = d := ⟨_, rfl⟩
      obtain ⟨d0, hd0⟩ : ∃ d, lf M 0 = d := ⟨_, rfl⟩
      have hlx9 := HLOW.out x
      rw [hdx] at hlx9
      rw [hdx, hd0] at HYS HNS
      have HDX := Lib.hid hdx
      have HD0 := Lib.hid hd0
      have hwrp : IntKind.i64.wrap (c' + dx) = c' + dx := IntWalk.i64_in _ (by omega)
      clear hlt hrg hrg1 hg1 hs1 hlf1 hlf2 hMx hlx hset3 hm3 hr3 hb3 hdx hd0 hwa HLA
      unfold plcC place9 at HSET4 HM4 HR4 HB4 HRG4 HLT hp
      by_cases heq : c' + dx = d0
      · have hbq : (c' + dx == d0) = true := by simpa using heq
        have HEQ := Lib.hid heq
        clear heq
        go_upto_region 5 with fail
        clear hen
        generalize w3.alloc (.cells #[.bool (pf 4 x 0), .bool (pf 4 x 1), .bool (pf 4 x 2), .bool (pf 4 x 3), .bool (pf 4 x 4), .bool (pf 4 x 5), .bool (pf 4 x 6), .bool (pf 4 x 7), .bool (pt x)] 75) = w4 at HSET4 HM4 HR4 HB4 HRG4 HLT hp ⊢
        have hr := HR4.out
        have hm := HM4.out
        go_wp2_with fail
        refine wp_region_held_drew (S := (fun w' => Whole w' w.heap.size 78 #[.slice E Ls.length c, .bool (pf 4 e0 0), .bool (pf 4 e0 1), .bool (pf 4 e0 2), .bool (pf 4 e0 3), .bool (pf 4 e0 4), .bool (pf 4 e0 5), .bool (pf 4 e0 6), .bool (pf 4 e0 7), .bool (pt e0), .map (some mb)] ∧ Nine0 w3.heap.size 4 x w')) (by kernel_rfl) ⟨hr.drew, nine0_of hp.drew⟩ (fun hHeld => ?_)
        replace hr := hr.drew
        replace hp := hp.drew
        replace hm := hm.below (Below.refl w4.heap.size w4).drew
        have hsm := (Below.refl w4.heap.size w4).drew
        generalize World.drew w4 = wd at hr hp hm hsm hHeld ⊢
        refine wpAnyH_take (i := 0) (v := ?_) rfl (by kernel_rfl) (by kernel_rfl) (by kernel_rfl) (fun _ _ _ h => h) (Or.inl ⟨rfl, ?_⟩) hHeld ?_
        rotate_left
        · intro w' hS; obtain ⟨hW, s0, s1, s2, s3, s4, s5, s6, s7, s8⟩ := hS; have s10 : w'.cell? ⟨w.heap.size, 10, none⟩ = some (.map (some mb)) := hW.cell 10; have s11 := hW.lt; go_simp <;> with_reducible rfl
        simp only [Act.put, List.getElem_toArray, List.getElem_cons_succ, List.getElem_cons_zero, List.setIfInBounds_toArray, List.set_cons_succ, List.set_cons_zero]
        refine wpAnyH_take (i := 1) (v := ?_) rfl (by kernel_rfl) (by kernel_rfl) (by kernel_rfl) (fun _ _ _ h => h) (Or.inl ⟨rfl, ?_⟩) hHeld ?_
        rotate_left
        · intro w' hS; obtain ⟨hW, s0, s1, s2, s3, s4, s5, s6, s7, s8⟩ := hS; have s10 : w'.cell? ⟨w.heap.size, 10, none⟩ = some (.map (some mb)) := hW.cell 10; have s11 := hW.lt; go_simp <;> with_reducible rfl
        simp only [Act.put, List.getElem_toArray, List.getElem_cons_succ, List.getElem_cons_zero, List.setIfInBounds_toArray, List.set_cons_succ, List.set_cons_zero]
        refine wpAnyH_take (i := 2) (v := ?_) rfl (by kernel_rfl) (by kernel_rfl) (by kernel_rfl) (fun _ _ _ h => h) (Or.inl ⟨rfl, ?_⟩) hHeld ?_
        rotate_left
        · intro w' hS; obtain ⟨hW, s0, s1, s2, s3, s4, s5, s6, s7, s8⟩ := hS; have s10 : w'.cell? ⟨w.heap.size, 10, none⟩ = some (.map (some mb)) := hW.cell 10; have s11 := hW.lt; go_simp <;> with_reducible rfl
        simp only [Act.put, List.getElem_toArray, List.getElem_cons_succ, List.getElem_cons_zero, List.setIfInBounds_toArray, List.set_cons_succ, List.set_cons_zero]
        refine wpAnyH_take (i := 3) (v := ?_) rfl (by kernel_rfl) (by kernel_rfl) (by kernel_rfl) (fun _ _ _ h => h) (Or.inl ⟨rfl, ?_⟩) hHeld ?_
        rotate_left
        · intro w' hS; obtain ⟨hW, s0, s1, s2, s3, s4, s5, s6, s7, s8⟩ := hS; have s10 : w'.cell? ⟨w.heap.size, 10, none⟩ = some (.map (some mb)) := hW.cell 10; have s11 := hW.lt; go_simp <;> with_reducible rfl
        simp only [Act.put, List.getElem_toArray, List.getElem_cons_succ, List.getElem_cons_zero, List.setIfInBounds_toArray, List.set_cons_succ, List.set_cons_zero]
        refine wpAnyH_take (i := 6) (v := .agg #[.slice E Ls.length c, .bool (pf 4 e0 0), .bool (pf 4 e0 1), .bool (pf 4 e0 2), .bool (pf 4 e0 3), .bool (pf 4 e0 4), .bool (pf 4 e0 5), .bool (pf 4 e0 6), .bool (pf 4 e0 7), .bool (pt e0), .map (some mb)]) rfl (by kernel_rfl) (by kernel_rfl) (by kernel_rfl) (fun _ _ _ h => h) (yields_route rfl _ rfl rfl (fun _ h => h.1)) hHeld ?_
        simp only [Act.put, List.getElem_toArray, List.getElem_cons_succ, List.getElem_cons_zero, List.setIfInBounds_toArray, List.set_cons_succ, List.set_cons_zero]
        refine wpAnyH_ready (rs := [4, 7]) (by kernel_rfl) (by simp) (AllReadyH.cons rfl (fun K hK => ?_) (AllReadyH.cons rfl (fun K hK => ?_) AllReadyH.nil))
        · have hlk := MapIs.look hm (place_keys (by omega)) Try.underlying76 Try.underlying3 (hzero _) x hxd
          rw [show (M x).getD 0 = dx from HDX.out] at hlk
          unfold plc plcC place9 at hlk
          go_simp
          clear hlk
          refine hK.out _ _ ⟨hr, nine0_of hp⟩ (fun hHeld => ?_)
          clear hK K
          try simp only [Act.put, List.getElem_toArray, List.getElem_cons_succ, List.getElem_cons_zero, List.setIfInBounds_toArray, List.set_cons_succ, List.set_cons_zero]
          refine wpAnyH_take (i := 5) (v := ?_) rfl (by kernel_rfl) (by kernel_rfl) (by kernel_rfl) (fun _ _ _ h => h) (Or.inl ⟨rfl, ?_⟩) hHeld ?_
          rotate_left
          · intro w' hS; obtain ⟨hW, s0, s1, s2, s3, s4, s5, s6, s7, s8⟩ := hS; have s10 : w'.cell? ⟨w.heap.size, 10, none⟩ = some (.map (some mb)) := hW.cell 10; have s11 := hW.lt; go_simp <;> with_reducible rfl
          simp only [Act.put, List.getElem_toArray, List.getElem_cons_succ, List.getElem_cons_zero, List.setIfInBounds_toArray, List.set_cons_succ, List.set_cons_zero]
          refine wpAnyH_ready (rs := [7]) (by kernel_rfl) (by simp) (AllReadyH.cons rfl (fun K hK => ?_) AllReadyH.nil)
          go_simp
          have hle := least_yes E Ls.length c e0 mb M _ hm
          unfold routeC at hle
          refine hle.mono ?_
          clear hle
          rintro e9 w5 ⟨rfl, hb⟩
          rw [show (M 0).getD 0 = d0 from HD0.out]
          replace hr := hr.below hb
          replace hp := hp.below hb
          replace hm := hm.below hb
          replace hsm := below_then hsm hb hsm.size
          clear hb
          refine hK.out _ _ ⟨hr, nine0_of hp⟩ (fun hHeld => ?_)
          clear hK K
          try simp only [Act.put, List.getElem_toArray, List.getElem_cons_succ, List.getElem_cons_zero, List.setIfInBounds_toArray, List.set_cons_succ, List.set_cons_zero]
          refine wpAnyH_take (i := 8) (v := ?_) rfl (by kernel_rfl) (by kernel_rfl) (by kernel_rfl) (fun _ _ _ h => h) (Or.inl ⟨rfl, ?_⟩) hHeld ?_
          rotate_left
          · intro w' hS; obtain ⟨hW, s0, s1, s2, s3, s4, s5, s6, s7, s8⟩ := hS; have s10 : w'.cell? ⟨w.heap.size, 10, none⟩ = some (.map (some mb)) := hW.cell 10; have s11 := hW.lt; go_simp <;> with_reducible rfl
          simp only [Act.put, List.getElem_toArray, List.getElem_cons_succ, List.getElem_cons_zero, List.setIfInBounds_toArray, List.set_cons_succ, List.set_cons_zero]
          refine wpAnyH_done (by kernel_rfl) ?_ _
          clear hHeld
          have HP5 := Lib.hid hp
          have HSM := Lib.hid hsm
          obtain ⟨p0, p1, p2, p3, p4, p5, p6, p7, p8⟩ := nine0_of hp
          have hpl := hp.lt
          have hset := HSET4.out.below hsm
          have hrg := HRG4.out.below hsm
          have hlt4 := HRG4.out.left_below hsm
          clear hr hm hsm hp
          go_wp2_with (refine wpList_set_put rfl _ _ _ rfl (place_keys (by omega)) Try.underlying99 Try.underlying4 (sts_len (by omega)) rfl hset x hxd rfl rfl ?_; intro w6 hset6 hg6; go_frame)
          have HRG6 := Lib.hid (hrg.kept hg6 (fun e => absurd (Option.some.inj e) (by omega)) (fun e => absurd (Option.some.inj e) (by omega)))
          have HLT6 := Lib.hid ((hrg.left_kept hg6 (fun e => absurd (Option.some.inj e) (by omega)) (fun e => absurd (Option.some.inj e) (by omega))).trans hlt4)
          have HSET6 := Lib.hid (HYS.out HEQ.out ▸ hset6)
          have HM6 := Lib.hid ((HM4.out.below HSM.out).kept hg6 (fun e => absurd (Option.some.inj e) (by omega)))
          have HR6 := Lib.hid (whole_apart (HR4.out.below HSM.out) hg6 (fun e => absurd (Option.some.inj e) (by omega)))
          have HB6 := Lib.hid ((below_then HB4.out HSM.out HB4.out.size).grown hg6 (show w.heap.size ≤ _ by have := HB4.out.size; have := HSM.out.size; omega) (fun y hy => by have := Option.some.inj hy; omega))
          clear hset6 hg6 hset hrg hlt4
          go_roundw
          case rel => exact ⟨lf', HRG6.out, HSET6.out, HM6.out, HR6.out, HB6.out⟩
          case measure => rw [HLT6.out]; exact HLT.out
        · go_simp
          have hle := least_yes E Ls.length c e0 mb M _ hm
          unfold routeC at hle
          refine hle.mono ?_
          clear hle
          rintro e9 w5 ⟨rfl, hb⟩
          rw [show (M 0).getD 0 = d0 from HD0.out]
          replace hr := hr.below hb
          replace hp := hp.below hb
          replace hm := hm.below hb
          replace hsm := below_then hsm hb hsm.size
          clear hb
          refine hK.out _ _ ⟨hr, nine0_of hp⟩ (fun hHeld => ?_)
          clear hK K
          try simp only [Act.put, List.getElem_toArray, List.getElem_cons_succ, List.getElem_cons_zero, List.setIfInBounds_toArray, List.set_cons_succ, List.set_cons_zero]
          refine wpAnyH_ready (rs := [4]) (by kernel_rfl) (by simp) (AllReadyH.cons rfl (fun K hK => ?_) AllReadyH.nil)
          have hlk := MapIs.look hm (place_keys (by omega)) Try.underlying76 Try.underlying3 (hzero _) x hxd
          rw [show (M x).getD 0 = dx from HDX.out] at hlk
          unfold plc plcC place9 at hlk
          go_simp
          clear hlk
          refine hK.out _ _ ⟨hr, nine0_of hp⟩ (fun hHeld => ?_)
          clear hK K
          try simp only [Act.put, List.getElem_toArray, List.getElem_cons_succ, List.getElem_cons_zero, List.setIfInBounds_toArray, List.set_cons_succ, List.set_cons_zero]
          refine wpAnyH_take (i := 5) (v := ?_) rfl (by kernel_rfl) (by kernel_rfl) (by kernel_rfl) (fun _ _ _ h => h) (Or.inl ⟨rfl, ?_⟩) hHeld ?_
          rotate_left
          · intro w' hS; obtain ⟨hW, s0, s1, s2, s3, s4, s5, s6, s7, s8⟩ := hS; have s10 : w'.cell? ⟨w.heap.size, 10, none⟩ = some (.map (some mb)) := hW.cell 10; have s11 := hW.lt; go_simp <;> with_reducible rfl
          simp only [Act.put, List.getElem_toArray, List.getElem_cons_succ, List.getElem_cons_zero, List.setIfInBounds_toArray, List.set_cons_succ, List.set_cons_zero]
          refine wpAnyH_take (i := 8) (v := ?_) rfl (by kernel_rfl) (by kernel_rfl) (by kernel_rfl) (fun _ _ _ h => h) (Or.inl ⟨rfl, ?_⟩) hHeld ?_
          rotate_left
          · intro w' hS; obtain ⟨hW, s0, s1, s2, s3, s4, s5, s6, s7, s8⟩ := hS; have s10 : w'.cell? ⟨w.heap.size, 10, none⟩ = some (.map (some mb)) := hW.cell 10; have s11 := hW.lt; go_simp <;> with_reducible rfl
          simp only [Act.put, List.getElem_toArray, List.getElem_cons_succ, List.getElem_cons_zero, List.setIfInBounds_toArray, List.set_cons_succ, List.set_cons_zero]
          refine wpAnyH_done (by kernel_rfl) ?_ _
          clear hHeld
          have HP5 := Lib.hid hp
          have HSM := Lib.hid hsm
          obtain ⟨p0, p1, p2, p3, p4, p5, p6, p7, p8⟩ := nine0_of hp
          have hpl := hp.lt
          have hset := HSET4.out.below hsm
          have hrg := HRG4.out.below hsm
          have hlt4 := HRG4.out.left_below hsm
          clear hr hm hsm hp
          go_wp2_with (refine wpList_set_put rfl _ _ _ rfl (place_keys (by omega)) Try.underlying99 Try.underlying4 (sts_len (by omega)) rfl hset x hxd rfl rfl ?_; intro w6 hset6 hg6; go_frame)
          have HRG6 := Lib.hid (hrg.kept hg6 (fun e => absurd (Option.some.inj e) (by omega)) (fun e => absurd (Option.some.inj e) (by omega)))
          have HLT6 := Lib.hid ((hrg.left_kept hg6 (fun e => absurd (Option.some.inj e) (by omega)) (fun e => absurd (Option.some.inj e) (by omega))).trans hlt4)
          have HSET6 := Lib.hid (HYS.out HEQ.out ▸ hset6)
          have HM6 := Lib.hid ((HM4.out.below HSM.out).kept hg6 (fun e => absurd (Option.some.inj e) (by omega)))
          have HR6 := Lib.hid (whole_apart (HR4.out.below HSM.out) hg6 (fun e => absurd (Option.some.inj e) (by omega)))
          have HB6 := Lib.hid ((below_then HB4.out HSM.out HB4.out.size).grown hg6 (show w.heap.size ≤ _ by have := HB4.out.size; have := HSM.out.size; omega) (fun y hy => by have := Option.some.inj hy; omega))
          clear hset6 hg6 hset hrg hlt4
          go_roundw
          case rel => exact ⟨lf', HRG6.out, HSET6.out, HM6.out, HR6.out, HB6.out⟩
          case measure => rw [HLT6.out]; exact HLT.out
      · have hbq : (c' + dx == d0) = false := by simpa using heq
        have HEQ := Lib.hid heq
        clear heq
        go_upto_region 5 with fail
        clear hen
        generalize w3.alloc (.cells #[.bool (pf 4 x 0), .bool (pf 4 x 1), .bool (pf 4 x 2), .bool (pf 4 x 3), .bool (pf 4 x 4), .bool (pf 4 x 5), .bool (pf 4 x 6), .bool (pf 4 x 7), .bool (pt x)] 75) = w4 at HSET4 HM4 HR4 HB4 HRG4 HLT hp ⊢
        have hr := HR4.out
        have hm := HM4.out
        go_wp2_with fail
        refine wp_region_held_drew (S := (fun w' => Whole w' w.heap.size 78 #[.slice E Ls.length c, .bool (pf 4 e0 0), .bool (pf 4 e0 1), .bool (pf 4 e0 2), .bool (pf 4 e0 3), .bool (pf 4 e0 4), .bool (pf 4 e0 5), .bool (pf 4 e0 6), .bool (pf 4 e0 7), .bool (pt e0), .map (some mb)] ∧ Nine0 w3.heap.size 4 x w')) (by kernel_rfl) ⟨hr.drew, nine0_of hp.drew⟩ (fun hHeld => ?_)
        replace hr := hr.drew
        replace hp := hp.drew
        replace hm := hm.below (Below.refl w4.heap.size w4).drew
        have hsm := (Below.refl w4.heap.size w4).drew
        generalize World.drew w4 = wd at hr hp hm hsm hHeld ⊢
        refine wpAnyH_take (i := 0) (v := ?_) rfl (by kernel_rfl) (by kernel_rfl) (by kernel_rfl) (fun _ _ _ h => h) (Or.inl ⟨rfl, ?_⟩) hHeld ?_
        rotate_left
        · intro w' hS; obtain ⟨hW, s0, s1, s2, s3, s4, s5, s6, s7, s8⟩ := hS; have s10 : w'.cell? ⟨w.heap.size, 10, none⟩ = some (.map (some mb)) := hW.cell 10; have s11 := hW.lt; go_simp <;> with_reducible rfl
        simp only [Act.put, List.getElem_toArray, List.getElem_cons_succ, List.getElem_cons_zero, List.setIfInBounds_toArray, List.set_cons_succ, List.set_cons_zero]
        refine wpAnyH_take (i := 1) (v := ?_) rfl (by kernel_rfl) (by kernel_rfl) (by kernel_rfl) (fun _ _ _ h => h) (Or.inl ⟨rfl, ?_⟩) hHeld ?_
        rotate_left
        · intro w' hS; obtain ⟨hW, s0, s1, s2, s3, s4, s5, s6, s7, s8⟩ := hS; have s10 : w'.cell? ⟨w.heap.size, 10, none⟩ = some (.map (some mb)) := hW.cell 10; have s11 := hW.lt; go_simp <;> with_reducible rfl
        simp only [Act.put, List.getElem_toArray, List.getElem_cons_succ, List.getElem_cons_zero, List.setIfInBounds_toArray, List.set_cons_succ, List.set_cons_zero]
        refine wpAnyH_take (i := 2) (v := ?_) rfl (by kernel_rfl) (by kernel_rfl) (by kernel_rfl) (fun _ _ _ h => h) (Or.inl ⟨rfl, ?_⟩) hHeld ?_
        rotate_left
        · intro w' hS; obtain ⟨hW, s0, s1, s2, s3, s4, s5, s6, s7, s8⟩ := hS; have s10 : w'.cell? ⟨w.heap.size, 10, none⟩ = some (.map (some mb)) := hW.cell 10; have s11 := hW.lt; go_simp <;> with_reducible rfl
        simp only [Act.put, List.getElem_toArray, List.getElem_cons_succ, List.getElem_cons_zero, List.setIfInBounds_toArray, List.set_cons_succ, List.set_cons_zero]
        refine wpAnyH_take (i := 3) (v := ?_) rfl (by kernel_rfl) (by kernel_rfl) (by kernel_rfl) (fun _ _ _ h => h) (Or.inl ⟨rfl, ?_⟩) hHeld ?_
        rotate_left
        · intro w' hS; obtain ⟨hW, s0, s1, s2, s3, s4, s5, s6, s7, s8⟩ := hS; have s10 : w'.cell? ⟨w.heap.size, 10, none⟩ = some (.map (some mb)) := hW.cell 10; have s11 := hW.lt; go_simp <;> with_reducible rfl
        simp only [Act.put, List.getElem_toArray, List.getElem_cons_succ, List.getElem_cons_zero, List.setIfInBounds_toArray, List.set_cons_succ, List.set_cons_zero]
        refine wpAnyH_take (i := 6) (v := .agg #[.slice E Ls.length c, .bool (pf 4 e0 0), .bool (pf 4 e0 1), .bool (pf 4 e0 2), .bool (pf 4 e0 3), .bool (pf 4 e0 4), .bool (pf 4 e0 5), .bool (pf 4 e0 6), .bool (pf 4 e0 7), .bool (pt e0), .map (some mb)]) rfl (by kernel_rfl) (by kernel_rfl) (by kernel_rfl) (fun _ _ _ h => h) (yields_route rfl _ rfl rfl (fun _ h => h.1)) hHeld ?_
        simp only [Act.put, List.getElem_toArray, List.getElem_cons_succ, List.getElem_cons_zero, List.setIfInBounds_toArray, List.set_cons_succ, List.set_cons_zero]
        refine wpAnyH_ready (rs := [4, 7]) (by kernel_rfl) (by simp) (AllReadyH.cons rfl (fun K hK => ?_) (AllReadyH.cons rfl (fun K hK => ?_) AllReadyH.nil))
        · have hlk := MapIs.look hm (place_keys (by omega)) Try.underlying76 Try.underlying3 (hzero _) x hxd
          rw [show (M x).getD 0 = dx from HDX.out] at hlk
          unfold plc plcC place9 at hlk
          go_simp
          clear hlk
          refine hK.out _ _ ⟨hr, nine0_of hp⟩ (fun hHeld => ?_)
          clear hK K
          try simp only [Act.put, List.getElem_toArray, List.getElem_cons_succ, List.getElem_cons_zero, List.setIfInBounds_toArray, List.set_cons_succ, List.set_cons_zero]
          refine wpAnyH_take (i := 5) (v := ?_) rfl (by kernel_rfl) (by kernel_rfl) (by kernel_rfl) (fun _ _ _ h => h) (Or.inl ⟨rfl, ?_⟩) hHeld ?_
          rotate_left
          · intro w' hS; obtain ⟨hW, s0, s1, s2, s3, s4, s5, s6, s7, s8⟩ := hS; have s10 : w'.cell? ⟨w.heap.size, 10, none⟩ = some (.map (some mb)) := hW.cell 10; have s11 := hW.lt; go_simp <;> with_reducible rfl
          simp only [Act.put, List.getElem_toArray, List.getElem_cons_succ, List.getElem_cons_zero, List.setIfInBounds_toArray, List.set_cons_succ, List.set_cons_zero]
          refine wpAnyH_ready (rs := [7]) (by kernel_rfl) (by simp) (AllReadyH.cons rfl (fun K hK => ?_) AllReadyH.nil)
          go_simp
          have hle := least_yes E Ls.length c e0 mb M _ hm
          unfold routeC at hle
          refine hle.mono ?_
          clear hle
          rintro e9 w5 ⟨rfl, hb⟩
          rw [show (M 0).getD 0 = d0 from HD0.out]
          replace hr := hr.below hb
          replace hp := hp.below hb
          replace hm := hm.below hb
          replace hsm := below_then hsm hb hsm.size
          clear hb
          refine hK.out _ _ ⟨hr, nine0_of hp⟩ (fun hHeld => ?_)
          clear hK K
          try simp only [Act.put, List.getElem_toArray, List.getElem_cons_succ, List.getElem_cons_zero, List.setIfInBounds_toArray, List.set_cons_succ, List.set_cons_zero]
          refine wpAnyH_take (i := 8) (v := ?_) rfl (by kernel_rfl) (by kernel_rfl) (by kernel_rfl) (fun _ _ _ h => h) (Or.inl ⟨rfl, ?_⟩) hHeld ?_
          rotate_left
          · intro w' hS; obtain ⟨hW, s0, s1, s2, s3, s4, s5, s6, s7, s8⟩ := hS; have s10 : w'.cell? ⟨w.heap.size, 10, none⟩ = some (.map (some mb)) := hW.cell 10; have s11 := hW.lt; go_simp <;> with_reducible rfl
          simp only [Act.put, List.getElem_toArray, List.getElem_cons_succ, List.getElem_cons_zero, List.setIfInBounds_toArray, List.set_cons_succ, List.set_cons_zero]
          refine wpAnyH_done (by kernel_rfl) ?_ _
          clear hHeld
          have hset := HSET4.out.below hsm
          have HRG6 := Lib.hid (HRG4.out.below hsm)
          have HLT6 := Lib.hid (HRG4.out.left_below hsm)
          have HSET6 := Lib.hid (HNS.out HEQ.out ▸ hset)
          have HM6 := Lib.hid (HM4.out.below hsm)
          have HR6 := Lib.hid (HR4.out.below hsm)
          have HB6 := Lib.hid (below_then HB4.out hsm HB4.out.size)
          clear hr hm hsm hp hset
          go_wp2
          go_roundw
          case rel => exact ⟨lf', HRG6.out, HSET6.out, HM6.out, HR6.out, HB6.out⟩
          case measure => rw [HLT6.out]; exact HLT.out
        · go_simp
          have hle := least_yes E Ls.length c e0 mb M _ hm
          unfold routeC at hle
          refine hle.mono ?_
          clear hle
          rintro e9 w5 ⟨rfl, hb⟩
          rw [show (M 0).getD 0 = d0 from HD0.out]
          replace hr := hr.below hb
          replace hp := hp.below hb
          replace hm := hm.below hb
          replace hsm := below_then hsm hb hsm.size
          clear hb
          refine hK.out _ _ ⟨hr, nine0_of hp⟩ (fun hHeld => ?_)
          clear hK K
          try simp only [Act.put, List.getElem_toArray, List.getElem_cons_succ, List.getElem_cons_zero, List.setIfInBounds_toArray, List.set_cons_succ, List.set_cons_zero]
          refine wpAnyH_ready (rs := [4]) (by kernel_rfl) (by simp) (AllReadyH.cons rfl (fun K hK => ?_) AllReadyH.nil)
          have hlk := MapIs.look hm (place_keys (by omega)) Try.underlying76 Try.underlying3 (hzero _) x hxd
          rw [show (M x).getD 0 = dx from HDX.out] at hlk
          unfold plc plcC place9 at hlk
          go_simp
          clear hlk
          refine hK.out _ _ ⟨hr, nine0_of hp⟩ (fun hHeld => ?_)
          clear hK K
          try simp only [Act.put, List.getElem_toArray, List.getElem_cons_succ, List.getElem_cons_zero, List.setIfInBounds_toArray, List.set_cons_succ, List.set_cons_zero]
          refine wpAnyH_take (i := 5) (v := ?_) rfl (by kernel_rfl) (by kernel_rfl) (by kernel_rfl) (fun _ _ _ h => h) (Or.inl ⟨rfl, ?_⟩) hHeld ?_
          rotate_left
          · intro w' hS; obtain ⟨hW, s0, s1, s2, s3, s4, s5, s6, s7, s8⟩ := hS; have s10 : w'.cell? ⟨w.heap.size, 10, none⟩ = some (.map (some mb)) := hW.cell 10; have s11 := hW.lt; go_simp <;> with_reducible rfl
          simp only [Act.put, List.getElem_toArray, List.getElem_cons_succ, List.getElem_cons_zero, List.setIfInBounds_toArray, List.set_cons_succ, List.set_cons_zero]
          refine wpAnyH_take (i := 8) (v := ?_) rfl (by kernel_rfl) (by kernel_rfl) (by kernel_rfl) (fun _ _ _ h => h) (Or.inl ⟨rfl, ?_⟩) hHeld ?_
          rotate_left
          · intro w' hS; obtain ⟨hW, s0, s1, s2, s3, s4, s5, s6, s7, s8⟩ := hS; have s10 : w'.cell? ⟨w.heap.size, 10, none⟩ = some (.map (some mb)) := hW.cell 10; have s11 := hW.lt; go_simp <;> with_reducible rfl
          simp only [Act.put, List.getElem_toArray, List.getElem_cons_succ, List.getElem_cons_zero, List.setIfInBounds_toArray, List.set_cons_succ, List.set_cons_zero]
          refine wpAnyH_done (by kernel_rfl) ?_ _
          clear hHeld
          have hset := HSET4.out.below hsm
          have HRG6 := Lib.hid (HRG4.out.below hsm)
          have HLT6 := Lib.hid (HRG4.out.left_below hsm)
          have HSET6 := Lib.hid (HNS.out HEQ.out ▸ hset)
          have HM6 := Lib.hid (HM4.out.below hsm)
          have HR6 := Lib.hid (HR4.out.below hsm)
          have HB6 := Lib.hid (below_then HB4.out hsm HB4.out.size)
          clear hr hm hsm hp hset
          go_wp2
          go_roundw
          case rel => exact ⟨lf', HRG6.out, HSET6.out, HM6.out, HR6.out, HB6.out⟩
          case measure => rw [HLT6.out]; exact HLT.out
end Go.Proofs.Ytlpeimlbpiofkaa

namespace Go.Proofs.Ytlpeimlbpiofkaa
open Go.RowKit

section
variable {xs : List Int} {n q : Nat}
theorem first_ok (hx : xs.length = n) (hn : n ≤ 8) (hxs : ∀ y ∈ xs, 1 ≤ y ∧ y ≤ 1000) : LeftOk (slowOf xs) (upLists n q) 0 (partyD xs n q 0) := by
  have h := leftG_ok (n := n) (T := slowOf xs) (L := upLists n q) (a := (falses n, false)) hn (fun l hl => up_all hl) (slow_bound9 hx hxs) (by simp [falses])
  rw [show codeOf (falses n, false).1 (falses n, false).2 = 0 from code_none n] at h
  exact h
theorem first_tells {done : List Bool} {o : List Int} (hx : xs.length = n) (hn : n ≤ 8) (hxs : ∀ y ∈ xs, 1 ≤ y ∧ y ≤ 1000)
    (hL : Least (Leg xs n q) (stateS n (num (falses n) false.toNat)) (settledS n done o)) (hno : ∀ i, i < 2 ^ (n + 1) → done.getD i false = false → o.getD i (-1) < 0) (hm : ∀ i, -1 ≤ o.getD i (-1)) : TellsO n (partyD xs n q 0) o := by
  rw [show num (falses n) false.toNat = numS (falses n, false) from rfl, stateS_num (by simp [falses]), leg_same] at hL
  have h := tellsG (a := (falses n, false)) hn (fun l hl => up_all hl) (slow_bound9 hx hxs) (by simp [falses]) hL hno hm
  rw [show codeOf (falses n, false).1 (falses n, false).2 = 0 from code_none n] at h
  exact h
/-- Is the state with a number on a best plan? -/
noncomputable def onI (xs : List Int) (n q i : Nat) : Bool := onB (partyD xs n q 0) (leftM xs n q) (codeOf (stateS n i).1 (stateS n i).2)
theorem reach_left (hx : xs.length = n) (hn : n ≤ 8) (hxs : ∀ y ∈ xs, 1 ≤ y ∧ y ≤ 1000) (hpl : planOk xs n q = true) : ∀ (k : Nat) (x : Nat) (t : Int), t ≤ k → partyD xs n q 0 x = some t → ∃ u, leftM xs n q x = some u := by
  have hD := first_ok (q := q) hx hn hxs
  have hM := left_ok (q := q) hx hn hxs
  have h0 : ∃ u, leftM xs n q 0 = some u := by
    rw [show leftM xs n q 0 = partyD xs n q (codeOf (trues n) true) 0 from rfl, party_first hx hn (fun y hy => (hxs y hy).1)]
    exact Option.isSome_iff_exists.1 hpl
  intro k
  induction k with
  | zero =>
    intro x t ht hx9
    rcases hD.least.pred x t hx9 with ⟨rfl, -⟩ | ⟨z, t', a, hz, he, rfl⟩
    · exact h0
    · have := (hD.leg _ _ _ he).1
      have := hD.least.low z a hz
      omega
  | succ k ih =>
    intro x t ht hx9
    rcases hD.least.pred x t hx9 with ⟨rfl, -⟩ | ⟨z, t', a, hz, he, rfl⟩
    · exact h0
    · have := (hD.leg _ _ _ he).1
      obtain ⟨u, hu⟩ := ih z a (by omega) hz
      obtain ⟨l, hl, -, rfl⟩ := he
      exact hM.step hu hl
theorem on_tie {o1 o2 : List Int} {i : Nat} (hx : xs.length = n) (hn : n ≤ 8) (hxs : ∀ y ∈ xs, 1 ≤ y ∧ y ≤ 1000) (hpl : planOk xs n q = true) (h1 : TellsO n (partyD xs n q 0) o1) (h2 : TellsO n (leftM xs n q) o2) (hi : i < 2 ^ (n + 1)) :
    (decide (0 ≤ o1.getD i (-1)) && (decide (0 ≤ o2.getD i (-1)) && decide (o1.getD i (-1) + o2.getD i (-1) = leastP xs n q))) = onI xs n q i := by
  have hnum : num (stateS n i).1 (stateS n i).2.toNat = i := numS_state hi
  have e1 := h1 (stateS n i).1 (stateS n i).2 (stateS_len n i)
  have e2 := h2 (stateS n i).1 (stateS n i).2 (stateS_len n i)
  rw [farS, hnum] at e1 e2
  rw [e1, e2]
  have hl : lf (leftM xs n q) 0 = leastP xs n q := leastP_val hx hn (fun y hy => (hxs y hy).1) hpl
  unfold onI onB
  rw [hl]
  cases hD : partyD xs n q 0 (codeOf (stateS n i).1 (stateS n i).2) with
  | none => rfl
  | some t =>
    obtain ⟨u, hu⟩ := reach_left hx hn hxs hpl t.toNat _ t (by omega) hD
    have t0 := (first_ok (q := q) hx hn hxs).least.low _ _ hD
    have u0 := (left_ok (q := q) hx hn hxs).least.low _ _ hu
    unfold lf
    rw [hu]
    show (decide (0 ≤ t) && (decide (0 ≤ u) && decide (t + u = leastP xs n q))) = decide (t + u = leastP xs n q)
    rw [decide_eq_true t0, decide_eq_true u0, Bool.true_and, Bool.true_and]
noncomputable def onTo (xs : List Int) (n q j : Nat) : List Int := ((List.range j).filter (onI xs n q)).map Int.ofNat
theorem onTo_yes {j : Nat} (h : onI xs n q j = true) : onTo xs n q (j + 1) = onTo xs n q j ++ [(j : Int)] := by
  rw [onTo, List.range_succ, List.filter_append, List.map_append, onTo]
  simp [h]
theorem onTo_no {j : Nat} (h : onI xs n q j = false) : onTo xs n q (j + 1) = onTo xs n q j := by
  rw [onTo, List.range_succ, List.filter_append, List.map_append, onTo]
  simp [h]
theorem onTo_len (xs : List Int) (n q j : Nat) : (onTo xs n q j).length ≤ j := by
  rw [onTo, List.length_map]
  exact Nat.le_trans (List.length_filter_le _ _) (by rw [List.length_range]; exact Nat.le_refl _)
theorem on_out (hx : xs.length = n) (hn : n ≤ 8) (hxs : ∀ y ∈ xs, 1 ≤ y ∧ y ≤ 1000) {x : Nat} (h : onB (partyD xs n q 0) (leftM xs n q) x = true) : x / 2 < 2 ^ n := by
  unfold onB at h
  cases hd : partyD xs n q 0 x with
  | none => rw [hd] at h; cases h
  | some v =>
    have h2 : partyD xs n q (codeOf (falses n, false).1 (falses n, false).2) x = some v := by rw [show codeOf (falses n, false).1 (falses n, false).2 = 0 from code_none n]; exact hd
    exact party_out hx hn (fun y hy => (hxs y hy).1) (by simp [falses]) h2
theorem count_states {g : Nat → Bool} (hn : n ≤ 8) (hout : ∀ x, g x = true → x / 2 < 2 ^ n) : ((List.range (2 ^ (n + 1))).filter fun i => g (codeOf (stateS n i).1 (stateS n i).2)).length = ((sts 4).filter g).length := by
  have hst : ∀ i, (stateS n i).1.length = n := stateS_len n
  refine Nat.le_antisymm ?_ ?_
  · have h := nodup_le (((List.range (2 ^ (n + 1))).filter fun i => g (codeOf (stateS n i).1 (stateS n i).2)).map fun i => codeOf (stateS n i).1 (stateS n i).2) ((sts 4).filter g) ?_ ?_
    · rw [List.length_map] at h; exact h
    · rw [List.Nodup, List.pairwise_map]
      refine List.Pairwise.imp_of_mem ?_ (List.nodup_range.filter _)
      intro i j hi hj hne e
      have hi' := List.mem_range.1 (List.mem_filter.1 hi).1
      have hj' := List.mem_range.1 (List.mem_filter.1 hj).1
      have h1 := (unS_of (hst i)).1
      have h2 := (unS_of (hst j)).1
      rw [e, h2] at h1
      exact hne (by rw [← numS_state hi', ← h1, numS_state hj'])
    · intro x hx9
      obtain ⟨i, hi, rfl⟩ := List.mem_map.1 hx9
      obtain ⟨hi1, hi2⟩ := List.mem_filter.1 hi
      exact List.mem_filter.2 ⟨code_mem (by rw [hst]; exact hn), hi2⟩
  · have h := nodup_le (((sts 4).filter g).map fun x => num (unS n x).1 (unS n x).2.toNat) ((List.range (2 ^ (n + 1))).filter fun i => g (codeOf (stateS n i).1 (stateS n i).2)) ?_ ?_
    · rw [List.length_map] at h; exact h
    · rw [List.Nodup, List.pairwise_map]
      refine List.Pairwise.imp_of_mem ?_ ((sts_nodup 4).filter _)
      intro x y hx9 hy9 hne e
      exact hne (phi_inj (hout x (List.mem_filter.1 hx9).2) (hout y (List.mem_filter.1 hy9).2) e)
    · intro i hi
      obtain ⟨x, hx9, rfl⟩ := List.mem_map.1 hi
      obtain ⟨hx1, hx2⟩ := List.mem_filter.1 hx9
      have hx' := hout x hx2
      have hun : (unS n x).1.length = n := bitsOf_len _ _
      have hxe : codeOf (unS n x).1 (unS n x).2 = x := unS_code hx'
      have hs : stateS n (num (unS n x).1 (unS n x).2.toNat) = unS n x := stateS_num (a := unS n x) hun
      refine List.mem_filter.2 ⟨List.mem_range.2 ?_, ?_⟩
      · have h := num_lt (unS n x).1 (unS n x).2
        rw [hun] at h
        exact h
      · show g _ = true
        rw [hs, hxe]
        exact hx2
end
/-- What seOn hands back. -/
def OnLPost (l : List Int) (w : World) (e : Ending) (w' : World) : Prop :=
  ∃ (B : Option Addr) (q : Nat), e = .returned (.slice B l.length q) ∧ Fresh w' w.heap.size w'.heap.size 3 B (nums l) ∧ Below w.heap.size w w'

set_option maxHeartbeats 12800000 in
set_option maxRecDepth 100000 in
set_option linter.unusedVariables false in
set_option linter.unusedSimpArgs false in
theorem seOn_any (A : Option Addr) (n c q : Nat) (xs : List Int) (w : World) (hA : Holds w A (nums xs)) (hx : xs.length = n) (h1 : 1 ≤ n) (hn : n ≤ 8) (hq8 : q ≤ 8) (hxs : ∀ y ∈ xs, 1 ≤ y ∧ y ≤ 1000) (hpl : planOk xs n q = true) :
    Calls Try.prog 76 #[.agg #[.slice A n c, .int .i64 (q : Int)]] w (OnLPost (onTo xs n q (2 ^ (n + 1))) w) := by
  obtain ⟨i1, hi1, hy0, hy1, hy2⟩ := info_parts info_int
  have HI1 := Lib.hid hi1
  have HY0 := Lib.hid hy0
  have HY1 := Lib.hid hy1
  have HY2 := Lib.hid hy2
  have HA := Lib.hid hA
  have HX := Lib.hid hx
  have HXS := Lib.hid hxs
  have HPL := Lib.hid hpl
  have HTL : Hid ((trues n).length = n) := by show _ = _; simp [trues]
  have HFL : Hid ((falses n).length = n) := by show _ = _; simp [falses]
  obtain ⟨z, hz⟩ : ∃ z, 2 ^ (n + 1) = z := ⟨_, rfl⟩
  have hz512 : z ≤ 512 := by rw [← hz]; exact Nat.le_trans (Nat.pow_le_pow_right (by omega) (show n + 1 ≤ 9 by omega)) (by decide)
  have HZ := Lib.hid hz
  rw [hz]
  have hq := Whole.fresh w 28 #[.slice A n c, .int .i64 (q : Int)]
  have ht := below1 w (.cells #[.slice A n c, .int .i64 (q : Int)] 28)
  clear hA hx hxs hpl hi1 hy0 hy1 hy2 hz
  go_enter Try.func76, Try.ntmps76
  go_wp2_with fail
  refine wp_region_held_drew (S := (Two w.heap.size (.slice A n c) (.int .i64 (q : Int)))) (by kernel_rfl) (two_of hq.drew) (fun hHeld => ?_)
  replace hq := hq.drew
  replace ht := ht.drew
  generalize World.drew (w.alloc (.cells #[.slice A n c, .int .i64 (q : Int)] 28)) = wd at hq ht hHeld ⊢
  refine wpAnyH_take (i := 0) (v := ?_) rfl (by kernel_rfl) (by kernel_rfl) (by kernel_rfl) (fun _ _ _ h => h) (Or.inl ⟨rfl, ?_⟩) hHeld ?_
  rotate_left
  · intro w' hS; obtain ⟨s0, s1⟩ := hS; go_simp <;> with_reducible rfl
  simp only [Act.put, List.getElem_toArray, List.getElem_cons_succ, List.getElem_cons_zero, List.setIfInBounds_toArray, List.set_cons_succ, List.set_cons_zero]
  refine wpAnyH_take (i := 1) (v := ?_) rfl (by kernel_rfl) (by kernel_rfl) (by kernel_rfl) (fun _ _ _ h => h) (Or.inl ⟨rfl, ?_⟩) hHeld ?_
  rotate_left
  · intro w' hS; obtain ⟨s0, s1⟩ := hS; go_simp <;> with_reducible rfl
  simp only [Act.put, List.getElem_toArray, List.getElem_cons_succ, List.getElem_cons_zero, List.setIfInBounds_toArray, List.set_cons_succ, List.set_cons_zero]
  refine wpAnyH_take (i := 4) (v := ?_) rfl (by kernel_rfl) (by kernel_rfl) (by kernel_rfl) (fun _ _ _ h => h) (Or.inl ⟨rfl, ?_⟩) hHeld ?_
  rotate_left
  · intro w' hS; obtain ⟨s0, s1⟩ := hS; go_simp <;> with_reducible rfl
  simp only [Act.put, List.getElem_toArray, List.getElem_cons_succ, List.getElem_cons_zero, List.setIfInBounds_toArray, List.set_cons_succ, List.set_cons_zero]
  refine wpAnyH_take (i := 5) (v := ?_) rfl (by kernel_rfl) (by kernel_rfl) (by kernel_rfl) (fun _ _ _ h => h) (Or.inl ⟨rfl, ?_⟩) hHeld ?_
  rotate_left
  · intro w' hS; obtain ⟨s0, s1⟩ := hS; go_simp <;> with_reducible rfl
  simp only [Act.put, List.getElem_toArray, List.getElem_cons_succ, List.getElem_cons_zero, List.setIfInBounds_toArray, List.set_cons_succ, List.set_cons_zero]
  refine wpAnyH_ready (rs := [2]) (by kernel_rfl) (by simp) (AllReadyH.cons rfl (fun K hK => ?_) AllReadyH.nil)
  go_simp
  refine (paFirst_any A n c (q : Int) _ (by omega)).mono ?_
  rintro e9 wdf ⟨rfl, hw9, hb⟩
  obtain ⟨g1, hg1⟩ : ∃ g, g = wd.heap.size + 1 + 1 := ⟨_, rfl⟩
  rw [← hg1] at hw9 ⊢
  replace hq := hq.below hb
  replace ht := below_then ht hb ht.size
  have hB1 : Holds wdf (some ⟨g1, 0, none⟩) (bits (falses n)) := (Fresh.of_whole (lo := 0) (hi := wdf.heap.size) hw9 (Nat.zero_le _) hw9.lt).holds
  clear hw9 hg1 hb
  refine hK.out _ _ (two_of hq) (fun hHeld => ?_)
  clear hK K
  try simp only [Act.put, List.getElem_toArray, List.getElem_cons_succ, List.getElem_cons_zero, List.setIfInBounds_toArray, List.set_cons_succ, List.set_cons_zero]
  refine wpAnyH_ready (rs := [3]) (by kernel_rfl) (by simp) (AllReadyH.cons rfl (fun K hK => ?_) AllReadyH.nil)
  go_simp
  refine (seFar_any A (some ⟨g1, 0, none⟩) n c n q xs (falses n) false _ (HA.out.below ht) hB1 HX.out HFL.out h1 hn hq8 HXS.out).mono ?_
  rintro e9 wdfs ⟨gF, done, o1, rfl, hol, hFr0, hL, hno, hbd, -, hb⟩
  replace hq := hq.below hb
  replace ht := below_then ht hb ht.size
  have hFr := hFr0
  have HOL1 := Lib.hid hol
  have HT1 := Lib.hid (first_tells HX.out hn HXS.out hL hno (fun i => (hbd i).1))
  have HB1 := Lib.hid hbd
  clear hFr0 hol hL hno hbd hB1 hb
  refine hK.out _ _ (two_of hq) (fun hHeld => ?_)
  clear hK K
  try simp only [Act.put, List.getElem_toArray, List.getElem_cons_succ, List.getElem_cons_zero, List.setIfInBounds_toArray, List.set_cons_succ, List.set_cons_zero]
  refine wpAnyH_ready (rs := [6]) (by kernel_rfl) (by simp) (AllReadyH.cons rfl (fun K hK => ?_) AllReadyH.nil)
  go_simp
  refine (paLast_any A n c (q : Int) _ (by omega)).mono ?_
  rintro e9 wdfsl ⟨A2, c2, rfl, hw9, hb⟩
  rw [HTL.out]
  replace hq := hq.below hb
  replace ht := below_then ht hb ht.size
  replace hFr := hFr.below hb
  have hB2 := hw9.holds
  clear hw9 hb
  refine hK.out _ _ (two_of hq) (fun hHeld => ?_)
  clear hK K
  try simp only [Act.put, List.getElem_toArray, List.getElem_cons_succ, List.getElem_cons_zero, List.setIfInBounds_toArray, List.set_cons_succ, List.set_cons_zero]
  refine wpAnyH_ready (rs := [7]) (by kernel_rfl) (by simp) (AllReadyH.cons rfl (fun K hK => ?_) AllReadyH.nil)
  go_simp
  refine (seFar_any A A2 n c c2 q xs (trues n) true _ (HA.out.below ht) hB2 HX.out HTL.out h1 hn hq8 HXS.out).mono ?_
  rintro e9 wdfslt ⟨gL, done2, o2, rfl, hol, hFr0, hL, hno, hbd, -, hb⟩
  replace hq := hq.below hb
  replace ht := below_then ht hb ht.size
  replace hFr := hFr.below hb
  have hFL := hFr0
  have HOL2 := Lib.hid hol
  have HT2 := Lib.hid (left_tells HX.out hn HXS.out hL hno (fun i => (hbd i).1))
  have HB2 := Lib.hid hbd
  clear hFr0 hol hL hno hbd hB2 hb
  refine hK.out _ _ (two_of hq) (fun hHeld => ?_)
  clear hK K
  try simp only [Act.put, List.getElem_toArray, List.getElem_cons_succ, List.getElem_cons_zero, List.setIfInBounds_toArray, List.set_cons_succ, List.set_cons_zero]
  refine wpAnyH_take (i := 8) (v := ?_) rfl (by kernel_rfl) (by kernel_rfl) (by kernel_rfl) (fun _ _ _ h => h) (Or.inl ⟨rfl, ?_⟩) hHeld ?_
  rotate_left
  · intro w' hS; obtain ⟨s0, s1⟩ := hS; go_simp <;> with_reducible rfl
  simp only [Act.put, List.getElem_toArray, List.getElem_cons_succ, List.getElem_cons_zero, List.setIfInBounds_toArray, List.set_cons_succ, List.set_cons_zero]
  refine wpAnyH_take (i := 9) (v := ?_) rfl (by kernel_rfl) (by kernel_rfl) (by kernel_rfl) (fun _ _ _ h => h) (Or.inl ⟨rfl, ?_⟩) hHeld ?_
  rotate_left
  · intro w' hS; obtain ⟨s0, s1⟩ := hS; go_simp <;> with_reducible rfl
  simp only [Act.put, List.getElem_toArray, List.getElem_cons_succ, List.getElem_cons_zero, List.setIfInBounds_toArray, List.set_cons_succ, List.set_cons_zero]
  refine wpAnyH_done (by kernel_rfl) ?_ _
  clear hHeld
  have HZ1 : Hid (o1.length = z) := HOL1.out.trans HZ.out
  have HZ2 : Hid (o2.length = z) := HOL2.out.trans HZ.out
  have HTIE : Hid (∀ i, i < z → (decide (0 ≤ o1.getD i (-1)) && (decide (0 ≤ o2.getD i (-1)) && decide (o1.getD i (-1) + o2.getD i (-1) = leastP xs n q))) = onI xs n q i) := fun i hi => on_tie HX.out hn HXS.out HPL.out HT1.out HT2.out (by rw [HZ.out]; exact hi)
  have HQ3 := Lib.hid hq
  have HF3 := Lib.hid hFr
  have HL3 := Lib.hid hFL
  have HT3 := Lib.hid ht
  obtain ⟨w3, hw3⟩ : ∃ X, X = wdfslt := ⟨_, rfl⟩
  rw [← hw3] at HQ3 HF3 HL3 HT3 ⊢
  clear hq hFr hFL ht hw3
  rw [HZ1.out, HZ2.out]
  obtain ⟨lp, hlp⟩ : ∃ v, leastP xs n q = v := ⟨_, rfl⟩
  rw [hlp] at HTIE
  have HLP := Lib.hid hlp
  clear hlp
  go_wp2
  go_loopw [5, 18] (fun v i wr => ∃ (j : Nat) (Q : Option Addr) (r : Nat), j ≤ z ∧ i = .int .i64 j ∧ v = .slice Q (onTo xs n q j).length r ∧ wr.ownsRow w3.heap.size 3 1 (.slice Q (onTo xs n q j).length r) (onTo xs n q j).length (nums (onTo xs n q j)) ∧ Below w3.heap.size w3 wr) (fun _ i _ => z - (intOf i).toNat)
  case atStart => exact ⟨0, none, 0, Nat.zero_le _, rfl, rfl, World.ownsRow_nil _ _ _ _, Below.refl _ _⟩
  case round =>
    obtain ⟨j, Q, r, hj, rfl, rfl, hown, hb⟩ := hrel
    obtain ⟨wz, rfl⟩ : ∃ X : World, X = wr := ⟨_, rfl⟩
    have hnl := onTo_len xs n q j
    by_cases hlt : j < z
    · have hd1 : decide ((j : Int) < (z : Int)) = true := by simp; omega
      have HOWN := Lib.hid hown
      have HB := Lib.hid hb
      have HBW := Lib.hid (below_then HT3.out hb HT3.out.size)
      have HQ := Lib.hid (HQ3.out.below hb)
      have HFLZ := Lib.hid (HL3.out.below hb)
      have hf := HF3.out.below hb
      obtain ⟨v1, hv1⟩ : ∃ v, o1.getD j (-1) = v := ⟨_, rfl⟩
      obtain ⟨v2, hv2⟩ : ∃ v, o2.getD j (-1) = v := ⟨_, rfl⟩
      have k0 := num_cellF (v := v1) hf (i := j) (by rw [HZ1.out]; exact hlt) (by rw [getD_m1 (by rw [HZ1.out]; exact hlt)]; exact hv1)
      have hfl := hf.lt
      have HV2 : Hid (o2.getD j 0 = v2) := by show _ = _; rw [getD_m1 (by rw [HZ2.out]; exact hlt)]; exact hv2
      have hb1 := HB1.out j
      have hb2 := HB2.out j
      rw [hv1] at hb1
      rw [hv2] at hb2
      have htie := HTIE.out j hlt
      rw [hv1, hv2] at htie
      have HTJ := Lib.hid htie
      have hyes := onTo_yes (xs := xs) (n := n) (q := q) (j := j)
      have hno := onTo_no (xs := xs) (n := n) (q := q) (j := j)
      rw [← HTJ.out] at hyes hno
      have HYY := Lib.hid hyes
      have HNN := Lib.hid hno
      have hji : (j : Int) < (z : Int) := by omega
      have hwrp : IntKind.i64.wrap (v1 + v2) = v1 + v2 := IntWalk.i64_in _ (by omega)
      clear hown hb hv1 hv2 htie hyes hno hf
      generalize onTo xs n q j = nl at hnl HOWN HYY HNN ⊢
      by_cases h01 : 0 ≤ v1
      · have hd2 : decide (0 ≤ v1) = true := by simpa using h01
        by_cases h02 : 0 ≤ v2
        · have hd3 : decide (0 ≤ v2) = true := by simpa using h02
          by_cases heq : v1 + v2 = lp
          · have HN := Lib.hid (HYY.out (by rw [hd2, hd3, decide_eq_true heq]; rfl))
            have hbq : (v1 + v2 == lp) = true := by simpa using heq
            clear HYY HNN heq h01 h02
            go_upto_region 6 with fail
            clear k0 hfl
            go_wp2_with fail
            refine wp_region_held_drew (S := (fun w' => Two w.heap.size (.slice A n c) (.int .i64 (q : Int)) w' ∧ w'.cell? ⟨gL, j, none⟩ = some (.int .i64 v2) ∧ gL < w'.heap.size)) (by kernel_rfl) ⟨two_of (HQ.out.below (Below.refl wz.heap.size wz).drew), num_cellF (v := v2) (HFLZ.out.below (Below.refl wz.heap.size wz).drew) (i := j) (by rw [HZ2.out]; exact hlt) HV2.out, (HFLZ.out.below (Below.refl wz.heap.size wz).drew).lt⟩ (fun hHeld => ?_)
            have hbr := (Below.refl wz.heap.size wz).drew
            generalize World.drew wz = wd at hbr hHeld ⊢
            refine wpAnyH_take (i := 0) (v := ?_) rfl (by kernel_rfl) (by kernel_rfl) (by kernel_rfl) (fun _ _ _ h => h) (Or.inl ⟨rfl, ?_⟩) hHeld ?_
            rotate_left
            · intro w' hS; obtain ⟨⟨s0, s1⟩, s2, s3⟩ := hS; go_simp <;> with_reducible rfl
            simp only [Act.put, List.getElem_toArray, List.getElem_cons_succ, List.getElem_cons_zero, List.setIfInBounds_toArray, List.set_cons_succ, List.set_cons_zero]
            refine wpAnyH_take (i := 1) (v := ?_) rfl (by kernel_rfl) (by kernel_rfl) (by kernel_rfl) (fun _ _ _ h => h) (Or.inl ⟨rfl, ?_⟩) hHeld ?_
            rotate_left
            · intro w' hS; obtain ⟨⟨s0, s1⟩, s2, s3⟩ := hS; go_simp <;> with_reducible rfl
            simp only [Act.put, List.getElem_toArray, List.getElem_cons_succ, List.getElem_cons_zero, List.setIfInBounds_toArray, List.set_cons_succ, List.set_cons_zero]
            refine wpAnyH_take (i := 2) (v := ?_) rfl (by kernel_rfl) (by kernel_rfl) (by kernel_rfl) (fun _ _ _ h => h) (Or.inl ⟨rfl, ?_⟩) hHeld ?_
            rotate_left
            · intro w' hS; obtain ⟨⟨s0, s1⟩, s2, s3⟩ := hS; go_simp <;> with_reducible rfl
            simp only [Act.put, List.getElem_toArray, List.getElem_cons_succ, List.getElem_cons_zero, List.setIfInBounds_toArray, List.set_cons_succ, List.set_cons_zero]
            refine wpAnyH_take (i := 3) (v := ?_) rfl (by kernel_rfl) (by kernel_rfl) (by kernel_rfl) (fun _ _ _ h => h) (Or.inl ⟨rfl, ?_⟩) hHeld ?_
            rotate_left
            · intro w' hS; obtain ⟨⟨s0, s1⟩, s2, s3⟩ := hS; go_simp <;> with_reducible rfl
            simp only [Act.put, List.getElem_toArray, List.getElem_cons_succ, List.getElem_cons_zero, List.setIfInBounds_toArray, List.set_cons_succ, List.set_cons_zero]
            refine wpAnyH_take (i := 4) (v := ?_) rfl (by kernel_rfl) (by kernel_rfl) (by kernel_rfl) (fun _ _ _ h => h) (Or.inl ⟨rfl, ?_⟩) hHeld ?_
            rotate_left
            · intro w' hS; obtain ⟨⟨s0, s1⟩, s2, s3⟩ := hS; go_simp <;> with_reducible rfl
            simp only [Act.put, List.getElem_toArray, List.getElem_cons_succ, List.getElem_cons_zero, List.setIfInBounds_toArray, List.set_cons_succ, List.set_cons_zero]
            refine wpAnyH_take (i := 5) (v := ?_) rfl (by kernel_rfl) (by kernel_rfl) (by kernel_rfl) (fun _ _ _ h => h) (Or.inl ⟨rfl, ?_⟩) hHeld ?_
            rotate_left
            · intro w' hS; obtain ⟨⟨s0, s1⟩, s2, s3⟩ := hS; go_simp <;> with_reducible rfl
            simp only [Act.put, List.getElem_toArray, List.getElem_cons_succ, List.getElem_cons_zero, List.setIfInBounds_toArray, List.set_cons_succ, List.set_cons_zero]
            refine wpAnyH_take (i := 6) (v := ?_) rfl (by kernel_rfl) (by kernel_rfl) (by kernel_rfl) (fun _ _ _ h => h) (Or.inl ⟨rfl, ?_⟩) hHeld ?_
            rotate_left
            · intro w' hS; obtain ⟨⟨s0, s1⟩, s2, s3⟩ := hS; go_simp <;> with_reducible rfl
            simp only [Act.put, List.getElem_toArray, List.getElem_cons_succ, List.getElem_cons_zero, List.setIfInBounds_toArray, List.set_cons_succ, List.set_cons_zero]
            refine wpAnyH_take (i := 7) (v := ?_) rfl (by kernel_rfl) (by kernel_rfl) (by kernel_rfl) (fun _ _ _ h => h) (Or.inl ⟨rfl, ?_⟩) hHeld ?_
            rotate_left
            · intro w' hS; obtain ⟨⟨s0, s1⟩, s2, s3⟩ := hS; go_simp <;> with_reducible rfl
            simp only [Act.put, List.getElem_toArray, List.getElem_cons_succ, List.getElem_cons_zero, List.setIfInBounds_toArray, List.set_cons_succ, List.set_cons_zero]
            refine wpAnyH_take (i := 8) (v := ?_) rfl (by kernel_rfl) (by kernel_rfl) (by kernel_rfl) (fun _ _ _ h => h) (Or.inl ⟨rfl, ?_⟩) hHeld ?_
            rotate_left
            · intro w' hS; obtain ⟨⟨s0, s1⟩, s2, s3⟩ := hS; go_simp <;> with_reducible rfl
            simp only [Act.put, List.getElem_toArray, List.getElem_cons_succ, List.getElem_cons_zero, List.setIfInBounds_toArray, List.set_cons_succ, List.set_cons_zero]
            refine wpAnyH_take (i := 9) (v := ?_) rfl (by kernel_rfl) (by kernel_rfl) (by kernel_rfl) (fun _ _ _ h => h) (Or.inl ⟨rfl, ?_⟩) hHeld ?_
            rotate_left
            · intro w' hS; obtain ⟨⟨s0, s1⟩, s2, s3⟩ := hS; go_simp <;> with_reducible rfl
            simp only [Act.put, List.getElem_toArray, List.getElem_cons_succ, List.getElem_cons_zero, List.setIfInBounds_toArray, List.set_cons_succ, List.set_cons_zero]
            refine wpAnyH_take (i := 10) (v := ?_) rfl (by kernel_rfl) (by kernel_rfl) (by kernel_rfl) (fun _ _ _ h => h) (Or.inl ⟨rfl, ?_⟩) hHeld ?_
            rotate_left
            · intro w' hS; obtain ⟨⟨s0, s1⟩, s2, s3⟩ := hS; go_simp <;> with_reducible rfl
            simp only [Act.put, List.getElem_toArray, List.getElem_cons_succ, List.getElem_cons_zero, List.setIfInBounds_toArray, List.set_cons_succ, List.set_cons_zero]
            refine wpAnyH_take (i := 11) (v := ?_) rfl (by kernel_rfl) (by kernel_rfl) (by kernel_rfl) (fun _ _ _ h => h) (Or.inl ⟨rfl, ?_⟩) hHeld ?_
            rotate_left
            · intro w' hS; obtain ⟨⟨s0, s1⟩, s2, s3⟩ := hS; go_simp <;> with_reducible rfl
            simp only [Act.put, List.getElem_toArray, List.getElem_cons_succ, List.getElem_cons_zero, List.setIfInBounds_toArray, List.set_cons_succ, List.set_cons_zero]
            refine wpAnyH_take (i := 12) (v := ?_) rfl (by kernel_rfl) (by kernel_rfl) (by kernel_rfl) (fun _ _ _ h => h) (Or.inl ⟨rfl, ?_⟩) hHeld ?_
            rotate_left
            · intro w' hS; obtain ⟨⟨s0, s1⟩, s2, s3⟩ := hS; go_simp <;> with_reducible rfl
            simp only [Act.put, List.getElem_toArray, List.getElem_cons_succ, List.getElem_cons_zero, List.setIfInBounds_toArray, List.set_cons_succ, List.set_cons_zero]
            refine wpAnyH_take (i := 13) (v := ?_) rfl (by kernel_rfl) (by kernel_rfl) (by kernel_rfl) (fun _ _ _ h => h) (Or.inl ⟨rfl, ?_⟩) hHeld ?_
            rotate_left
            · intro w' hS; obtain ⟨⟨s0, s1⟩, s2, s3⟩ := hS; go_simp <;> with_reducible rfl
            simp only [Act.put, List.getElem_toArray, List.getElem_cons_succ, List.getElem_cons_zero, List.setIfInBounds_toArray, List.set_cons_succ, List.set_cons_zero]
            refine wpAnyH_take (i := 14) (v := ?_) rfl (by kernel_rfl) (by kernel_rfl) (by kernel_rfl) (fun _ _ _ h => h) (Or.inl ⟨rfl, ?_⟩) hHeld ?_
            rotate_left
            · intro w' hS; obtain ⟨⟨s0, s1⟩, s2, s3⟩ := hS; go_simp <;> with_reducible rfl
            simp only [Act.put, List.getElem_toArray, List.getElem_cons_succ, List.getElem_cons_zero, List.setIfInBounds_toArray, List.set_cons_succ, List.set_cons_zero]
            refine wpAnyH_take (i := 15) (v := ?_) rfl (by kernel_rfl) (by kernel_rfl) (by kernel_rfl) (fun _ _ _ h => h) (Or.inl ⟨rfl, ?_⟩) hHeld ?_
            rotate_left
            · intro w' hS; obtain ⟨⟨s0, s1⟩, s2, s3⟩ := hS; go_simp <;> with_reducible rfl
            simp only [Act.put, List.getElem_toArray, List.getElem_cons_succ, List.getElem_cons_zero, List.setIfInBounds_toArray, List.set_cons_succ, List.set_cons_zero]
            refine wpAnyH_take (i := 16) (v := ?_) rfl (by kernel_rfl) (by kernel_rfl) (by kernel_rfl) (fun _ _ _ h => h) (Or.inl ⟨rfl, ?_⟩) hHeld ?_
            rotate_left
            · intro w' hS; obtain ⟨⟨s0, s1⟩, s2, s3⟩ := hS; go_simp <;> with_reducible rfl
            simp only [Act.put, List.getElem_toArray, List.getElem_cons_succ, List.getElem_cons_zero, List.setIfInBounds_toArray, List.set_cons_succ, List.set_cons_zero]
            refine wpAnyH_ready (rs := [17]) (by kernel_rfl) (by simp) (AllReadyH.cons rfl (fun K hK => ?_) AllReadyH.nil)
            go_simp
            refine (seLeast_any A n c q xs _ (HA.out.below (below_then HBW.out hbr HBW.out.size)) HX.out h1 hn hq8 HXS.out).mono ?_
            rintro e9 wdl ⟨rfl, hb⟩
            rw [HLP.out]
            replace hbr := below_then hbr hb hbr.size
            clear hb
            refine hK.out _ _ ⟨two_of (HQ.out.below hbr), num_cellF (v := v2) (HFLZ.out.below hbr) (i := j) (by rw [HZ2.out]; exact hlt) HV2.out, (HFLZ.out.below hbr).lt⟩ (fun hHeld => ?_)
            clear hK K
            try simp only [Act.put, List.getElem_toArray, List.getElem_cons_succ, List.getElem_cons_zero, List.setIfInBounds_toArray, List.set_cons_succ, List.set_cons_zero]
            refine wpAnyH_take (i := 18) (v := ?_) rfl (by kernel_rfl) (by kernel_rfl) (by kernel_rfl) (fun _ _ _ h => h) (Or.inl ⟨rfl, ?_⟩) hHeld ?_
            rotate_left
            · intro w' hS; obtain ⟨⟨s0, s1⟩, s2, s3⟩ := hS; go_simp <;> with_reducible rfl
            simp only [Act.put, List.getElem_toArray, List.getElem_cons_succ, List.getElem_cons_zero, List.setIfInBounds_toArray, List.set_cons_succ, List.set_cons_zero]
            refine wpAnyH_take (i := 19) (v := ?_) rfl (by kernel_rfl) (by kernel_rfl) (by kernel_rfl) (fun _ _ _ h => h) (Or.inl ⟨rfl, ?_⟩) hHeld ?_
            rotate_left
            · intro w' hS; obtain ⟨⟨s0, s1⟩, s2, s3⟩ := hS; go_simp <;> with_reducible rfl
            simp only [Act.put, List.getElem_toArray, List.getElem_cons_succ, List.getElem_cons_zero, List.setIfInBounds_toArray, List.set_cons_succ, List.set_cons_zero]
            refine wpAnyH_done (by kernel_rfl) ?_ _
            clear hHeld
            have hB6 := below_then HB.out hbr HB.out.size
            have hz6 := hB6.size
            have HO8 := Lib.hid ((ownsRow_below HOWN.out hbr).alloc (.cells #[.int .i64 (j : Int)] 3))
            have HB8 := Lib.hid (hB6.alloc hB6.size (.cells #[.int .i64 (j : Int)] 3))
            have HNEW := Lib.hid (cells_new wdl 3 #[.int .i64 (j : Int)])
            have HMAX := Lib.hid (show nl.length + 1 ≤ maxLen by unfold maxLen; omega)
            have HBYT := Lib.hid (show (nl.length + 1) * 8 ≤ 140737488355328 by omega)
            have HBASE := Lib.hid (show w3.heap.size ≤ (wdl.alloc (.cells #[.int .i64 (j : Int)] 3)).heap.size by simp; omega)
            clear hbr hB6 hz6
            go_wp2_with (at_builtin; refine wpList_append_own _ rfl (.tmp 43) (.tmp 45) 22 rfl w3.heap.size 3 i1 (.int .i64 0) 1 8 Try.underlying22 HI1.out HY0.out HY1.out HY2.out rfl (by decide) (.slice Q nl.length r) nl.length (nums nl) rfl HO8.out ⟨wdl.heap.size, 0, none⟩ 1 1 [.int .i64 (j : Int)] rfl rfl HNEW.out (by simp [Value.oneCell']) HMAX.out HBYT.out HBASE.out ?_; intro v' w9 hown9 hg9 _; obtain ⟨g2, e2, hv2⟩ := own_form hown9; subst hv2)
            have HB9 := Lib.hid (HB8.out.grown hg9 HBASE.out (fun kk hkk => (HO8.out.lt kk hkk).1))
            have HO9 := Lib.hid hown9
            clear hown9 hg9
            go_roundw
            case rel => exact ⟨j + 1, some ⟨g2, 0, none⟩, e2, by omega, by go_num, by rw [HN.out, List.length_append]; rfl, by rw [HN.out, List.length_append, show nums (nl ++ [(j : Int)]) = nums nl ++ [.int .i64 (j : Int)] by simp [nums]]; exact HO9.out, HB9.out⟩
            case measure => simp [intOf]; omega
          · have HN := Lib.hid (HNN.out (by rw [hd2, hd3, decide_eq_false heq]; rfl))
            have hbq : (v1 + v2 == lp) = false := by simpa using heq
            clear HYY HNN heq h01 h02
            go_upto_region 6 with fail
            clear k0 hfl
            go_wp2_with fail
            refine wp_region_held_drew (S := (fun w' => Two w.heap.size (.slice A n c) (.int .i64 (q : Int)) w' ∧ w'.cell? ⟨gL, j, none⟩ = some (.int .i64 v2) ∧ gL < w'.heap.size)) (by kernel_rfl) ⟨two_of (HQ.out.below (Below.refl wz.heap.size wz).drew), num_cellF (v := v2) (HFLZ.out.below (Below.refl wz.heap.size wz).drew) (i := j) (by rw [HZ2.out]; exact hlt) HV2.out, (HFLZ.out.below (Below.refl wz.heap.size wz).drew).lt⟩ (fun hHeld => ?_)
            have hbr := (Below.refl wz.heap.size wz).drew
            generalize World.drew wz = wd at hbr hHeld ⊢
            refine wpAnyH_take (i := 0) (v := ?_) rfl (by kernel_rfl) (by kernel_rfl) (by kernel_rfl) (fun _ _ _ h => h) (Or.inl ⟨rfl, ?_⟩) hHeld ?_
            rotate_left
            · intro w' hS; obtain ⟨⟨s0, s1⟩, s2, s3⟩ := hS; go_simp <;> with_reducible rfl
            simp only [Act.put, List.getElem_toArray, List.getElem_cons_succ, List.getElem_cons_zero, List.setIfInBounds_toArray, List.set_cons_succ, List.set_cons_zero]
            refine wpAnyH_take (i := 1) (v := ?_) rfl (by kernel_rfl) (by kernel_rfl) (by kernel_rfl) (fun _ _ _ h => h) (Or.inl ⟨rfl, ?_⟩) hHeld ?_
            rotate_left
            · intro w' hS; obtain ⟨⟨s0, s1⟩, s2, s3⟩ := hS; go_simp <;> with_reducible rfl
            simp only [Act.put, List.getElem_toArray, List.getElem_cons_succ, List.getElem_cons_zero, List.setIfInBounds_toArray, List.set_cons_succ, List.set_cons_zero]
            refine wpAnyH_take (i := 2) (v := ?_) rfl (by kernel_rfl) (by kernel_rfl) (by kernel_rfl) (fun _ _ _ h => h) (Or.inl ⟨rfl, ?_⟩) hHeld ?_
            rotate_left
            · intro w' hS; obtain ⟨⟨s0, s1⟩, s2, s3⟩ := hS; go_simp <;> with_reducible rfl
            simp only [Act.put, List.getElem_toArray, List.getElem_cons_succ, List.getElem_cons_zero, List.setIfInBounds_toArray, List.set_cons_succ, List.set_cons_zero]
            refine wpAnyH_take (i := 3) (v := ?_) rfl (by kernel_rfl) (by kernel_rfl) (by kernel_rfl) (fun _ _ _ h => h) (Or.inl ⟨rfl, ?_⟩) hHeld ?_
            rotate_left
            · intro w' hS; obtain ⟨⟨s0, s1⟩, s2, s3⟩ := hS; go_simp <;> with_reducible rfl
            simp only [Act.put, List.getElem_toArray, List.getElem_cons_succ, List.getElem_cons_zero, List.setIfInBounds_toArray, List.set_cons_succ, List.set_cons_zero]
            refine wpAnyH_take (i := 4) (v := ?_) rfl (by kernel_rfl) (by kernel_rfl) (by kernel_rfl) (fun _ _ _ h => h) (Or.inl ⟨rfl, ?_⟩) hHeld ?_
            rotate_left
            · intro w' hS; obtain ⟨⟨s0, s1⟩, s2, s3⟩ := hS; go_simp <;> with_reducible rfl
            simp only [Act.put, List.getElem_toArray, List.getElem_cons_succ, List.getElem_cons_zero, List.setIfInBounds_toArray, List.set_cons_succ, List.set_cons_zero]
            refine wpAnyH_take (i := 5) (v := ?_) rfl (by kernel_rfl) (by kernel_rfl) (by kernel_rfl) (fun _ _ _ h => h) (Or.inl ⟨rfl, ?_⟩) hHeld ?_
            rotate_left
            · intro w' hS; obtain ⟨⟨s0, s1⟩, s2, s3⟩ := hS; go_simp <;> with_reducible rfl
            simp only [Act.put, List.getElem_toArray, List.getElem_cons_succ, List.getElem_cons_zero, List.setIfInBounds_toArray, List.set_cons_succ, List.set_cons_zero]
            refine wpAnyH_take (i := 6) (v := ?_) rfl (by kernel_rfl) (by kernel_rfl) (by kernel_rfl) (fun _ _ _ h => h) (Or.inl ⟨rfl, ?_⟩) hHeld ?_
            rotate_left
            · intro w' hS; obtain ⟨⟨s0, s1⟩, s2, s3⟩ := hS; go_simp <;> with_reducible rfl
            simp only [Act.put, List.getElem_toArray, List.getElem_cons_succ, List.getElem_cons_zero, List.setIfInBounds_toArray, List.set_cons_succ, List.set_cons_zero]
            refine wpAnyH_take (i := 7) (v := ?_) rfl (by kernel_rfl) (by kernel_rfl) (by kernel_rfl) (fun _ _ _ h => h) (Or.inl ⟨rfl, ?_⟩) hHeld ?_
            rotate_left
            · intro w' hS; obtain ⟨⟨s0, s1⟩, s2, s3⟩ := hS; go_simp <;> with_reducible rfl
            simp only [Act.put, List.getElem_toArray, List.getElem_cons_succ, List.getElem_cons_zero, List.setIfInBounds_toArray, List.set_cons_succ, List.set_cons_zero]
            refine wpAnyH_take (i := 8) (v := ?_) rfl (by kernel_rfl) (by kernel_rfl) (by kernel_rfl) (fun _ _ _ h => h) (Or.inl ⟨rfl, ?_⟩) hHeld ?_
            rotate_left
            · intro w' hS; obtain ⟨⟨s0, s1⟩, s2, s3⟩ := hS; go_simp <;> with_reducible rfl
            simp only [Act.put, List.getElem_toArray, List.getElem_cons_succ, List.getElem_cons_zero, List.setIfInBounds_toArray, List.set_cons_succ, List.set_cons_zero]
            refine wpAnyH_take (i := 9) (v := ?_) rfl (by kernel_rfl) (by kernel_rfl) (by kernel_rfl) (fun _ _ _ h => h) (Or.inl ⟨rfl, ?_⟩) hHeld ?_
            rotate_left
            · intro w' hS; obtain ⟨⟨s0, s1⟩, s2, s3⟩ := hS; go_simp <;> with_reducible rfl
            simp only [Act.put, List.getElem_toArray, List.getElem_cons_succ, List.getElem_cons_zero, List.setIfInBounds_toArray, List.set_cons_succ, List.set_cons_zero]
            refine wpAnyH_take (i := 10) (v := ?_) rfl (by kernel_rfl) (by kernel_rfl) (by kernel_rfl) (fun _ _ _ h => h) (Or.inl ⟨rfl, ?_⟩) hHeld ?_
            rotate_left
            · intro w' hS; obtain ⟨⟨s0, s1⟩, s2, s3⟩ := hS; go_simp <;> with_reducible rfl
            simp only [Act.put, List.getElem_toArray, List.getElem_cons_succ, List.getElem_cons_zero, List.setIfInBounds_toArray, List.set_cons_succ, List.set_cons_zero]
            refine wpAnyH_take (i := 11) (v := ?_) rfl (by kernel_rfl) (by kernel_rfl) (by kernel_rfl) (fun _ _ _ h => h) (Or.inl ⟨rfl, ?_⟩) hHeld ?_
            rotate_left
            · intro w' hS; obtain ⟨⟨s0, s1⟩, s2, s3⟩ := hS; go_simp <;> with_reducible rfl
            simp only [Act.put, List.getElem_toArray, List.getElem_cons_succ, List.getElem_cons_zero, List.setIfInBounds_toArray, List.set_cons_succ, List.set_cons_zero]
            refine wpAnyH_take (i := 12) (v := ?_) rfl (by kernel_rfl) (by kernel_rfl) (by kernel_rfl) (fun _ _ _ h => h) (Or.inl ⟨rfl, ?_⟩) hHeld ?_
            rotate_left
            · intro w' hS; obtain ⟨⟨s0, s1⟩, s2, s3⟩ := hS; go_simp <;> with_reducible rfl
            simp only [Act.put, List.getElem_toArray, List.getElem_cons_succ, List.getElem_cons_zero, List.setIfInBounds_toArray, List.set_cons_succ, List.set_cons_zero]
            refine wpAnyH_take (i := 13) (v := ?_) rfl (by kernel_rfl) (by kernel_rfl) (by kernel_rfl) (fun _ _ _ h => h) (Or.inl ⟨rfl, ?_⟩) hHeld ?_
            rotate_left
            · intro w' hS; obtain ⟨⟨s0, s1⟩, s2, s3⟩ := hS; go_simp <;> with_reducible rfl
            simp only [Act.put, List.getElem_toArray, List.getElem_cons_succ, List.getElem_cons_zero, List.setIfInBounds_toArray, List.set_cons_succ, List.set_cons_zero]
            refine wpAnyH_take (i := 14) (v := ?_) rfl (by kernel_rfl) (by kernel_rfl) (by kernel_rfl) (fun _ _ _ h => h) (Or.inl ⟨rfl, ?_⟩) hHeld ?_
            rotate_left
            · intro w' hS; obtain ⟨⟨s0, s1⟩, s2, s3⟩ := hS; go_simp <;> with_reducible rfl
            simp only [Act.put, List.getElem_toArray, List.getElem_cons_succ, List.getElem_cons_zero, List.setIfInBounds_toArray, List.set_cons_succ, List.set_cons_zero]
            refine wpAnyH_take (i := 15) (v := ?_) rfl (by kernel_rfl) (by kernel_rfl) (by kernel_rfl) (fun _ _ _ h => h) (Or.inl ⟨rfl, ?_⟩) hHeld ?_
            rotate_left
            · intro w' hS; obtain ⟨⟨s0, s1⟩, s2, s3⟩ := hS; go_simp <;> with_reducible rfl
            simp only [Act.put, List.getElem_toArray, List.getElem_cons_succ, List.getElem_cons_zero, List.setIfInBounds_toArray, List.set_cons_succ, List.set_cons_zero]
            refine wpAnyH_take (i := 16) (v := ?_) rfl (by kernel_rfl) (by kernel_rfl) (by kernel_rfl) (fun _ _ _ h => h) (Or.inl ⟨rfl, ?_⟩) hHeld ?_
            rotate_left
            · intro w' hS; obtain ⟨⟨s0, s1⟩, s2, s3⟩ := hS; go_simp <;> with_reducible rfl
            simp only [Act.put, List.getElem_toArray, List.getElem_cons_succ, List.getElem_cons_zero, List.setIfInBounds_toArray, List.set_cons_succ, List.set_cons_zero]
            refine wpAnyH_ready (rs := [17]) (by kernel_rfl) (by simp) (AllReadyH.cons rfl (fun K hK => ?_) AllReadyH.nil)
            go_simp
            refine (seLeast_any A n c q xs _ (HA.out.below (below_then HBW.out hbr HBW.out.size)) HX.out h1 hn hq8 HXS.out).mono ?_
            rintro e9 wdl ⟨rfl, hb⟩
            rw [HLP.out]
            replace hbr := below_then hbr hb hbr.size
            clear hb
            refine hK.out _ _ ⟨two_of (HQ.out.below hbr), num_cellF (v := v2) (HFLZ.out.below hbr) (i := j) (by rw [HZ2.out]; exact hlt) HV2.out, (HFLZ.out.below hbr).lt⟩ (fun hHeld => ?_)
            clear hK K
            try simp only [Act.put, List.getElem_toArray, List.getElem_cons_succ, List.getElem_cons_zero, List.setIfInBounds_toArray, List.set_cons_succ, List.set_cons_zero]
            refine wpAnyH_take (i := 18) (v := ?_) rfl (by kernel_rfl) (by kernel_rfl) (by kernel_rfl) (fun _ _ _ h => h) (Or.inl ⟨rfl, ?_⟩) hHeld ?_
            rotate_left
            · intro w' hS; obtain ⟨⟨s0, s1⟩, s2, s3⟩ := hS; go_simp <;> with_reducible rfl
            simp only [Act.put, List.getElem_toArray, List.getElem_cons_succ, List.getElem_cons_zero, List.setIfInBounds_toArray, List.set_cons_succ, List.set_cons_zero]
            refine wpAnyH_take (i := 19) (v := ?_) rfl (by kernel_rfl) (by kernel_rfl) (by kernel_rfl) (fun _ _ _ h => h) (Or.inl ⟨rfl, ?_⟩) hHeld ?_
            rotate_left
            · intro w' hS; obtain ⟨⟨s0, s1⟩, s2, s3⟩ := hS; go_simp <;> with_reducible rfl
            simp only [Act.put, List.getElem_toArray, List.getElem_cons_succ, List.getElem_cons_zero, List.setIfInBounds_toArray, List.set_cons_succ, List.set_cons_zero]
            refine wpAnyH_done (by kernel_rfl) ?_ _
            clear hHeld
            have HB6 := Lib.hid (below_then HB.out hbr HB.out.size)
            have HO6 := Lib.hid (ownsRow_below HOWN.out hbr)
            clear hbr
            go_wp2
            go_roundw
            case rel => exact ⟨j + 1, Q, r, by omega, by go_num, by rw [HN.out], by rw [HN.out]; exact HO6.out, HB6.out⟩
            case measure => simp [intOf]; omega
        · have HN := Lib.hid (HNN.out (by rw [decide_eq_false h02, Bool.false_and, Bool.and_false]))
          have hd3 : decide (0 ≤ v2) = false := by simpa using h02
          clear HYY HNN h01 h02
          go_upto_region 6 with fail
          clear k0 hfl
          go_wp2_with fail
          refine wp_region_held_drew (S := (fun w' => Two w.heap.size (.slice A n c) (.int .i64 (q : Int)) w' ∧ w'.cell? ⟨gL, j, none⟩ = some (.int .i64 v2) ∧ gL < w'.heap.size)) (by kernel_rfl) ⟨two_of (HQ.out.below (Below.refl wz.heap.size wz).drew), num_cellF (v := v2) (HFLZ.out.below (Below.refl wz.heap.size wz).drew) (i := j) (by rw [HZ2.out]; exact hlt) HV2.out, (HFLZ.out.below (Below.refl wz.heap.size wz).drew).lt⟩ (fun hHeld => ?_)
          have hbr := (Below.refl wz.heap.size wz).drew
          generalize World.drew wz = wd at hbr hHeld ⊢
          refine wpAnyH_take (i := 0) (v := ?_) rfl (by kernel_rfl) (by kernel_rfl) (by kernel_rfl) (fun _ _ _ h => h) (Or.inl ⟨rfl, ?_⟩) hHeld ?_
          rotate_left
          · intro w' hS; obtain ⟨⟨s0, s1⟩, s2, s3⟩ := hS; go_simp <;> with_reducible rfl
          simp only [Act.put, List.getElem_toArray, List.getElem_cons_succ, List.getElem_cons_zero, List.setIfInBounds_toArray, List.set_cons_succ, List.set_cons_zero]
          refine wpAnyH_take (i := 1) (v := ?_) rfl (by kernel_rfl) (by kernel_rfl) (by kernel_rfl) (fun _ _ _ h => h) (Or.inl ⟨rfl, ?_⟩) hHeld ?_
          rotate_left
          · intro w' hS; obtain ⟨⟨s0, s1⟩, s2, s3⟩ := hS; go_simp <;> with_reducible rfl
          simp only [Act.put, List.getElem_toArray, List.getElem_cons_succ, List.getElem_cons_zero, List.setIfInBounds_toArray, List.set_cons_succ, List.set_cons_zero]
          refine wpAnyH_take (i := 2) (v := ?_) rfl (by kernel_rfl) (by kernel_rfl) (by kernel_rfl) (fun _ _ _ h => h) (Or.inl ⟨rfl, ?_⟩) hHeld ?_
          rotate_left
          · intro w' hS; obtain ⟨⟨s0, s1⟩, s2, s3⟩ := hS; go_simp <;> with_reducible rfl
          simp only [Act.put, List.getElem_toArray, List.getElem_cons_succ, List.getElem_cons_zero, List.setIfInBounds_toArray, List.set_cons_succ, List.set_cons_zero]
          refine wpAnyH_take (i := 3) (v := ?_) rfl (by kernel_rfl) (by kernel_rfl) (by kernel_rfl) (fun _ _ _ h => h) (Or.inl ⟨rfl, ?_⟩) hHeld ?_
          rotate_left
          · intro w' hS; obtain ⟨⟨s0, s1⟩, s2, s3⟩ := hS; go_simp <;> with_reducible rfl
          simp only [Act.put, List.getElem_toArray, List.getElem_cons_succ, List.getElem_cons_zero, List.setIfInBounds_toArray, List.set_cons_succ, List.set_cons_zero]
          refine wpAnyH_take (i := 4) (v := ?_) rfl (by kernel_rfl) (by kernel_rfl) (by kernel_rfl) (fun _ _ _ h => h) (Or.inl ⟨rfl, ?_⟩) hHeld ?_
          rotate_left
          · intro w' hS; obtain ⟨⟨s0, s1⟩, s2, s3⟩ := hS; go_simp <;> with_reducible rfl
          simp only [Act.put, List.getElem_toArray, List.getElem_cons_succ, List.getElem_cons_zero, List.setIfInBounds_toArray, List.set_cons_succ, List.set_cons_zero]
          refine wpAnyH_take (i := 5) (v := ?_) rfl (by kernel_rfl) (by kernel_rfl) (by kernel_rfl) (fun _ _ _ h => h) (Or.inl ⟨rfl, ?_⟩) hHeld ?_
          rotate_left
          · intro w' hS; obtain ⟨⟨s0, s1⟩, s2, s3⟩ := hS; go_simp <;> with_reducible rfl
          simp only [Act.put, List.getElem_toArray, List.getElem_cons_succ, List.getElem_cons_zero, List.setIfInBounds_toArray, List.set_cons_succ, List.set_cons_zero]
          refine wpAnyH_take (i := 6) (v := ?_) rfl (by kernel_rfl) (by kernel_rfl) (by kernel_rfl) (fun _ _ _ h => h) (Or.inl ⟨rfl, ?_⟩) hHeld ?_
          rotate_left
          · intro w' hS; obtain ⟨⟨s0, s1⟩, s2, s3⟩ := hS; go_simp <;> with_reducible rfl
          simp only [Act.put, List.getElem_toArray, List.getElem_cons_succ, List.getElem_cons_zero, List.setIfInBounds_toArray, List.set_cons_succ, List.set_cons_zero]
          refine wpAnyH_take (i := 7) (v := ?_) rfl (by kernel_rfl) (by kernel_rfl) (by kernel_rfl) (fun _ _ _ h => h) (Or.inl ⟨rfl, ?_⟩) hHeld ?_
          rotate_left
          · intro w' hS; obtain ⟨⟨s0, s1⟩, s2, s3⟩ := hS; go_simp <;> with_reducible rfl
          simp only [Act.put, List.getElem_toArray, List.getElem_cons_succ, List.getElem_cons_zero, List.setIfInBounds_toArray, List.set_cons_succ, List.set_cons_zero]
          refine wpAnyH_take (i := 8) (v := ?_) rfl (by kernel_rfl) (by kernel_rfl) (by kernel_rfl) (fun _ _ _ h => h) (Or.inl ⟨rfl, ?_⟩) hHeld ?_
          rotate_left
          · intro w' hS; obtain ⟨⟨s0, s1⟩, s2, s3⟩ := hS; go_simp <;> with_reducible rfl
          simp only [Act.put, List.getElem_toArray, List.getElem_cons_succ, List.getElem_cons_zero, List.setIfInBounds_toArray, List.set_cons_succ, List.set_cons_zero]
          refine wpAnyH_take (i := 9) (v := ?_) rfl (by kernel_rfl) (by kernel_rfl) (by kernel_rfl) (fun _ _ _ h => h) (Or.inl ⟨rfl, ?_⟩) hHeld ?_
          rotate_left
          · intro w' hS; obtain ⟨⟨s0, s1⟩, s2, s3⟩ := hS; go_simp <;> with_reducible rfl
          simp only [Act.put, List.getElem_toArray, List.getElem_cons_succ, List.getElem_cons_zero, List.setIfInBounds_toArray, List.set_cons_succ, List.set_cons_zero]
          refine wpAnyH_take (i := 10) (v := undef) rfl (by kernel_rfl) (by kernel_rfl) (by kernel_rfl) (fun _ _ _ h => h) (Or.inr ⟨by simp [Region.wanted, yielded], rfl⟩) hHeld ?_
          simp only [Act.put, List.getElem_toArray, List.getElem_cons_succ, List.getElem_cons_zero, List.setIfInBounds_toArray, List.set_cons_succ, List.set_cons_zero]
          refine wpAnyH_take (i := 11) (v := undef) rfl (by kernel_rfl) (by kernel_rfl) (by kernel_rfl) (fun _ _ _ h => h) (Or.inr ⟨by simp [Region.wanted, yielded], rfl⟩) hHeld ?_
          simp only [Act.put, List.getElem_toArray, List.getElem_cons_succ, List.getElem_cons_zero, List.setIfInBounds_toArray, List.set_cons_succ, List.set_cons_zero]
          refine wpAnyH_take (i := 12) (v := undef) rfl (by kernel_rfl) (by kernel_rfl) (by kernel_rfl) (fun _ _ _ h => h) (Or.inr ⟨by simp [Region.wanted, yielded], rfl⟩) hHeld ?_
          simp only [Act.put, List.getElem_toArray, List.getElem_cons_succ, List.getElem_cons_zero, List.setIfInBounds_toArray, List.set_cons_succ, List.set_cons_zero]
          refine wpAnyH_take (i := 13) (v := undef) rfl (by kernel_rfl) (by kernel_rfl) (by kernel_rfl) (fun _ _ _ h => h) (Or.inr ⟨by simp [Region.wanted, yielded], rfl⟩) hHeld ?_
          simp only [Act.put, List.getElem_toArray, List.getElem_cons_succ, List.getElem_cons_zero, List.setIfInBounds_toArray, List.set_cons_succ, List.set_cons_zero]
          refine wpAnyH_take (i := 14) (v := undef) rfl (by kernel_rfl) (by kernel_rfl) (by kernel_rfl) (fun _ _ _ h => h) (Or.inr ⟨by simp [Region.wanted, yielded], rfl⟩) hHeld ?_
          simp only [Act.put, List.getElem_toArray, List.getElem_cons_succ, List.getElem_cons_zero, List.setIfInBounds_toArray, List.set_cons_succ, List.set_cons_zero]
          refine wpAnyH_take (i := 15) (v := undef) rfl (by kernel_rfl) (by kernel_rfl) (by kernel_rfl) (fun _ _ _ h => h) (Or.inr ⟨by simp [Region.wanted, yielded], rfl⟩) hHeld ?_
          simp only [Act.put, List.getElem_toArray, List.getElem_cons_succ, List.getElem_cons_zero, List.setIfInBounds_toArray, List.set_cons_succ, List.set_cons_zero]
          refine wpAnyH_take (i := 16) (v := undef) rfl (by kernel_rfl) (by kernel_rfl) (by kernel_rfl) (fun _ _ _ h => h) (Or.inr ⟨by simp [Region.wanted, yielded], rfl⟩) hHeld ?_
          simp only [Act.put, List.getElem_toArray, List.getElem_cons_succ, List.getElem_cons_zero, List.setIfInBounds_toArray, List.set_cons_succ, List.set_cons_zero]
          refine wpAnyH_take (i := 17) (v := undef) rfl (by kernel_rfl) (by kernel_rfl) (by kernel_rfl) (fun _ _ _ h => h) (Or.inr ⟨by simp [Region.wanted, yielded], rfl⟩) hHeld ?_
          simp only [Act.put, List.getElem_toArray, List.getElem_cons_succ, List.getElem_cons_zero, List.setIfInBounds_toArray, List.set_cons_succ, List.set_cons_zero]
          refine wpAnyH_take (i := 18) (v := undef) rfl (by kernel_rfl) (by kernel_rfl) (by kernel_rfl) (fun _ _ _ h => h) (Or.inr ⟨by simp [Region.wanted, yielded], rfl⟩) hHeld ?_
          simp only [Act.put, List.getElem_toArray, List.getElem_cons_succ, List.getElem_cons_zero, List.setIfInBounds_toArray, List.set_cons_succ, List.set_cons_zero]
          refine wpAnyH_take (i := 19) (v := ?_) rfl (by kernel_rfl) (by kernel_rfl) (by kernel_rfl) (fun _ _ _ h => h) (Or.inl ⟨rfl, ?_⟩) hHeld ?_
          rotate_left
          · intro w' hS; obtain ⟨⟨s0, s1⟩, s2, s3⟩ := hS; go_simp <;> with_reducible rfl
          simp only [Act.put, List.getElem_toArray, List.getElem_cons_succ, List.getElem_cons_zero, List.setIfInBounds_toArray, List.set_cons_succ, List.set_cons_zero]
          refine wpAnyH_done (by kernel_rfl) ?_ _
          clear hHeld
          have HB6 := Lib.hid (below_then HB.out hbr HB.out.size)
          have HO6 := Lib.hid (ownsRow_below HOWN.out hbr)
          clear hbr
          go_wp2
          go_roundw
          case rel => exact ⟨j + 1, Q, r, by omega, by go_num, by rw [HN.out], by rw [HN.out]; exact HO6.out, HB6.out⟩
          case measure => simp [intOf]; omega
      · have HN := Lib.hid (HNN.out (by rw [decide_eq_false h01, Bool.false_and]))
        have hd2 : decide (0 ≤ v1) = false := by simpa using h01
        clear HYY HNN h01
        go_upto_region 6 with fail
        clear k0 hfl
        go_wp2_with fail
        refine wp_region_held_drew (S := (fun w' => Two w.heap.size (.slice A n c) (.int .i64 (q : Int)) w' ∧ w'.cell? ⟨gL, j, none⟩ = some (.int .i64 v2) ∧ gL < w'.heap.size)) (by kernel_rfl) ⟨two_of (HQ.out.below (Below.refl wz.heap.size wz).drew), num_cellF (v := v2) (HFLZ.out.below (Below.refl wz.heap.size wz).drew) (i := j) (by rw [HZ2.out]; exact hlt) HV2.out, (HFLZ.out.below (Below.refl wz.heap.size wz).drew).lt⟩ (fun hHeld => ?_)
        have hbr := (Below.refl wz.heap.size wz).drew
        generalize World.drew wz = wd at hbr hHeld ⊢
        refine wpAnyH_take (i := 0) (v := ?_) rfl (by kernel_rfl) (by kernel_rfl) (by kernel_rfl) (fun _ _ _ h => h) (Or.inl ⟨rfl, ?_⟩) hHeld ?_
        rotate_left
        · intro w' hS; obtain ⟨⟨s0, s1⟩, s2, s3⟩ := hS; go_simp <;> with_reducible rfl
        simp only [Act.put, List.getElem_toArray, List.getElem_cons_succ, List.getElem_cons_zero, List.setIfInBounds_toArray, List.set_cons_succ, List.set_cons_zero]
        refine wpAnyH_take (i := 1) (v := ?_) rfl (by kernel_rfl) (by kernel_rfl) (by kernel_rfl) (fun _ _ _ h => h) (Or.inl ⟨rfl, ?_⟩) hHeld ?_
        rotate_left
        · intro w' hS; obtain ⟨⟨s0, s1⟩, s2, s3⟩ := hS; go_simp <;> with_reducible rfl
        simp only [Act.put, List.getElem_toArray, List.getElem_cons_succ, List.getElem_cons_zero, List.setIfInBounds_toArray, List.set_cons_succ, List.set_cons_zero]
        refine wpAnyH_take (i := 2) (v := ?_) rfl (by kernel_rfl) (by kernel_rfl) (by kernel_rfl) (fun _ _ _ h => h) (Or.inl ⟨rfl, ?_⟩) hHeld ?_
        rotate_left
        · intro w' hS; obtain ⟨⟨s0, s1⟩, s2, s3⟩ := hS; go_simp <;> with_reducible rfl
        simp only [Act.put, List.getElem_toArray, List.getElem_cons_succ, List.getElem_cons_zero, List.setIfInBounds_toArray, List.set_cons_succ, List.set_cons_zero]
        refine wpAnyH_take (i := 3) (v := undef) rfl (by kernel_rfl) (by kernel_rfl) (by kernel_rfl) (fun _ _ _ h => h) (Or.inr ⟨by simp [Region.wanted, yielded], rfl⟩) hHeld ?_
        simp only [Act.put, List.getElem_toArray, List.getElem_cons_succ, List.getElem_cons_zero, List.setIfInBounds_toArray, List.set_cons_succ, List.set_cons_zero]
        refine wpAnyH_take (i := 4) (v := undef) rfl (by kernel_rfl) (by kernel_rfl) (by kernel_rfl) (fun _ _ _ h => h) (Or.inr ⟨by simp [Region.wanted, yielded], rfl⟩) hHeld ?_
        simp only [Act.put, List.getElem_toArray, List.getElem_cons_succ, List.getElem_cons_zero, List.setIfInBounds_toArray, List.set_cons_succ, List.set_cons_zero]
        refine wpAnyH_take (i := 5) (v := undef) rfl (by kernel_rfl) (by kernel_rfl) (by kernel_rfl) (fun _ _ _ h => h) (Or.inr ⟨by simp [Region.wanted, yielded], rfl⟩) hHeld ?_
        simp only [Act.put, List.getElem_toArray, List.getElem_cons_succ, List.getElem_cons_zero, List.setIfInBounds_toArray, List.set_cons_succ, List.set_cons_zero]
        refine wpAnyH_take (i := 6) (v := undef) rfl (by kernel_rfl) (by kernel_rfl) (by kernel_rfl) (fun _ _ _ h => h) (Or.inr ⟨by simp [Region.wanted, yielded], rfl⟩) hHeld ?_
        simp only [Act.put, List.getElem_toArray, List.getElem_cons_succ, List.getElem_cons_zero, List.setIfInBounds_toArray, List.set_cons_succ, List.set_cons_zero]
        refine wpAnyH_take (i := 7) (v := undef) rfl (by kernel_rfl) (by kernel_rfl) (by kernel_rfl) (fun _ _ _ h => h) (Or.inr ⟨by simp [Region.wanted, yielded], rfl⟩) hHeld ?_
        simp only [Act.put, List.getElem_toArray, List.getElem_cons_succ, List.getElem_cons_zero, List.setIfInBounds_toArray, List.set_cons_succ, List.set_cons_zero]
        refine wpAnyH_take (i := 8) (v := ?_) rfl (by kernel_rfl) (by kernel_rfl) (by kernel_rfl) (fun _ _ _ h => h) (Or.inl ⟨rfl, ?_⟩) hHeld ?_
        rotate_left
        · intro w' hS; obtain ⟨⟨s0, s1⟩, s2, s3⟩ := hS; go_simp <;> with_reducible rfl
        simp only [Act.put, List.getElem_toArray, List.getElem_cons_succ, List.getElem_cons_zero, List.setIfInBounds_toArray, List.set_cons_succ, List.set_cons_zero]
        refine wpAnyH_take (i := 9) (v := ?_) rfl (by kernel_rfl) (by kernel_rfl) (by kernel_rfl) (fun _ _ _ h => h) (Or.inl ⟨rfl, ?_⟩) hHeld ?_
        rotate_left
        · intro w' hS; obtain ⟨⟨s0, s1⟩, s2, s3⟩ := hS; go_simp <;> with_reducible rfl
        simp only [Act.put, List.getElem_toArray, List.getElem_cons_succ, List.getElem_cons_zero, List.setIfInBounds_toArray, List.set_cons_succ, List.set_cons_zero]
        refine wpAnyH_take (i := 10) (v := undef) rfl (by kernel_rfl) (by kernel_rfl) (by kernel_rfl) (fun _ _ _ h => h) (Or.inr ⟨by simp [Region.wanted, yielded], rfl⟩) hHeld ?_
        simp only [Act.put, List.getElem_toArray, List.getElem_cons_succ, List.getElem_cons_zero, List.setIfInBounds_toArray, List.set_cons_succ, List.set_cons_zero]
        refine wpAnyH_take (i := 11) (v := undef) rfl (by kernel_rfl) (by kernel_rfl) (by kernel_rfl) (fun _ _ _ h => h) (Or.inr ⟨by simp [Region.wanted, yielded], rfl⟩) hHeld ?_
        simp only [Act.put, List.getElem_toArray, List.getElem_cons_succ, List.getElem_cons_zero, List.setIfInBounds_toArray, List.set_cons_succ, List.set_cons_zero]
        refine wpAnyH_take (i := 12) (v := undef) rfl (by kernel_rfl) (by kernel_rfl) (by kernel_rfl) (fun _ _ _ h => h) (Or.inr ⟨by simp [Region.wanted, yielded], rfl⟩) hHeld ?_
        simp only [Act.put, List.getElem_toArray, List.getElem_cons_succ, List.getElem_cons_zero, List.setIfInBounds_toArray, List.set_cons_succ, List.set_cons_zero]
        refine wpAnyH_take (i := 13) (v := undef) rfl (by kernel_rfl) (by kernel_rfl) (by kernel_rfl) (fun _ _ _ h => h) (Or.inr ⟨by simp [Region.wanted, yielded], rfl⟩) hHeld ?_
        simp only [Act.put, List.getElem_toArray, List.getElem_cons_succ, List.getElem_cons_zero, List.setIfInBounds_toArray, List.set_cons_succ, List.set_cons_zero]
        refine wpAnyH_take (i := 14) (v := undef) rfl (by kernel_rfl) (by kernel_rfl) (by kernel_rfl) (fun _ _ _ h => h) (Or.inr ⟨by simp [Region.wanted, yielded], rfl⟩) hHeld ?_
        simp only [Act.put, List.getElem_toArray, List.getElem_cons_succ, List.getElem_cons_zero, List.setIfInBounds_toArray, List.set_cons_succ, List.set_cons_zero]
        refine wpAnyH_take (i := 15) (v := undef) rfl (by kernel_rfl) (by kernel_rfl) (by kernel_rfl) (fun _ _ _ h => h) (Or.inr ⟨by simp [Region.wanted, yielded], rfl⟩) hHeld ?_
        simp only [Act.put, List.getElem_toArray, List.getElem_cons_succ, List.getElem_cons_zero, List.setIfInBounds_toArray, List.set_cons_succ, List.set_cons_zero]
        refine wpAnyH_take (i := 16) (v := undef) rfl (by kernel_rfl) (by kernel_rfl) (by kernel_rfl) (fun _ _ _ h => h) (Or.inr ⟨by simp [Region.wanted, yielded], rfl⟩) hHeld ?_
        simp only [Act.put, List.getElem_toArray, List.getElem_cons_succ, List.getElem_cons_zero, List.setIfInBounds_toArray, List.set_cons_succ, List.set_cons_zero]
        refine wpAnyH_take (i := 17) (v := undef) rfl (by kernel_rfl) (by kernel_rfl) (by kernel_rfl) (fun _ _ _ h => h) (Or.inr ⟨by simp [Region.wanted, yielded], rfl⟩) hHeld ?_
        simp only [Act.put, List.getElem_toArray, List.getElem_cons_succ, List.getElem_cons_zero, List.setIfInBounds_toArray, List.set_cons_succ, List.set_cons_zero]
        refine wpAnyH_take (i := 18) (v := undef) rfl (by kernel_rfl) (by kernel_rfl) (by kernel_rfl) (fun _ _ _ h => h) (Or.inr ⟨by simp [Region.wanted, yielded], rfl⟩) hHeld ?_
        simp only [Act.put, List.getElem_toArray, List.getElem_cons_succ, List.getElem_cons_zero, List.setIfInBounds_toArray, List.set_cons_succ, List.set_cons_zero]
        refine wpAnyH_take (i := 19) (v := ?_) rfl (by kernel_rfl) (by kernel_rfl) (by kernel_rfl) (fun _ _ _ h => h) (Or.inl ⟨rfl, ?_⟩) hHeld ?_
        rotate_left
        · intro w' hS; obtain ⟨⟨s0, s1⟩, s2, s3⟩ := hS; go_simp <;> with_reducible rfl
        simp only [Act.put, List.getElem_toArray, List.getElem_cons_succ, List.getElem_cons_zero, List.setIfInBounds_toArray, List.set_cons_succ, List.set_cons_zero]
        refine wpAnyH_done (by kernel_rfl) ?_ _
        clear hHeld
        have HB6 := Lib.hid (below_then HB.out hbr HB.out.size)
        have HO6 := Lib.hid (ownsRow_below HOWN.out hbr)
        clear hbr
        go_wp2
        go_roundw
        case rel => exact ⟨j + 1, Q, r, by omega, by go_num, by rw [HN.out], by rw [HN.out]; exact HO6.out, HB6.out⟩
        case measure => simp [intOf]; omega
    · obtain rfl : j = z := by omega
      have hd1 : decide ((j : Int) < (j : Int)) = false := by simp
      have HF := Lib.hid ((Fresh.of_own' hown).more (lo' := w.heap.size) (hi' := wz.heap.size) HT3.out.size (Nat.le_refl _))
      have HT9 := Lib.hid (below_then HT3.out hb HT3.out.size)
      clear hown hb
      go_wp2
      go_ret
      exact ⟨Q, r, rfl, HF.out, HT9.out⟩
end Go.Proofs.Ytlpeimlbpiofkaa

namespace Go.Proofs.Ytlpeimlbpiofkaa
open Go.RowKit Go.Maps Go.WideShapes

noncomputable def cntOn (xs : List Int) (s : Int) : Int := if leastOk xs s then ((onTo xs xs.length s.toNat (2 ^ (xs.length + 1))).length : Nat) else 0
theorem cntOn_no {xs : List Int} {s : Int} (h : leastOk xs s = false) : cntOn xs s = 0 := by simp [cntOn, h]
theorem cntOn_yes {xs : List Int} {n q : Nat} (hx : xs.length = n) (h : leastOk xs (q : Int) = true) : cntOn xs (q : Int) = ((onTo xs n q (2 ^ (n + 1))).length : Nat) := by subst hx; simp [cntOn, h]

set_option maxHeartbeats 6400000 in
set_option maxRecDepth 100000 in
set_option linter.unusedVariables false in
set_option linter.unusedSimpArgs false in
theorem specCntOn_any (A : Option Addr) (n c : Nat) (xs : List Int) (s : Int) (w : World) (hA0 : Holds w A (nums xs)) (hx : xs.length = n) (hn0 : n ≤ 9223372036854775807) :
    Calls Try.prog 33 #[.agg #[.slice A n c, .int .i64 s]] w fun e w' => e = .returned (.tuple #[.int .i64 (cntOn xs s), .bool (leastOk xs s)]) ∧ Below w.heap.size w w' := by
  have hA := hA0.alloc (.cells #[.slice A n c, .int .i64 s] 28)
  have hq := Whole.fresh w 28 #[.slice A n c, .int .i64 s]
  have HT := Lib.hid (below1 w (.cells #[.slice A n c, .int .i64 s] 28))
  cases hp : isParty xs s
  · have h0 := (leastOk_none hp).1
    have HV : Hid (cntOn xs s = 0 ∧ leastOk xs s = false) := ⟨cntOn_no h0, h0⟩
    have HP := Lib.hid hp
    have HX := Lib.hid hx
    have HA := Lib.hid hA
    clear hp hA hA0 hx h0
    go_enter Try.func33, Try.ntmps33
    go_wp2_with fail
    refine (paGood_any A n c xs s _ HA.out HX.out hn0).mono ?_
    rintro e w1 ⟨rfl, hb⟩
    rw [HP.out]
    have HT1 := Lib.hid (below_then HT.out hb HT.out.size)
    clear hb hq
    go_wp2
    go_ret2
    exact ⟨by rw [HV.out.1, HV.out.2]; rfl, HT1.out⟩
  · obtain ⟨q, rfl⟩ : ∃ q : Nat, s = (q : Int) := ⟨s.toNat, by simp only [isParty, Bool.and_eq_true, within_iff] at hp; omega⟩
    obtain ⟨h1, hn, gq1, hq8, gxs⟩ := party_parts hp
    rw [hx] at h1 hn
    have HP := Lib.hid hp
    have HA := Lib.hid hA
    have HXS := Lib.hid gxs
    have HX := Lib.hid hx
    have hok := leastOk_at hp
    rw [hx] at hok
    cases hpl : planOk xs n q
    · rw [hpl] at hok
      have HV : Hid (cntOn xs (q : Int) = 0 ∧ leastOk xs (q : Int) = false) := ⟨cntOn_no hok, hok⟩
      have HLP := Lib.hid (leastP_no hpl)
      clear hp hA hA0 gxs hpl hok hx
      go_enter Try.func33, Try.ntmps33
      go_wp2_with fail
      refine (paGood_any A n c xs (q : Int) _ HA.out HX.out hn0).mono ?_
      rintro e w1 ⟨rfl, hb⟩
      rw [HP.out]
      have HT1 := Lib.hid (below_then HT.out hb HT.out.size)
      have HA1 := Lib.hid (HA.out.below hb)
      replace hq := hq.below hb
      obtain ⟨k0, k1⟩ := hq.cells2
      have hql := hq.lt
      clear hb
      go_wp2_with fail
      refine (seLeast_any A n c q xs _ HA1.out HX.out h1 hn hq8 HXS.out).mono ?_
      rintro e w2 ⟨rfl, hb⟩
      rw [HLP.out]
      have HT2 := Lib.hid (below_then HT1.out hb HT1.out.size)
      clear hb hq k0 k1 hql
      go_wp2
      go_ret2
      exact ⟨by rw [HV.out.1, HV.out.2]; rfl, HT2.out⟩
    · rw [hpl] at hok
      have HV : Hid (cntOn xs (q : Int) = ((onTo xs n q (2 ^ (n + 1))).length : Nat) ∧ leastOk xs (q : Int) = true) := ⟨cntOn_yes hx hok, hok⟩
      have HPL := Lib.hid hpl
      obtain ⟨v, hv⟩ : ∃ v, leastP xs n q = v := ⟨_, rfl⟩
      have hv0 : 0 ≤ v := by rw [← hv]; exact leastP_yes hx (fun y hy => (gxs y hy).1) hpl
      have hv1 : ¬ v < 0 := by omega
      have hd0 : decide (v < 0) = false := by simpa using hv1
      have HLV := Lib.hid hv
      obtain ⟨v0, hvv⟩ : ∃ v0, leftM xs n q 0 = some v0 := by
        rw [show leftM xs n q 0 = partyD xs n q (codeOf (trues n) true) 0 from rfl, party_first hx hn (fun y hy => (gxs y hy).1)]
        exact Option.isSome_iff_exists.1 hpl
      have HV0 := Lib.hid hvv
      have HLO := Lib.hid (left_ok (q := q) hx hn gxs)
      have HTL : Hid ((trues n).length = n) := by show _ = _; simp [trues]
      have HFL : Hid ((falses n).length = n) := by show _ = _; simp [falses]
      clear hp hA0 hA gxs hpl hv hvv hok hx
      go_enter Try.func33, Try.ntmps33
      go_wp2_with fail
      refine (paGood_any A n c xs (q : Int) _ HA.out HX.out hn0).mono ?_
      rintro e w1 ⟨rfl, hb⟩
      rw [HP.out]
      have HT1 := Lib.hid (below_then HT.out hb HT.out.size)
      have HA1 := Lib.hid (HA.out.below hb)
      replace hq := hq.below hb
      obtain ⟨k0, k1⟩ := hq.cells2
      have hql := hq.lt
      clear hb
      go_wp2_with fail
      refine (seLeast_any A n c q xs _ HA1.out HX.out h1 hn hq8 HXS.out).mono ?_
      rintro e w2 ⟨rfl, hb⟩
      rw [HLV.out]
      have HT2 := Lib.hid (below_then HT1.out hb HT1.out.size)
      have HA2 := Lib.hid (HA1.out.below hb)
      replace hq := hq.below hb
      clear k0 k1 hql hb
      obtain ⟨k0, k1⟩ := hq.cells2
      have hql := hq.lt
      go_wp2_with fail
      refine (seOn_any A n c q xs _ HA2.out HX.out h1 hn hq8 HXS.out HPL.out).mono ?_
      rintro e w3 ⟨G, cG, rfl, -, hb⟩
      have HT3 := Lib.hid (below_then HT2.out hb HT2.out.size)
      clear hb hq k0 k1 hql
      go_wp2
      go_ret2
      exact ⟨by rw [HV.out.1, HV.out.2]; rfl, HT3.out⟩
set_option maxHeartbeats 6400000 in
set_option maxRecDepth 100000 in
set_option linter.unusedVariables false in
set_option linter.unusedSimpArgs false in
theorem implCntOn_zero (A : Option Addr) (n c : Nat) (xs : List Int) (s : Int) (w : World)
    (hpl : Calls Try.prog 63 #[.agg #[.slice A n c, .int .i64 s]] (w.alloc (.cells #[.slice A n c, .int .i64 s] 28)) fun e w' => e = .returned (.tuple #[.agg zero11, .bool false]) ∧ Below (w.alloc (.cells #[.slice A n c, .int .i64 s] 28)).heap.size (w.alloc (.cells #[.slice A n c, .int .i64 s] 28)) w') :
    Calls Try.prog 34 #[.agg #[.slice A n c, .int .i64 s]] w fun e w' => e = .returned (.tuple #[.int .i64 0, .bool false]) ∧ Below w.heap.size w w' := by
  have HT := Lib.hid (below1 w (.cells #[.slice A n c, .int .i64 s] 28))
  have HPL := Lib.hid hpl
  clear hpl
  go_enter Try.func34, Try.ntmps34
  go_wp2_with fail
  refine HPL.out.mono ?_
  rintro e w1 ⟨rfl, hb⟩
  have HT1 := Lib.hid (below_then HT.out hb HT.out.size)
  have HT2 := Lib.hid (HT1.out.alloc HT1.out.size (.cells #[.slice none 0 0, .bool false, .bool false, .bool false, .bool false, .bool false, .bool false, .bool false, .bool false, .bool false, .map none] 78))
  clear hb
  unfold zero11
  go_wp2
  go_ret2
  exact ⟨rfl, HT2.out⟩
set_option maxHeartbeats 6400000 in
set_option maxRecDepth 100000 in
set_option linter.unusedVariables false in
set_option linter.unusedSimpArgs false in
theorem implCntOn_yes (A : Option Addr) (n c q : Nat) (xs : List Int) (w : World) (hA : Holds w A (nums xs)) (hx : xs.length = n) (hp : isParty xs (q : Int) = true) (hpl : planOk xs n q = true) :
    Calls Try.prog 34 #[.agg #[.slice A n c, .int .i64 (q : Int)]] w fun e w' => e = .returned (.tuple #[.int .i64 ((onTo xs n q (2 ^ (n + 1))).length : Nat), .bool true]) ∧ Below w.heap.size w w' := by
  obtain ⟨g1, g8, gq1, gq8, gxs⟩ := party_parts hp
  rw [hx] at g1 g8
  have HLO := Lib.hid (left_ok (q := q) hx g8 gxs)
  have HFO := Lib.hid (first_ok (q := q) hx g8 gxs)
  have HUL := Lib.hid (upLists_small (n := n) (m := q) g8)
  have HCS : Hid (countB (sts 4) (onB (partyD xs n q 0) (leftM xs n q)) = (onTo xs n q (2 ^ (n + 1))).length) := by
    show _ = _
    rw [onTo, List.length_map]
    exact (count_states g8 (fun x => on_out hx g8 gxs)).symm
  have HPY := Lib.hid (planned_yes A n c q xs _ (hA.alloc (.cells #[.slice A n c, .int .i64 (q : Int)] 28)) hx hp hpl)
  have HT := Lib.hid (below1 w (.cells #[.slice A n c, .int .i64 (q : Int)] 28))
  clear hp hA gxs hpl hx
  go_enter Try.func34, Try.ntmps34
  go_wp2_with fail
  refine HPY.out.mono ?_
  rintro e w1 ⟨E, cE, mb, rfl, hown, hmap, hb⟩
  have HT1 := Lib.hid (below_then HT.out hb HT.out.size)
  have hob := onBest_any (slowOf xs) _ E cE (upLists n q) (codeOf (trues n) true) mb (leftM xs n q) (w1.alloc (.cells (routeC E (upLists n q).length cE (codeOf (trues n) true) mb) 78)) (hown.alloc _) HUL.out (hmap.alloc _) HLO.out HFO.out
  have hbx : Whole (w1.alloc (.cells (routeC E (upLists n q).length cE (codeOf (trues n) true) mb) 78)) w1.heap.size 78 (routeC E (upLists n q).length cE (codeOf (trues n) true) mb) := Whole.fresh _ _ _
  have HT2 := Lib.hid (HT1.out.alloc HT1.out.size (.cells (routeC E (upLists n q).length cE (codeOf (trues n) true) mb) 78))
  rw [show leastD (LegE (slowOf xs) 4 (upLists n q)) 0 = partyD xs n q 0 from rfl] at hob
  obtain ⟨N, hN⟩ : ∃ N, onB (partyD xs n q 0) (leftM xs n q) = N := ⟨_, rfl⟩
  rw [hN] at hob
  have HCN : Hid (countB (sts 4) N = (onTo xs n q (2 ^ (n + 1))).length) := by rw [← hN]; exact HCS.out
  obtain ⟨y, hy⟩ : ∃ y, codeOf (trues n) true = y := ⟨_, rfl⟩
  obtain ⟨k, hk⟩ : ∃ k, (upLists n q).length = k := ⟨_, rfl⟩
  rw [hy, hk] at hob hbx HT2 ⊢
  have HOB := Lib.hid hob
  clear hb hown hmap hob hN hy hk HPY HCS
  unfold routeC at hbx HT2 HOB
  unfold routeC
  obtain ⟨c0, c1, c2, c3, c4, c5, c6, c7, c8, c9, c10⟩ := cells11 hbx
  have hbl := hbx.lt
  go_wp2_with fail
  refine HOB.out.mono ?_
  rintro e w2 ⟨b, rfl, hset, hb⟩
  have HT3 := Lib.hid (below_then HT2.out hb HT2.out.size)
  clear hb hbx c0 c1 c2 c3 c4 c5 c6 c7 c8 c9 c10 hbl HOB
  go_wp2_with (at_len; refine wpList_set_len rfl _ rfl (place_keys (by omega)) (sts_nodup 4) Try.underlying99 rfl hset ?_; go_frame)
  go_ret2
  exact ⟨by rw [← HCN.out]; rfl, HT3.out⟩
theorem implCntOn_any (A : Option Addr) (n c : Nat) (xs : List Int) (s : Int) (w : World) (hA : Holds w A (nums xs)) (hx : xs.length = n) (hn : n ≤ 9223372036854775807) :
    Calls Try.prog 34 #[.agg #[.slice A n c, .int .i64 s]] w fun e w' => e = .returned (.tuple #[.int .i64 (cntOn xs s), .bool (leastOk xs s)]) ∧ Below w.heap.size w w' := by
  have hA1 := hA.alloc (.cells #[.slice A n c, .int .i64 s] 28)
  cases hp : isParty xs s
  · have h0 := (leastOk_none hp).1
    rw [cntOn_no h0, h0]
    exact implCntOn_zero A n c xs s w (planned_none A n c xs s _ hA1 hx hn hp)
  · obtain ⟨q, rfl⟩ : ∃ q : Nat, s = (q : Int) := ⟨s.toNat, by simp only [isParty, Bool.and_eq_true, within_iff] at hp; omega⟩
    have hok := leastOk_at hp
    rw [hx] at hok
    cases hpl : planOk xs n q
    · rw [hpl] at hok
      rw [cntOn_no hok, hok]
      exact implCntOn_zero A n c xs (q : Int) w (planned_no A n c q xs _ hA1 hx hp hpl)
    · rw [hpl] at hok
      rw [cntOn_yes hx hok, hok]
      exact implCntOn_yes A n c q xs w hA hx hp hpl
end Go.Proofs.Ytlpeimlbpiofkaa

namespace Go.Proofs.Ytlpeimlbpiofkaa
open Go.RowKit Go.Maps Go.WideShapes

theorem bzero (w : World) : (zeroValue 4).run Try.prog w = .ok (.bool false) w := by kernel_rfl
noncomputable def onOk (xs : List Int) (bs : List Bool) (s : Int) (t : Bool) : Bool := (isParty xs s && isState xs.length bs t) && planOk xs xs.length s.toNat
noncomputable def isOn (xs : List Int) (bs : List Bool) (s : Int) (t : Bool) : Bool := onOk xs bs s t && onB (partyD xs xs.length s.toNat 0) (leftM xs xs.length s.toNat) (codeOf bs t)
section
variable {xs : List Int} {bs : List Bool} {s : Int} {t : Bool} {n q : Nat}
theorem on_none (h : (isParty xs s && isState xs.length bs t) = false) : isOn xs bs s t = false ∧ onOk xs bs s t = false := by simp only [isOn, onOk, h, Bool.false_and, and_self]
theorem on_noplan (hx : xs.length = n) (h : (isParty xs (q : Int) && isState n bs t) = true) (hp : planOk xs n q = false) : isOn xs bs (q : Int) t = false ∧ onOk xs bs (q : Int) t = false := by subst hx; simp only [isOn, onOk, h, Int.toNat_natCast, hp, Bool.and_false, Bool.false_and, and_self]
theorem on_plan (hx : xs.length = n) (h : (isParty xs (q : Int) && isState n bs t) = true) (hp : planOk xs n q = true) : isOn xs bs (q : Int) t = onB (partyD xs n q 0) (leftM xs n q) (codeOf bs t) ∧ onOk xs bs (q : Int) t = true := by subst hx; simp only [isOn, onOk, h, Int.toNat_natCast, hp, Bool.and_self, Bool.true_and, and_self]
theorem on_has (hy : bs.length = n) : hasK (onTo xs n q (2 ^ (n + 1))) ((num bs t.toNat : Nat) : Int) = onB (partyD xs n q 0) (leftM xs n q) (codeOf bs t) := by
  have hlt : num bs t.toNat < 2 ^ (n + 1) := by have h := num_lt bs t; rw [hy] at h; exact h
  have hs : stateS n (num bs t.toNat) = (bs, t) := stateS_num (a := (bs, t)) hy
  have hI : onI xs n q (num bs t.toNat) = onB (partyD xs n q 0) (leftM xs n q) (codeOf bs t) := by rw [onI, hs]
  rw [← hI, hasK, Bool.eq_iff_iff, List.contains_iff_mem, onTo]
  constructor
  · intro h
    obtain ⟨i, hi, he⟩ := List.mem_map.1 h
    obtain rfl : i = num bs t.toNat := by have : (i : Int) = ((num bs t.toNat : Nat) : Int) := he; omega
    exact (List.mem_filter.1 hi).2
  · intro h
    exact List.mem_map.2 ⟨_, List.mem_filter.2 ⟨List.mem_range.2 hlt, h⟩, rfl⟩
end

set_option maxHeartbeats 6400000 in
set_option maxRecDepth 100000 in
set_option linter.unusedVariables false in
set_option linter.unusedSimpArgs false in
theorem specIsOn_any (A B : Option Addr) (n c m d : Nat) (xs : List Int) (bs : List Bool) (s : Int) (t : Bool) (w : World) (hA0 : Holds w A (nums xs)) (hB0 : Holds w B (bits bs)) (hx : xs.length = n) (hy : bs.length = m) (hn0 : n ≤ 9223372036854775807) (hm0 : m ≤ 9223372036854775807) :
    Calls Try.prog 29 #[.agg #[.slice A n c, .int .i64 s], .agg #[.slice B m d, .bool t]] w fun e w' => e = .returned (.tuple #[.bool (isOn xs bs s t), .bool (onOk xs bs s t)]) ∧ Below w.heap.size w w' := by
  have HAW := Lib.hid hA0
  have HBW := Lib.hid hB0
  have HX := Lib.hid hx
  have HY := Lib.hid hy
  have hq := (Whole.fresh w 28 #[.slice A n c, .int .i64 s]).alloc (.cells #[.slice B m d, .bool t] 44)
  have hs := Whole.fresh (w.alloc (.cells #[.slice A n c, .int .i64 s] 28)) 44 #[.slice B m d, .bool t]
  rw [World.size_alloc] at hs
  have ht := below2 w (.cells #[.slice A n c, .int .i64 s] 28) (.cells #[.slice B m d, .bool t] 44)
  have hpa := paAsked_any A B n c m d xs bs s t _ (HAW.out.below ht) (HBW.out.below ht) hx hy hn0 hm0
  obtain ⟨k0, k1⟩ := hq.cells2
  have hql := hq.lt
  obtain ⟨e0, e1, -, -⟩ := hs.two
  have hsl := hs.lt
  cases ha : (isParty xs s && isState n bs t)
  · have HV : Hid (isOn xs bs s t = false ∧ onOk xs bs s t = false) := on_none (by rw [hx]; exact ha)
    have HAA := Lib.hid ha
    clear ha hA0 hB0 hx hy
    go_enter Try.func29, Try.ntmps29
    go_wp2_with fail
    refine hpa.mono ?_
    clear hpa
    rintro e w1 ⟨rfl, hb⟩
    rw [HAA.out]
    have HT1 := Lib.hid (below_then ht hb ht.size)
    clear hb hq hs k0 k1 hql e0 e1 hsl ht
    go_wp2
    go_ret2
    exact ⟨by rw [HV.out.1, HV.out.2]; rfl, HT1.out⟩
  obtain ⟨hp, hs0⟩ := Bool.and_eq_true_iff.1 ha
  obtain ⟨q, rfl⟩ : ∃ q : Nat, s = (q : Int) := ⟨s.toNat, by simp only [isParty, Bool.and_eq_true, within_iff] at hp; omega⟩
  obtain ⟨h1, hn, gq1, hq8, gxs⟩ := party_parts hp
  rw [hx] at h1 hn
  have hyn : bs.length = n := of_decide_eq_true (Bool.and_eq_true_iff.1 hs0).1
  have hm8 : m ≤ 8 := by omega
  have HXS := Lib.hid gxs
  have HAA := Lib.hid ha
  cases hpl : planOk xs n q
  · have HV : Hid (isOn xs bs (q : Int) t = false ∧ onOk xs bs (q : Int) t = false) := on_noplan hx ha hpl
    have HLP := Lib.hid (leastP_no hpl)
    clear ha hp hs0 gxs hA0 hB0 hx hy hyn hpl
    go_enter Try.func29, Try.ntmps29
    go_wp2_with fail
    refine hpa.mono ?_
    clear hpa
    rintro e w1 ⟨rfl, hb⟩
    rw [HAA.out]
    have HT1 := Lib.hid (below_then ht hb ht.size)
    replace hq := hq.below hb
    clear hb k0 k1 hql e0 e1 hsl hs ht
    obtain ⟨k0, k1⟩ := hq.cells2
    have hql := hq.lt
    go_wp2_with fail
    refine (seLeast_any A n c q xs _ (HAW.out.below HT1.out) HX.out h1 hn hq8 HXS.out).mono ?_
    rintro e w2 ⟨rfl, hb⟩
    rw [HLP.out]
    have HT2 := Lib.hid (below_then HT1.out hb HT1.out.size)
    clear hb hq k0 k1 hql
    go_wp2
    go_ret2
    exact ⟨by rw [HV.out.1, HV.out.2]; rfl, HT2.out⟩
  · have HPL := Lib.hid hpl
    have HV : Hid (isOn xs bs (q : Int) t = onB (partyD xs n q 0) (leftM xs n q) (codeOf bs t) ∧ onOk xs bs (q : Int) t = true) := on_plan hx ha hpl
    obtain ⟨v, hv⟩ : ∃ v, leastP xs n q = v := ⟨_, rfl⟩
    have hv0 : 0 ≤ v := by rw [← hv]; exact leastP_yes hx (fun y hy => (gxs y hy).1) hpl
    have hv1 : ¬ v < 0 := by omega
    have hd0 : decide (v < 0) = false := by simpa using hv1
    have HLV := Lib.hid hv
    have HHAS : Hid (hasK (onTo xs n q (2 ^ (n + 1))) (num bs t.toNat : Nat) = onB (partyD xs n q 0) (leftM xs n q) (codeOf bs t)) := on_has hyn
    have HLL : Hid ((onTo xs n q (2 ^ (n + 1))).length ≤ 1048576) := Nat.le_trans (onTo_len _ _ _ _) (Nat.le_trans (Nat.pow_le_pow_right (by omega) (show n + 1 ≤ 9 by omega)) (by decide))
    clear ha hp hs0 gxs hA0 hB0 hx hy hyn hpl hv
    go_enter Try.func29, Try.ntmps29
    go_wp2_with fail
    refine hpa.mono ?_
    clear hpa
    rintro e w1 ⟨rfl, hb⟩
    rw [HAA.out]
    have HT1 := Lib.hid (below_then ht hb ht.size)
    replace hq := hq.below hb
    replace hs := hs.below hb
    clear hb k0 k1 hql e0 e1 hsl ht
    obtain ⟨k0, k1⟩ := hq.cells2
    have hql := hq.lt
    go_wp2_with fail
    refine (seLeast_any A n c q xs _ (HAW.out.below HT1.out) HX.out h1 hn hq8 HXS.out).mono ?_
    rintro e w2 ⟨rfl, hb⟩
    rw [HLV.out]
    have ht := below_then HT1.out hb HT1.out.size
    replace hq := hq.below hb
    replace hs := hs.below hb
    clear hb k0 k1 hql
    go_upto_region 3 with fail
    go_wp2_with fail
    refine wp_region_held_drew (S := (fun w' => Two w.heap.size (.slice A n c) (.int .i64 (q : Int)) w' ∧ Two (w.heap.size + 1) (.slice B m d) (.bool t) w')) (by kernel_rfl) ⟨two_of hq.drew, two_of hs.drew⟩ (fun hHeld => ?_)
    replace hq := hq.drew
    replace hs := hs.drew
    replace ht := ht.drew
    generalize World.drew w2 = wd at hq hs ht hHeld ⊢
    refine wpAnyH_take (i := 0) (v := ?_) rfl (by kernel_rfl) (by kernel_rfl) (by kernel_rfl) (fun _ _ _ h => h) (Or.inl ⟨rfl, ?_⟩) hHeld ?_
    rotate_left
    · intro w' hS; obtain ⟨⟨s0, s1⟩, ⟨s2, s3⟩⟩ := hS; go_simp <;> with_reducible rfl
    simp only [Act.put, List.getElem_toArray, List.getElem_cons_succ, List.getElem_cons_zero, List.setIfInBounds_toArray, List.set_cons_succ, List.set_cons_zero]
    refine wpAnyH_take (i := 2) (v := ?_) rfl (by kernel_rfl) (by kernel_rfl) (by kernel_rfl) (fun _ _ _ h => h) (Or.inl ⟨rfl, ?_⟩) hHeld ?_
    rotate_left
    · intro w' hS; obtain ⟨⟨s0, s1⟩, ⟨s2, s3⟩⟩ := hS; go_simp <;> with_reducible rfl
    simp only [Act.put, List.getElem_toArray, List.getElem_cons_succ, List.getElem_cons_zero, List.setIfInBounds_toArray, List.set_cons_succ, List.set_cons_zero]
    refine wpAnyH_ready (rs := [1]) (by kernel_rfl) (by simp) (AllReadyH.cons rfl (fun K hK => ?_) AllReadyH.nil)
    go_simp
    refine (seOn_any A n c q xs _ (HAW.out.below ht) HX.out h1 hn hq8 HXS.out HPL.out).mono ?_
    rintro e9 wo ⟨G, cG, rfl, hG, hb⟩
    replace hq := hq.below hb
    replace hs := hs.below hb
    replace ht := below_then ht hb ht.size
    have hGh := hG.holds
    clear hG hb
    refine hK.out _ _ ⟨two_of hq, two_of hs⟩ (fun hHeld => ?_)
    clear hK K
    try simp only [Act.put, List.getElem_toArray, List.getElem_cons_succ, List.getElem_cons_zero, List.setIfInBounds_toArray, List.set_cons_succ, List.set_cons_zero]
    refine wpAnyH_ready (rs := [3]) (by kernel_rfl) (by simp) (AllReadyH.cons rfl (fun K hK => ?_) AllReadyH.nil)
    go_simp
    refine (seIndex_any B m d bs t _ (HBW.out.below ht) HY.out (by omega)).mono ?_
    rintro e9 woi ⟨rfl, hb⟩
    replace hGh := hGh.below hb
    replace hq := hq.below hb
    replace hs := hs.below hb
    replace ht := below_then ht hb ht.size
    clear hb
    refine hK.out _ _ ⟨two_of hq, two_of hs⟩ (fun hHeld => ?_)
    clear hK K
    try simp only [Act.put, List.getElem_toArray, List.getElem_cons_succ, List.getElem_cons_zero, List.setIfInBounds_toArray, List.set_cons_succ, List.set_cons_zero]
    refine wpAnyH_ready (rs := [4]) (by kernel_rfl) (by simp) (AllReadyH.cons rfl (fun K hK => ?_) AllReadyH.nil)
    go_simp
    refine (l1Has_any G (onTo xs n q (2 ^ (n + 1))).length cG (onTo xs n q (2 ^ (n + 1))) _ _ hGh rfl HLL.out).mono ?_
    rintro e9 woih ⟨rfl, rfl⟩
    rw [HHAS.out]
    refine hK.out _ _ ⟨two_of hq, two_of hs⟩ (fun hHeld => ?_)
    clear hK K
    try simp only [Act.put, List.getElem_toArray, List.getElem_cons_succ, List.getElem_cons_zero, List.setIfInBounds_toArray, List.set_cons_succ, List.set_cons_zero]
    refine wpAnyH_take (i := 5) (v := ?_) rfl (by kernel_rfl) (by kernel_rfl) (by kernel_rfl) (fun _ _ _ h => h) (Or.inl ⟨rfl, ?_⟩) hHeld ?_
    rotate_left
    · intro w' hS; obtain ⟨⟨s0, s1⟩, ⟨s2, s3⟩⟩ := hS; go_simp <;> with_reducible rfl
    simp only [Act.put, List.getElem_toArray, List.getElem_cons_succ, List.getElem_cons_zero, List.setIfInBounds_toArray, List.set_cons_succ, List.set_cons_zero]
    refine wpAnyH_take (i := 6) (v := ?_) rfl (by kernel_rfl) (by kernel_rfl) (by kernel_rfl) (fun _ _ _ h => h) (Or.inl ⟨rfl, ?_⟩) hHeld ?_
    rotate_left
    · intro w' hS; obtain ⟨⟨s0, s1⟩, ⟨s2, s3⟩⟩ := hS; go_simp <;> with_reducible rfl
    simp only [Act.put, List.getElem_toArray, List.getElem_cons_succ, List.getElem_cons_zero, List.setIfInBounds_toArray, List.set_cons_succ, List.set_cons_zero]
    refine wpAnyH_done (by kernel_rfl) ?_ _
    clear hHeld
    have HTT := Lib.hid ht
    clear ht hq hs hGh
    go_wp2
    go_ret2
    exact ⟨by rw [HV.out.1, HV.out.2]; rfl, HTT.out⟩
end Go.Proofs.Ytlpeimlbpiofkaa

namespace Go.Proofs.Ytlpeimlbpiofkaa
open Go.RowKit Go.Maps Go.WideShapes

set_option maxHeartbeats 6400000 in
set_option maxRecDepth 100000 in
set_option linter.unusedVariables false in
set_option linter.unusedSimpArgs false in
theorem implIsOn_any (A B : Option Addr) (n c m d : Nat) (xs : List Int) (bs : List Bool) (s : Int) (t : Bool) (w : World) (hA0 : Holds w A (nums xs)) (hB0 : Holds w B (bits bs)) (hx : xs.length = n) (hy : bs.length = m) (hn0 : n ≤ 9223372036854775807) (hm0 : m ≤ 9223372036854775807) :
    Calls Try.prog 31 #[.agg #[.slice A n c, .int .i64 s], .agg #[.slice B m d, .bool t]] w fun e w' => e = .returned (.tuple #[.bool (isOn xs bs s t), .bool (onOk xs bs s t)]) ∧ Below w.heap.size w w' := by
  have HAW := Lib.hid hA0
  have HX := Lib.hid hx
  have hpp := partyPlace_any A B n c m d xs bs s t _ ((hA0.alloc (.cells #[.slice A n c, .int .i64 s] 28)).alloc (.cells #[.slice B m d, .bool t] 44)) ((hB0.alloc (.cells #[.slice A n c, .int .i64 s] 28)).alloc (.cells #[.slice B m d, .bool t] 44)) hx hy hn0 hm0
  have HPP := Lib.hid hpp
  clear hpp
  cases ha : (isParty xs s && isState n bs t)
  · have HV : Hid (isOn xs bs s t = false ∧ onOk xs bs s t = false) := on_none (by rw [hx]; exact ha)
    have HT := Lib.hid (below2 w (.cells #[.slice A n c, .int .i64 s] 28) (.cells #[.slice B m d, .bool t] 44))
    have HAA := Lib.hid ha
    clear ha hA0 hB0 hx hy
    go_enter Try.func31, Try.ntmps31
    go_wp2_with fail
    refine HPP.out.mono ?_
    rintro e w1 ⟨h9, hb⟩
    obtain rfl : e = .returned (.tuple #[.agg (placeCells [] false), .bool false]) := by
      rcases h9 with ⟨h, -⟩ | ⟨-, h⟩
      · rw [HAA.out] at h; cases h
      · exact h
    have HT1 := Lib.hid (below_then HT.out hb HT.out.size)
    have HT2 := Lib.hid (HT1.out.alloc HT1.out.size (.cells #[.bool false, .bool false, .bool false, .bool false, .bool false, .bool false, .bool false, .bool false, .bool false] 75))
    clear hb h9
    rw [show placeCells [] false = #[.bool false, .bool false, .bool false, .bool false, .bool false, .bool false, .bool false, .bool false, .bool false] from rfl]
    go_wp2
    go_ret2
    exact ⟨by rw [HV.out.1, HV.out.2]; rfl, HT2.out⟩
  obtain ⟨hp, hs0⟩ := Bool.and_eq_true_iff.1 ha
  obtain ⟨q, rfl⟩ : ∃ q : Nat, s = (q : Int) := ⟨s.toNat, by simp only [isParty, Bool.and_eq_true, within_iff] at hp; omega⟩
  obtain ⟨h1, hn, gq1, hq8, gxs⟩ := party_parts hp
  rw [hx] at h1 hn
  have hyn : bs.length = n := of_decide_eq_true (Bool.and_eq_true_iff.1 hs0).1
  have HAA := Lib.hid ha
  have HPC : Hid (placeCells bs t = plcC 4 (codeOf bs t)) := place_code (by omega)
  have HXD := Lib.hid (code_mem (bs := bs) (t := t) (by omega))
  have hq := (Whole.fresh w 28 #[.slice A n c, .int .i64 (q : Int)]).alloc (.cells #[.slice B m d, .bool t] 44)
  have ht := below2 w (.cells #[.slice A n c, .int .i64 (q : Int)] 28) (.cells #[.slice B m d, .bool t] 44)
  obtain ⟨x, hxx⟩ : ∃ x, codeOf bs t = x := ⟨_, rfl⟩
  rw [hxx] at HPC HXD
  cases hpl : planOk xs n q
  · have HV : Hid (isOn xs bs (q : Int) t = false ∧ onOk xs bs (q : Int) t = false) := on_noplan hx ha hpl
    have HPN := Lib.hid (fun W hA => planned_no A n c q xs W hA hx hp hpl)
    clear ha hp hs0 gxs hA0 hB0 hx hy hyn hpl hxx
    go_enter Try.func31, Try.ntmps31
    go_wp2_with fail
    refine HPP.out.mono ?_
    rintro e w1 ⟨h9, hb⟩
    obtain rfl : e = .returned (.tuple #[.agg (plcC 4 x), .bool true]) := by
      rcases h9 with ⟨-, h⟩ | ⟨h, -⟩
      · rw [h, HPC.out]
      · rw [HAA.out] at h; cases h
    have ht1 := below_then ht hb ht.size
    have HT2 := Lib.hid (ht1.alloc ht1.size (.cells (plcC 4 x) 75))
    have hq2 := (hq.below hb).alloc (.cells (plcC 4 x) 75)
    obtain ⟨k0, k1⟩ := hq2.cells2
    have hql := hq2.lt
    clear hb h9 ht1 HPP hq ht
    unfold plcC place9 at HT2 k0 k1 hql hq2
    unfold plcC place9
    go_wp2_with fail
    refine (HPN.out _ (HAW.out.below HT2.out)).mono ?_
    rintro e w2 ⟨rfl, hb⟩
    have ht3 := below_then HT2.out hb HT2.out.size
    have HT4 := Lib.hid (ht3.alloc ht3.size (.cells #[.slice none 0 0, .bool false, .bool false, .bool false, .bool false, .bool false, .bool false, .bool false, .bool false, .bool false, .map none] 78))
    clear hb ht3 k0 k1 hql hq2
    unfold zero11
    go_upto_region 5 with fail
    go_wp2_with fail
    refine wp_region_held_drew (S := (fun _ => True)) (by kernel_rfl) trivial (fun hHeld => ?_)
    have HTT := Lib.hid HT4.out.drew
    refine wpAnyH_take (i := 0) (v := ?_) rfl (by kernel_rfl) (by kernel_rfl) (by kernel_rfl) (fun _ _ _ h => h) (Or.inl ⟨rfl, ?_⟩) hHeld ?_
    rotate_left
    · intro w' hS; skip; go_simp <;> with_reducible rfl
    simp only [Act.put, List.getElem_toArray, List.getElem_cons_succ, List.getElem_cons_zero, List.setIfInBounds_toArray, List.set_cons_succ, List.set_cons_zero]
    refine wpAnyH_take (i := 1) (v := ?_) rfl (by kernel_rfl) (by kernel_rfl) (by kernel_rfl) (fun _ _ _ h => h) (Or.inl ⟨rfl, ?_⟩) hHeld ?_
    rotate_left
    · intro w' hS; skip; go_simp <;> with_reducible rfl
    simp only [Act.put, List.getElem_toArray, List.getElem_cons_succ, List.getElem_cons_zero, List.setIfInBounds_toArray, List.set_cons_succ, List.set_cons_zero]
    refine wpAnyH_take (i := 2) (v := undef) rfl (by kernel_rfl) (by kernel_rfl) (by kernel_rfl) (fun _ _ _ h => h) (Or.inr ⟨by simp [Region.wanted, yielded], rfl⟩) hHeld ?_
    simp only [Act.put, List.getElem_toArray, List.getElem_cons_succ, List.getElem_cons_zero, List.setIfInBounds_toArray, List.set_cons_succ, List.set_cons_zero]
    refine wpAnyH_take (i := 3) (v := undef) rfl (by kernel_rfl) (by kernel_rfl) (by kernel_rfl) (fun _ _ _ h => h) (Or.inr ⟨by simp [Region.wanted, yielded], rfl⟩) hHeld ?_
    simp only [Act.put, List.getElem_toArray, List.getElem_cons_succ, List.getElem_cons_zero, List.setIfInBounds_toArray, List.set_cons_succ, List.set_cons_zero]
    refine wpAnyH_take (i := 4) (v := undef) rfl (by kernel_rfl) (by kernel_rfl) (by kernel_rfl) (fun _ _ _ h => h) (Or.inr ⟨by simp [Region.wanted, yielded], rfl⟩) hHeld ?_
    simp only [Act.put, List.getElem_toArray, List.getElem_cons_succ, List.getElem_cons_zero, List.setIfInBounds_toArray, List.set_cons_succ, List.set_cons_zero]
    refine wpAnyH_take (i := 5) (v := undef) rfl (by kernel_rfl) (by kernel_rfl) (by kernel_rfl) (fun _ _ _ h => h) (Or.inr ⟨by simp [Region.wanted, yielded], rfl⟩) hHeld ?_
    simp only [Act.put, List.getElem_toArray, List.getElem_cons_succ, List.getElem_cons_zero, List.setIfInBounds_toArray, List.set_cons_succ, List.set_cons_zero]
    refine wpAnyH_take (i := 6) (v := ?_) rfl (by kernel_rfl) (by kernel_rfl) (by kernel_rfl) (fun _ _ _ h => h) (Or.inl ⟨rfl, ?_⟩) hHeld ?_
    rotate_left
    · intro w' hS; skip; go_simp <;> with_reducible rfl
    simp only [Act.put, List.getElem_toArray, List.getElem_cons_succ, List.getElem_cons_zero, List.setIfInBounds_toArray, List.set_cons_succ, List.set_cons_zero]
    refine wpAnyH_take (i := 7) (v := ?_) rfl (by kernel_rfl) (by kernel_rfl) (by kernel_rfl) (fun _ _ _ h => h) (Or.inl ⟨rfl, ?_⟩) hHeld ?_
    rotate_left
    · intro w' hS; skip; go_simp <;> with_reducible rfl
    simp only [Act.put, List.getElem_toArray, List.getElem_cons_succ, List.getElem_cons_zero, List.setIfInBounds_toArray, List.set_cons_succ, List.set_cons_zero]
    refine wpAnyH_take (i := 8) (v := ?_) rfl (by kernel_rfl) (by kernel_rfl) (by kernel_rfl) (fun _ _ _ h => h) (Or.inl ⟨rfl, ?_⟩) hHeld ?_
    rotate_left
    · intro w' hS; skip; go_simp <;> with_reducible rfl
    simp only [Act.put, List.getElem_toArray, List.getElem_cons_succ, List.getElem_cons_zero, List.setIfInBounds_toArray, List.set_cons_succ, List.set_cons_zero]
    refine wpAnyH_take (i := 9) (v := ?_) rfl (by kernel_rfl) (by kernel_rfl) (by kernel_rfl) (fun _ _ _ h => h) (Or.inl ⟨rfl, ?_⟩) hHeld ?_
    rotate_left
    · intro w' hS; skip; go_simp <;> with_reducible rfl
    simp only [Act.put, List.getElem_toArray, List.getElem_cons_succ, List.getElem_cons_zero, List.setIfInBounds_toArray, List.set_cons_succ, List.set_cons_zero]
    refine wpAnyH_done (by kernel_rfl) ?_ _
    clear hHeld
    go_wp2
    go_ret2
    exact ⟨by rw [HV.out.1, HV.out.2]; rfl, HTT.out⟩
  · have HV : Hid (isOn xs bs (q : Int) t = onB (partyD xs n q 0) (leftM xs n q) x ∧ onOk xs bs (q : Int) t = true) := by rw [← hxx]; exact on_plan hx ha hpl
    have HPN := Lib.hid (fun W hA => planned_yes A n c q xs W hA hx hp hpl)
    have HLO := Lib.hid (left_ok (q := q) hx hn gxs)
    have HFO := Lib.hid (first_ok (q := q) hx hn gxs)
    have HUL := Lib.hid (upLists_small (n := n) (m := q) hn)
    clear ha hp hs0 gxs hA0 hB0 hx hy hyn hpl hxx
    obtain ⟨N, hN⟩ : ∃ N, onB (partyD xs n q 0) (leftM xs n q) = N := ⟨_, rfl⟩
    rw [hN] at HV
    obtain ⟨nx, hnx⟩ : ∃ b, N x = b := ⟨_, rfl⟩
    rw [hnx] at HV
    have HNX := Lib.hid hnx
    clear hnx
    go_enter Try.func31, Try.ntmps31
    go_wp2_with fail
    refine HPP.out.mono ?_
    rintro e w1 ⟨h9, hb⟩
    obtain rfl : e = .returned (.tuple #[.agg (plcC 4 x), .bool true]) := by
      rcases h9 with ⟨-, h⟩ | ⟨h, -⟩
      · rw [h, HPC.out]
      · rw [HAA.out] at h; cases h
    have ht1 := below_then ht hb ht.size
    have HT2 := Lib.hid (ht1.alloc ht1.size (.cells (plcC 4 x) 75))
    have HP2 := Lib.hid (Whole.fresh w1 75 (plcC 4 x))
    have hq2 := (hq.below hb).alloc (.cells (plcC 4 x) 75)
    obtain ⟨k0, k1⟩ := hq2.cells2
    have hql := hq2.lt
    clear hb h9 ht1 HPP hq ht
    unfold plcC place9 at HT2 HP2 k0 k1 hql hq2
    unfold plcC place9
    go_wp2_with fail
    refine (HPN.out _ (HAW.out.below HT2.out)).mono ?_
    rintro e w2 ⟨E, cE, mb, rfl, hown, hmap, hb⟩
    have ht3 := below_then HT2.out hb HT2.out.size
    have hp3 := HP2.out.below hb
    have HOB : Hid (∀ W, PlaceMap W mb (leftM xs n q) → W.ownsRow (w1.alloc (.cells #[.bool (pf 4 x 0), .bool (pf 4 x 1), .bool (pf 4 x 2), .bool (pf 4 x 3), .bool (pf 4 x 4), .bool (pf 4 x 5), .bool (pf 4 x 6), .bool (pf 4 x 7), .bool (pt x)] 75)).heap.size 89 9 (.slice E (upLists n q).length cE) (upLists n q).length (legsCells (slowOf xs) (upLists n q)) → Calls Try.prog 80 #[.agg (routeC E (upLists n q).length cE (codeOf (trues n) true) mb)] W (OnPost N W)) := fun W h1 h2 => by
      have h := onBest_any (slowOf xs) _ E cE (upLists n q) (codeOf (trues n) true) mb (leftM xs n q) W h2 HUL.out h1 HLO.out HFO.out
      rw [show leastD (LegE (slowOf xs) 4 (upLists n q)) 0 = partyD xs n q 0 from rfl, hN] at h
      exact h
    have hm3 : PlaceMap w2 mb (leftM xs n q) := hmap
    clear hb hmap k0 k1 hql hq2 hN
    generalize legsCells (slowOf xs) (upLists n q) = lcs at hown HOB
    generalize leftM xs n q = M at HOB hm3
    obtain ⟨y, hy⟩ : ∃ y, codeOf (trues n) true = y := ⟨_, rfl⟩
    obtain ⟨k, hk⟩ : ∃ k, (upLists n q).length = k := ⟨_, rfl⟩
    rw [hy] at HOB ⊢
    rw [hk] at HOB hown ⊢
    clear hy hk
    have hr4 := Whole.fresh w2 78 (routeC E k cE y mb)
    have ht4 := ht3.alloc ht3.size (.cells (routeC E k cE y mb) 78)
    have hp4 := hp3.alloc (.cells (routeC E k cE y mb) 78)
    have hm4 := hm3.alloc (.cells (routeC E k cE y mb) 78)
    have ho4 := hown.alloc (.cells (routeC E k cE y mb) 78)
    clear ht3 hp3 hm3 hown
    unfold routeC at hr4 ht4 hp4 hm4 ho4 HOB
    unfold routeC
    go_upto_region 5 with fail
    generalize w2.alloc (.cells #[.slice E k cE, .bool (pf 4 y 0), .bool (pf 4 y 1), .bool (pf 4 y 2), .bool (pf 4 y 3), .bool (pf 4 y 4), .bool (pf 4 y 5), .bool (pf 4 y 6), .bool (pf 4 y 7), .bool (pt y), .map (some mb)] 78) = w4 at hr4 ht4 hp4 hm4 ho4 ⊢
    have hr := hr4
    have hp := hp4
    have ht := ht4
    have hm := hm4
    have ho := ho4
    clear hr4 hp4 ht4 hm4 ho4
    go_wp2_with fail
    refine wp_region_held_drew (S := (fun w' => Whole w' w2.heap.size 78 #[.slice E k cE, .bool (pf 4 y 0), .bool (pf 4 y 1), .bool (pf 4 y 2), .bool (pf 4 y 3), .bool (pf 4 y 4), .bool (pf 4 y 5), .bool (pf 4 y 6), .bool (pf 4 y 7), .bool (pt y), .map (some mb)] ∧ Nine0 w1.heap.size 4 x w')) (by kernel_rfl) ⟨hr.drew, nine0_of hp.drew⟩ (fun hHeld => ?_)
    replace hr := hr.drew
    replace hp := hp.drew
    replace ht := ht.drew
    replace hm := hm.below (Below.refl w4.heap.size w4).drew
    replace ho := ownsRow_below ho (Below.refl w4.heap.size w4).drew
    generalize World.drew w4 = wd at hr hp ht hm ho hHeld ⊢
    refine wpAnyH_take (i := 0) (v := ?_) rfl (by kernel_rfl) (by kernel_rfl) (by kernel_rfl) (fun _ _ _ h => h) (Or.inl ⟨rfl, ?_⟩) hHeld ?_
    rotate_left
    · intro w' hS; obtain ⟨hW, s0, s1, s2, s3, s4, s5, s6, s7, s8⟩ := hS; go_simp <;> with_reducible rfl
    simp only [Act.put, List.getElem_toArray, List.getElem_cons_succ, List.getElem_cons_zero, List.setIfInBounds_toArray, List.set_cons_succ, List.set_cons_zero]
    refine wpAnyH_take (i := 1) (v := ?_) rfl (by kernel_rfl) (by kernel_rfl) (by kernel_rfl) (fun _ _ _ h => h) (Or.inl ⟨rfl, ?_⟩) hHeld ?_
    rotate_left
    · intro w' hS; obtain ⟨hW, s0, s1, s2, s3, s4, s5, s6, s7, s8⟩ := hS; go_simp <;> with_reducible rfl
    simp only [Act.put, List.getElem_toArray, List.getElem_cons_succ, List.getElem_cons_zero, List.setIfInBounds_toArray, List.set_cons_succ, List.set_cons_zero]
    refine wpAnyH_take (i := 2) (v := .agg #[.slice E k cE, .bool (pf 4 y 0), .bool (pf 4 y 1), .bool (pf 4 y 2), .bool (pf 4 y 3), .bool (pf 4 y 4), .bool (pf 4 y 5), .bool (pf 4 y 6), .bool (pf 4 y 7), .bool (pt y), .map (some mb)]) rfl (by kernel_rfl) (by kernel_rfl) (by kernel_rfl) (fun _ _ _ h => h) (yields_route rfl _ rfl rfl (fun _ h => h.1)) hHeld ?_
    simp only [Act.put, List.getElem_toArray, List.getElem_cons_succ, List.getElem_cons_zero, List.setIfInBounds_toArray, List.set_cons_succ, List.set_cons_zero]
    refine wpAnyH_take (i := 4) (v := ?_) rfl (by kernel_rfl) (by kernel_rfl) (by kernel_rfl) (fun _ _ _ h => h) (Or.inl ⟨rfl, ?_⟩) hHeld ?_
    rotate_left
    · intro w' hS; obtain ⟨hW, s0, s1, s2, s3, s4, s5, s6, s7, s8⟩ := hS; go_simp <;> with_reducible rfl
    simp only [Act.put, List.getElem_toArray, List.getElem_cons_succ, List.getElem_cons_zero, List.setIfInBounds_toArray, List.set_cons_succ, List.set_cons_zero]
    refine wpAnyH_take (i := 7) (v := ?_) rfl (by kernel_rfl) (by kernel_rfl) (by kernel_rfl) (fun _ _ _ h => h) (Or.inl ⟨rfl, ?_⟩) hHeld ?_
    rotate_left
    · intro w' hS; obtain ⟨hW, s0, s1, s2, s3, s4, s5, s6, s7, s8⟩ := hS; go_simp <;> with_reducible rfl
    simp only [Act.put, List.getElem_toArray, List.getElem_cons_succ, List.getElem_cons_zero, List.setIfInBounds_toArray, List.set_cons_succ, List.set_cons_zero]
    refine wpAnyH_ready (rs := [3]) (by kernel_rfl) (by simp) (AllReadyH.cons rfl (fun K hK => ?_) AllReadyH.nil)
    go_simp
    refine (HOB.out _ hm ho).mono ?_
    rintro e9 wb ⟨bb, rfl, hset, hb⟩
    replace hr := hr.below hb
    replace hp := hp.below hb
    replace ht := below_then ht hb ht.size
    clear hb
    refine hK.out _ _ ⟨hr, nine0_of hp⟩ (fun hHeld => ?_)
    clear hK K
    try simp only [Act.put, List.getElem_toArray, List.getElem_cons_succ, List.getElem_cons_zero, List.setIfInBounds_toArray, List.set_cons_succ, List.set_cons_zero]
    refine wpAnyH_ready (rs := [5]) (by kernel_rfl) (by simp) (AllReadyH.cons rfl (fun K hK => ?_) AllReadyH.nil)
    have hlk := SetIs.look hset (place_keys (by omega)) Try.underlying99 Try.underlying4 (bzero _) x HXD.out
    rw [HNX.out] at hlk
    unfold plc plcC place9 at hlk
    go_simp
    clear hlk
    refine hK.out _ _ ⟨hr, nine0_of hp⟩ (fun hHeld => ?_)
    clear hK K
    try simp only [Act.put, List.getElem_toArray, List.getElem_cons_succ, List.getElem_cons_zero, List.setIfInBounds_toArray, List.set_cons_succ, List.set_cons_zero]
    refine wpAnyH_take (i := 6) (v := ?_) rfl (by kernel_rfl) (by kernel_rfl) (by kernel_rfl) (fun _ _ _ h => h) (Or.inl ⟨rfl, ?_⟩) hHeld ?_
    rotate_left
    · intro w' hS; obtain ⟨hW, s0, s1, s2, s3, s4, s5, s6, s7, s8⟩ := hS; go_simp <;> with_reducible rfl
    simp only [Act.put, List.getElem_toArray, List.getElem_cons_succ, List.getElem_cons_zero, List.setIfInBounds_toArray, List.set_cons_succ, List.set_cons_zero]
    refine wpAnyH_take (i := 8) (v := ?_) rfl (by kernel_rfl) (by kernel_rfl) (by kernel_rfl) (fun _ _ _ h => h) (Or.inl ⟨rfl, ?_⟩) hHeld ?_
    rotate_left
    · intro w' hS; obtain ⟨hW, s0, s1, s2, s3, s4, s5, s6, s7, s8⟩ := hS; go_simp <;> with_reducible rfl
    simp only [Act.put, List.getElem_toArray, List.getElem_cons_succ, List.getElem_cons_zero, List.setIfInBounds_toArray, List.set_cons_succ, List.set_cons_zero]
    refine wpAnyH_take (i := 9) (v := ?_) rfl (by kernel_rfl) (by kernel_rfl) (by kernel_rfl) (fun _ _ _ h => h) (Or.inl ⟨rfl, ?_⟩) hHeld ?_
    rotate_left
    · intro w' hS; obtain ⟨hW, s0, s1, s2, s3, s4, s5, s6, s7, s8⟩ := hS; go_simp <;> with_reducible rfl
    simp only [Act.put, List.getElem_toArray, List.getElem_cons_succ, List.getElem_cons_zero, List.setIfInBounds_toArray, List.set_cons_succ, List.set_cons_zero]
    refine wpAnyH_done (by kernel_rfl) ?_ _
    clear hHeld
    have HTT := Lib.hid ht
    clear ht hr hp hset hm ho
    go_wp2
    go_ret2
    exact ⟨by rw [HV.out.1, HV.out.2]; rfl, HTT.out⟩
end Go.Proofs.Ytlpeimlbpiofkaa
