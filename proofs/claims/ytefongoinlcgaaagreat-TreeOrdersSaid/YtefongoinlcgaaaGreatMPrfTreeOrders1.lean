/- What the proof of PrfTreeOrders rests on, part 1 of 4. -/
import Derived.Lib.Bytealg
import Derived.Test.YtefongoinlcgaaaGreatMPrfTreeChecks11
/- the order of heads: strings, kinds, attributes, numbers. -/
namespace Go.Proofs.YtefongoinlcgaaaGreat
open Go.RowKit

/-- how two strings compare. -/
def strL (a b : List UInt8) : Int := Lib.compareBytes a b
def attrL (a b : List UInt8 × List UInt8) : Int := if strL a.1 b.1 ≠ 0 then strL a.1 b.1 else strL a.2 b.2
def atsL : List (List UInt8 × List UInt8) → List (List UInt8 × List UInt8) → Int
  | [], [] => 0
  | [], _ :: _ => -1
  | _ :: _, [] => 1
  | a :: r, b :: s => if attrL a b ≠ 0 then attrL a b else atsL r s
def headP5 (h i : Hd) : List Int := [cmpM h.k i.k, strL h.l i.l, atsL h.ats i.ats, (cmpT h.n h.d i.n i.d).1, strL h.x i.x]
def headL (h i : Hd) : Int := firstNZ (headP5 h i)

set_option maxRecDepth 100000 in
set_option maxHeartbeats 1000000 in
theorem cmpString_any (a b : List UInt8) (w : World) : Calls Tryz.prog 160 #[.string ⟨a.toArray⟩, .string ⟨b.toArray⟩] w fun e w' => e = .returned (.int .i64 (strL a b)) ∧ w = w' := by
  go_enter Tryz.func160, Tryz.ntmps160
  go_wp2
  rw [run_callFunc_extern Tryz.func176 (by kernel_rfl) (by kernel_rfl) (by kernel_rfl) (e := Extern.BytealgCompare.compare) (by kernel_rfl), Lib.run_compareString]
  simp only [Result.andThen]
  rw [Oper.upon_value]
  go_wp2
  go_ret
  exact ⟨rfl, rfl⟩
set_option maxHeartbeats 1000000 in
theorem strCompare_any (a b : List UInt8) (w : World) : Calls Tryz.prog 133 #[.string ⟨a.toArray⟩, .string ⟨b.toArray⟩] w fun e w' => e = .returned (.int .i64 (strL a b)) ∧ w = w' := by
  go_enter Tryz.func133, Tryz.ntmps133
  go_wp2_with (go_at_call 160; refine (cmpString_any _ _ _).mono ?_; rintro e w1 ⟨rfl, rfl⟩)
  go_ret
  exact ⟨rfl, rfl⟩
set_option maxHeartbeats 400000 in
theorem isNaNKind_any (n : Int) (w : World) : Calls Tryz.prog 159 #[.int .i64 n] w fun e w' => e = .returned (.bool false) ∧ w = w' := by
  go_enter Tryz.func159, Tryz.ntmps159
  go_wp2
  go_ret
  exact ⟨rfl, rfl⟩
set_option maxHeartbeats 400000 in
theorem cmpKind_any (a b : Int) (w : World) : Calls Tryz.prog 131 #[.int .i64 a, .int .i64 b] w fun e w' => e = .returned (.int .i64 (cmpM a b)) ∧ w = w' := by
  unfold cmpM
  by_cases h1 : a < b
  · rw [if_pos h1]
    go_enter Tryz.func131, Tryz.ntmps131
    go_wp2_with (go_at_call 159; refine (isNaNKind_any _ _).mono ?_; rintro e w1 ⟨rfl, rfl⟩)
    go_ret
    exact ⟨rfl, rfl⟩
  · rw [if_neg h1]
    by_cases h2 : b < a
    · rw [if_pos h2]
      go_enter Tryz.func131, Tryz.ntmps131
      go_wp2_with (go_at_call 159; refine (isNaNKind_any _ _).mono ?_; rintro e w1 ⟨rfl, rfl⟩)
      go_ret
      exact ⟨rfl, rfl⟩
    · rw [if_neg h2]
      go_enter Tryz.func131, Tryz.ntmps131
      go_wp2_with (go_at_call 159; refine (isNaNKind_any _ _).mono ?_; rintro e w1 ⟨rfl, rfl⟩)
      go_ret
      exact ⟨rfl, rfl⟩
set_option maxHeartbeats 1000000 in
theorem orInt_any (v : Value) (l : List Int) (w : World) (h : IntsLie w v l) (hl : l.length ≤ 1000000) :
    Calls Tryz.prog 161 #[v] w fun e w' => e = .returned (.int .i64 (firstNZ l)) ∧ w = w' := by
  obtain ⟨a, cap, rfl⟩ := ints_form h
  have H := Lib.hid h
  clear h
  go_enter Tryz.func161, Tryz.ntmps161
  go_wp2_with fail
  go_loop [8] (fun i => ∃ k : Nat, i = .int .i64 k ∧ k ≤ l.length ∧ firstNZ l = firstNZ (l.drop k)) (fun i => l.length - (intOf i).toNat)
  case atStart => exact ⟨0, rfl, Nat.zero_le _, rfl⟩
  case round =>
    obtain ⟨k, rfl, hk, he⟩ := hrel
    have HE := Lib.hid he
    clear he
    by_cases hlt : k < l.length
    · obtain ⟨b, off, cap', hs, hcap, hb, hc⟩ := ints_cells H.out (by intro e; subst e; simp at hlt)
      simp only [Value.slice.injEq] at hs
      obtain ⟨rfl, -, rfl⟩ := hs
      have c := hc k hlt
      have HS := Lib.hid (HE.out.trans (firstNZ_drop hlt))
      clear hc
      generalize l.getD k 0 = x at *
      by_cases hx : x = 0
      · have HX := Lib.hid (HS.out.trans (if_neg (by simpa using hx)))
        have b0 : (x != 0) = false := by simpa using hx
        clear hx
        go_wp2_with fail
        go_round
        case rel => exact ⟨k + 1, by go_num, by omega, HX.out⟩
        case measure => simp [intOf]; omega
      · have HX := Lib.hid (HS.out.trans (if_pos (by simpa using hx)))
        have b0 : (x != 0) = true := by simpa using hx
        clear hx
        go_wp2_with fail
        go_ret
        exact ⟨ret_int' HX.out.symm, rfl⟩
    · have HX := Lib.hid (show firstNZ l = 0 from HE.out.trans (by rw [List.drop_of_length_le (by omega)]; rfl))
      go_wp2_with fail
      go_ret
      exact ⟨ret_int' HX.out.symm, rfl⟩

theorem firstNZ_two (a b : Int) : firstNZ [a, b] = if a ≠ 0 then a else b := by
  unfold firstNZ firstNZ firstNZ
  split
  · rfl
  · split <;> simp_all

set_option maxRecDepth 100000 in
set_option maxHeartbeats 2000000 in
theorem compareAttrs_any (a b : List UInt8 × List UInt8) (w : World) :
    Calls Tryz.prog 136 #[.agg #[.string ⟨a.1.toArray⟩, .string ⟨a.2.toArray⟩], .agg #[.string ⟨b.1.toArray⟩, .string ⟨b.2.toArray⟩]] w fun e w' => e = .returned (.int .i64 (attrL a b)) ∧ Below w.heap.size w w' := by
  obtain ⟨a1, a2⟩ := a
  obtain ⟨b1, b2⟩ := b
  have HV := Lib.hid (show attrL (a1, a2) (b1, b2) = firstNZ [strL a1 b1, strL a2 b2] from (firstNZ_two _ _).symm)
  simp only
  rw [HV.out]
  clear HV
  go_enter Tryz.func136, Tryz.ntmps136
  go_wp2_with fail
  have k0 : ((w.alloc (.cells #[.string ⟨a1.toArray⟩, .string ⟨a2.toArray⟩] 81)).alloc (.cells #[.string ⟨b1.toArray⟩, .string ⟨b2.toArray⟩] 81)).heap[w.heap.size]? = _ := (Below.heap_alloc _ _ _ (by simp)).trans (World.alloc_heap_new w _)
  have k1 := World.alloc_heap_new (w.alloc (.cells #[.string ⟨a1.toArray⟩, .string ⟨a2.toArray⟩] 81)) (.cells #[.string ⟨b1.toArray⟩, .string ⟨b2.toArray⟩] 81)
  rw [show (w.alloc (.cells #[.string ⟨a1.toArray⟩, .string ⟨a2.toArray⟩] 81)).heap.size = w.heap.size + 1 by simp] at k1
  have B0 : Below w.heap.size w ((w.alloc (.cells #[.string ⟨a1.toArray⟩, .string ⟨a2.toArray⟩] 81)).alloc (.cells #[.string ⟨b1.toArray⟩, .string ⟨b2.toArray⟩] 81)) := by ((repeat' (first | exact Below.refl _ _ | assumption | refine Below.setCell ?_ ?_ _ | refine bdrewN ?_ _ | refine Below.drew ?_ | refine Below.alloc ?_ ?_ _ | refine bbehind ?_ (by assumption) ?_)); all_goals first | (simp; done) | (simp; omega) | omega)
  have hs0 : w.heap.size + 2 ≤ ((w.alloc (.cells #[.string ⟨a1.toArray⟩, .string ⟨a2.toArray⟩] 81)).alloc (.cells #[.string ⟨b1.toArray⟩, .string ⟨b2.toArray⟩] 81)).heap.size := by simp
  generalize (w.alloc (.cells #[.string ⟨a1.toArray⟩, .string ⟨a2.toArray⟩] 81)).alloc (.cells #[.string ⟨b1.toArray⟩, .string ⟨b2.toArray⟩] 81) = W at *
  have d0 : W.cell? ⟨w.heap.size, 0, none⟩ = some (.string ⟨a1.toArray⟩) := cell_of_block k0 rfl
  have d1 : W.cell? ⟨w.heap.size, 1, none⟩ = some (.string ⟨a2.toArray⟩) := cell_of_block k0 rfl
  have d2 : W.cell? ⟨w.heap.size + 1, 0, none⟩ = some (.string ⟨b1.toArray⟩) := cell_of_block k1 rfl
  have d3 : W.cell? ⟨w.heap.size + 1, 1, none⟩ = some (.string ⟨b2.toArray⟩) := cell_of_block k1 rfl
  have n0 : w.heap.size < W.heap.size := by omega
  have n1 : w.heap.size + 1 < W.heap.size := by omega
  clear k0 k1
  refine wp_region_quiet_tail (fun w' => ∃ x : Lower W, w' = x.val) 10 (by kernel_rfl) (by kernel_rfl) ⟨⟨_, (Below.refl _ _).drew⟩, rfl⟩ ?_
  simp only [List.take_succ_cons, List.take_zero, List.drop_succ_cons, List.drop_zero]
  repeat (go_big_quiet_step ((go_at_call 133; exact calls_lower_same _ (strCompare_any _ _ _))))
  refine wpQuiet_nil ?_
  intro w1 hx1
  obtain ⟨x1, hx1⟩ := hx1
  have hb1 := x1.prop
  rw [← hx1] at hb1
  clear hx1 x1 d0 d1 d2 d3
  have B1 := B0.trans (hb1.mono (by omega))
  go_wp2_with fail
  have B2 : Below w.heap.size w (w1.alloc (.cells #[.int .i64 (strL a1 b1), .int .i64 (strL a2 b2)] 3)) := B1.alloc B1.size _
  have hi := ints_pair (World.alloc_heap_new w1 (.cells #[.int .i64 (strL a1 b1), .int .i64 (strL a2 b2)] 3)) (by simp)
  generalize w1.alloc (.cells #[.int .i64 (strL a1 b1), .int .i64 (strL a2 b2)] 3) = W2 at *
  refine (orInt_any _ _ _ hi (by simp)).mono ?_
  rintro e w3 ⟨rfl, rfl⟩
  go_wp2_with fail
  go_ret
  exact ⟨rfl, B2⟩
end Go.Proofs.YtefongoinlcgaaaGreat

/- Numbers in lowest terms: plain mathematics on what the contracts say. -/
namespace Go.Proofs.YtefongoinlcgaaaGreat

theorem cop_of_chk {n d : Int} (h : chk n d = 0) : Int.gcd n d = 1 := by
  have := gcd_of_chk h; unfold gcdM at this; omega
theorem chk_of {n d : Int} (f : Fit n d) (h : Int.gcd n d = 1) : chk n d = 0 := by
  rw [chk_in (by have := f.nlo; have := f.nhi; have := f.dlo; have := f.dhi; omega), if_neg (by unfold gcdM; omega)]

theorem dvd_cop {x y d : Int} (h : Int.gcd x y = 1) (hd : y ∣ x * d) : y ∣ d := by
  rw [← Int.natAbs_dvd_natAbs] at hd ⊢
  rw [Int.natAbs_mul] at hd
  refine Nat.Coprime.dvd_of_dvd_mul_left ?_ hd
  rw [Nat.coprime_comm]; exact h

/-- one number has one form in lowest terms. -/
theorem form_one {n d x y : Int} (hd : 0 < d) (hy : 0 < y) (h1 : Int.gcd n d = 1) (h2 : Int.gcd x y = 1) (h : n * y = x * d) : n = x ∧ d = y := by
  have a1 : y ∣ d := dvd_cop h2 ⟨n, by rw [← h, Int.mul_comm]⟩
  have a2 : d ∣ y := dvd_cop h1 ⟨x, by rw [h, Int.mul_comm]⟩
  have e := Int.dvd_antisymm (by omega) (by omega) a1 a2
  subst e
  exact ⟨Int.eq_of_mul_eq_mul_right (by omega) h, rfl⟩

theorem low_fac {n d : Int} (hd : 0 < d) : lowN n d * gcdM n d = n ∧ lowD n d * gcdM n d = d ∧ 0 < lowD n d ∧ Int.gcd (lowN n d) (lowD n d) = 1 := by
  have hg := gcdM_pos n d (by omega)
  have h1 : (gcdM n d) ∣ n := Int.gcd_dvd_left ..
  have h2 : (gcdM n d) ∣ d := Int.gcd_dvd_right ..
  rw [lowN_pos (by omega), lowD_pos (by omega)]
  have e1 : n.tdiv (gcdM n d) * gcdM n d = n := Int.tdiv_mul_cancel h1
  have e2 : d.tdiv (gcdM n d) * gcdM n d = d := Int.tdiv_mul_cancel h2
  refine ⟨e1, e2, ?_, ?_⟩
  · refine Int.pos_of_mul_pos_left (b := gcdM n d) ?_ (by omega)
    omega
  · have h3 := Int.gcd_ediv_gcd_ediv_gcd (i := n) (j := d) (by unfold gcdM at hg; omega)
    have e3 : n / (Int.gcd n d : Int) = n.tdiv (gcdM n d) := by
      refine Int.eq_of_mul_eq_mul_right (a := gcdM n d) (by omega) ?_
      rw [e1]; exact Int.ediv_mul_cancel h1
    have e4 : d / (Int.gcd n d : Int) = d.tdiv (gcdM n d) := by
      refine Int.eq_of_mul_eq_mul_right (a := gcdM n d) (by omega) ?_
      rw [e2]; exact Int.ediv_mul_cancel h2
    rw [e3, e4] at h3; exact h3

theorem low_turn {n d : Int} (h : ¬ d = 0) : lowT (-n) (-d) = lowT n d := by
  have eg : gcdM (-n) (-d) = gcdM n d := by unfold gcdM; simp
  have e1 : lowN (-n) (-d) = lowN n d := by
    unfold lowN; rw [eg]
    by_cases h1 : d < 0
    · rw [if_pos h1, if_neg (by omega)]
    · rw [if_neg h1, if_pos (by omega), Int.neg_neg]
  have e2 : lowD (-n) (-d) = lowD n d := by unfold lowD; rw [eg, Int.natAbs_neg]
  unfold lowT lowOk; rw [e1, e2]

theorem low_eq_pos {n d x y : Int} (hd : 0 < d) (hc : chk x y = 0) (h : n * y = x * d) : lowT n d = (x, y, 0) := by
  obtain ⟨f1, f2, f3, f4⟩ := low_fac (n := n) hd
  have hg := gcdM_pos n d (by omega)
  have f := fit_of_chk hc
  have k : lowN n d * y = x * lowD n d := by
    refine Int.eq_of_mul_eq_mul_right (a := gcdM n d) (by omega) ?_
    grind
  obtain ⟨k1, k2⟩ := form_one f3 (by have := f.dlo; omega) f4 (cop_of_chk hc) k
  have := f.nlo; have := f.nhi; have := f.dhi
  exact (lowT_of k1.symm k2.symm (by omega) (by omega) (by omega)).symm

/-- what equals a valid number is that number in lowest terms. -/
theorem low_eq {n d x y : Int} (hd : ¬ d = 0) (hc : chk x y = 0) (h : n * y = x * d) : lowT n d = (x, y, 0) := by
  by_cases h0 : 0 < d
  · exact low_eq_pos h0 hc h
  · rw [← low_turn hd]
    exact low_eq_pos (by omega) hc (by rw [Int.neg_mul, h, Int.mul_neg])

theorem low_is_pos {n d : Int} (hd : 0 < d) : (∃ x y, lowT n d = (x, y, 0) ∧ chk x y = 0 ∧ n * y = x * d) ∨ (lowT n d = (0, 0, 8) ∧ ∀ x y, chk x y = 0 → ¬ n * y = x * d) := by
  obtain ⟨f1, f2, f3, f4⟩ := low_fac (n := n) hd
  by_cases h : lowOk n d = true
  · have h' : -1000000000 ≤ lowN n d ∧ lowN n d ≤ 1000000000 ∧ lowD n d ≤ 1000000000 := of_decide_eq_true h
    refine .inl ⟨_, _, lowT_yes h, chk_of ⟨h'.1, h'.2.1, by omega, h'.2.2⟩ f4, ?_⟩
    generalize lowN n d = u at *
    generalize lowD n d = v at *
    generalize gcdM n d = g at *
    subst f1 f2
    grind
  · refine .inr ⟨lowT_not h, fun x y hc hxy => h ?_⟩
    have e := low_eq_pos hd hc hxy
    rw [lowT_not h] at e
    simp at e

theorem low_is {n d : Int} (hd : ¬ d = 0) : (∃ x y, lowT n d = (x, y, 0) ∧ chk x y = 0 ∧ n * y = x * d) ∨ (lowT n d = (0, 0, 8) ∧ ∀ x y, chk x y = 0 → ¬ n * y = x * d) := by
  by_cases h0 : 0 < d
  · exact low_is_pos h0
  · have := low_is_pos (n := -n) (d := -d) (by omega)
    rw [low_turn hd] at this
    rcases this with ⟨x, y, h1, h2, h3⟩ | ⟨h1, h2⟩
    · exact .inl ⟨x, y, h1, h2, by rw [Int.neg_mul, Int.mul_neg] at h3; omega⟩
    · exact .inr ⟨h1, fun x y hc hxy => h2 x y hc (by rw [Int.neg_mul, Int.mul_neg, hxy])⟩

theorem low_congr {n d m e : Int} (hd : ¬ d = 0) (he : ¬ e = 0) (h : n * e = m * d) : lowT n d = lowT m e := by
  rcases low_is (n := m) he with ⟨x, y, h1, h2, h3⟩ | ⟨h1, h2⟩
  · rw [h1]
    refine low_eq hd h2 ?_
    refine Int.eq_of_mul_eq_mul_right (a := e) he ?_
    have : n * e * y = m * d * y := by rw [h]
    have : m * y * d = x * e * d := by rw [h3]
    grind
  · rcases low_is (n := n) hd with ⟨x, y, k1, k2, k3⟩ | ⟨k1, k2⟩
    · exfalso
      refine h2 x y k2 ?_
      refine Int.eq_of_mul_eq_mul_right (a := d) hd ?_
      have : n * e * y = m * d * y := by rw [h]
      have : n * y * e = x * d * e := by rw [k3]
      grind
    · rw [h1, k1]

end Go.Proofs.YtefongoinlcgaaaGreat

/- Sums and products: plain mathematics. -/
namespace Go.Proofs.YtefongoinlcgaaaGreat

theorem den_pos {n d : Int} (h : chk n d = 0) : 0 < d := by have := (fit_of_chk h).dlo; omega
theorem den_ne {n d : Int} (h : chk n d = 0) : ¬ d = 0 := by have := den_pos h; omega
theorem dens_ne {a b : Int} (h : 0 < a) (k : 0 < b) : ¬ a * b = 0 := mul_ne (by omega) (by omega)

theorem add_eq {an ad bn bd : Int} (ha : chk an ad = 0) (hb : chk bn bd = 0) : addT an ad bn bd = lowT (an * bd + bn * ad) (ad * bd) := twoT_r ha hb
theorem sub_eq {an ad bn bd : Int} (ha : chk an ad = 0) (hb : chk bn bd = 0) : subT an ad bn bd = lowT (an * bd - bn * ad) (ad * bd) := twoT_r ha hb
theorem mul_eq {an ad bn bd : Int} (ha : chk an ad = 0) (hb : chk bn bd = 0) : mulT an ad bn bd = lowT (an * bn) (ad * bd) := twoT_r ha hb
theorem div_eq {an ad bn bd : Int} (ha : chk an ad = 0) (hb : chk bn bd = 0) (h : ¬ bn = 0) : divT an ad bn bd = lowT (an * bd) (ad * bn) := by
  unfold divT; rw [twoT_r ha hb, if_neg h]

/-- a result is a valid number, which equals what is asked for, or beyond the bounds. -/
def IsLow (n d : Int) (r : Int × Int × Int) : Prop := (∃ x y, r = (x, y, 0) ∧ chk x y = 0 ∧ n * y = x * d) ∨ (r = (0, 0, 8) ∧ ∀ x y, chk x y = 0 → ¬ n * y = x * d)

theorem add_is {an ad bn bd : Int} (ha : chk an ad = 0) (hb : chk bn bd = 0) : IsLow (an * bd + bn * ad) (ad * bd) (addT an ad bn bd) := by
  rw [add_eq ha hb]; exact low_is (dens_ne (den_pos ha) (den_pos hb))
theorem sub_is {an ad bn bd : Int} (ha : chk an ad = 0) (hb : chk bn bd = 0) : IsLow (an * bd - bn * ad) (ad * bd) (subT an ad bn bd) := by
  rw [sub_eq ha hb]; exact low_is (dens_ne (den_pos ha) (den_pos hb))
theorem mul_is {an ad bn bd : Int} (ha : chk an ad = 0) (hb : chk bn bd = 0) : IsLow (an * bn) (ad * bd) (mulT an ad bn bd) := by
  rw [mul_eq ha hb]; exact low_is (dens_ne (den_pos ha) (den_pos hb))

theorem add_comm' {an ad bn bd : Int} (ha : chk an ad = 0) (hb : chk bn bd = 0) : addT bn bd an ad = addT an ad bn bd := by
  rw [add_eq ha hb, add_eq hb ha, Int.mul_comm bd ad, Int.add_comm]
theorem mul_comm' {an ad bn bd : Int} (ha : chk an ad = 0) (hb : chk bn bd = 0) : mulT bn bd an ad = mulT an ad bn bd := by
  rw [mul_eq ha hb, mul_eq hb ha, Int.mul_comm bd ad, Int.mul_comm bn an]

theorem sub_back {an ad bn bd x y : Int} (ha : chk an ad = 0) (hb : chk bn bd = 0) (hx : chk x y = 0) (h : (an * bd + bn * ad) * y = x * (ad * bd)) : subT x y bn bd = (an, ad, 0) := by
  rw [sub_eq hx hb]
  have := den_pos ha; have := den_pos hb; have := den_pos hx
  refine low_eq (dens_ne (by omega) (by omega)) ha ?_
  grind
theorem div_back {an ad bn bd x y : Int} (ha : chk an ad = 0) (hb : chk bn bd = 0) (hx : chk x y = 0) (h0 : ¬ bn = 0) (h : (an * bn) * y = x * (ad * bd)) : divT x y bn bd = (an, ad, 0) := by
  rw [div_eq hx hb h0]
  have := den_pos ha; have := den_pos hb; have := den_pos hx
  refine low_eq (mul_ne (by omega) h0) ha ?_
  grind
theorem chk01 : chk 0 1 = 0 := by decide +kernel
theorem chk11 : chk 1 1 = 0 := by decide +kernel
theorem add_zero' {an ad : Int} (ha : chk an ad = 0) : addT an ad 0 1 = (an, ad, 0) := by
  rw [add_eq ha chk01]
  have := den_pos ha
  exact low_eq (by omega) ha (by grind)
theorem mul_one' {an ad : Int} (ha : chk an ad = 0) : mulT an ad 1 1 = (an, ad, 0) := by
  rw [mul_eq ha chk11]
  have := den_pos ha
  exact low_eq (by omega) ha (by grind)

theorem cancel3 {a b c : Int} (h : 0 < c) (k : a * c = b * c) : a = b := Int.eq_of_mul_eq_mul_right (by omega) k

theorem add_assoc' {an ad bn bd cn cd x y u v : Int} (ha : chk an ad = 0) (hb : chk bn bd = 0) (hc : chk cn cd = 0) (hx : chk x y = 0) (hu : chk u v = 0)
    (h : (an * bd + bn * ad) * y = x * (ad * bd)) (k : (bn * cd + cn * bd) * v = u * (bd * cd)) : addT x y cn cd = addT an ad u v := by
  rw [add_eq hx hc, add_eq ha hu]
  have a1 := den_pos ha; have a2 := den_pos hb; have a3 := den_pos hc; have a4 := den_pos hx; have a5 := den_pos hu
  refine low_congr (dens_ne a4 a3) (dens_ne a1 a5) ?_
  refine cancel3 a2 ?_
  grind
theorem mul_assoc' {an ad bn bd cn cd x y u v : Int} (ha : chk an ad = 0) (hb : chk bn bd = 0) (hc : chk cn cd = 0) (hx : chk x y = 0) (hu : chk u v = 0)
    (h : (an * bn) * y = x * (ad * bd)) (k : (bn * cn) * v = u * (bd * cd)) : mulT x y cn cd = mulT an ad u v := by
  rw [mul_eq hx hc, mul_eq ha hu]
  have a1 := den_pos ha; have a2 := den_pos hb; have a3 := den_pos hc; have a4 := den_pos hx; have a5 := den_pos hu
  refine low_congr (dens_ne a4 a3) (dens_ne a1 a5) ?_
  refine cancel3 (c := bd * bd) (Int.mul_pos a2 a2) ?_
  grind
theorem distrib' {an ad bn bd cn cd u v pn pd qn qd rn rd : Int} (ha : chk an ad = 0) (hb : chk bn bd = 0) (hc : chk cn cd = 0) (hu : chk u v = 0) (hp : chk pn pd = 0) (hq : chk qn qd = 0) (hr : chk rn rd = 0)
    (k : (bn * cd + cn * bd) * v = u * (bd * cd)) (kp : (an * u) * pd = pn * (ad * v)) (kq : (an * bn) * qd = qn * (ad * bd)) (kr : (an * cn) * rd = rn * (ad * cd)) : addT qn qd rn rd = (pn, pd, 0) := by
  rw [add_eq hq hr]
  have a1 := den_pos ha; have a2 := den_pos hb; have a3 := den_pos hc; have a5 := den_pos hu; have a6 := den_pos hp; have a7 := den_pos hq; have a8 := den_pos hr
  refine low_eq (dens_ne a7 a8) hp ?_
  refine cancel3 (c := ad * bd * cd * v) (by have := Int.mul_pos (Int.mul_pos (Int.mul_pos a1 a2) a3) a5; omega) ?_
  have e1 : (qn * rd + rn * qd) * pd * (ad * bd * cd * v) = (qn * (ad * bd)) * rd * pd * cd * v + (rn * (ad * cd)) * qd * pd * bd * v := by grind
  have e2 : pn * (qd * rd) * (ad * bd * cd * v) = (pn * (ad * v)) * qd * rd * (bd * cd) := by grind
  rw [e1, e2, ← kq, ← kr, ← kp]
  have e3 : an * u * pd * qd * rd * (bd * cd) = an * pd * qd * rd * (u * (bd * cd)) := by grind
  rw [e3, ← k]
  grind
end Go.Proofs.YtefongoinlcgaaaGreat

/- The order of numbers: plain mathematics. -/
namespace Go.Proofs.YtefongoinlcgaaaGreat

theorem cmpM_neg (a b : Int) : cmpM a b = -cmpM b a := by unfold cmpM; split <;> split <;> omega
theorem cmpM_lo (a b : Int) : -1 ≤ cmpM a b := by unfold cmpM; split; omega; split <;> omega
theorem cmpM_hi (a b : Int) : cmpM a b ≤ 1 := by unfold cmpM; split; omega; split <;> omega
theorem cmpM_zero {a b : Int} : cmpM a b = 0 ↔ a = b := by unfold cmpM; split; omega; split <;> omega
theorem cmpM_neg1 {a b : Int} : cmpM a b = -1 ↔ a < b := by unfold cmpM; split; omega; split <;> omega
theorem cmpM_pos1 {a b : Int} : cmpM a b = 1 ↔ b < a := by unfold cmpM; split; omega; split <;> omega
theorem cmpM_lt0 {a b : Int} : cmpM a b < 0 ↔ a < b := by unfold cmpM; split; omega; split <;> omega
theorem cmpM_ge0 {a b : Int} : 0 ≤ cmpM a b ↔ ¬ a < b := by unfold cmpM; split; omega; split <;> omega
theorem cmpM_le0 {a b : Int} : cmpM a b ≤ 0 ↔ a ≤ b := by unfold cmpM; split; omega; split <;> omega

theorem cmpM_congr {a b c d : Int} (h1 : a < b ↔ c < d) (h2 : b < a ↔ d < c) : cmpM a b = cmpM c d := by
  unfold cmpM
  by_cases h : a < b
  · rw [if_pos h, if_pos (h1.1 h)]
  · rw [if_neg h, if_neg (fun k => h (h1.2 k))]
    by_cases k : b < a
    · rw [if_pos k, if_pos (h2.1 k)]
    · rw [if_neg k, if_neg (fun j => k (h2.2 j))]

theorem pos_of_scaled {x p : Int} (hp : 0 < p) (h : 0 < x * p) : 0 < x := Int.pos_of_mul_pos_left h hp
theorem scaled_pos {x p : Int} (hp : 0 < p) (h : 0 < x) : 0 < x * p := Int.mul_pos h hp

theorem lt_scaled {a b c d p q : Int} (hp : 0 < p) (hq : 0 < q) (h : (a - b) * p = (c - d) * q) (k : c < d) : a < b := by
  have k1 := scaled_pos hq (show 0 < d - c by omega)
  have k2 : 0 < (b - a) * p := by
    have e1 : (b - a) * p = -((a - b) * p) := by rw [← Int.neg_mul]; congr 1; omega
    have e2 : (d - c) * q = -((c - d) * q) := by rw [← Int.neg_mul]; congr 1; omega
    omega
  have := pos_of_scaled hp k2
  omega

theorem cmp_scaled {a b c d p q : Int} (hp : 0 < p) (hq : 0 < q) (h : (a - b) * p = (c - d) * q) : cmpM a b = cmpM c d := by
  have h2 : (b - a) * p = (d - c) * q := by
    have e1 : (b - a) * p = -((a - b) * p) := by rw [← Int.neg_mul]; congr 1; omega
    have e2 : (d - c) * q = -((c - d) * q) := by rw [← Int.neg_mul]; congr 1; omega
    omega
  exact cmpM_congr ⟨lt_scaled hq hp h.symm, lt_scaled hp hq h⟩ ⟨lt_scaled hq hp h2.symm, lt_scaled hp hq h2⟩

theorem cross_trans {an ad bn bd cn cd : Int} (ha : 0 < ad) (hb : 0 < bd) (hc : 0 < cd) (h : an * bd < bn * ad) (k : bn * cd < cn * bd) : an * cd < cn * ad := by
  refine Int.lt_of_mul_lt_mul_right (a := bd) ?_ (by omega)
  have h1 := Int.mul_lt_mul_of_pos_right h hc
  have h2 := Int.mul_lt_mul_of_pos_right k ha
  have e1 : an * cd * bd = an * bd * cd := by grind
  have e2 : bn * ad * cd = bn * cd * ad := by grind
  have e3 : cn * ad * bd = cn * bd * ad := by grind
  omega
theorem cross_eq {an ad bn bd cn cd : Int} (hb : 0 < bd) (h : an * bd = bn * ad) (k : bn * cd = cn * bd) : an * cd = cn * ad := by
  refine Int.eq_of_mul_eq_mul_right (a := bd) (by omega) ?_
  have e1 : an * cd * bd = an * bd * cd := by grind
  have e2 : bn * ad * cd = bn * cd * ad := by grind
  have e3 : cn * ad * bd = cn * bd * ad := by grind
  rw [e1, e3, h, e2, k]

theorem cmp_trans {an ad bn bd cn cd : Int} (ha : 0 < ad) (hb : 0 < bd) (hc : 0 < cd) (h : cmpM (an * bd) (bn * ad) = cmpM (bn * cd) (cn * bd)) :
    cmpM (an * cd) (cn * ad) = cmpM (an * bd) (bn * ad) := by
  rcases Int.lt_trichotomy (an * bd) (bn * ad) with k | k | k
  · rw [cmpM_neg1.2 k] at h ⊢
    exact cmpM_neg1.2 (cross_trans ha hb hc k (cmpM_neg1.1 h.symm))
  · rw [cmpM_zero.2 k] at h ⊢
    exact cmpM_zero.2 (cross_eq hb k (cmpM_zero.1 h.symm))
  · rw [cmpM_pos1.2 k] at h ⊢
    exact cmpM_pos1.2 (cross_trans hc hb ha (cmpM_pos1.1 h.symm) k)

theorem add_cmp {an ad bn bd cn cd x y u v : Int} (ha : 0 < ad) (hb : 0 < bd) (hc : 0 < cd) (hy : 0 < y) (hv : 0 < v)
    (h : (an * cd + cn * ad) * y = x * (ad * cd)) (k : (bn * cd + cn * bd) * v = u * (bd * cd)) : cmpM (x * v) (u * y) = cmpM (an * bd) (bn * ad) := by
  refine cmp_scaled (p := (ad * cd) * (bd * cd)) (q := (y * v) * (cd * cd)) (Int.mul_pos (Int.mul_pos ha hc) (Int.mul_pos hb hc)) (Int.mul_pos (Int.mul_pos hy hv) (Int.mul_pos hc hc)) ?_
  have e1 : (x * v - u * y) * ((ad * cd) * (bd * cd)) = x * (ad * cd) * v * (bd * cd) - u * (bd * cd) * y * (ad * cd) := by grind
  rw [e1, ← h, ← k]
  grind
theorem mul_cmp {an ad bn bd cn cd x y u v : Int} (ha : 0 < ad) (hb : 0 < bd) (hc : 0 < cd) (hy : 0 < y) (hv : 0 < v) (hn : 0 < cn)
    (h : (an * cn) * y = x * (ad * cd)) (k : (bn * cn) * v = u * (bd * cd)) : cmpM (x * v) (u * y) = cmpM (an * bd) (bn * ad) := by
  refine cmp_scaled (p := (ad * cd) * (bd * cd)) (q := (y * v) * (cn * cd)) (Int.mul_pos (Int.mul_pos ha hc) (Int.mul_pos hb hc)) (Int.mul_pos (Int.mul_pos hy hv) (Int.mul_pos hn hc)) ?_
  have e1 : (x * v - u * y) * ((ad * cd) * (bd * cd)) = x * (ad * cd) * v * (bd * cd) - u * (bd * cd) * y * (ad * cd) := by grind
  rw [e1, ← h, ← k]
  grind
theorem neg_cmp {an ad bn bd : Int} : cmpM (-an * bd) (-bn * ad) = cmpM (bn * ad) (an * bd) := by
  rw [Int.neg_mul, Int.neg_mul]
  exact cmpM_congr (by omega) (by omega)
theorem same_of_cross {an ad bn bd : Int} (ha : chk an ad = 0) (hb : chk bn bd = 0) (h : an * bd = bn * ad) : an = bn ∧ ad = bd :=
  form_one (den_pos ha) (den_pos hb) (cop_of_chk ha) (cop_of_chk hb) h
theorem chk_neg {n d : Int} (h : chk n d = 0) : chk (-n) d = 0 := by
  have f := fit_of_chk h
  have g := cop_of_chk h
  exact chk_of ⟨by have := f.nhi; omega, by have := f.nlo; omega, f.dlo, f.dhi⟩ (by rw [Int.neg_gcd]; exact g)
end Go.Proofs.YtefongoinlcgaaaGreat

/- What is printed is parsed as it was: plain mathematics. -/
namespace Go.Proofs.YtefongoinlcgaaaGreat

theorem dig_mark {c : UInt8} (h : isDig c = true) : isMark c = false := by
  unfold isDig at h
  simp only [Bool.and_eq_true, decide_eq_true_eq] at h
  unfold isMark
  have h1 : ¬ c = 47 := fun e => by rw [e] at h; revert h; decide
  have h2 : ¬ c = 46 := fun e => by rw [e] at h; revert h; decide
  simp [h1, h2]

theorem markAt_digs {f r : List UInt8} (h : f.all isDig = true) (hr : r = [] ∨ isMark (r.getD 0 0) = true) : markAt (f ++ r) = f.length := by
  unfold markAt
  induction f with
  | nil =>
    rcases hr with rfl | hr
    · rfl
    · cases r with
      | nil => rfl
      | cons c t =>
        have : isMark c = true := hr
        simp [List.findIdx_cons, this]
  | cons c f ih =>
    rw [List.all_cons, Bool.and_eq_true] at h
    rw [List.cons_append, List.findIdx_cons, dig_mark h.1, ih h.2]
    rfl
theorem cutF_digs {f r : List UInt8} (h : f.all isDig = true) (hr : r = [] ∨ isMark (r.getD 0 0) = true) : cutF (f ++ r) = f := by
  unfold cutF; rw [markAt_digs h hr]; simp
theorem cutM_digs {f r : List UInt8} (h : f.all isDig = true) (hr : r = [] ∨ isMark (r.getD 0 0) = true) : cutM (f ++ r) = r.getD 0 0 := by
  unfold cutM; rw [markAt_digs h hr, List.getD_eq_getElem?_getD, List.getD_eq_getElem?_getD, List.getElem?_append_right (Nat.le_refl _), Nat.sub_self]
theorem cutB_digs {f r : List UInt8} (h : f.all isDig = true) (hr : r = [] ∨ isMark (r.getD 0 0) = true) : cutB (f ++ r) = r.drop 1 := by
  unfold cutB; rw [markAt_digs h hr, List.drop_append]
  simp

/-- what is behind the numerator. -/
def restS (d : Int) : List UInt8 := if d = 1 then [] else 47 :: digs d.toNat
theorem told_rest (n d : Int) : toldS n d = signText n (digs n.natAbs ++ restS d) := by
  unfold toldS restS
  rw [numText1]
  have e : ((n.natAbs : Int)).toNat = n.natAbs := by omega
  rw [e]
  congr 2
  split
  · rfl
  · rw [numText1]; simp
theorem rest_mark (d : Int) : restS d = [] ∨ isMark ((restS d).getD 0 0) = true := by
  unfold restS; split
  · exact .inl rfl
  · exact .inr rfl

theorem digs_head (n : Nat) : ∃ c t, digs n = c :: t ∧ isDig c = true := by
  have h1 := digs_len_pos n
  have h2 := digs_all n
  cases h : digs n with
  | nil => rw [h] at h1; simp at h1
  | cons c t => rw [h] at h2; exact ⟨c, t, rfl, by simp at h2; exact h2.1⟩

theorem neg_told (n : Int) (k : Nat) (r : List UInt8) : isNeg (signText n (digs k ++ r)) = decide (n < 0) := by
  unfold signText
  split
  · rename_i h; rw [decide_eq_true h]; rfl
  · rename_i h
    rw [decide_eq_false h]
    obtain ⟨c, t, e, hd⟩ := digs_head k
    rw [e]
    show (c == 45) = false
    have h2 : ¬ c = 45 := fun e => by rw [e] at hd; revert hd; decide
    simpa using h2
theorem body_told (n : Int) (k : Nat) (r : List UInt8) : bodyOf (signText n (digs k ++ r)) = digs k ++ r := by
  unfold bodyOf
  rw [neg_told]
  unfold signText
  by_cases h : n < 0
  · rw [if_pos h, if_pos (decide_eq_true h)]; rfl
  · rw [if_neg h, if_neg (by simpa using h)]

theorem digR_digs {n : Nat} (h : n < 10000000000) : digR (digs n) 10 = ((n : Int), true) := by
  have h1 := digs_len_pos n
  have h2 := digs_len 9 n (by omega)
  rw [digR_yes ⟨⟨h1, by omega⟩, digs_all n⟩, valN_digs]

theorem parse_told {n d : Int} (h : chk n d = 0) : parseT (toldS n d) = (n, d, 0) := by
  have f := fit_of_chk h
  have g1 := f.nlo; have g2 := f.nhi; have g3 := f.dlo; have g4 := f.dhi
  have T := told_rest n d
  have hs : signed (decide (n < 0)) n.natAbs = n := by
    unfold signed; by_cases hn : n < 0
    · rw [if_pos (by simpa using hn)]; omega
    · rw [if_neg (by simpa using hn)]; omega
  have hm := rest_mark d
  have hd := digs_all n.natAbs
  unfold parseT
  have B : bodyOf (toldS n d) = digs n.natAbs ++ restS d := by rw [T, body_told]
  have N : isNeg (toldS n d) = decide (n < 0) := by rw [T, neg_told]
  rw [B, N, cutF_digs hd hm, cutM_digs hd hm, cutB_digs hd hm, valN_digs, hs]
  have k1 := digR_digs (n := n.natAbs) (by omega)
  by_cases hd1 : d = 1
  · subst hd1
    have e : restS 1 = [] := rfl
    rw [e]
    rw [if_neg (by decide), if_pos (by decide)]
    rw [fracR_yes ⟨⟨by rw [k1], by decide⟩, by exact h, by rfl⟩]
    rfl
  · have e : restS d = 47 :: digs d.toNat := if_neg hd1
    rw [e]
    have k2 := digR_digs (n := d.toNat) (by omega)
    have e2 : ((d.toNat : Nat) : Int) = d := by omega
    have e3 : ∀ t : List UInt8, (47 :: t).getD 0 0 = 47 := fun _ => rfl
    rw [e3, if_neg (by decide), if_neg (by decide)]
    show fracR _ _ (digs d.toNat) _ = _
    rw [fracR_yes ⟨⟨by rw [k1], by rw [k2]⟩, by rw [valN_digs, e2]; exact h, by rw [valN_digs, e2]⟩, valN_digs, e2]

theorem mem_of_getD {l : List UInt8} {k : Nat} {c : UInt8} (h : l.getD k 0 = c) (hc : ¬ c = 0) : c ∈ l := by
  by_cases hk : k < l.length
  · rw [List.getD_eq_getElem?_getD, List.getElem?_eq_getElem hk] at h
    subst h; exact List.getElem_mem hk
  · rw [List.getD_eq_getElem?_getD, List.getElem?_eq_none (by omega)] at h
    exact absurd h.symm hc
theorem mem_body {l : List UInt8} {c : UInt8} (h : c ∈ bodyOf l) : c ∈ l := by
  unfold bodyOf at h; split at h
  · exact List.mem_of_mem_drop h
  · exact h

/-- what a text is parsed as. -/
theorem parse_is (l : List UInt8) : (∃ x y, parseT l = (x, y, 0) ∧ chk x y = 0 ∧ (46 ∈ l ∨ toldS x y = l)) ∨ ∃ e, ¬ e = 0 ∧ parseT l = (0, 0, e) := by
  unfold parseT
  by_cases hm : cutM (bodyOf l) = 46
  · have hp : (46 : UInt8) ∈ l := mem_body (mem_of_getD hm (by decide))
    rw [if_pos hm]
    by_cases h : ((digR (cutF (bodyOf l)) 9).2 = true ∧ (digR (cutB (bodyOf l)) 9).2 = true) ∧ ¬ (1 < (cutF (bodyOf l)).length ∧ (cutF (bodyOf l)).getD 0 0 = 48)
    · rw [decR_yes h]
      have hb := (digR_true h.1.2).1.2
      have := p10_bd (cutB (bodyOf l)).length (by omega)
      rcases low_is (n := factorOf l * ((valN (cutF (bodyOf l)) : Int) * p10 (cutB (bodyOf l)).length + (valN (cutB (bodyOf l)) : Int))) (d := p10 (cutB (bodyOf l)).length) (by omega) with ⟨x, y, h1, h2, _⟩ | ⟨h1, _⟩
      · exact .inl ⟨x, y, h1, h2, .inl hp⟩
      · exact .inr ⟨8, by decide, h1⟩
    · rw [decR_no h]; exact .inr ⟨1, by decide, rfl⟩
  · rw [if_neg hm]
    by_cases h : ((digR (cutF (bodyOf l)) 10).2 = true ∧ (digR (if cutM (bodyOf l) = 0 then [49] else cutB (bodyOf l)) 10).2 = true) ∧ chk (signed (isNeg l) (valN (cutF (bodyOf l)))) (valN (if cutM (bodyOf l) = 0 then [49] else cutB (bodyOf l)) : Int) = 0 ∧ toldS (signed (isNeg l) (valN (cutF (bodyOf l)))) (valN (if cutM (bodyOf l) = 0 then [49] else cutB (bodyOf l)) : Int) = l
    · rw [fracR_yes h]; exact .inl ⟨_, _, rfl, h.2.1, .inr h.2.2⟩
    · rw [fracR_no h]; exact .inr ⟨1, by decide, rfl⟩
end Go.Proofs.YtefongoinlcgaaaGreat

/- what is read is just what is written. -/
namespace Go.Proofs.YtefongoinlcgaaaGreat
open Go.RowKit

theorem qbP_text (l : List UInt8) : ∀ {s r : List UInt8}, qbP l = some (s, r) → l = escQ s ++ 34 :: r := by
  induction hn : l.length using Nat.strongRecOn generalizing l with
  | ind n ih =>
    intro s r h
    cases l with
    | nil => cases h
    | cons c t =>
      by_cases h1 : c.toNat = 34
      · rw [qbP_end h1] at h
        obtain ⟨rfl, rfl⟩ := Prod.mk.inj (Option.some.inj h)
        rw [show c = 34 from UInt8.toNat_inj.1 (by rw [h1]; rfl)]; rfl
      · by_cases h2 : c.toNat = 92
        · cases t with
          | nil => rw [qbP_esc_nil h2] at h; cases h
          | cons d u =>
            by_cases h3 : d.toNat = 34 ∨ d.toNat = 92
            · rw [qbP_esc h2 h3] at h
              simp only [Option.map_eq_some_iff, Prod.mk.injEq, Prod.exists] at h
              obtain ⟨s', r', h4, rfl, rfl⟩ := h
              have := ih u.length (by simp at hn; omega) u rfl h4
              rw [this, show c = 92 from UInt8.toNat_inj.1 (by rw [h2]; rfl)]
              simp [escQ, h3]
            · rw [qbP_esc_no h2 h3] at h; cases h
        · cases h3 : printB c with
          | true =>
            rw [qbP_put h1 h2 h3] at h
            simp only [Option.map_eq_some_iff, Prod.mk.injEq, Prod.exists] at h
            obtain ⟨s', r', h4, rfl, rfl⟩ := h
            have := ih t.length (by simp at hn; omega) t rfl h4
            rw [this]
            simp [escQ, h1, h2]
          | false => rw [qbP_no h1 h2 h3] at h; cases h
theorem quoP_text {l s r : List UInt8} (h : quoP l = some (s, r)) : l = quoQ s ++ r := by
  cases l with
  | nil => cases h
  | cons c t =>
    by_cases h1 : c.toNat = 34
    · rw [quoP_yes h1] at h
      rw [qbP_text t h, show c = 34 from UInt8.toNat_inj.1 (by rw [h1]; rfl)]
      simp [quoQ]
    · rw [quoP_no h1] at h; cases h
theorem attrP_text {l r : List UInt8} {a : List UInt8 × List UInt8} (h : attrP l = some (a, r)) : l = a.1 ++ 61 :: (quoQ a.2 ++ r) := by
  unfold attrP at h
  by_cases h0 : wordLen l = 0
  · rw [if_pos h0] at h; cases h
  · rw [if_neg h0] at h
    cases hd : l.drop (wordLen l) with
    | nil => rw [hd] at h; cases h
    | cons c t =>
      rw [hd] at h
      simp only at h
      by_cases hc : c.toNat = 61
      · rw [if_pos hc] at h
        simp only [Option.map_eq_some_iff, Prod.mk.injEq, Prod.exists] at h
        obtain ⟨s, r', hq, rfl, rfl⟩ := h
        have ht := quoP_text hq
        have hl := List.take_append_drop (wordLen l) l
        rw [hd, show c = 61 from UInt8.toNat_inj.1 (by rw [hc]; rfl), ht] at hl
        exact hl.symm
      · rw [if_neg hc] at h; cases h
theorem attrsP_text : ∀ (n : Nat) {l r : List UInt8} {a : List (List UInt8 × List UInt8)}, attrsP n l = some (a, r) → l = atsQ 44 a ++ r
  | 0, l, r, a, h => by
    simp [attrsP] at h
    rw [h.1, h.2]; rfl
  | n + 1, l, r, a, h => by
    by_cases hc : l.head? = some 44
    · cases l with
      | nil => cases hc
      | cons c t =>
        obtain rfl : c = 44 := by simpa using hc
        rw [attrsP_more rfl] at h
        cases hq : attrP t with
        | none => rw [hq] at h; cases h
        | some x =>
          obtain ⟨a1, r1⟩ := x
          rw [hq] at h
          simp only [Option.map_eq_some_iff, Prod.mk.injEq, Prod.exists] at h
          obtain ⟨a2, r2, h2, rfl, rfl⟩ := h
          have h3 := attrsP_text n h2
          have h4 := attrP_text hq
          rw [h4, h3]
          simp [atsQ]
    · rw [attrsP_stop hc] at h
      simp at h
      rw [h.1, h.2]; rfl
theorem attributesP_text {l r : List UInt8} {a : List (List UInt8 × List UInt8)} (h : attributesP l = some (a, r)) : a ≠ [] ∧ 40 :: l = atsQ 40 a ++ r := by
  unfold attributesP at h
  cases hq : attrP l with
  | none => rw [hq] at h; cases h
  | some x =>
    obtain ⟨a1, r1⟩ := x
    rw [hq] at h
    simp only [Option.map_eq_some_iff, Prod.mk.injEq, Prod.exists] at h
    obtain ⟨a2, r2, h2, rfl, rfl⟩ := h
    have h3 := attrsP_text _ h2
    have h4 := attrP_text hq
    refine ⟨by simp, ?_⟩
    rw [h4, h3]
    simp [atsQ]
theorem expP_text {α : Type} {k : UInt8} {x y : α} {l r : List UInt8} (h : expP k.toNat x l = some (y, r)) : l = k :: r := by
  cases l with
  | nil => cases h
  | cons c t =>
    rw [show expP k.toNat x (c :: t) = if c.toNat = k.toNat then some (x, t) else none from rfl] at h
    by_cases hc : c.toNat = k.toNat
    · rw [if_pos hc] at h
      rw [(Prod.mk.inj (Option.some.inj h)).2, UInt8.toNat_inj.1 hc]
    · rw [if_neg hc] at h; cases h
theorem optA_text {l r : List UInt8} {a : List (List UInt8 × List UInt8)} (h : optA l = some (a, r)) : l = attrsQ a ++ r := by
  by_cases hc : l.head? = some 40
  · cases l with
    | nil => cases hc
    | cons c t =>
      obtain rfl : c = 40 := by simpa using hc
      rw [show optA (40 :: t) = (attributesP t).bind fun x => expP 41 x.1 x.2 from rfl] at h
      simp only [Option.bind_eq_some_iff, Prod.exists] at h
      obtain ⟨a1, r1, h1, h2⟩ := h
      obtain rfl := expP_same h2
      have h3 := expP_text (k := 41) h2
      obtain ⟨h4, h5⟩ := attributesP_text h1
      rw [h5, h3]
      unfold attrsQ
      rw [if_neg (by cases a with | nil => exact absurd rfl h4 | cons _ _ => simp)]
      simp
  · rw [optA_no hc] at h
    have h1 := Prod.mk.inj (Option.some.inj h)
    rw [← h1.1, ← h1.2]; rfl
theorem figP_text {l r : List UInt8} {n d : Int} (h : figP l = some ((n, d), r)) : l = toldS n d ++ r ∧ chk n d = 0 := by
  unfold figP at h
  simp only at h
  have hno : ¬ 46 ∈ l.take (numLen l) := by
    intro hm
    obtain ⟨i, hi, he⟩ := List.getElem_of_mem hm
    rw [List.length_take] at hi
    have h2 := List.not_of_lt_findIdx (xs := l) (p := fun c => !numB c) (i := i) (by unfold numLen at hi; omega)
    rw [List.getElem_take] at he
    simp only [he, Bool.not_eq_false'] at h2
    revert h2; decide
  rcases parse_is (l.take (numLen l)) with ⟨x, y, h1, h2, h3⟩ | ⟨e, h1, h2⟩
  · rw [h1] at h
    simp only [if_true] at h
    have h4 := Prod.mk.inj (Option.some.inj h)
    obtain ⟨rfl, rfl⟩ := Prod.mk.inj h4.1
    rw [h3.resolve_left hno, ← h4.2]
    exact ⟨(List.take_append_drop _ _).symm, h2⟩
  · rw [h2] at h
    simp only [if_neg h1] at h
    cases h
theorem beginP_text {l r : List UInt8} {h : Hd} (hb : beginP l = some (h, r)) : l = treeQ h .nil ++ r ∨ (h.k = 0 ∧ l = h.l ++ r) := by
  cases l with
  | nil => cases hb
  | cons c t =>
    by_cases h34 : c.toNat = 34
    · rw [show beginP (c :: t) = (quoP (c :: t)).map fun x => (⟨2, [], [], 0, 0, x.1⟩, x.2) by unfold beginP; simp [h34]] at hb
      simp only [Option.map_eq_some_iff, Prod.mk.injEq, Prod.exists] at hb
      obtain ⟨s, r', h1, rfl, rfl⟩ := hb
      exact .inl (by rw [quoP_text h1]; rfl)
    · by_cases hd : c.toNat = 45 ∨ digitB c = true
      · rw [show beginP (c :: t) = (figP (c :: t)).map fun x => (⟨1, [], [], x.1.1, x.1.2, []⟩, x.2) by unfold beginP; simp only [if_neg h34, if_pos hd]] at hb
        simp only [Option.map_eq_some_iff, Prod.mk.injEq, Prod.exists] at hb
        obtain ⟨n, d, r', h1, rfl, rfl⟩ := hb
        have h2 := figP_text h1
        refine .inl ?_
        rw [h2.1]
        unfold treeQ printE
        simp [h2.2]
      · rw [show beginP (c :: t) = if wordLen (c :: t) = 0 then none else some (⟨0, (c :: t).take (wordLen (c :: t)), [], 0, 0, []⟩, (c :: t).drop (wordLen (c :: t))) by unfold beginP; simp only [if_neg h34, if_neg hd]] at hb
        by_cases h0 : wordLen (c :: t) = 0
        · rw [if_pos h0] at hb; cases hb
        · rw [if_neg h0] at hb
          obtain ⟨rfl, rfl⟩ := Prod.mk.inj (Option.some.inj hb)
          exact .inr ⟨rfl, (List.take_append_drop _ _).symm⟩
/-- what is read is a text. -/
def TextF (F : List UInt8 → Option (Fo × List UInt8)) : Prop := ∀ t g u, F t = some (g, u) → t = foQ true g ++ u ∧ g.len ≠ 0
theorem optK_text {F : List UInt8 → Option (Fo × List UInt8)} (HF : TextF F) {l r : List UInt8} {g : Fo} (h : optK F l = some (g, r)) : l = (if g.len = 0 then [] else 123 :: (foQ true g ++ [125])) ++ r := by
  by_cases hc : l.head? = some 123
  · cases l with
    | nil => cases hc
    | cons c t =>
      obtain rfl : c = 123 := by simpa using hc
      rw [show optK F (123 :: t) = (F t).bind fun x => expP 125 x.1 x.2 from rfl] at h
      simp only [Option.bind_eq_some_iff, Prod.exists] at h
      obtain ⟨a1, r1, h1, h2⟩ := h
      obtain rfl := expP_same h2
      have h3 := expP_text (k := 125) h2
      obtain ⟨h4, h5⟩ := HF _ _ _ h1
      rw [if_neg h5, h4, h3]
      simp
  · rw [optK_no hc] at h
    have h1 := Prod.mk.inj (Option.some.inj h)
    rw [← h1.1, ← h1.2]; rfl
theorem treeP_text {F : List UInt8 → Option (Fo × List UInt8)} (HF : TextF F) {l r : List UInt8} {h : Hd} {ks : Fo} (ht : treeP F l = some ((h, ks), r)) : l = treeQ h ks ++ r := by
  cases hb : beginP l with
  | none => rw [treeP_none hb] at ht; cases ht
  | some y =>
    obtain ⟨hd, r0⟩ := y
    have hl := beginP_text hb
    rcases beginP_form hb with ⟨s, rfl⟩ | ⟨n, d, rfl⟩ | ⟨s, rfl⟩
    · rw [treeP_word hb] at ht
      simp only [Option.bind_eq_some_iff, Option.map_eq_some_iff, Prod.mk.injEq, Prod.exists] at ht
      obtain ⟨a, r1, h1, g, r2, h2, ⟨rfl, rfl⟩, rfl⟩ := ht
      have h3 := optA_text h1
      have h4 := optK_text HF h2
      have h5 : l = s ++ r0 := by
        rcases hl with h | ⟨_, h⟩
        · rw [h]; simp [treeQ, elemQ, attrsQ, Fo.len]
        · exact h
      rw [h5, h3, h4]
      simp [treeQ, elemQ]
    · rw [treeP_leaf hb (by simp)] at ht
      have h1 := Prod.mk.inj (Option.some.inj ht)
      obtain ⟨rfl, rfl⟩ := Prod.mk.inj h1.1
      rw [← h1.2]
      rcases hl with h | ⟨h, _⟩
      · exact h
      · cases h
    · rw [treeP_leaf hb (by simp)] at ht
      have h1 := Prod.mk.inj (Option.some.inj ht)
      obtain ⟨rfl, rfl⟩ := Prod.mk.inj h1.1
      rw [← h1.2]
      rcases hl with h | ⟨h, _⟩
      · exact h
      · cases h
theorem restP_text {F : List UInt8 → Option (Fo × List UInt8)} (HF : TextF F) : ∀ (m : Nat) (l : List UInt8) (g : Fo) (u : List UInt8), restP (treeP F) m l = some (g, u) → l = foQ false g ++ u
  | 0, l, g, u, h => by
    rw [restP] at h
    have h1 := Prod.mk.inj (Option.some.inj h)
    rw [← h1.1, ← h1.2]; rfl
  | m + 1, l, g, u, h => by
    by_cases hc : l.head? = some 32
    · cases l with
      | nil => cases hc
      | cons c t =>
        obtain rfl : c = 32 := by simpa using hc
        rw [restP_more] at h
        simp only [Option.bind_eq_some_iff, Option.map_eq_some_iff, Prod.mk.injEq, Prod.exists] at h
        obtain ⟨hd, ks, r, h1, g2, u2, h2, rfl, rfl⟩ := h
        have h3 := treeP_text HF h1
        have h4 := restP_text HF m _ _ _ h2
        rw [foQ_cons, h3, h4]
        simp
    · rw [restP_stop hc] at h
      have h1 := Prod.mk.inj (Option.some.inj h)
      rw [← h1.1, ← h1.2]; rfl
theorem forestP_text : ∀ n : Nat, TextF (forestP n)
  | 0 => fun _ _ _ h => by cases h
  | n + 1 => fun l g u h => by
    have HF := forestP_text n
    rw [forestP_eq] at h
    simp only [Option.bind_eq_some_iff, Option.map_eq_some_iff, Prod.mk.injEq, Prod.exists] at h
    obtain ⟨hd, ks, r, h1, g2, u2, h2, rfl, rfl⟩ := h
    have h3 := treeP_text HF h1
    have h4 := restP_text HF _ _ _ _ h2
    refine ⟨?_, by simp [Fo.len]⟩
    rw [foQ_cons, h3, h4]
    simp
/-- what is parsed is printed as it was. -/
theorem readP_text {l : List UInt8} {f : Fo} (h : readP l = some f) : foQ true f = l := by
  cases l with
  | nil => cases h; rfl
  | cons c t =>
    unfold readP at h
    simp only at h
    cases hq : forestP ((c :: t).length + 1) (c :: t) with
    | none => rw [hq] at h; cases h
    | some x =>
      obtain ⟨g, r⟩ := x
      rw [hq] at h
      cases r with
      | nil =>
        cases h
        have := (forestP_text _ _ _ _ hq).1
        rw [List.append_nil] at this
        exact this.symm
      | cons _ _ => cases h
end Go.Proofs.YtefongoinlcgaaaGreat

/- what is written is read as it was. -/
namespace Go.Proofs.YtefongoinlcgaaaGreat
open Go.RowKit

theorem qbP_esc_text : ∀ (s r : List UInt8), (∀ c ∈ s, printB c = true) → qbP (escQ s ++ 34 :: r) = some (s, r)
  | [], r, _ => by rw [show escQ [] ++ 34 :: r = 34 :: r from rfl, qbP_end rfl]
  | c :: t, r, h => by
    have ih := qbP_esc_text t r (fun d hd => h d (by simp [hd]))
    have hc := h c (by simp)
    by_cases he : c.toNat = 34 ∨ c.toNat = 92
    · rw [show escQ (c :: t) = 92 :: c :: escQ t by simp [escQ, he], List.cons_append, List.cons_append, qbP_esc rfl he, ih]; rfl
    · rw [show escQ (c :: t) = c :: escQ t by simp [escQ, he], List.cons_append, qbP_put (fun e => he (.inl e)) (fun e => he (.inr e)) hc, ih]; rfl
theorem quoP_quo (s r : List UInt8) (h : ∀ c ∈ s, printB c = true) : quoP (quoQ s ++ r) = some (s, r) := by
  have : quoQ s ++ r = 34 :: (escQ s ++ 34 :: r) := by simp [quoQ]
  rw [this, quoP_yes rfl, qbP_esc_text s r h]
theorem printable_all {s : List UInt8} {m : Int} (h : printableB s m = true) : ∀ c ∈ s, printB c = true := by
  unfold printableB at h
  simp only [Bool.and_eq_true, List.all_eq_true] at h
  exact h.1
/-- no byte of a word is at the front. -/
def Stops (r : List UInt8) : Prop := ∀ c, r.head? = some c → letterB c = false ∧ digitB c = false
theorem wordLen_name {n r : List UInt8} (h : namedB n = true) (hr : Stops r) : wordLen (n ++ r) = n.length := by
  unfold namedB at h
  simp only [Bool.and_eq_true, List.all_eq_true, List.mem_range] at h
  refine wordLen_at (fun j hj => ?_) (by simp) ?_
  · have := h.1 j hj
    unfold nameAt at this ⊢
    rw [List.getD_eq_getElem?_getD, List.getElem?_append_left hj, ← List.getD_eq_getElem?_getD]
    exact this
  · cases r with
    | nil => left; simp
    | cons c t =>
      right
      have h2 := hr c rfl
      unfold nameAt
      rw [List.getD_eq_getElem?_getD, List.getElem?_append_right (Nat.le_refl _)]
      simp only [Nat.sub_self, List.getElem?_cons_zero, Option.getD_some, h2.1, h2.2]
      simp
theorem named_len {n : List UInt8} (h : namedB n = true) : 1 ≤ n.length := by
  unfold namedB at h
  simp only [Bool.and_eq_true, decide_eq_true_eq] at h
  exact h.2.1
theorem attrP_app {n v r : List UInt8} (hn : namedB n = true) (hv : ∀ c ∈ v, printB c = true) : attrP (n ++ 61 :: (quoQ v ++ r)) = some ((n, v), r) := by
  have hl := wordLen_name (r := 61 :: (quoQ v ++ r)) hn (fun c hc => by simp at hc; subst hc; decide)
  have h1 := named_len hn
  unfold attrP
  rw [hl, if_neg (by omega), List.drop_left, List.take_left]
  simp only [show (61 : UInt8).toNat = 61 from rfl, if_true]
  rw [quoP_quo v r hv]; rfl
def AtsOk (a : List (List UInt8 × List UInt8)) : Prop := ∀ q ∈ a, namedB q.1 = true ∧ ∀ c ∈ q.2, printB c = true
theorem attrsErr_ok : ∀ (b : List UInt8) (a : List (List UInt8 × List UInt8)), attrsErr b a = 0 → AtsOk a
  | _, [], _ => fun q hq => by cases hq
  | b, (n, v) :: r, h => by
    rw [attrsErr] at h
    cases h1 : namedB n with
    | false => rw [h1] at h; simp at h
    | true =>
      rw [h1] at h
      simp only [Bool.true_eq_false, if_false] at h
      cases h2 : leB n b with
      | true => rw [h2] at h; simp at h
      | false =>
        rw [h2] at h
        simp only [Bool.false_eq_true, if_false] at h
        cases h3 : printableB v 12 with
        | false => rw [h3] at h; simp at h
        | true =>
          rw [h3] at h
          simp only [Bool.true_eq_false, if_false] at h
          intro q hq
          rcases List.mem_cons.1 hq with rfl | hq
          · exact ⟨h1, printable_all h3⟩
          · exact attrsErr_ok n r h q hq
theorem attrsP_app : ∀ (a : List (List UInt8 × List UInt8)) (m : Nat) (r : List UInt8), AtsOk a → a.length ≤ m → attrsP m (atsQ 44 a ++ 41 :: r) = some (a, 41 :: r)
  | [], m, r, _, _ => attrsP_stop (by simp [atsQ])
  | q :: t, 0, r, _, hm => by simp at hm
  | q :: t, m + 1, r, h, hm => by
    have ih := attrsP_app t m r (fun x hx => h x (by simp [hx])) (by simpa using hm)
    have hq := h q (by simp)
    rw [show atsQ 44 (q :: t) ++ 41 :: r = 44 :: (q.1 ++ 61 :: (quoQ q.2 ++ (atsQ 44 t ++ 41 :: r))) by simp [atsQ], attrsP_more rfl, attrP_app hq.1 hq.2]
    simp only
    rw [ih]; rfl
theorem atsQ_length (m : UInt8) : ∀ a : List (List UInt8 × List UInt8), a.length ≤ (atsQ m a).length
  | [] => by simp
  | q :: t => by have := atsQ_length 44 t; simp only [atsQ, List.length_cons, List.length_append]; omega
theorem optA_app {a : List (List UInt8 × List UInt8)} {r : List UInt8} (h : AtsOk a) (hr : r.head? ≠ some 40) : optA (attrsQ a ++ r) = some (a, r) := by
  cases a with
  | nil => exact optA_no hr
  | cons q t =>
    have hq := h q (by simp)
    have ht := attrsP_app t (atsQ 44 t ++ 41 :: r).length r (fun x hx => h x (by simp [hx])) (by have := atsQ_length 44 t; simp; omega)
    rw [show attrsQ (q :: t) ++ r = 40 :: (q.1 ++ 61 :: (quoQ q.2 ++ (atsQ 44 t ++ 41 :: r))) by simp [attrsQ, atsQ]]
    rw [show ∀ u, optA (40 :: u) = (attributesP u).bind fun x => expP 41 x.1 x.2 from fun _ => rfl]
    unfold attributesP
    rw [attrP_app hq.1 hq.2]
    simp only
    rw [ht]; rfl
theorem told_bytes {n d : Int} : ∀ c ∈ toldS n d, numB c = true := by
  have hd : ∀ k, ∀ c ∈ digs k, numB c = true := fun k c hc => by
    have := List.all_eq_true.1 (digs_all k) c hc
    unfold isDig at this
    simp only [Bool.and_eq_true, decide_eq_true_eq] at this
    unfold numB; simp; omega
  intro c hc
  rw [told_rest] at hc
  have hr : ∀ c ∈ digs n.natAbs ++ restS d, numB c = true := by
    intro c hc
    rcases List.mem_append.1 hc with h | h
    · exact hd _ c h
    · unfold restS at h
      split at h
      · cases h
      · rcases List.mem_cons.1 h with rfl | h
        · decide
        · exact hd _ c h
  unfold signText at hc
  split at hc
  · rcases List.mem_cons.1 hc with rfl | h
    · decide
    · exact hr c h
  · exact hr c hc
theorem figP_app {n d : Int} {r : List UInt8} (h : chk n d = 0) (hr : ∀ c, r.head? = some c → numB c = false) : figP (toldS n d ++ r) = some ((n, d), r) := by
  have hl : numLen (toldS n d ++ r) = (toldS n d).length := by
    refine numLen_at (fun j hj hlt => ?_) (by simp) (fun hk => ?_)
    · rw [List.getElem_append_left hlt]
      exact told_bytes _ (List.getElem_mem _)
    · rw [List.getElem_append_right (Nat.le_refl _)]
      apply hr
      cases r with
      | nil => simp at hk
      | cons c t => simp
  unfold figP
  rw [hl, List.take_left, List.drop_left, parse_told h]
  rfl
/-- what comes behind a tree: nothing, a blank, or a closing bracket. -/
def Ends (r : List UInt8) : Prop := ∀ c, r.head? = some c → c = 32 ∨ c = 125
theorem ends_stop {r : List UInt8} (h : Ends r) : Stops r := fun c hc => by rcases h c hc with rfl | rfl <;> decide
theorem ends_num {r : List UInt8} (h : Ends r) : ∀ c, r.head? = some c → numB c = false := fun c hc => by rcases h c hc with rfl | rfl <;> decide
theorem ends_not {r : List UInt8} (h : Ends r) {k : UInt8} (h1 : k ≠ 32) (h2 : k ≠ 125) : r.head? ≠ some k := fun e => by rcases h k e with e | e; exact h1 e; exact h2 e
theorem told_head (n d : Int) : ∃ c t, toldS n d = c :: t ∧ (c.toNat = 45 ∨ digitB c = true) := by
  obtain ⟨c, t, e, hd⟩ := digs_head n.natAbs
  rw [told_rest, e]
  unfold signText
  split
  · exact ⟨45, _, rfl, .inl rfl⟩
  · refine ⟨c, t ++ restS d, rfl, .inr ?_⟩
    unfold isDig at hd
    simp only [Bool.and_eq_true, decide_eq_true_eq] at hd
    simpa [digitB] using hd
theorem name_head {n : List UInt8} (h : namedB n = true) : ∃ c t, n = c :: t ∧ letterB c = true := by
  cases n with
  | nil => exact absurd h (by decide)
  | cons c t =>
    refine ⟨c, t, rfl, ?_⟩
    unfold namedB at h
    simp only [Bool.and_eq_true, List.all_eq_true, List.mem_range] at h
    have := h.1 0 (by simp)
    simpa [nameAt] using this
theorem beginP_word {n r : List UInt8} (h : namedB n = true) (hr : Stops r) : beginP (n ++ r) = some (⟨0, n, [], 0, 0, []⟩, r) := by
  have hl := wordLen_name h hr
  have h1 := named_len h
  obtain ⟨c, t, rfl, hc⟩ := name_head h
  simp only [letterB, decide_eq_true_eq] at hc
  rw [List.cons_append] at hl ⊢
  rw [show beginP (c :: (t ++ r)) = if wordLen (c :: (t ++ r)) = 0 then none else some (⟨0, (c :: (t ++ r)).take (wordLen (c :: (t ++ r))), [], 0, 0, []⟩, (c :: (t ++ r)).drop (wordLen (c :: (t ++ r)))) by
    unfold beginP
    simp only
    rw [if_neg (by omega), if_neg (by simp [digitB]; omega)]]
  rw [hl, if_neg (by omega), ← List.cons_append, List.take_left, List.drop_left]
theorem beginP_num {n d : Int} {r : List UInt8} (h : chk n d = 0) (hr : Ends r) : beginP (toldS n d ++ r) = some (⟨1, [], [], n, d, []⟩, r) := by
  have hf := figP_app h (ends_num hr)
  obtain ⟨c, t, e, hc⟩ := told_head n d
  rw [e, List.cons_append] at hf ⊢
  unfold beginP
  simp only
  rw [if_neg (by rcases hc with h | h; omega; simp [digitB] at h; omega), if_pos hc, hf]; rfl
theorem beginP_quo {s r : List UInt8} (h : ∀ c ∈ s, printB c = true) : beginP (quoQ s ++ r) = some (⟨2, [], [], 0, 0, s⟩, r) := by
  have hq := quoP_quo s r h
  rw [show quoQ s ++ r = 34 :: (escQ s ++ [34] ++ r) by simp [quoQ]] at hq ⊢
  unfold beginP
  simp only
  rw [if_pos (show (34 : UInt8).toNat = 34 from rfl), hq]; rfl
theorem treeP_app {F : List UInt8 → Option (Fo × List UInt8)} {h : Hd} {ks : Fo} {r : List UInt8} (he : headErr h = 0) (hk : h.k ≠ 0 → ks = .nil) (hr : Ends r)
    (HF : ks.len ≠ 0 → F (foQ true ks ++ 125 :: r) = some (ks, 125 :: r)) : treeP F (treeQ h ks ++ r) = some ((h, ks), r) := by
  obtain ⟨k, l, ats, n, d, x⟩ := h
  unfold headErr at he
  cases hs : strayB ⟨k, l, ats, n, d, x⟩ with
  | true => rw [hs] at he; cases he
  | false =>
    rw [hs] at he
    simp only [Bool.false_eq_true, if_false] at he
    rcases plain_cases hs with ⟨rfl, rfl, rfl, rfl⟩ | ⟨rfl, rfl, rfl, rfl⟩ | ⟨rfl, rfl, rfl, rfl, rfl⟩
    · simp only [show ((0 : Int) = 1) = False by simp, show ((0 : Int) = 2) = False by simp, if_false] at he
      unfold elemErr at he
      simp only at he
      cases hn : namedB l with
      | false => rw [hn] at he; simp at he
      | true =>
        rw [hn] at he
        simp only [Bool.true_eq_false, if_false] at he
        by_cases h3 : 3 < ats.length
        · rw [if_pos h3] at he; cases he
        · rw [if_neg h3] at he
          have ha := attrsErr_ok _ _ he
          have hK : ∀ K, (K = ([] : List UInt8) ∨ ∃ K', K = 123 :: K') → Stops (attrsQ ats ++ (K ++ r)) := by
            intro K hK c hc
            cases ats with
            | nil =>
              rcases hK with rfl | ⟨K', rfl⟩
              · exact ends_stop hr c hc
              · simp [attrsQ] at hc; subst hc; decide
            | cons q t => simp [attrsQ, atsQ] at hc; subst hc; decide
          by_cases h0 : ks.len = 0
          · have hks : ks = .nil := by cases ks with | nil => rfl | cons _ _ _ => simp [Fo.len] at h0
            subst hks
            rw [show treeQ ⟨0, l, ats, 0, 0, []⟩ .nil ++ r = l ++ (attrsQ ats ++ r) by simp [treeQ, elemQ, Fo.len]]
            rw [treeP_word (beginP_word hn (by have := hK [] (.inl rfl); simpa using this))]
            rw [optA_app ha (ends_not hr (by decide) (by decide))]
            simp only [Option.bind_some]
            rw [optK_no (ends_not hr (by decide) (by decide))]; rfl
          · rw [show treeQ ⟨0, l, ats, 0, 0, []⟩ ks ++ r = l ++ (attrsQ ats ++ 123 :: (foQ true ks ++ 125 :: r)) by simp [treeQ, elemQ, h0]]
            rw [treeP_word (beginP_word hn (by have := hK (123 :: (foQ true ks ++ [125])) (.inr ⟨_, rfl⟩); simpa using this))]
            rw [optA_app ha (by simp)]
            simp only [Option.bind_some]
            rw [show ∀ u, optK F (123 :: u) = (F u).bind fun x => expP 125 x.1 x.2 from fun _ => rfl, HF h0]; rfl
    · simp only [if_true] at he
      obtain rfl := hk (by simp)
      rw [show treeQ ⟨1, [], [], n, d, []⟩ .nil = toldS n d by unfold treeQ printE; simp [he]]
      exact treeP_leaf (beginP_num he hr) (by simp)
    · simp only [show ((2 : Int) = 1) = False by simp, if_false, if_true] at he
      obtain rfl := hk (by simp)
      have hp : printableB x 24 = true := by
        cases hx : printableB x 24 with
        | true => rfl
        | false => rw [hx] at he; simp at he
      rw [show treeQ ⟨2, [], [], 0, 0, x⟩ .nil = quoQ x from rfl]
      exact treeP_leaf (beginP_quo (printable_all hp)) (by simp)
theorem heads_parts {h : Hd} {ks r : Fo} (e : headsErr (.cons h ks r) = 0) : headErr h = 0 ∧ (h.k ≠ 0 → ks = .nil) ∧ headsErr ks = 0 ∧ headsErr r = 0 := by
  unfold headsErr at e
  by_cases h1 : headErr h ≠ 0
  · rw [if_pos h1] at e; exact absurd e h1
  rw [if_neg h1] at e
  by_cases h2 : h.k ≠ 0 ∧ ks.len ≠ 0
  · rw [if_pos h2] at e; cases e
  rw [if_neg h2] at e
  by_cases h3 : headsErr ks ≠ 0
  · rw [if_pos h3] at e; exact absurd e h3
  rw [if_neg h3] at e
  refine ⟨by simpa using h1, fun hk => ?_, by simpa using h3, e⟩
  cases ks with
  | nil => rfl
  | cons _ _ _ => exact absurd ⟨hk, by simp [Fo.len]⟩ h2
theorem rest_ends (g : Fo) {r : List UInt8} (hr : Ends r) : Ends (foQ false g ++ r) := by
  cases g with
  | nil => exact hr
  | cons h ks t => intro c hc; rw [foQ_cons] at hc; simp at hc; exact .inl hc.symm
/-- behind a forest: nothing, or a closing bracket. -/
def Shut (r : List UInt8) : Prop := ∀ c, r.head? = some c → c = 125
theorem shut_ends {r : List UInt8} (h : Shut r) : Ends r := fun c hc => .inr (h c hc)
theorem restP_app {F : List UInt8 → Option (Fo × List UInt8)} : ∀ (g : Fo) (m : Nat) (r : List UInt8), headsErr g = 0 → g.len ≤ m → Shut r →
    (∀ ks u, ks.deep + 1 ≤ g.deep → headsErr ks = 0 → ks.len ≠ 0 → Shut u → F (foQ true ks ++ u) = some (ks, u)) → restP (treeP F) m (foQ false g ++ r) = some (g, r)
  | .nil, m, r, _, _, hr, _ => restP_stop (fun e => by have := hr _ e; revert this; decide)
  | .cons h ks t, 0, r, _, hm, _, _ => by simp [Fo.len] at hm
  | .cons h ks t, m + 1, r, he, hm, hr, HF => by
    obtain ⟨h1, h2, h3, h4⟩ := heads_parts he
    have ih := restP_app (F := F) t m r h4 (by simp only [Fo.len] at hm; omega) hr (fun ks u hd he hl hu => HF ks u (by simp only [Fo.deep]; omega) he hl hu)
    have hT := treeP_app (F := F) (r := foQ false t ++ r) h1 h2 (rest_ends t (shut_ends hr)) (fun hl => HF ks _ (by simp only [Fo.deep]; omega) h3 hl (fun c hc => by simpa using hc.symm))
    rw [show foQ false (.cons h ks t) ++ r = 32 :: (treeQ h ks ++ (foQ false t ++ r)) by rw [foQ_cons]; simp, restP_more, hT]
    simp only [Option.bind_some]
    rw [ih]; rfl
theorem len_text : ∀ g : Fo, g.len ≤ (foQ false g).length
  | .nil => Nat.le_refl _
  | .cons h ks t => by have := len_text t; rw [foQ_cons]; simp [Fo.len]; omega
theorem forestP_app : ∀ (n : Nat) (g : Fo) (r : List UInt8), headsErr g = 0 → g.len ≠ 0 → g.deep ≤ n → Shut r → forestP n (foQ true g ++ r) = some (g, r)
  | _, .nil, _, _, hl, _, _ => by simp [Fo.len] at hl
  | 0, .cons h ks t, _, _, _, hd, _ => by simp [Fo.deep] at hd
  | n + 1, .cons h ks t, r, he, _, hd, hr => by
    obtain ⟨h1, h2, h3, h4⟩ := heads_parts he
    have HF : ∀ ks' u, ks'.deep ≤ n → headsErr ks' = 0 → ks'.len ≠ 0 → Shut u → forestP n (foQ true ks' ++ u) = some (ks', u) := fun ks' u a b c d => forestP_app n ks' u b c a d
    have hT := treeP_app (F := forestP n) (r := foQ false t ++ r) h1 h2 (rest_ends t (shut_ends hr)) (fun hl => HF ks _ (by simp only [Fo.deep] at hd; omega) h3 hl (fun c hc => by simpa using hc.symm))
    have hR := restP_app (F := forestP n) t (foQ false t ++ r).length r h4 (by have := len_text t; simp; omega) hr (fun ks' u a b c d => HF ks' u (by simp only [Fo.deep] at hd; omega) b c d)
    rw [forestP_eq, show foQ true (.cons h ks t) ++ r = treeQ h ks ++ (foQ false t ++ r) by rw [foQ_cons]; simp, hT]
    simp only [Option.bind_some]
    rw [hR]; rfl
theorem treeQ_pos {h : Hd} {ks : Fo} (he : headErr h = 0) : 1 ≤ (treeQ h ks).length := by
  obtain ⟨k, l, ats, n, d, x⟩ := h
  unfold headErr at he
  cases hs : strayB ⟨k, l, ats, n, d, x⟩ with
  | true => rw [hs] at he; cases he
  | false =>
    rw [hs] at he
    simp only [Bool.false_eq_true, if_false] at he
    rcases plain_cases hs with ⟨rfl, rfl, rfl, rfl⟩ | ⟨rfl, rfl, rfl, rfl⟩ | ⟨rfl, rfl, rfl, rfl, rfl⟩
    · simp only [show ((0 : Int) = 1) = False by simp, show ((0 : Int) = 2) = False by simp, if_false] at he
      unfold elemErr at he
      cases hn : namedB l with
      | false => simp only at he; rw [hn] at he; simp at he
      | true =>
        have := named_len hn
        simp [treeQ, elemQ]; omega
    · simp only [if_true] at he
      obtain ⟨c, t, e, _⟩ := told_head n d
      simp [treeQ, printE, he, e]
    · simp [treeQ, quoQ]
theorem deep_text : ∀ (g : Fo) (b : Bool), headsErr g = 0 → g.deep ≤ (foQ b g).length
  | .nil, _, _ => Nat.le_refl _
  | .cons h ks t, b, he => by
    obtain ⟨h1, h2, h3, h4⟩ := heads_parts he
    have a1 := deep_text ks true h3
    have a2 := deep_text t false h4
    have a3 := treeQ_pos (ks := ks) h1
    have a4 : (foQ true ks).length + 1 ≤ (treeQ h ks).length := by
      by_cases hk : h.k = 0
      · by_cases h0 : ks.len = 0
        · have hks : ks = .nil := by cases ks with | nil => rfl | cons _ _ _ => simp [Fo.len] at h0
          subst hks
          simpa [foQ] using a3
        · have : treeQ h ks = elemQ h ks := by unfold treeQ; rw [if_neg (by omega), if_neg (by omega)]
          rw [this]
          simp [elemQ, h0]; omega
      · rw [h2 hk] at a3 ⊢
        simpa [foQ] using a3
    rw [foQ_cons]
    simp only [Fo.deep, List.length_append]
    omega
/-- what is printed is parsed as it was. -/
theorem read_text {f : Fo} (h : headsErr f = 0) : readP (foQ true f) = some f := by
  cases f with
  | nil => rfl
  | cons hd ks t =>
    have hd' := deep_text (.cons hd ks t) true h
    have := forestP_app ((foQ true (.cons hd ks t)).length + 1) (.cons hd ks t) [] h (by simp [Fo.len]) (by omega) (fun c hc => by cases hc)
    rw [List.append_nil] at this
    have hne : foQ true (.cons hd ks t) ≠ [] := fun e => by
      rw [e] at hd'
      simp [Fo.deep] at hd'
    obtain ⟨c, u, e⟩ : ∃ c u, foQ true (.cons hd ks t) = c :: u := List.exists_cons_of_ne_nil hne
    rw [e] at this ⊢
    unfold readP
    simp only
    rw [this]
theorem heads_of {f : Fo} (h : foErr f = 0) : headsErr f = 0 := by
  unfold foErr at h
  by_cases h1 : 400 < f.size
  · rw [if_pos h1] at h; cases h
  rw [if_neg h1] at h
  by_cases h2 : 40 < f.deep
  · rw [if_pos h2] at h; cases h
  rwa [if_neg h2] at h
theorem parsed_text {f : Fo} (h : foErr f = 0) (hl : (foQ true f).length ≤ 20000) : parsed (foQ true f) = (f, 0) := by
  unfold parsed
  rw [if_neg (by omega), read_text (heads_of h)]
  exact if_pos h
theorem text_inj {f g : Fo} (hf : foErr f = 0) (hg : foErr g = 0) (e : foQ true f = foQ true g) : f = g := by
  have h1 := read_text (heads_of hf)
  have h2 := read_text (heads_of hg)
  rw [e, h2] at h1
  exact (Option.some.inj h1).symm
end Go.Proofs.YtefongoinlcgaaaGreat

/- the reference's order of heads. -/
namespace Go.Proofs.YtefongoinlcgaaaGreat
open Go.RowKit

theorem strL_refl : ∀ a : List UInt8, strL a a = 0
  | [] => rfl
  | c :: t => by
    have := strL_refl t
    unfold strL at this ⊢
    simp [Lib.compareBytes, this]
theorem u8_lt_irrefl {a b : UInt8} (h : a < b) : ¬ b < a ∧ ¬ a = b := by
  rw [UInt8.lt_iff_toNat_lt] at h
  refine ⟨fun k => ?_, fun k => ?_⟩
  · rw [UInt8.lt_iff_toNat_lt] at k; omega
  · rw [k] at h; omega
theorem u8_tri (a b : UInt8) (h1 : ¬ a < b) (h2 : ¬ b < a) : a = b := by
  rw [UInt8.lt_iff_toNat_lt] at h1 h2
  exact UInt8.toNat_inj.1 (by omega)
theorem strL_less : ∀ a b : List UInt8, strL a b = if Op.bytesLess a b = true then -1 else if Op.bytesLess b a = true then 1 else 0
  | [], [] => rfl
  | [], _ :: _ => by simp [strL, Lib.compareBytes, Op.bytesLess]
  | _ :: _, [] => by simp [strL, Lib.compareBytes, Op.bytesLess]
  | a :: ar, b :: br => by
    have ih := strL_less ar br
    unfold strL at ih ⊢
    rw [Lib.compareBytes]
    by_cases h1 : a < b
    · rw [if_pos h1, if_pos (by simp [Op.bytesLess, h1])]
    · rw [if_neg h1]
      by_cases h2 : b < a
      · have h3 : ¬ a = b := fun e => (u8_lt_irrefl h2).2 e.symm
        rw [if_pos h2, if_neg (by simp [Op.bytesLess, h1, h3]), if_pos (by simp [Op.bytesLess, h2])]
      · obtain rfl := u8_tri a b h1 h2
        rw [if_neg h2, ih]
        simp [Op.bytesLess, h1]
theorem less_not {a b : List UInt8} (h : Op.bytesLess a b = true) : Op.bytesLess b a = false ∧ (a == b) = false := by
  have h1 := strL_less a b
  rw [if_pos h] at h1
  have h2 := strL_refl a
  refine ⟨?_, ?_⟩
  · cases h3 : Op.bytesLess b a with
    | false => rfl
    | true =>
      exfalso
      revert h h3
      clear h1 h2
      induction a generalizing b with
      | nil => intro h h3; cases b <;> simp [Op.bytesLess] at h h3
      | cons x a ih =>
        intro h h3
        cases b with
        | nil => simp [Op.bytesLess] at h
        | cons y b =>
          simp only [Op.bytesLess, Bool.or_eq_true, decide_eq_true_eq, Bool.and_eq_true, beq_iff_eq] at h h3
          rcases h with h | ⟨rfl, h⟩
          · rcases h3 with h3 | ⟨h3, _⟩
            · exact (u8_lt_irrefl h).1 h3
            · exact (u8_lt_irrefl h).2 h3.symm
          · rcases h3 with h3 | ⟨_, h3⟩
            · exact (u8_lt_irrefl h3).2 rfl
            · exact ih h h3
  · rw [beq_eq_false_iff_ne]
    rintro rfl
    rw [h2] at h1
    cases h1
theorem strL_eq : ∀ {a b : List UInt8}, strL a b = 0 → a = b
  | [], [], _ => rfl
  | [], _ :: _, h => by simp [strL, Lib.compareBytes] at h
  | _ :: _, [], h => by simp [strL, Lib.compareBytes] at h
  | a :: ar, b :: br, h => by
    unfold strL at h
    rw [Lib.compareBytes] at h
    by_cases h1 : a < b
    · rw [if_pos h1] at h; cases h
    · rw [if_neg h1] at h
      by_cases h2 : b < a
      · rw [if_pos h2] at h; cases h
      · rw [if_neg h2] at h
        rw [u8_tri a b h1 h2, strL_eq (a := ar) (b := br) h]

set_option maxRecDepth 100000 in
set_option maxHeartbeats 1000000 in
theorem qorder_any (a b : List UInt8) (w : World) : Calls Tryz.prog 141 #[.string ⟨a.toArray⟩, .string ⟨b.toArray⟩] w fun e w' => e = .returned (.int .i64 (strL a b)) ∧ w = w' := by
  rw [strL_less]
  cases h1 : Op.bytesLess a b with
  | true =>
    obtain ⟨h2, h3⟩ := less_not h1
    rw [if_pos rfl]
    go_enter Tryz.func141, Tryz.ntmps141
    go_wp2
    go_ret
    exact ⟨rfl, rfl⟩
  | false =>
    rw [if_neg (by simp)]
    cases h2 : Op.bytesLess b a with
    | true =>
      rw [if_pos rfl]
      have h3 : (a == b) = false := by have := (less_not h2).2; rw [beq_eq_false_iff_ne] at this ⊢; exact fun e => this e.symm
      have h4 : (b == a) = false := (less_not h2).2
      go_enter Tryz.func141, Tryz.ntmps141
      go_wp2
      go_ret
      exact ⟨rfl, rfl⟩
    | false =>
      rw [if_neg (by simp)]
      have h3 : a = b := strL_eq (by rw [strL_less, h1, h2]; rfl)
      subst h3
      go_enter Tryz.func141, Tryz.ntmps141
      go_wp2
      go_ret
      exact ⟨rfl, rfl⟩
def signM (n : Int) : Int := if n < 0 then -1 else if 0 < n then 1 else 0
set_option maxHeartbeats 1000000 in
theorem qsign_any (n : Int) (w : World) : Calls Tryz.prog 142 #[.int .i64 n] w fun e w' => e = .returned (.int .i64 (signM n)) ∧ w = w' := by
  unfold signM
  by_cases h1 : n < 0
  · rw [if_pos h1]
    go_enter Tryz.func142, Tryz.ntmps142
    go_wp2
    go_ret
    exact ⟨rfl, rfl⟩
  · rw [if_neg h1]
    by_cases h2 : 0 < n
    · rw [if_pos h2]
      go_enter Tryz.func142, Tryz.ntmps142
      go_wp2
      go_ret
      exact ⟨rfl, rfl⟩
    · rw [if_neg h2]
      go_enter Tryz.func142, Tryz.ntmps142
      go_wp2
      go_ret
      exact ⟨rfl, rfl⟩
theorem sign_cmp (a b : Nat) : signM ((a : Int) - (b : Int)) = cmpM a b := by
  unfold signM cmpM
  rcases Nat.lt_trichotomy a b with h | h | h
  · rw [if_pos (by omega), if_pos (by omega)]
  · rw [if_neg (by omega), if_neg (by omega), if_neg (by omega), if_neg (by omega)]
  · rw [if_neg (by omega), if_pos (by omega), if_neg (by omega), if_pos (by omega)]
end Go.Proofs.YtefongoinlcgaaaGreat

/- the order of heads: lists of attributes, numbers, the aspects. -/
namespace Go.Proofs.YtefongoinlcgaaaGreat
open Go.RowKit

theorem atsL_drop {a b : List (List UInt8 × List UInt8)} {k : Nat} (ha : k < a.length) (hb : k < b.length) :
    atsL (a.drop k) (b.drop k) = if attrL (a.getD k ([], [])) (b.getD k ([], [])) ≠ 0 then attrL (a.getD k ([], [])) (b.getD k ([], [])) else atsL (a.drop (k + 1)) (b.drop (k + 1)) := by
  rw [List.drop_eq_getElem_cons ha, List.drop_eq_getElem_cons hb, atsL]
  simp only [List.getD_eq_getElem?_getD, List.getElem?_eq_getElem ha, List.getElem?_eq_getElem hb, Option.getD_some]
theorem atsL_end {a b : List (List UInt8 × List UInt8)} {k : Nat} (hk : k = min a.length b.length) : atsL (a.drop k) (b.drop k) = cmpM a.length b.length := by
  unfold cmpM
  rcases Nat.lt_trichotomy a.length b.length with h | h | h
  · rw [if_pos (by omega), show a.drop k = [] by rw [List.drop_eq_nil_iff]; omega]
    cases hd : b.drop k with
    | nil => rw [List.drop_eq_nil_iff] at hd; omega
    | cons c t => rfl
  · rw [if_neg (by omega), if_neg (by omega), show a.drop k = [] by rw [List.drop_eq_nil_iff]; omega, show b.drop k = [] by rw [List.drop_eq_nil_iff]; omega]
    rfl
  · rw [if_neg (by omega), if_pos (by omega), show b.drop k = [] by rw [List.drop_eq_nil_iff]; omega]
    cases hd : a.drop k with
    | nil => rw [List.drop_eq_nil_iff] at hd; omega
    | cons c t => rfl

theorem attrs_len {w : World} {v : Value} {l : List (List UInt8 × List UInt8)} (h : AttrsLie w v l) : l.length ≤ 4398046510976 := by
  rcases h with ⟨_, _, _, rfl⟩ | ⟨_, _, _, _, _, h, _⟩
  · simp
  · exact h
theorem attrs_at {w : World} {a : Option Addr} {cap : Nat} {l : List (List UInt8 × List UInt8)} (h : AttrsLie w (.slice a l.length cap) l) (h0 : l ≠ []) :
    ∃ b off, a = some ⟨b, off, none⟩ ∧ l.length ≤ cap ∧ b < w.heap.size ∧ ∀ k, k < l.length → w.cell? ⟨b, off + k * 2, none⟩ = some (.string ⟨(l.getD k ([], [])).1.toArray⟩) ∧ w.cell? ⟨b, off + k * 2 + 1, none⟩ = some (.string ⟨(l.getD k ([], [])).2.toArray⟩) := by
  rcases h with ⟨_, _, _, h⟩ | ⟨b, off, cap', hv, h1, _, h2, h3⟩
  · exact absurd h h0
  · simp only [Value.slice.injEq] at hv
    obtain ⟨rfl, -, rfl⟩ := hv
    exact ⟨b, off, rfl, h1, h2, h3⟩

set_option maxRecDepth 100000 in
set_option maxHeartbeats 4000000 in
theorem listsAttr_any (a b : List (List UInt8 × List UInt8)) (va vb : Value) (w : World) (ha : AttrsLie w va a) (hb : AttrsLie w vb b) :
    Calls Tryz.prog 135 #[va, vb, .func (.func 136) #[] #[]] w fun e w' => e = .returned (.int .i64 (atsL a b)) ∧ Below w.heap.size w w' := by
  obtain ⟨pa, ca, rfl⟩ := attrs_form ha
  obtain ⟨pb, cb, rfl⟩ := attrs_form hb
  have HA := Lib.hid ha
  have HB := Lib.hid hb
  have la := attrs_len ha
  have lb := attrs_len hb
  obtain ⟨n, hn⟩ : ∃ n, min a.length b.length = n := ⟨_, rfl⟩
  have hni : min (a.length : Int) (b.length : Int) = (n : Int) := by omega
  clear ha hb
  by_cases hab : b.length < a.length
  · have hab' : decide (b.length < a.length) = true := by simpa using hab
    go_enter Tryz.func135, Tryz.ntmps135
    go_wp2_with fail
    go_loopw [14] (fun i wr => ∃ k : Nat, i = .int .i64 k ∧ k ≤ n ∧ atsL a b = atsL (a.drop k) (b.drop k) ∧ Below w.heap.size w wr) (fun i _ => n - (intOf i).toNat)
    case atStart => exact ⟨0, rfl, Nat.zero_le _, rfl, Below.refl _ _⟩
    case round =>
      obtain ⟨k, rfl, hk, he, hbw⟩ := hrel
      have HE := Lib.hid he
      have BW := Lib.hid hbw
      have hsr := hbw.size
      clear he hbw
      by_cases hlt : k < n
      · have hka : k < a.length := by omega
        have hkb : k < b.length := by omega
        obtain ⟨ga, oa, rfl, hca, hga, hxa⟩ := attrs_at HA.out (by intro e; rw [e] at hka; simp at hka)
        obtain ⟨gb, ob, rfl, hcb, hgb, hxb⟩ := attrs_at HB.out (by intro e; rw [e] at hkb; simp at hkb)
        have HS := Lib.hid (HE.out.trans (atsL_drop hka hkb))
        obtain ⟨x1, x2⟩ := hxa k hka
        obtain ⟨y1, y2⟩ := hxb k hkb
        have c1 := (BW.out.cell (p := ⟨ga, oa + k * 2, none⟩) hga).trans x1
        have c2 := (BW.out.cell (p := ⟨ga, oa + k * 2 + 1, none⟩) hga).trans x2
        have c3 := (BW.out.cell (p := ⟨gb, ob + k * 2, none⟩) hgb).trans y1
        have c4 := (BW.out.cell (p := ⟨gb, ob + k * 2 + 1, none⟩) hgb).trans y2
        have na : ga < wr.heap.size := by omega
        have nb : gb < wr.heap.size := by omega
        clear hxa hxb x1 x2 y1 y2
        generalize a.getD k ([], []) = p at *
        generalize b.getD k ([], []) = q at *
        go_wp2_with fail
        refine wp_region_quiet_tail (fun w' => ∃ x : Lower _, w' = x.val) 9 (by kernel_rfl) (by kernel_rfl) ⟨⟨_, (Below.refl _ _).drew⟩, rfl⟩ ?_
        simp only [List.take_succ_cons, List.take_zero, List.drop_succ_cons, List.drop_zero]
        repeat (go_big_quiet_step (fail))
        refine wpQuiet_nil ?_
        intro w1 hx1
        obtain ⟨x1, hx1⟩ := hx1
        have hb1 := x1.prop
        rw [← hx1] at hb1
        clear hx1 x1
        obtain ⟨hc1, hf1⟩ := bcell hb1
        have hs1 := hb1.size
        try simp at hs1
        try have hz10 : w.heap.size < w1.heap.size := by omega
        try have hz11 : w.heap.size + 1 < w1.heap.size := by omega
        try have hz12 : w.heap.size + 1 + 1 < w1.heap.size := by omega
        try have hz13 : w.heap.size + 1 + 1 + 1 < w1.heap.size := by omega
        try have hz14 : w.heap.size + 1 + 1 + 1 + 1 < w1.heap.size := by omega
        try have hz15 : w.heap.size + 1 + 1 + 1 + 1 + 1 < w1.heap.size := by omega
        clear hc1 hf1
        have B1 := Lib.hid (BW.out.trans (hb1.mono hsr))
        clear hb1
        go_wp2_with fail
        refine (compareAttrs_any p q _).mono ?_
        rintro e w2 ⟨rfl, hb2⟩
        have B2 := Lib.hid (B1.out.trans (hb2.mono B1.out.size))
        clear hb2
        by_cases hx : attrL p q = 0
        · have HX := Lib.hid (HS.out.trans (if_neg (by simpa using hx)))
          have b0 : (attrL p q != 0) = false := by simpa using hx
          clear hx
          go_wp2_with fail
          go_roundw
          case rel => exact ⟨k + 1, by go_num, by omega, HX.out, B2.out⟩
          case measure => simp [intOf]; omega
        · have HX := Lib.hid (HS.out.trans (if_pos (by simpa using hx)))
          have b0 : (attrL p q != 0) = true := by simpa using hx
          clear hx
          go_wp2_with fail
          go_ret
          exact ⟨ret_int' HX.out.symm, B2.out⟩
      · have HX := Lib.hid (HE.out.trans (atsL_end (show k = min a.length b.length by omega)))
        try have d1 : decide (k < a.length) = false := by simp; omega
        try have d2 : decide (k < b.length) = false := by simp; omega
        go_wp2_with fail
        refine (compare_any _ _ _).mono ?_
        rintro e w2 ⟨rfl, hw⟩
        obtain rfl := hw
        go_wp2_with fail
        go_ret
        exact ⟨ret_int' HX.out.symm, BW.out⟩
  · have hab' : decide (b.length < a.length) = false := by simpa using hab
    go_enter Tryz.func135, Tryz.ntmps135
    go_wp2_with fail
    go_loopw [14] (fun i wr => ∃ k : Nat, i = .int .i64 k ∧ k ≤ n ∧ atsL a b = atsL (a.drop k) (b.drop k) ∧ Below w.heap.size w wr) (fun i _ => n - (intOf i).toNat)
    case atStart => exact ⟨0, rfl, Nat.zero_le _, rfl, Below.refl _ _⟩
    case round =>
      obtain ⟨k, rfl, hk, he, hbw⟩ := hrel
      have HE := Lib.hid he
      have BW := Lib.hid hbw
      have hsr := hbw.size
      clear he hbw
      by_cases hlt : k < n
      · have hka : k < a.length := by omega
        have hkb : k < b.length := by omega
        obtain ⟨ga, oa, rfl, hca, hga, hxa⟩ := attrs_at HA.out (by intro e; rw [e] at hka; simp at hka)
        obtain ⟨gb, ob, rfl, hcb, hgb, hxb⟩ := attrs_at HB.out (by intro e; rw [e] at hkb; simp at hkb)
        have HS := Lib.hid (HE.out.trans (atsL_drop hka hkb))
        obtain ⟨x1, x2⟩ := hxa k hka
        obtain ⟨y1, y2⟩ := hxb k hkb
        have c1 := (BW.out.cell (p := ⟨ga, oa + k * 2, none⟩) hga).trans x1
        have c2 := (BW.out.cell (p := ⟨ga, oa + k * 2 + 1, none⟩) hga).trans x2
        have c3 := (BW.out.cell (p := ⟨gb, ob + k * 2, none⟩) hgb).trans y1
        have c4 := (BW.out.cell (p := ⟨gb, ob + k * 2 + 1, none⟩) hgb).trans y2
        have na : ga < wr.heap.size := by omega
        have nb : gb < wr.heap.size := by omega
        clear hxa hxb x1 x2 y1 y2
        generalize a.getD k ([], []) = p at *
        generalize b.getD k ([], []) = q at *
        go_wp2_with fail
        refine wp_region_quiet_tail (fun w' => ∃ x : Lower _, w' = x.val) 9 (by kernel_rfl) (by kernel_rfl) ⟨⟨_, (Below.refl _ _).drew⟩, rfl⟩ ?_
        simp only [List.take_succ_cons, List.take_zero, List.drop_succ_cons, List.drop_zero]
        repeat (go_big_quiet_step (fail))
        refine wpQuiet_nil ?_
        intro w1 hx1
        obtain ⟨x1, hx1⟩ := hx1
        have hb1 := x1.prop
        rw [← hx1] at hb1
        clear hx1 x1
        obtain ⟨hc1, hf1⟩ := bcell hb1
        have hs1 := hb1.size
        try simp at hs1
        try have hz10 : w.heap.size < w1.heap.size := by omega
        try have hz11 : w.heap.size + 1 < w1.heap.size := by omega
        try have hz12 : w.heap.size + 1 + 1 < w1.heap.size := by omega
        try have hz13 : w.heap.size + 1 + 1 + 1 < w1.heap.size := by omega
        try have hz14 : w.heap.size + 1 + 1 + 1 + 1 < w1.heap.size := by omega
        try have hz15 : w.heap.size + 1 + 1 + 1 + 1 + 1 < w1.heap.size := by omega
        clear hc1 hf1
        have B1 := Lib.hid (BW.out.trans (hb1.mono hsr))
        clear hb1
        go_wp2_with fail
        refine (compareAttrs_any p q _).mono ?_
        rintro e w2 ⟨rfl, hb2⟩
        have B2 := Lib.hid (B1.out.trans (hb2.mono B1.out.size))
        clear hb2
        by_cases hx : attrL p q = 0
        · have HX := Lib.hid (HS.out.trans (if_neg (by simpa using hx)))
          have b0 : (attrL p q != 0) = false := by simpa using hx
          clear hx
          go_wp2_with fail
          go_roundw
          case rel => exact ⟨k + 1, by go_num, by omega, HX.out, B2.out⟩
          case measure => simp [intOf]; omega
        · have HX := Lib.hid (HS.out.trans (if_pos (by simpa using hx)))
          have b0 : (attrL p q != 0) = true := by simpa using hx
          clear hx
          go_wp2_with fail
          go_ret
          exact ⟨ret_int' HX.out.symm, B2.out⟩
      · have HX := Lib.hid (HE.out.trans (atsL_end (show k = min a.length b.length by omega)))
        try have d1 : decide (k < a.length) = false := by simp; omega
        try have d2 : decide (k < b.length) = false := by simp; omega
        go_wp2_with fail
        refine (compare_any _ _ _).mono ?_
        rintro e w2 ⟨rfl, hw⟩
        obtain rfl := hw
        go_wp2_with fail
        go_ret
        exact ⟨ret_int' HX.out.symm, BW.out⟩
end Go.Proofs.YtefongoinlcgaaaGreat
