/- Sums and products: plain mathematics. -/
import Derived.Test.YtgefidffhdanhaaMath
namespace Go.Proofs.Ytgefidffhdanhaa

theorem den_pos {n d : Int} (h : chk n d = 0) : 0 < d := by have := (fit_of_chk h).dlo; omega
theorem den_ne {n d : Int} (h : chk n d = 0) : ¬ d = 0 := by have := den_pos h; omega
theorem dens_ne {a b : Int} (h : 0 < a) (k : 0 < b) : ¬ a * b = 0 := mul_ne (by omega) (by omega)

theorem add_eq {an ad bn bd : Int} (ha : chk an ad = 0) (hb : chk bn bd = 0) : addT an ad bn bd = lowT (an * bd + bn * ad) (ad * bd) := twoT_r ha hb
theorem sub_eq {an ad bn bd : Int} (ha : chk an ad = 0) (hb : chk bn bd = 0) : subT an ad bn bd = lowT (an * bd - bn * ad) (ad * bd) := twoT_r ha hb
theorem mul_eq {an ad bn bd : Int} (ha : chk an ad = 0) (hb : chk bn bd = 0) : mulT an ad bn bd = lowT (an * bn) (ad * bd) := twoT_r ha hb
theorem div_eq {an ad bn bd : Int} (ha : chk an ad = 0) (hb : chk bn bd = 0) (h : ¬ bn = 0) : divT an ad bn bd = lowT (an * bd) (ad * bn) := by
  unfold divT; rw [twoT_r ha hb, if_neg h]

/-- a result is a valid number, which equals what is asked for, or beyond the bounds. -/
def IsLow (n d : Int) (r : Int × Int × Int) : Prop := (∃ x y, r = (x, y, 0) ∧ chk x y = 0 ∧ n * y = x * d) ∨ (r = (0, 0, 8) ∧ ∀ x y, chk x y = 0 → ¬ n * y = x * d)

theorem add_is {an ad bn bd : Int} (ha : chk an ad = 0) (hb : chk bn bd = 0) : IsLow (an * bd + bn * ad) (ad * bd) (addT an ad bn bd) := by
  rw [add_eq ha hb]; exact low_is (dens_ne (den_pos ha) (den_pos hb))
theorem sub_is {an ad bn bd : Int} (ha : chk an ad = 0) (hb : chk bn bd = 0) : IsLow (an * bd - bn * ad) (ad * bd) (subT an ad bn bd) := by
  rw [sub_eq ha hb]; exact low_is (dens_ne (den_pos ha) (den_pos hb))
theorem mul_is {an ad bn bd : Int} (ha : chk an ad = 0) (hb : chk bn bd = 0) : IsLow (an * bn) (ad * bd) (mulT an ad bn bd) := by
  rw [mul_eq ha hb]; exact low_is (dens_ne (den_pos ha) (den_pos hb))

theorem add_comm' {an ad bn bd : Int} (ha : chk an ad = 0) (hb : chk bn bd = 0) : addT bn bd an ad = addT an ad bn bd := by
  rw [add_eq ha hb, add_eq hb ha, Int.mul_comm bd ad, Int.add_comm]
theorem mul_comm' {an ad bn bd : Int} (ha : chk an ad = 0) (hb : chk bn bd = 0) : mulT bn bd an ad = mulT an ad bn bd := by
  rw [mul_eq ha hb, mul_eq hb ha, Int.mul_comm bd ad, Int.mul_comm bn an]

theorem sub_back {an ad bn bd x y : Int} (ha : chk an ad = 0) (hb : chk bn bd = 0) (hx : chk x y = 0) (h : (an * bd + bn * ad) * y = x * (ad * bd)) : subT x y bn bd = (an, ad, 0) := by
  rw [sub_eq hx hb]
  have := den_pos ha; have := den_pos hb; have := den_pos hx
  refine low_eq (dens_ne (by omega) (by omega)) ha ?_
  grind
theorem div_back {an ad bn bd x y : Int} (ha : chk an ad = 0) (hb : chk bn bd = 0) (hx : chk x y = 0) (h0 : ¬ bn = 0) (h : (an * bn) * y = x * (ad * bd)) : divT x y bn bd = (an, ad, 0) := by
  rw [div_eq hx hb h0]
  have := den_pos ha; have := den_pos hb; have := den_pos hx
  refine low_eq (mul_ne (by omega) h0) ha ?_
  grind
theorem chk01 : chk 0 1 = 0 := by decide +kernel
theorem chk11 : chk 1 1 = 0 := by decide +kernel
theorem add_zero' {an ad : Int} (ha : chk an ad = 0) : addT an ad 0 1 = (an, ad, 0) := by
  rw [add_eq ha chk01]
  have := den_pos ha
  exact low_eq (by omega) ha (by grind)
theorem mul_one' {an ad : Int} (ha : chk an ad = 0) : mulT an ad 1 1 = (an, ad, 0) := by
  rw [mul_eq ha chk11]
  have := den_pos ha
  exact low_eq (by omega) ha (by grind)

theorem cancel3 {a b c : Int} (h : 0 < c) (k : a * c = b * c) : a = b := Int.eq_of_mul_eq_mul_right (by omega) k

theorem add_assoc' {an ad bn bd cn cd x y u v : Int} (ha : chk an ad = 0) (hb : chk bn bd = 0) (hc : chk cn cd = 0) (hx : chk x y = 0) (hu : chk u v = 0)
    (h : (an * bd + bn * ad) * y = x * (ad * bd)) (k : (bn * cd + cn * bd) * v = u * (bd * cd)) : addT x y cn cd = addT an ad u v := by
  rw [add_eq hx hc, add_eq ha hu]
  have a1 := den_pos ha; have a2 := den_pos hb; have a3 := den_pos hc; have a4 := den_pos hx; have a5 := den_pos hu
  refine low_congr (dens_ne a4 a3) (dens_ne a1 a5) ?_
  refine cancel3 a2 ?_
  grind
theorem mul_assoc' {an ad bn bd cn cd x y u v : Int} (ha : chk an ad = 0) (hb : chk bn bd = 0) (hc : chk cn cd = 0) (hx : chk x y = 0) (hu : chk u v = 0)
    (h : (an * bn) * y = x * (ad * bd)) (k : (bn * cn) * v = u * (bd * cd)) : mulT x y cn cd = mulT an ad u v := by
  rw [mul_eq hx hc, mul_eq ha hu]
  have a1 := den_pos ha; have a2 := den_pos hb; have a3 := den_pos hc; have a4 := den_pos hx; have a5 := den_pos hu
  refine low_congr (dens_ne a4 a3) (dens_ne a1 a5) ?_
  refine cancel3 (c := bd * bd) (Int.mul_pos a2 a2) ?_
  grind
theorem distrib' {an ad bn bd cn cd u v pn pd qn qd rn rd : Int} (ha : chk an ad = 0) (hb : chk bn bd = 0) (hc : chk cn cd = 0) (hu : chk u v = 0) (hp : chk pn pd = 0) (hq : chk qn qd = 0) (hr : chk rn rd = 0)
    (k : (bn * cd + cn * bd) * v = u * (bd * cd)) (kp : (an * u) * pd = pn * (ad * v)) (kq : (an * bn) * qd = qn * (ad * bd)) (kr : (an * cn) * rd = rn * (ad * cd)) : addT qn qd rn rd = (pn, pd, 0) := by
  rw [add_eq hq hr]
  have a1 := den_pos ha; have a2 := den_pos hb; have a3 := den_pos hc; have a5 := den_pos hu; have a6 := den_pos hp; have a7 := den_pos hq; have a8 := den_pos hr
  refine low_eq (dens_ne a7 a8) hp ?_
  refine cancel3 (c := ad * bd * cd * v) (by have := Int.mul_pos (Int.mul_pos (Int.mul_pos a1 a2) a3) a5; omega) ?_
  have e1 : (qn * rd + rn * qd) * pd * (ad * bd * cd * v) = (qn * (ad * bd)) * rd * pd * cd * v + (rn * (ad * cd)) * qd * pd * bd * v := by grind
  have e2 : pn * (qd * rd) * (ad * bd * cd * v) = (pn * (ad * v)) * qd * rd * (bd * cd) := by grind
  rw [e1, e2, ← kq, ← kr, ← kp]
  have e3 : an * u * pd * qd * rd * (bd * cd) = an * pd * qd * rd * (u * (bd * cd)) := by grind
  rw [e3, ← k]
  grind
end Go.Proofs.Ytgefidffhdanhaa
