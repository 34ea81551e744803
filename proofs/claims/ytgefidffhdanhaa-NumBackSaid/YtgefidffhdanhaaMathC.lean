/- The order of numbers: plain mathematics. -/
import Derived.Test.YtgefidffhdanhaaMathB
namespace Go.Proofs.Ytgefidffhdanhaa

theorem cmpM_neg (a b : Int) : cmpM a b = -cmpM b a := by unfold cmpM; split <;> split <;> omega
theorem cmpM_lo (a b : Int) : -1 ≤ cmpM a b := by unfold cmpM; split; omega; split <;> omega
theorem cmpM_hi (a b : Int) : cmpM a b ≤ 1 := by unfold cmpM; split; omega; split <;> omega
theorem cmpM_zero {a b : Int} : cmpM a b = 0 ↔ a = b := by unfold cmpM; split; omega; split <;> omega
theorem cmpM_neg1 {a b : Int} : cmpM a b = -1 ↔ a < b := by unfold cmpM; split; omega; split <;> omega
theorem cmpM_pos1 {a b : Int} : cmpM a b = 1 ↔ b < a := by unfold cmpM; split; omega; split <;> omega
theorem cmpM_lt0 {a b : Int} : cmpM a b < 0 ↔ a < b := by unfold cmpM; split; omega; split <;> omega
theorem cmpM_ge0 {a b : Int} : 0 ≤ cmpM a b ↔ ¬ a < b := by unfold cmpM; split; omega; split <;> omega
theorem cmpM_le0 {a b : Int} : cmpM a b ≤ 0 ↔ a ≤ b := by unfold cmpM; split; omega; split <;> omega

theorem cmpM_congr {a b c d : Int} (h1 : a < b ↔ c < d) (h2 : b < a ↔ d < c) : cmpM a b = cmpM c d := by
  unfold cmpM
  by_cases h : a < b
  · rw [if_pos h, if_pos (h1.1 h)]
  · rw [if_neg h, if_neg (fun k => h (h1.2 k))]
    by_cases k : b < a
    · rw [if_pos k, if_pos (h2.1 k)]
    · rw [if_neg k, if_neg (fun j => k (h2.2 j))]

theorem pos_of_scaled {x p : Int} (hp : 0 < p) (h : 0 < x * p) : 0 < x := Int.pos_of_mul_pos_left h hp
theorem scaled_pos {x p : Int} (hp : 0 < p) (h : 0 < x) : 0 < x * p := Int.mul_pos h hp

theorem lt_scaled {a b c d p q : Int} (hp : 0 < p) (hq : 0 < q) (h : (a - b) * p = (c - d) * q) (k : c < d) : a < b := by
  have k1 := scaled_pos hq (show 0 < d - c by omega)
  have k2 : 0 < (b - a) * p := by
    have e1 : (b - a) * p = -((a - b) * p) := by rw [← Int.neg_mul]; congr 1; omega
    have e2 : (d - c) * q = -((c - d) * q) := by rw [← Int.neg_mul]; congr 1; omega
    omega
  have := pos_of_scaled hp k2
  omega

theorem cmp_scaled {a b c d p q : Int} (hp : 0 < p) (hq : 0 < q) (h : (a - b) * p = (c - d) * q) : cmpM a b = cmpM c d := by
  have h2 : (b - a) * p = (d - c) * q := by
    have e1 : (b - a) * p = -((a - b) * p) := by rw [← Int.neg_mul]; congr 1; omega
    have e2 : (d - c) * q = -((c - d) * q) := by rw [← Int.neg_mul]; congr 1; omega
    omega
  exact cmpM_congr ⟨lt_scaled hq hp h.symm, lt_scaled hp hq h⟩ ⟨lt_scaled hq hp h2.symm, lt_scaled hp hq h2⟩

theorem cross_trans {an ad bn bd cn cd : Int} (ha : 0 < ad) (hb : 0 < bd) (hc : 0 < cd) (h : an * bd < bn * ad) (k : bn * cd < cn * bd) : an * cd < cn * ad := by
  refine Int.lt_of_mul_lt_mul_right (a := bd) ?_ (by omega)
  have h1 := Int.mul_lt_mul_of_pos_right h hc
  have h2 := Int.mul_lt_mul_of_pos_right k ha
  have e1 : an * cd * bd = an * bd * cd := by grind
  have e2 : bn * ad * cd = bn * cd * ad := by grind
  have e3 : cn * ad * bd = cn * bd * ad := by grind
  omega
theorem cross_eq {an ad bn bd cn cd : Int} (hb : 0 < bd) (h : an * bd = bn * ad) (k : bn * cd = cn * bd) : an * cd = cn * ad := by
  refine Int.eq_of_mul_eq_mul_right (a := bd) (by omega) ?_
  have e1 : an * cd * bd = an * bd * cd := by grind
  have e2 : bn * ad * cd = bn * cd * ad := by grind
  have e3 : cn * ad * bd = cn * bd * ad := by grind
  rw [e1, e3, h, e2, k]

theorem cmp_trans {an ad bn bd cn cd : Int} (ha : 0 < ad) (hb : 0 < bd) (hc : 0 < cd) (h : cmpM (an * bd) (bn * ad) = cmpM (bn * cd) (cn * bd)) :
    cmpM (an * cd) (cn * ad) = cmpM (an * bd) (bn * ad) := by
  rcases Int.lt_trichotomy (an * bd) (bn * ad) with k | k | k
  · rw [cmpM_neg1.2 k] at h ⊢
    exact cmpM_neg1.2 (cross_trans ha hb hc k (cmpM_neg1.1 h.symm))
  · rw [cmpM_zero.2 k] at h ⊢
    exact cmpM_zero.2 (cross_eq hb k (cmpM_zero.1 h.symm))
  · rw [cmpM_pos1.2 k] at h ⊢
    exact cmpM_pos1.2 (cross_trans hc hb ha (cmpM_pos1.1 h.symm) k)

theorem add_cmp {an ad bn bd cn cd x y u v : Int} (ha : 0 < ad) (hb : 0 < bd) (hc : 0 < cd) (hy : 0 < y) (hv : 0 < v)
    (h : (an * cd + cn * ad) * y = x * (ad * cd)) (k : (bn * cd + cn * bd) * v = u * (bd * cd)) : cmpM (x * v) (u * y) = cmpM (an * bd) (bn * ad) := by
  refine cmp_scaled (p := (ad * cd) * (bd * cd)) (q := (y * v) * (cd * cd)) (Int.mul_pos (Int.mul_pos ha hc) (Int.mul_pos hb hc)) (Int.mul_pos (Int.mul_pos hy hv) (Int.mul_pos hc hc)) ?_
  have e1 : (x * v - u * y) * ((ad * cd) * (bd * cd)) = x * (ad * cd) * v * (bd * cd) - u * (bd * cd) * y * (ad * cd) := by grind
  rw [e1, ← h, ← k]
  grind
theorem mul_cmp {an ad bn bd cn cd x y u v : Int} (ha : 0 < ad) (hb : 0 < bd) (hc : 0 < cd) (hy : 0 < y) (hv : 0 < v) (hn : 0 < cn)
    (h : (an * cn) * y = x * (ad * cd)) (k : (bn * cn) * v = u * (bd * cd)) : cmpM (x * v) (u * y) = cmpM (an * bd) (bn * ad) := by
  refine cmp_scaled (p := (ad * cd) * (bd * cd)) (q := (y * v) * (cn * cd)) (Int.mul_pos (Int.mul_pos ha hc) (Int.mul_pos hb hc)) (Int.mul_pos (Int.mul_pos hy hv) (Int.mul_pos hn hc)) ?_
  have e1 : (x * v - u * y) * ((ad * cd) * (bd * cd)) = x * (ad * cd) * v * (bd * cd) - u * (bd * cd) * y * (ad * cd) := by grind
  rw [e1, ← h, ← k]
  grind
theorem neg_cmp {an ad bn bd : Int} : cmpM (-an * bd) (-bn * ad) = cmpM (bn * ad) (an * bd) := by
  rw [Int.neg_mul, Int.neg_mul]
  exact cmpM_congr (by omega) (by omega)
theorem same_of_cross {an ad bn bd : Int} (ha : chk an ad = 0) (hb : chk bn bd = 0) (h : an * bd = bn * ad) : an = bn ∧ ad = bd :=
  form_one (den_pos ha) (den_pos hb) (cop_of_chk ha) (cop_of_chk hb) h
theorem chk_neg {n d : Int} (h : chk n d = 0) : chk (-n) d = 0 := by
  have f := fit_of_chk h
  have g := cop_of_chk h
  exact chk_of ⟨by have := f.nhi; omega, by have := f.nlo; omega, f.dlo, f.dhi⟩ (by rw [Int.neg_gcd]; exact g)
end Go.Proofs.Ytgefidffhdanhaa
