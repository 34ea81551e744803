import Derived.Test.YtgefidffhdanhaaRows
namespace Go.Proofs.Ytgefidffhdanhaa

def btw : Nat → Int → Int → Int → Int → Int × Int
  | 0, _, _, _, _ => (0, 0)
  | f + 1, an, ad, bn, bd =>
    if (an / ad + 1) * bd < bn then (an / ad + 1, 1)
    else ((an / ad) * (btw f bd (bn - (an / ad) * bd) ad (an - (an / ad) * ad)).1 + (btw f bd (bn - (an / ad) * bd) ad (an - (an / ad) * ad)).2, (btw f bd (bn - (an / ad) * bd) ad (an - (an / ad) * ad)).1)

structure Btw (an ad bn bd x y : Int) : Prop where
  lo : an * y < x * ad
  hi : x * bd < bn * y
  y1 : 1 ≤ y
  x1 : 1 ≤ x
  least : ∀ p q : Int, 1 ≤ q → an * q < p * ad → p * bd < bn * q → x ≤ p ∧ y ≤ q
  xle : x ≤ an + bn
  yle : y ≤ ad + bd


theorem mul_ge1 {a b : Int} (ha : 0 ≤ a) (hb : 1 ≤ b) : a ≤ a * b := by
  have := Int.mul_le_mul_of_nonneg_left hb ha; omega

theorem btw_spec (f : Nat) : ∀ an ad bn bd : Int, 0 ≤ an → 1 ≤ ad → 1 ≤ bn → 0 ≤ bd → an * bd < bn * ad → ad + bd ≤ f → Btw an ad bn bd (btw f an ad bn bd).1 (btw f an ad bn bd).2 := by
  induction f with
  | zero => intro an ad bn bd h1 h2 h3 h4 h5 h6; omega
  | succ f ih =>
    intro an ad bn bd h1 h2 h3 h4 h5 h6
    have e1 := Int.mul_ediv_add_emod an ad
    have e2 := Int.emod_nonneg an (by omega : ad ≠ 0)
    have e3 := Int.emod_lt_of_pos an (by omega : 0 < ad)
    have e4 : 0 ≤ an / ad := Int.ediv_nonneg h1 (by omega)
    have e5 : an / ad ≤ an := Int.ediv_le_self _ h1
    unfold btw
    generalize an / ad = w at *
    have e6 : an - w * ad = an % ad := by grind
    rw [e6]
    clear e6
    generalize an % ad = r at *
    subst e1
    split
    · rename_i hc
      refine ⟨?_, ?_, ?_, ?_, ?_, ?_, ?_⟩
      · grind
      · grind
      · grind
      · grind
      · intro p q hq hp1 hp2
        have k1 : w * q < p := by
          refine Int.lt_of_mul_lt_mul_right (a := ad) ?_ (by omega)
          have : 0 ≤ r * q := Int.mul_nonneg e2 (by omega)
          grind
        have k2 := mul_ge1 e4 hq
        show w + 1 ≤ p ∧ 1 ≤ q
        omega
      · show w + 1 ≤ _; omega
      · show 1 ≤ ad + bd; omega
    · rename_i hc
      have hbd : 1 ≤ bd := by
        by_cases h : bd = 0
        · subst h; exfalso; apply hc; omega
        · omega
      have hb' : 1 ≤ bn - w * bd := by
        have : w * bd < bn := by
          refine Int.lt_of_mul_lt_mul_right (a := ad) ?_ (by omega)
          have : 0 ≤ r * bd := Int.mul_nonneg e2 (by omega)
          grind
        omega
      obtain ⟨i1, i2, i3, i4, i5, i6, i7⟩ := ih bd (bn - w * bd) ad r (by omega) hb' h2 e2 (by grind) (by grind)
      generalize btw f bd (bn - w * bd) ad r = s at *
      obtain ⟨x, y⟩ := s
      simp only at *
      refine ⟨?_, ?_, ?_, ?_, ?_, ?_, ?_⟩
      · grind
      · grind
      · grind
      · have : 0 ≤ w * x := Int.mul_nonneg e4 (by omega)
        grind
      · intro p q hq hp1 hp2
        have k1 : w * q < p := by
          refine Int.lt_of_mul_lt_mul_right (a := ad) ?_ (by omega)
          have : 0 ≤ r * q := Int.mul_nonneg e2 (by omega)
          grind
        have k := i5 q (p - w * q) (by omega) (by grind) (by grind)
        have k2 := Int.mul_le_mul_of_nonneg_left k.1 e4
        show w * x + y ≤ p ∧ x ≤ q
        omega
      · show w * x + y ≤ _
        have k2 := Int.mul_le_mul_of_nonneg_left i6 e4
        grind
      · show x ≤ _; omega

theorem btw_gcd {an ad bn bd x y : Int} (h : Btw an ad bn bd x y) : Int.gcd x y = 1 := by
  obtain ⟨h1, h2, h3, h4, h5, -, -⟩ := h
  have hg : 1 ≤ Int.gcd x y := by
    have : Int.gcd x y ≠ 0 := by rw [Ne, Int.gcd_eq_zero_iff]; omega
    omega
  obtain ⟨p, hp⟩ := Int.gcd_dvd_left (a := x) (b := y)
  obtain ⟨q, hq⟩ := Int.gcd_dvd_right (a := x) (b := y)
  generalize (Int.gcd x y) = g at *
  have hq1 : 1 ≤ q := by
    have : 0 < (g : Int) * q := by omega
    have := Int.pos_of_mul_pos_right this (by omega)
    omega
  subst hp hq
  have k1 : an * q < p * ad := by
    refine Int.lt_of_mul_lt_mul_right (a := (g : Int)) ?_ (by omega)
    grind
  have k2 : p * bd < bn * q := by
    refine Int.lt_of_mul_lt_mul_right (a := (g : Int)) ?_ (by omega)
    grind
  have k := (h5 p q hq1 k1 k2).2
  have : g = 1 := by
    by_cases h : g = 1
    · exact h
    · have k3 : q * 2 ≤ q * g := Int.mul_le_mul_of_nonneg_left (by omega) (by omega)
      grind
  exact this

/-- the number x / y between two others that no other one there is simpler than. -/
structure Strong (an ad bn bd x y : Int) : Prop where
  lo : an * y < x * ad
  hi : x * bd < bn * y
  y1 : 1 ≤ y
  least : ∀ p q : Int, 1 ≤ q → an * q < p * ad → p * bd < bn * q → y ≤ q ∧ x.natAbs ≤ p.natAbs
  side : (0 ≤ an → 0 ≤ x) ∧ (bn ≤ 0 → x ≤ 0)
  cop : Int.gcd x y = 1
  xle : x.natAbs ≤ an.natAbs + bn.natAbs ∧ y ≤ ad + bd

def smp (an ad bn bd : Int) : Int × Int :=
  if an < 0 ∧ 0 < bn then (0, 1)
  else if an < 0 then (-(btw (ad + bd).toNat (-bn) bd (-an) ad).1, (btw (ad + bd).toNat (-bn) bd (-an) ad).2)
  else btw (ad + bd).toNat an ad bn bd

theorem smp_strong {an ad bn bd : Int} (ha : 1 ≤ ad) (hb : 1 ≤ bd) (h : an * bd < bn * ad) : Strong an ad bn bd (smp an ad bn bd).1 (smp an ad bn bd).2 := by
  unfold smp
  split
  · rename_i hc
    have k1 : 0 < bn * 1 := by omega
    exact ⟨by show an * 1 < 0 * ad; omega, by show 0 * bd < bn * 1; omega, by show (1 : Int) ≤ 1; omega, fun p q hq _ _ => by show (1 : Int) ≤ q ∧ (0 : Int).natAbs ≤ _; simp; omega, by simp, by simp, by show (0 : Int).natAbs ≤ _ ∧ (1 : Int) ≤ _; omega⟩
  · split
    · rename_i h1 h2
      have hbn : bn ≤ 0 := by omega
      have S := btw_spec (ad + bd).toNat (-bn) bd (-an) ad (by omega) hb (by omega) (by omega) (by grind) (by omega)
      have G := btw_gcd S
      generalize btw (ad + bd).toNat (-bn) bd (-an) ad = s at *
      obtain ⟨x, y⟩ := s
      obtain ⟨i1, i2, i3, i4, i5, i6, i7⟩ := S
      simp only at *
      refine ⟨by grind, by grind, i3, fun p q hq h3 h4 => ?_, by omega, by rw [Int.neg_gcd]; exact G, by omega⟩
      have := i5 (-p) q hq (by grind) (by grind)
      omega
    · rename_i h1 h2
      have hbn : 1 ≤ bn := by
        have h3 : 0 ≤ an * bd := Int.mul_nonneg (by omega) (by omega)
        have h4 : 0 < bn * ad := by omega
        have := Int.pos_of_mul_pos_left h4 (by omega)
        omega
      have S := btw_spec (ad + bd).toNat an ad bn bd (by omega) ha hbn (by omega) h (by omega)
      have G := btw_gcd S
      generalize btw (ad + bd).toNat an ad bn bd = s at *
      obtain ⟨x, y⟩ := s
      obtain ⟨i1, i2, i3, i4, i5, i6, i7⟩ := S
      simp only at *
      refine ⟨i1, i2, i3, fun p q hq h3 h4 => ?_, by omega, G, by omega⟩
      have := i5 p q hq h3 h4
      omega

/-- no two numbers with one least denominator lie between, if no whole number does. -/
theorem dens_one {an ad bn bd y x x' : Int} (ha : 1 ≤ ad) (hb : 1 ≤ bd) (hy : 2 ≤ y) (hl : ∀ p q : Int, 1 ≤ q → an * q < p * ad → p * bd < bn * q → y ≤ q)
    (h1 : an * y < x * ad) (h2 : x' * bd < bn * y) (hx : x < x') : False := by
  have e1 := Int.mul_ediv_add_emod x y
  have e2 := Int.emod_nonneg x (by omega : y ≠ 0)
  have e3 := Int.emod_lt_of_pos x (by omega : 0 < y)
  generalize x / y = k at *
  generalize x % y = s at *
  have hk := hl (k * (y - 1) + s) (y - 1) (by omega)
  have k1 : an * (y - 1) < (k * (y - 1) + s) * ad := by
    refine Int.lt_of_mul_lt_mul_right (a := y) ?_ (by omega)
    have j1 : (an * y) * (y - 1) < (x * ad) * (y - 1) := Int.mul_lt_mul_of_pos_right h1 (by omega)
    have j2 : 0 ≤ s * ad := Int.mul_nonneg e2 (by omega)
    subst e1
    grind
  have k2 : (k * (y - 1) + s) * bd < bn * (y - 1) := by
    refine Int.lt_of_mul_lt_mul_right (a := y) ?_ (by omega)
    have j0 : (x + 1) * bd ≤ x' * bd := Int.mul_le_mul_of_nonneg_right (by omega) (by omega)
    have j1 : ((x + 1) * bd) * (y - 1) < (bn * y) * (y - 1) := Int.mul_lt_mul_of_pos_right (by omega) (by omega)
    have j2 : 0 ≤ (y - 1 - s) * bd := Int.mul_nonneg (by omega) (by omega)
    subst e1
    grind
  have := hk k1 k2
  omega

/-- what is simplest is one. -/
theorem strong_one {an ad bn bd x y u v : Int} (ha : 1 ≤ ad) (hb : 1 ≤ bd) (hS : Strong an ad bn bd x y) (k1 : an * v < u * ad) (k2 : u * bd < bn * v) (k3 : 1 ≤ v)
    (hl : ∀ p q : Int, 1 ≤ q → an * q < p * ad → p * bd < bn * q → v ≤ q) (hv : v = 1 → u = x) : u = x ∧ v = y := by
  obtain ⟨h1, h2, h3, h4, h5, h6, h7⟩ := hS
  have e1 := hl x y h3 h1 h2
  have e2 := (h4 u v k3 k1 k2).1
  have e3 : v = y := by omega
  subst e3
  refine ⟨?_, rfl⟩
  by_cases h : v = 1
  · exact hv h
  · rcases Int.lt_trichotomy u x with hlt | heq | hgt
    · exact (dens_one ha hb (by omega) hl k1 h2 hlt).elim
    · exact heq
    · exact (dens_one ha hb (by omega) hl h1 k2 hgt).elim

def rsmp (an ad bn bd : Int) : Int × Int :=
  if (an / ad + 1) * bd < bn then (if an < 0 ∧ 0 < bn then (0, 1) else if 0 ≤ an then (an / ad + 1, 1) else (-((-bn) / bd) - 1, 1))
  else ((btw (ad + bd).toNat bd (bn - (an / ad) * bd) ad (an - (an / ad) * ad)).2 + (an / ad) * (btw (ad + bd).toNat bd (bn - (an / ad) * bd) ad (an - (an / ad) * ad)).1, (btw (ad + bd).toNat bd (bn - (an / ad) * bd) ad (an - (an / ad) * ad)).1)

theorem rsmp_eq {an ad bn bd : Int} (ha : 1 ≤ ad) (hb : 1 ≤ bd) (h : an * bd < bn * ad) : rsmp an ad bn bd = smp an ad bn bd := by
  have S := smp_strong ha hb h
  have e1 := Int.mul_ediv_add_emod an ad
  have e2 := Int.emod_nonneg an (by omega : ad ≠ 0)
  have e3 := Int.emod_lt_of_pos an (by omega : 0 < ad)
  suffices H : (rsmp an ad bn bd).1 = (smp an ad bn bd).1 ∧ (rsmp an ad bn bd).2 = (smp an ad bn bd).2 from Prod.ext H.1 H.2
  unfold rsmp
  have e6 : an - an / ad * ad = an % ad := by grind
  rw [e6]
  clear e6
  have ew : 0 ≤ an → 0 ≤ an / ad := fun h => Int.ediv_nonneg h (by omega)
  generalize an / ad = w at *
  generalize an % ad = r at *
  split
  · rename_i hc
    split
    · rename_i h1
      refine strong_one ha hb S ?_ ?_ ?_ ?_ ?_
      · show an * 1 < 0 * ad; omega
      · show 0 * bd < bn * 1; omega
      · show (1 : Int) ≤ 1; omega
      · intro p q hq _ _; exact hq
      · intro _
        have := (S.least 0 1 (by omega) (by omega) (by omega)).2
        show 0 = _; omega
    · rename_i h1
      split
      · rename_i h2
        have hw := ew h2
        refine strong_one ha hb S ?_ ?_ ?_ ?_ ?_
        · show an * 1 < (w + 1) * ad; grind
        · show (w + 1) * bd < bn * 1; omega
        · show (1 : Int) ≤ 1; omega
        · intro p q hq _ _; exact hq
        · intro _
          have k := (S.least (w + 1) 1 (by omega) (by grind) (by omega))
          have k1 := S.y1
          have k2 := S.side.1 h2
          have k3 := S.lo
          have k4 : (smp an ad bn bd).2 = 1 := by omega
          rw [k4] at k3
          have k5 : w < (smp an ad bn bd).1 := by
            refine Int.lt_of_mul_lt_mul_right (a := ad) ?_ (by omega)
            grind
          show w + 1 = _; omega
      · rename_i h2
        have hbn : bn ≤ 0 := by omega
        have f1 := Int.mul_ediv_add_emod (-bn) bd
        have f2 := Int.emod_nonneg (-bn) (by omega : bd ≠ 0)
        have f3 := Int.emod_lt_of_pos (-bn) (by omega : 0 < bd)
        have f4 : 0 ≤ (-bn) / bd := Int.ediv_nonneg (by omega) (by omega)
        generalize (-bn) / bd = z at *
        generalize (-bn) % bd = t at *
        have g1 : an * 1 < (-z - 1) * ad := by
          have : w + 1 ≤ -z - 1 := by
            have : w + 1 < -z := by
              refine Int.lt_of_mul_lt_mul_right (a := bd) ?_ (by omega)
              grind
            omega
          have := Int.mul_le_mul_of_nonneg_right this (by omega : 0 ≤ ad)
          grind
        refine strong_one ha hb S ?_ ?_ ?_ ?_ ?_
        · exact g1
        · show (-z - 1) * bd < bn * 1; grind
        · show (1 : Int) ≤ 1; omega
        · intro p q hq _ _; exact hq
        · intro _
          have k := (S.least (-z - 1) 1 (by omega) g1 (by grind))
          have k1 := S.y1
          have k2 := S.side.2 hbn
          have k3 := S.hi
          have k4 : (smp an ad bn bd).2 = 1 := by omega
          rw [k4] at k3
          have k5 : (smp an ad bn bd).1 < -z := by
            refine Int.lt_of_mul_lt_mul_right (a := bd) ?_ (by omega)
            grind
          show -z - 1 = _; omega
  · rename_i hc
    subst e1
    have hb' : 1 ≤ bn - w * bd := by
      have : w * bd < bn := by
        refine Int.lt_of_mul_lt_mul_right (a := ad) ?_ (by omega)
        have : 0 ≤ r * bd := Int.mul_nonneg e2 (by omega)
        grind
      omega
    have T := btw_spec (ad + bd).toNat bd (bn - w * bd) ad r (by omega) hb' ha e2 (by grind) (by grind)
    generalize btw (ad + bd).toNat bd (bn - w * bd) ad r = s at *
    obtain ⟨x, y⟩ := s
    obtain ⟨i1, i2, i3, i4, i5, i6, i7⟩ := T
    simp only at *
    have hl : ∀ p q : Int, 1 ≤ q → (ad * w + r) * q < p * ad → p * bd < bn * q → x ≤ q := by
      intro p q hq hp1 hp2
      have k1 : w * q < p := by
        refine Int.lt_of_mul_lt_mul_right (a := ad) ?_ (by omega)
        have : 0 ≤ r * q := Int.mul_nonneg e2 (by omega)
        grind
      exact (i5 q (p - w * q) (by omega) (by grind) (by grind)).1
    refine strong_one ha hb S (by grind) (by grind) i4 hl ?_
    intro hx
    exfalso
    subst hx
    -- a whole number would be between
    have q1 : y * bd < (bn - w * bd) * 1 := by grind
    have : 1 * bd ≤ y * bd := Int.mul_le_mul_of_nonneg_right i3 (by omega)
    grind
end Go.Proofs.Ytgefidffhdanhaa
