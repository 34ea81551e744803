/- The simplest number: plain mathematics. -/
import Derived.Test.YtgefidffhdanhaaMathC
import Derived.Test.YtgefidffhdanhaaSimp
import Derived.Test.YtgefidffhdanhaaNumK
namespace Go.Proofs.Ytgefidffhdanhaa

/-- what lies between two numbers. -/
def Mid (an ad bn bd p q : Int) : Prop := an * q < p * ad ∧ p * bd < bn * q

theorem sim_is {an ad bn bd : Int} (ha : chk an ad = 0) (hb : chk bn bd = 0) (h : an * bd < bn * ad) :
    (simT an ad bn bd = ((smp an ad bn bd).1, (smp an ad bn bd).2, 0) ∧ chk (smp an ad bn bd).1 (smp an ad bn bd).2 = 0) ∨
    (simT an ad bn bd = (0, 0, 8) ∧ ∀ p q, chk p q = 0 → ¬ Mid an ad bn bd p q) := by
  have S := smp_strong (fit_of_chk ha).dlo (fit_of_chk hb).dlo h
  unfold simT
  rw [twoT_r ha hb, if_pos h]
  generalize smp an ad bn bd = s at *
  obtain ⟨x, y⟩ := s
  simp only at *
  by_cases f : Fit x y
  · have hc := chk_of f S.cop
    exact .inl ⟨low_eq (by have := S.y1; omega) hc rfl, hc⟩
  · refine .inr ?_
    rcases low_is (n := x) (d := y) (by have := S.y1; omega) with ⟨u, v, h1, h2, h3⟩ | ⟨h1, h2⟩
    · obtain ⟨e1, e2⟩ := form_one (by have := S.y1; omega) (den_pos h2) S.cop (cop_of_chk h2) h3
      subst e1 e2
      exact absurd (fit_of_chk h2) f
    · refine ⟨h1, fun p q hc hm => f ?_⟩
      have g := fit_of_chk hc
      have l := S.least p q g.dlo hm.1 hm.2
      have := g.nlo; have := g.nhi; have := g.dhi
      exact ⟨by omega, by omega, S.y1, by omega⟩

theorem sim_none {an ad bn bd : Int} (ha : chk an ad = 0) (hb : chk bn bd = 0) (h : ¬ an * bd < bn * ad) : simT an ad bn bd = (0, 0, 10) := by
  unfold simT; rw [twoT_r ha hb, if_neg h]

/-- whether a number is simpler than another one. -/
def simplerM (an ad bn bd : Int) : Bool := if ad = bd then decide (an.natAbs < bn.natAbs ∨ an.natAbs = bn.natAbs ∧ bn < an) else decide (ad < bd)

theorem not_simpler {an ad bn bd x y p q : Int} (S : Strong an ad bn bd x y) (hb : 1 ≤ bd) (hq : 1 ≤ q) (hm : Mid an ad bn bd p q) : simplerM p q x y = false := by
  have l := S.least p q hq hm.1 hm.2
  unfold simplerM
  split
  · rename_i e
    subst e
    refine decide_eq_false ?_
    rintro (h | ⟨h1, h2⟩)
    · omega
    · -- then 0 is between, which is simpler than both
      have hx : x < 0 := by omega
      have hp : 0 < p := by omega
      have h3 := S.side
      have h5 : 0 < p * bd := Int.mul_pos hp (by omega)
      have h6 : 0 < bn := Int.pos_of_mul_pos_left (by have := hm.2; omega : 0 < bn * q) (by omega)
      have h4 := S.least 0 1 (by omega) (by omega) (by omega)
      omega
  · exact decide_eq_false (by omega)
end Go.Proofs.Ytgefidffhdanhaa
