import Derived.Test.YtgefidffhdanhaaNumI
import Derived.Test.YtgefidffhdanhaaSimp
namespace Go.Proofs.Ytgefidffhdanhaa
open Go.RowKit Go.BigFrame

theorem btw_yes {f : Nat} {an ad bn bd : Int} (h : (an / ad + 1) * bd < bn) : btw (f + 1) an ad bn bd = (an / ad + 1, 1) := if_pos h
theorem btw_no {f : Nat} {an ad bn bd : Int} (h : ¬ (an / ad + 1) * bd < bn) : btw (f + 1) an ad bn bd = ((an / ad) * (btw f bd (bn - (an / ad) * bd) ad (an - (an / ad) * ad)).1 + (btw f bd (bn - (an / ad) * bd) ad (an - (an / ad) * ad)).2, (btw f bd (bn - (an / ad) * bd) ad (an - (an / ad) * ad)).1) := if_neg h

/-- what the next step of 'between' is handed is in range again. -/
theorem btw_next {an ad bn bd : Int} (h1 : 0 ≤ an) (h2 : 1 ≤ ad) (h3 : 1 ≤ bn) (h4 : 0 ≤ bd) (h5 : an * bd < bn * ad) (hc : ¬ (an / ad + 1) * bd < bn) :
    1 ≤ bd ∧ 1 ≤ bn - an / ad * bd ∧ bn - an / ad * bd ≤ bd ∧ 0 ≤ an - an / ad * ad ∧ an - an / ad * ad < ad ∧ bd * (an - an / ad * ad) < ad * (bn - an / ad * bd) := by
  have e1 := Int.mul_ediv_add_emod an ad
  have e2 := Int.emod_nonneg an (by omega : ad ≠ 0)
  have e3 := Int.emod_lt_of_pos an (by omega : 0 < ad)
  have e6 : an - an / ad * ad = an % ad := by grind
  rw [e6]; clear e6
  generalize an / ad = w at *
  generalize an % ad = r at *
  subst e1
  have hb : 1 ≤ bd := by
    by_cases h : bd = 0
    · subst h; exfalso; apply hc; omega
    · omega
  have hb' : w * bd < bn := by
    refine Int.lt_of_mul_lt_mul_right (a := ad) ?_ (by omega)
    have : 0 ≤ r * bd := Int.mul_nonneg e2 (by omega)
    grind
  refine ⟨hb, by omega, by grind, e2, e3, by grind⟩

set_option maxHeartbeats 1600000 in
theorem between_any (f : Nat) : ∀ (an ad bn bd : Int) (w : World), 0 ≤ an → an ≤ 1000000000 → 1 ≤ ad → ad ≤ 1000000000 → 1 ≤ bn → bn ≤ 1000000000 → 0 ≤ bd → bd ≤ 1000000000 →
    an * bd < bn * ad → ad + bd ≤ f →
    Calls Try.prog 100 #[.agg #[.int .i64 an, .int .i64 ad], .agg #[.int .i64 bn, .int .i64 bd]] w fun e w' => e = .returned (.agg #[.int .i64 (btw f an ad bn bd).1, .int .i64 (btw f an ad bn bd).2]) ∧ Below w.heap.size w w' := by
  induction f with
  | zero => intro an ad bn bd w h1 h1' h2 h2' h3 h3' h4 h4' h5 h6; omega
  | succ f ih =>
    intro an ad bn bd w h1 h1' h2 h2' h3 h3' h4 h4' h5 h6
    have IH := Lib.hid ih; clear ih
    have e4 : 0 ≤ an / ad := Int.ediv_nonneg h1 (by omega)
    have e5 : an / ad ≤ an := Int.ediv_le_self _ h1
    have F := Lib.hid (fun w => floor_any an ad w (by omega) (by omega) (by omega) (by omega))
    have m1 := mul_bd (a := an / ad + 1) (b := bd) (A := 1000000001) (B := 1000000000) (by omega) (by omega) (by omega) (by omega)
    have m2 := mul_bd9 (a := an / ad) (b := bd) (by omega) (by omega) (by omega) (by omega)
    have m3 := mul_bd9 (a := an / ad) (b := ad) (by omega) (by omega) (by omega) (by omega)
    by_cases hc : (an / ad + 1) * bd < bn
    · rw [btw_yes hc]
      clear h5
      generalize an / ad = q at *
      go_enter Try.func100, Try.ntmps100
      go_wp2_with (go_at_call 85; refine (F.out _).mono ?_; rintro e w1 ⟨rfl, rfl⟩)
      refine bodyPost_ret (v := .agg #[.int .i64 (q + 1), .int .i64 1]) (by simp (maxDischargeDepth := 8) [results, Try.results100, go_sem, *]) rfl ?_
      exact ⟨rfl, by ((repeat' (first | exact Below.refl _ _ | assumption | refine Below.setCell ?_ ?_ _ | refine bdrewN ?_ _ | refine Below.drew ?_ | refine Below.alloc ?_ ?_ _ | refine bbehind ?_ (by assumption) ?_)); all_goals first | (simp; done) | (simp; omega) | omega)⟩
    · obtain ⟨n1, n2, n3, n4, n5, n6⟩ := btw_next h1 h2 h3 h4 h5 hc
      have S := btw_spec f bd (bn - an / ad * bd) ad (an - an / ad * ad) (by omega) n2 h2 n4 n6 (by omega)
      obtain ⟨-, -, s3, s4, -, s6, s7⟩ := S
      have R := Lib.hid (fun w => IH.out bd (bn - an / ad * bd) ad (an - an / ad * ad) w h4 h4' n2 (by omega) h2 h2' n4 (by omega) n6 (by omega))
      rw [btw_no hc]
      clear h5 n6
      generalize btw f bd (bn - an / ad * bd) ad (an - an / ad * ad) = s at *
      obtain ⟨x, y⟩ := s
      simp only at *
      have m4 := mul_bd (a := an / ad) (b := x) (A := 1000000000) (B := 2000000000) (by omega) (by omega) (by omega) (by omega)
      generalize an / ad = q at *
      go_enter Try.func100, Try.ntmps100
      go_wp2_with (first | (go_at_call 85; refine (F.out _).mono ?_; rintro e w1 ⟨rfl, rfl⟩) | (go_at_call 100; refine (R.out _).mono ?_; rintro e w1 ⟨rfl, hb1⟩; obtain ⟨hc1, hf1⟩ := bcell hb1; have hs1 := hb1.size; (try simp at hs1); (try have hz0 : w.heap.size < w1.heap.size := by omega); (try have hz1 : w.heap.size + 1 < w1.heap.size := by omega); (try have hz2 : w.heap.size + 1 + 1 < w1.heap.size := by omega); (try have hz3 : w.heap.size + 1 + 1 + 1 < w1.heap.size := by omega); (try have hz4 : w.heap.size + 1 + 1 + 1 + 1 < w1.heap.size := by omega); (try have hz5 : w.heap.size + 1 + 1 + 1 + 1 + 1 < w1.heap.size := by omega)))
      refine bodyPost_ret (v := .agg #[.int .i64 (q * x + y), .int .i64 x]) (by simp (maxDischargeDepth := 8) [results, Try.results100, go_sem, *]) rfl ?_
      exact ⟨rfl, by ((repeat' (first | exact Below.refl _ _ | assumption | refine Below.setCell ?_ ?_ _ | refine bdrewN ?_ _ | refine Below.drew ?_ | refine Below.alloc ?_ ?_ _ | refine bbehind ?_ (by assumption) ?_)); all_goals first | (simp; done) | (simp; omega) | omega)⟩
end Go.Proofs.Ytgefidffhdanhaa
