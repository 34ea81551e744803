import Derived.Test.YtgefidffhdanhaaNumK
namespace Go.Proofs.Ytgefidffhdanhaa
open Go.RowKit Go.BigFrame

set_option maxHeartbeats 2000000 in
theorem rbetween_any (f : Nat) : ∀ (an ad bn bd : Int) (w : World), 0 ≤ an → an ≤ 1000000000 → 1 ≤ ad → ad ≤ 1000000000 → 1 ≤ bn → bn ≤ 1000000000 → 0 ≤ bd → bd ≤ 1000000000 →
    an * bd < bn * ad → ad + bd ≤ f →
    Calls Try.prog 101 #[.agg #[.int .i64 an, .int .i64 ad], .agg #[.int .i64 bn, .int .i64 bd]] w fun e w' => e = .returned (.tuple #[.int .i64 (btw f an ad bn bd).1, .int .i64 (btw f an ad bn bd).2]) ∧ Below w.heap.size w w' := by
  induction f with
  | zero => intro an ad bn bd w h1 h1' h2 h2' h3 h3' h4 h4' h5 h6; omega
  | succ f ih =>
    intro an ad bn bd w h1 h1' h2 h2' h3 h3' h4 h4' h5 h6
    have IH := Lib.hid ih; clear ih
    have e4 : 0 ≤ an / ad := Int.ediv_nonneg h1 (by omega)
    have e5 : an / ad ≤ an := Int.ediv_le_self _ h1
    have F := Lib.hid (fun w => under_any an ad w (by omega) (by omega) (by omega) (by omega))
    have m1 := mul_bd (a := an / ad + 1) (b := bd) (A := 1000000001) (B := 1000000000) (by omega) (by omega) (by omega) (by omega)
    have m2 := mul_bd9 (a := an / ad) (b := bd) (by omega) (by omega) (by omega) (by omega)
    have m3 := mul_bd9 (a := an / ad) (b := ad) (by omega) (by omega) (by omega) (by omega)
    by_cases hz : bd = 0
    · subst hz
      have hc : (an / ad + 1) * 0 < bn := by omega
      rw [btw_yes hc]
      clear h5 hc m1 m2
      generalize an / ad = q at *
      go_enter Try.func101, Try.ntmps101
      go_wp2_with (go_at_call 86; refine (F.out _).mono ?_; rintro e w1 ⟨rfl, rfl⟩)
      go_ret2
      exact ⟨rfl, by ((repeat' (first | exact Below.refl _ _ | assumption | refine Below.setCell ?_ ?_ _ | refine bdrewN ?_ _ | refine Below.drew ?_ | refine Below.alloc ?_ ?_ _ | refine bbehind ?_ (by assumption) ?_)); all_goals first | (simp; done) | (simp; omega) | omega)⟩
    · have hz' : (bd == 0) = false := by simpa using hz
      by_cases hc : (an / ad + 1) * bd < bn
      · rw [btw_yes hc]
        clear h5
        generalize an / ad = q at *
        go_enter Try.func101, Try.ntmps101
        go_wp2_with (go_at_call 86; refine (F.out _).mono ?_; rintro e w1 ⟨rfl, rfl⟩)
        go_ret2
        exact ⟨rfl, by ((repeat' (first | exact Below.refl _ _ | assumption | refine Below.setCell ?_ ?_ _ | refine bdrewN ?_ _ | refine Below.drew ?_ | refine Below.alloc ?_ ?_ _ | refine bbehind ?_ (by assumption) ?_)); all_goals first | (simp; done) | (simp; omega) | omega)⟩
      · obtain ⟨n1, n2, n3, n4, n5, n6⟩ := btw_next h1 h2 h3 h4 h5 hc
        have S := btw_spec f bd (bn - an / ad * bd) ad (an - an / ad * ad) (by omega) n2 h2 n4 n6 (by omega)
        obtain ⟨-, -, s3, s4, -, s6, s7⟩ := S
        have R := Lib.hid (fun w => IH.out bd (bn - an / ad * bd) ad (an - an / ad * ad) w h4 h4' n2 (by omega) h2 h2' n4 (by omega) n6 (by omega))
        rw [btw_no hc]
        clear h5 n6
        generalize btw f bd (bn - an / ad * bd) ad (an - an / ad * ad) = s at *
        obtain ⟨x, y⟩ := s
        simp only at *
        have m4 := mul_bd (a := an / ad) (b := x) (A := 1000000000) (B := 2000000000) (by omega) (by omega) (by omega) (by omega)
        generalize an / ad = q at *
        go_enter Try.func101, Try.ntmps101
        go_wp2_with (first | (go_at_call 86; refine (F.out _).mono ?_; rintro e w1 ⟨rfl, rfl⟩) | (go_at_call 101; refine (R.out _).mono ?_; rintro e w1 ⟨rfl, hb1⟩; obtain ⟨hc1, hf1⟩ := bcell hb1; have hs1 := hb1.size; (try simp at hs1); (try have hz0 : w.heap.size < w1.heap.size := by omega); (try have hz1 : w.heap.size + 1 < w1.heap.size := by omega); (try have hz2 : w.heap.size + 1 + 1 < w1.heap.size := by omega); (try have hz3 : w.heap.size + 1 + 1 + 1 < w1.heap.size := by omega); (try have hz4 : w.heap.size + 1 + 1 + 1 + 1 < w1.heap.size := by omega); (try have hz5 : w.heap.size + 1 + 1 + 1 + 1 + 1 < w1.heap.size := by omega)))
        go_ret2
        exact ⟨by rw [Int.add_comm (q * x) y]; rfl, by ((repeat' (first | exact Below.refl _ _ | assumption | refine Below.setCell ?_ ?_ _ | refine bdrewN ?_ _ | refine Below.drew ?_ | refine Below.alloc ?_ ?_ _ | refine bbehind ?_ (by assumption) ?_)); all_goals first | (simp; done) | (simp; omega) | omega)⟩

theorem rsmp_whole {an ad bn bd : Int} (h : (an / ad + 1) * bd < bn) : rsmp an ad bn bd = if an < 0 ∧ 0 < bn then (0, 1) else if 0 ≤ an then (an / ad + 1, 1) else (-((-bn) / bd) - 1, 1) := if_pos h
theorem rsmp_rest {an ad bn bd : Int} (h : ¬ (an / ad + 1) * bd < bn) : rsmp an ad bn bd = ((btw (ad + bd).toNat bd (bn - (an / ad) * bd) ad (an - (an / ad) * ad)).2 + (an / ad) * (btw (ad + bd).toNat bd (bn - (an / ad) * bd) ad (an - (an / ad) * ad)).1, (btw (ad + bd).toNat bd (bn - (an / ad) * bd) ad (an - (an / ad) * ad)).1) := if_neg h

theorem rsmp_next {an ad bn bd : Int} (h2 : 1 ≤ ad) (h4 : 1 ≤ bd) (h5 : an * bd < bn * ad) (hc : ¬ (an / ad + 1) * bd < bn) :
    1 ≤ bn - an / ad * bd ∧ bn - an / ad * bd ≤ bd ∧ 0 ≤ an - an / ad * ad ∧ an - an / ad * ad < ad ∧ bd * (an - an / ad * ad) < ad * (bn - an / ad * bd) := by
  have e1 := Int.mul_ediv_add_emod an ad
  have e2 := Int.emod_nonneg an (by omega : ad ≠ 0)
  have e3 := Int.emod_lt_of_pos an (by omega : 0 < ad)
  have e6 : an - an / ad * ad = an % ad := by grind
  rw [e6]; clear e6
  generalize an / ad = w at *
  generalize an % ad = r at *
  subst e1
  have hb' : w * bd < bn := by
    refine Int.lt_of_mul_lt_mul_right (a := ad) ?_ (by omega)
    have : 0 ≤ r * bd := Int.mul_nonneg e2 (by omega)
    grind
  refine ⟨by omega, by grind, e2, e3, by grind⟩

set_option maxHeartbeats 2000000 in
/-- the first step, of any two numbers. -/
theorem rbetween_top (an ad bn bd : Int) (w : World) (fa : Fit an ad) (fb : Fit bn bd) (h5 : an * bd < bn * ad) :
    Calls Try.prog 101 #[.agg #[.int .i64 an, .int .i64 ad], .agg #[.int .i64 bn, .int .i64 bd]] w fun e w' => e = .returned (.tuple #[.int .i64 (smp an ad bn bd).1, .int .i64 (smp an ad bn bd).2]) ∧ Below w.heap.size w w' := by
  have HE := rsmp_eq fa.dlo fb.dlo h5
  obtain ⟨h1, h1', h2, h2'⟩ := fa
  obtain ⟨h3, h3', h4, h4'⟩ := fb
  have e5 := ediv_bd an ad 1000000000 (by omega) (by omega) (by omega)
  have e6 := ediv_bd (-bn) bd 1000000000 (by omega) (by omega) (by omega)
  have F := Lib.hid (fun w => under_any an ad w (by omega) (by omega) (by omega) (by omega))
  have m1 := mul_bd (a := an / ad + 1) (b := bd) (A := 1000000001) (B := 1000000000) (by omega) (by omega) (by omega) (by omega)
  have m2 := mul_bd9 (a := an / ad) (b := bd) (by omega) (by omega) (by omega) (by omega)
  have m3 := mul_bd9 (a := an / ad) (b := ad) (by omega) (by omega) (by omega) (by omega)
  have hz' : (bd == 0) = false := by simp; omega
  rw [← HE]
  clear HE
  by_cases hc : (an / ad + 1) * bd < bn
  · rw [rsmp_whole hc]
    clear h5
    have G := Lib.hid (fun w => under_any (-bn) bd w (by omega) (by omega) (by omega) (by omega))
    generalize an / ad = q at *
    generalize (-bn) / bd = z at *
    by_cases c1 : an < 0
    · by_cases c2 : 0 < bn
      · rw [if_pos ⟨c1, c2⟩]
        go_enter Try.func101, Try.ntmps101
        go_wp2_with (go_at_call 86; refine (F.out _).mono ?_; rintro e w1 ⟨rfl, rfl⟩)
        go_ret2
        exact ⟨rfl, by ((repeat' (first | exact Below.refl _ _ | assumption | refine Below.setCell ?_ ?_ _ | refine bdrewN ?_ _ | refine Below.drew ?_ | refine Below.alloc ?_ ?_ _ | refine bbehind ?_ (by assumption) ?_)); all_goals first | (simp; done) | (simp; omega) | omega)⟩
      · rw [if_neg (fun k => c2 k.2), if_neg (by omega)]
        have c3 : ¬ 0 ≤ an := by omega
        go_enter Try.func101, Try.ntmps101
        go_wp2_with fail
        refine (F.out _).mono ?_
        rintro e w1 ⟨rfl, rfl⟩
        go_wp2_with fail
        refine (G.out _).mono ?_
        rintro e w1 ⟨rfl, rfl⟩
        go_wp2
        go_ret2
        exact ⟨rfl, by ((repeat' (first | exact Below.refl _ _ | assumption | refine Below.setCell ?_ ?_ _ | refine bdrewN ?_ _ | refine Below.drew ?_ | refine Below.alloc ?_ ?_ _ | refine bbehind ?_ (by assumption) ?_)); all_goals first | (simp; done) | (simp; omega) | omega)⟩
    · rw [if_neg (fun k => c1 k.1), if_pos (by omega)]
      have c3 : 0 ≤ an := by omega
      go_enter Try.func101, Try.ntmps101
      go_wp2_with (go_at_call 86; refine (F.out _).mono ?_; rintro e w1 ⟨rfl, rfl⟩)
      go_ret2
      exact ⟨rfl, by ((repeat' (first | exact Below.refl _ _ | assumption | refine Below.setCell ?_ ?_ _ | refine bdrewN ?_ _ | refine Below.drew ?_ | refine Below.alloc ?_ ?_ _ | refine bbehind ?_ (by assumption) ?_)); all_goals first | (simp; done) | (simp; omega) | omega)⟩
  · obtain ⟨n2, n3, n4, n5, n6⟩ := rsmp_next h2 h4 h5 hc
    have S := btw_spec (ad + bd).toNat bd (bn - an / ad * bd) ad (an - an / ad * ad) (by omega) n2 h2 n4 n6 (by omega)
    obtain ⟨-, -, s3, s4, -, s6, s7⟩ := S
    have R := Lib.hid (fun w => rbetween_any (ad + bd).toNat bd (bn - an / ad * bd) ad (an - an / ad * ad) w (by omega) h4' n2 (by omega) h2 h2' n4 (by omega) n6 (by omega))
    rw [rsmp_rest hc]
    clear h5 n6
    generalize btw (ad + bd).toNat bd (bn - an / ad * bd) ad (an - an / ad * ad) = s at *
    obtain ⟨x, y⟩ := s
    simp only at *
    have m4 := mul_bd (a := an / ad) (b := x) (A := 1000000000) (B := 2000000000) (by omega) (by omega) (by omega) (by omega)
    generalize an / ad = q at *
    go_enter Try.func101, Try.ntmps101
    go_wp2_with (first | (go_at_call 86; refine (F.out _).mono ?_; rintro e w1 ⟨rfl, rfl⟩) | (go_at_call 101; refine (R.out _).mono ?_; rintro e w1 ⟨rfl, hb1⟩; obtain ⟨hc1, hf1⟩ := bcell hb1; have hs1 := hb1.size; (try simp at hs1); (try have hz0 : w.heap.size < w1.heap.size := by omega); (try have hz1 : w.heap.size + 1 < w1.heap.size := by omega); (try have hz2 : w.heap.size + 1 + 1 < w1.heap.size := by omega); (try have hz3 : w.heap.size + 1 + 1 + 1 < w1.heap.size := by omega); (try have hz4 : w.heap.size + 1 + 1 + 1 + 1 < w1.heap.size := by omega); (try have hz5 : w.heap.size + 1 + 1 + 1 + 1 + 1 < w1.heap.size := by omega)))
    go_ret2
    exact ⟨rfl, by ((repeat' (first | exact Below.refl _ _ | assumption | refine Below.setCell ?_ ?_ _ | refine bdrewN ?_ _ | refine Below.drew ?_ | refine Below.alloc ?_ ?_ _ | refine bbehind ?_ (by assumption) ?_)); all_goals first | (simp; done) | (simp; omega) | omega)⟩

set_option maxHeartbeats 2000000 in
theorem rsimplest_any (an ad bn bd : Int) (w : World) :
    Calls Try.prog 48 #[.agg #[.int .i64 an, .int .i64 ad], .agg #[.int .i64 bn, .int .i64 bd]] w fun e w' => e = .returned (.tuple #[.agg #[.int .i64 (simT an ad bn bd).1, .int .i64 (simT an ad bn bd).2.1], .int .i64 (simT an ad bn bd).2.2]) ∧ Below w.heap.size w w' := by
  unfold simT
  by_cases hE : bothE an ad bn bd = 0
  · obtain ⟨fa, fb⟩ := fits_of_both hE
    rw [twoT_o hE]
    by_cases h : an * bd < bn * ad
    · have hl : lessB an ad bn bd = true := decide_eq_true h
      have R := Lib.hid (fun w => rbetween_top an ad bn bd w fa fb h)
      obtain ⟨q1, q2, q3, q4⟩ := smp_bd fa fb h
      rw [if_pos h]
      clear h
      generalize smp an ad bn bd = s at *
      obtain ⟨x, y⟩ := s
      simp only at *
      have y0 : ¬ y = 0 := by omega
      go_enter Try.func48, Try.ntmps48
      go_wp2_with (first | (go_at_call 76; refine (both_any _ _ _ _ _).mono ?_; rintro e w1 ⟨rfl, hb1⟩; obtain ⟨hc1, hf1⟩ := bcell hb1; have hs1 := hb1.size; (try simp at hs1); (try have hz0 : w.heap.size < w1.heap.size := by omega); (try have hz1 : w.heap.size + 1 < w1.heap.size := by omega); (try have hz2 : w.heap.size + 1 + 1 < w1.heap.size := by omega); (try have hz3 : w.heap.size + 1 + 1 + 1 < w1.heap.size := by omega); (try have hz4 : w.heap.size + 1 + 1 + 1 + 1 < w1.heap.size := by omega); (try have hz5 : w.heap.size + 1 + 1 + 1 + 1 + 1 < w1.heap.size := by omega)) | (go_at_call 77; refine (less_any _ _ _ _ _ fa fb).mono ?_; rintro e w1 ⟨rfl, hb1⟩; obtain ⟨hc1, hf1⟩ := bcell hb1; have hs1 := hb1.size; (try simp at hs1); (try have hz0 : w.heap.size < w1.heap.size := by omega); (try have hz1 : w.heap.size + 1 < w1.heap.size := by omega); (try have hz2 : w.heap.size + 1 + 1 < w1.heap.size := by omega); (try have hz3 : w.heap.size + 1 + 1 + 1 < w1.heap.size := by omega); (try have hz4 : w.heap.size + 1 + 1 + 1 + 1 < w1.heap.size := by omega); (try have hz5 : w.heap.size + 1 + 1 + 1 + 1 + 1 < w1.heap.size := by omega)) | (go_at_call 101; refine (R.out _).mono ?_; rintro e w1 ⟨rfl, hb1⟩; obtain ⟨hc1, hf1⟩ := bcell hb1; have hs1 := hb1.size; (try simp at hs1); (try have hz0 : w.heap.size < w1.heap.size := by omega); (try have hz1 : w.heap.size + 1 < w1.heap.size := by omega); (try have hz2 : w.heap.size + 1 + 1 < w1.heap.size := by omega); (try have hz3 : w.heap.size + 1 + 1 + 1 < w1.heap.size := by omega); (try have hz4 : w.heap.size + 1 + 1 + 1 + 1 < w1.heap.size := by omega); (try have hz5 : w.heap.size + 1 + 1 + 1 + 1 + 1 < w1.heap.size := by omega)) | (go_at_call 73; refine (rlow_any _ _ _ (by omega) (by omega) (by omega) (by omega) y0).mono ?_; rintro e w1 ⟨rfl, hb1⟩; obtain ⟨hc1, hf1⟩ := bcell hb1; have hs1 := hb1.size; (try simp at hs1); (try have hz0 : w.heap.size < w1.heap.size := by omega); (try have hz1 : w.heap.size + 1 < w1.heap.size := by omega); (try have hz2 : w.heap.size + 1 + 1 < w1.heap.size := by omega); (try have hz3 : w.heap.size + 1 + 1 + 1 < w1.heap.size := by omega); (try have hz4 : w.heap.size + 1 + 1 + 1 + 1 < w1.heap.size := by omega); (try have hz5 : w.heap.size + 1 + 1 + 1 + 1 + 1 < w1.heap.size := by omega)))
      refine bodyPost_ret (v := .tuple #[.agg #[.int .i64 (lowT x y).1, .int .i64 (lowT x y).2.1], .int .i64 (lowT x y).2.2]) (by simp (maxDischargeDepth := 8) [results, Try.results48, go_sem, *]) rfl ?_
      exact ⟨rfl, by ((repeat' (first | exact Below.refl _ _ | assumption | refine Below.setCell ?_ ?_ _ | refine bdrewN ?_ _ | refine Below.drew ?_ | refine Below.alloc ?_ ?_ _ | refine bbehind ?_ (by assumption) ?_)); all_goals first | (simp; done) | (simp; omega) | omega)⟩
    · have hl : lessB an ad bn bd = false := decide_eq_false h
      rw [if_neg h]
      clear h
      go_enter Try.func48, Try.ntmps48
      go_wp2_with (first | (go_at_call 76; refine (both_any _ _ _ _ _).mono ?_; rintro e w1 ⟨rfl, hb1⟩; obtain ⟨hc1, hf1⟩ := bcell hb1; have hs1 := hb1.size; (try simp at hs1); (try have hz0 : w.heap.size < w1.heap.size := by omega); (try have hz1 : w.heap.size + 1 < w1.heap.size := by omega); (try have hz2 : w.heap.size + 1 + 1 < w1.heap.size := by omega); (try have hz3 : w.heap.size + 1 + 1 + 1 < w1.heap.size := by omega); (try have hz4 : w.heap.size + 1 + 1 + 1 + 1 < w1.heap.size := by omega); (try have hz5 : w.heap.size + 1 + 1 + 1 + 1 + 1 < w1.heap.size := by omega)) | (go_at_call 77; refine (less_any _ _ _ _ _ fa fb).mono ?_; rintro e w1 ⟨rfl, hb1⟩; obtain ⟨hc1, hf1⟩ := bcell hb1; have hs1 := hb1.size; (try simp at hs1); (try have hz0 : w.heap.size < w1.heap.size := by omega); (try have hz1 : w.heap.size + 1 < w1.heap.size := by omega); (try have hz2 : w.heap.size + 1 + 1 < w1.heap.size := by omega); (try have hz3 : w.heap.size + 1 + 1 + 1 < w1.heap.size := by omega); (try have hz4 : w.heap.size + 1 + 1 + 1 + 1 < w1.heap.size := by omega); (try have hz5 : w.heap.size + 1 + 1 + 1 + 1 + 1 < w1.heap.size := by omega)))
      refine bodyPost_ret (v := .tuple #[.agg #[.int .i64 0, .int .i64 0], .int .i64 10]) (by simp (maxDischargeDepth := 8) [results, Try.results48, go_sem, *]) rfl ?_
      exact ⟨rfl, by ((repeat' (first | exact Below.refl _ _ | assumption | refine Below.setCell ?_ ?_ _ | refine bdrewN ?_ _ | refine Below.drew ?_ | refine Below.alloc ?_ ?_ _ | refine bbehind ?_ (by assumption) ?_)); all_goals first | (simp; done) | (simp; omega) | omega)⟩
  · have hE' : (bothE an ad bn bd != 0) = true := by simpa using hE
    rw [twoT_e hE]
    clear hE
    go_enter Try.func48, Try.ntmps48
    go_wp2_with (go_at_call 76; refine (both_any _ _ _ _ _).mono ?_; rintro e w1 ⟨rfl, hb1⟩; obtain ⟨hc1, hf1⟩ := bcell hb1; have hs1 := hb1.size; (try simp at hs1); (try have hz0 : w.heap.size < w1.heap.size := by omega); (try have hz1 : w.heap.size + 1 < w1.heap.size := by omega); (try have hz2 : w.heap.size + 1 + 1 < w1.heap.size := by omega); (try have hz3 : w.heap.size + 1 + 1 + 1 < w1.heap.size := by omega); (try have hz4 : w.heap.size + 1 + 1 + 1 + 1 < w1.heap.size := by omega); (try have hz5 : w.heap.size + 1 + 1 + 1 + 1 + 1 < w1.heap.size := by omega))
    refine bodyPost_ret (v := .tuple #[.agg #[.int .i64 0, .int .i64 0], .int .i64 (bothE an ad bn bd)]) (by simp (maxDischargeDepth := 8) [results, Try.results48, go_sem, *]) rfl ?_
    exact ⟨rfl, by ((repeat' (first | exact Below.refl _ _ | assumption | refine Below.setCell ?_ ?_ _ | refine bdrewN ?_ _ | refine Below.drew ?_ | refine Below.alloc ?_ ?_ _ | refine bbehind ?_ (by assumption) ?_)); all_goals first | (simp; done) | (simp; omega) | omega)⟩
end Go.Proofs.Ytgefidffhdanhaa
