import Derived.Test.YtgefidffhdanhaaLawRounded
namespace Go.Proofs.Ytgefidffhdanhaa
open Go.RowKit Go.BigFrame

set_option maxRecDepth 100000 in
theorem rounded_any (an ad n : Int) (w : World) (hn : 0 ≤ n ∧ n ≤ 255) :
    Calls Try.prog 11 #[.agg #[.int .i64 an, .int .i64 ad], .int .u8 n] w fun e w' => e = .returned (.bool true) ∧ Below w.heap.size w w' := by
  by_cases ha : chk an ad = 0
  · obtain ⟨P, hP⟩ : ∃ P : Nat, n % 10 = (P : Int) := ⟨(n % 10).toNat, by omega⟩
    have hP9 : P ≤ 9 := by omega
    have f := fit_of_chk ha
    have hd := den_pos ha
    obtain ⟨s1, s2⟩ := p10_bd P hP9
    have near := round_near (an * p10 P) hd
    rcases dec_parse ha hP9 with ⟨x, y, hx, hc, hv⟩ | ⟨e, hx, he, hp, hh⟩
    · refine rounded_x an ad n _ _ _ _ P _ x y 0 (subT x y an ad).1 (subT x y an ad).2.1 (subT x y an ad).2.2 ((subT x y an ad).1.natAbs : Int) _ _ _ w ha hn.1 hn.2 hP hP9 rfl rfl rfl (rnd_facts ha) rfl rfl (dec_len f hP9) hx (fun h => by cases h) (fun _ => ⟨rfl, rfl, ?_, ?_, pair3 _, ?_⟩)
      · rcases sub_is hc ha with ⟨u, v, h1, h2, _⟩ | ⟨h1, _⟩
        · rw [h1]; exact (fit_of_chk h2).nlo
        · rw [h1]; decide
      · rcases sub_is hc ha with ⟨u, v, h1, h2, _⟩ | ⟨h1, _⟩
        · rw [h1]; exact (fit_of_chk h2).nhi
        · rw [h1]; decide
      · intro z1 z2
        rcases sub_is hc ha with ⟨u, v, h1, h2, h3⟩ | ⟨h1, _⟩
        · rw [h1] at z2 ⊢
          have hH : chk (u.natAbs : Int) v = 0 := by
            rcases Int.natAbs_eq u with k | k
            · rw [← k]; exact h2
            · have : (u.natAbs : Int) = -u := by omega
              rw [this]; exact chk_neg h2
          have h21 : chk 2 1 = 0 := by decide +kernel
          rcases mul_is hH h21 with ⟨k1, k2, j1, j2, j3⟩ | ⟨j1, _⟩
          · simp only at j1 ⊢
            rw [j1]
            refine ⟨j2, chk_of ⟨by decide, by decide, s1, s2⟩ (by simp), ?_⟩
            exact gap_small hd (den_pos hc) (by omega) (den_pos h2) (den_pos j2) hv h3 rfl j3 near
          · simp only at j1 z2
            rw [j1] at z2; cases z2
        · rw [h1] at z1; cases z1
    · refine rounded_x an ad n _ _ _ _ P _ 0 0 e 0 0 0 0 0 0 0 w ha hn.1 hn.2 hP hP9 rfl rfl rfl (rnd_facts ha) rfl rfl (dec_len f hP9) hx (fun _ => ⟨hp, ?_⟩) (fun h => absurd (by simpa using h) he)
      rcases hh with h | h | h
      · exact .inl (by simpa using h)
      · exact .inr (.inl (inB_yes h))
      · exact .inr (.inr (inB_yes h))
  · have C0 := Lib.hid (fun w => rcheck_any an ad w)
    have ha' : (chk an ad != 0) = true := by simpa using ha
    clear ha
    go_enter Try.func11, Try.ntmps11
    go_wp2_with fail
    refine (C0.out _).mono ?_; rintro e w1 ⟨rfl, hb1⟩; obtain ⟨hc1, hf1⟩ := bcell hb1; have hs1 := hb1.size; (try simp at hs1); (try have hz10 : w.heap.size < w1.heap.size := by omega); (try have hz11 : w.heap.size + 1 < w1.heap.size := by omega); (try have hz12 : w.heap.size + 1 + 1 < w1.heap.size := by omega); (try have hz13 : w.heap.size + 1 + 1 + 1 < w1.heap.size := by omega); (try have hz14 : w.heap.size + 1 + 1 + 1 + 1 < w1.heap.size := by omega); (try have hz15 : w.heap.size + 1 + 1 + 1 + 1 + 1 < w1.heap.size := by omega)
    go_wp2_with fail
    refine (summed_any _).mono ?_; rintro e w2 ⟨rfl, hb2⟩; obtain ⟨hc2, hf2⟩ := bcell hb2; have hs2 := hb2.size; (try simp at hs2); (try have hz20 : w.heap.size < w2.heap.size := by omega); (try have hz21 : w.heap.size + 1 < w2.heap.size := by omega); (try have hz22 : w.heap.size + 1 + 1 < w2.heap.size := by omega); (try have hz23 : w.heap.size + 1 + 1 + 1 < w2.heap.size := by omega); (try have hz24 : w.heap.size + 1 + 1 + 1 + 1 < w2.heap.size := by omega); (try have hz25 : w.heap.size + 1 + 1 + 1 + 1 + 1 < w2.heap.size := by omega); (try have hy1_2 : w1.heap.size < w2.heap.size := by omega)
    go_wp2
    go_ret
    exact ⟨rfl, by ((repeat' (first | exact Below.refl _ _ | assumption | refine Below.setCell ?_ ?_ _ | refine bdrewN ?_ _ | refine Below.drew ?_ | refine Below.alloc ?_ ?_ _ | refine bbehind ?_ (by assumption) ?_)); all_goals first | (simp; done) | (simp; omega) | omega)⟩
end Go.Proofs.Ytgefidffhdanhaa
