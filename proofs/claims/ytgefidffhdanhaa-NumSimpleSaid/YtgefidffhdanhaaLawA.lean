import Derived.Test.YtgefidffhdanhaaNumR
import Derived.Test.YtgefidffhdanhaaRefC
namespace Go.Proofs.Ytgefidffhdanhaa
open Go.RowKit Go.BigFrame

theorem sum_add : addT 1 2 1 3 = (5, 6, 0) := by decide +kernel
theorem sum_sim : simT 1 3 1 2 = (2, 5, 0) := by decide +kernel
theorem sum_dec : decE (-1) 8 2 = ([45, 48, 46, 49, 50], 0) := by decide +kernel
theorem sum_par : parseT [49, 46, 50, 53] = (5, 4, 0) := by decide +kernel

set_option maxRecDepth 100000 in
set_option maxHeartbeats 2000000 in
theorem summed_any (w : World) : Calls Try.prog 26 #[] w fun e w' => e = .returned (.bool true) ∧ Below w.heap.size w w' := by
  have A := Lib.hid (fun w => add_any 1 2 1 3 w)
  have B := Lib.hid (fun w => simplest_any 1 3 1 2 w)
  have C := Lib.hid (fun w => decimal_any (-1) 8 2 w)
  have D := Lib.hid (fun w => parse_any [49, 46, 50, 53] w (by simp))
  rw [sum_add] at A
  rw [sum_sim] at B
  rw [sum_dec] at C
  rw [sum_par] at D
  go_enter Try.func26, Try.ntmps26
  go_wp2_with fail
  refine (A.out _).mono ?_; rintro e w1 ⟨rfl, hb1⟩; obtain ⟨hc1, hf1⟩ := bcell hb1; have hs1 := hb1.size; (try simp at hs1); (try have hz10 : w.heap.size < w1.heap.size := by omega); (try have hz11 : w.heap.size + 1 < w1.heap.size := by omega); (try have hz12 : w.heap.size + 1 + 1 < w1.heap.size := by omega); (try have hz13 : w.heap.size + 1 + 1 + 1 < w1.heap.size := by omega); (try have hz14 : w.heap.size + 1 + 1 + 1 + 1 < w1.heap.size := by omega); (try have hz15 : w.heap.size + 1 + 1 + 1 + 1 + 1 < w1.heap.size := by omega)
  go_wp2_with fail
  refine (B.out _).mono ?_; rintro e w2 ⟨rfl, hb2⟩; obtain ⟨hc2, hf2⟩ := bcell hb2; have hs2 := hb2.size; (try simp at hs2); (try have hz20 : w.heap.size < w2.heap.size := by omega); (try have hz21 : w.heap.size + 1 < w2.heap.size := by omega); (try have hz22 : w.heap.size + 1 + 1 < w2.heap.size := by omega); (try have hz23 : w.heap.size + 1 + 1 + 1 < w2.heap.size := by omega); (try have hz24 : w.heap.size + 1 + 1 + 1 + 1 < w2.heap.size := by omega); (try have hz25 : w.heap.size + 1 + 1 + 1 + 1 + 1 < w2.heap.size := by omega)
  have y1 : w1.heap.size < w2.heap.size := by omega
  go_wp2_with fail
  refine (C.out _).mono ?_; rintro e w3 ⟨rfl, hb3⟩; obtain ⟨hc3, hf3⟩ := bcell hb3; have hs3 := hb3.size; (try simp at hs3); (try have hz30 : w.heap.size < w3.heap.size := by omega); (try have hz31 : w.heap.size + 1 < w3.heap.size := by omega); (try have hz32 : w.heap.size + 1 + 1 < w3.heap.size := by omega); (try have hz33 : w.heap.size + 1 + 1 + 1 < w3.heap.size := by omega); (try have hz34 : w.heap.size + 1 + 1 + 1 + 1 < w3.heap.size := by omega); (try have hz35 : w.heap.size + 1 + 1 + 1 + 1 + 1 < w3.heap.size := by omega)
  have y2 : w1.heap.size < w3.heap.size := by omega
  have y3 : w2.heap.size < w3.heap.size := by omega
  go_wp2_with fail
  refine (D.out _).mono ?_; rintro e w4 ⟨rfl, hb4⟩; obtain ⟨hc4, hf4⟩ := bcell hb4; have hs4 := hb4.size; (try simp at hs4); (try have hz40 : w.heap.size < w4.heap.size := by omega); (try have hz41 : w.heap.size + 1 < w4.heap.size := by omega); (try have hz42 : w.heap.size + 1 + 1 < w4.heap.size := by omega); (try have hz43 : w.heap.size + 1 + 1 + 1 < w4.heap.size := by omega); (try have hz44 : w.heap.size + 1 + 1 + 1 + 1 < w4.heap.size := by omega); (try have hz45 : w.heap.size + 1 + 1 + 1 + 1 + 1 < w4.heap.size := by omega)
  have y4 : w1.heap.size < w4.heap.size := by omega
  have y5 : w2.heap.size < w4.heap.size := by omega
  go_wp2
  go_ret
  exact ⟨rfl, by ((repeat' (first | exact Below.refl _ _ | assumption | refine Below.setCell ?_ ?_ _ | refine bdrewN ?_ _ | refine Below.drew ?_ | refine Below.alloc ?_ ?_ _ | refine bbehind ?_ (by assumption) ?_)); all_goals first | (simp; done) | (simp; omega) | omega)⟩
end Go.Proofs.Ytgefidffhdanhaa
