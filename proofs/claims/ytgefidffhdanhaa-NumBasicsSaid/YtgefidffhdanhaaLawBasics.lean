import Derived.Test.YtgefidffhdanhaaLawA
namespace Go.Proofs.Ytgefidffhdanhaa
open Go.RowKit Go.BigFrame

set_option maxRecDepth 100000 in
set_option maxHeartbeats 4000000 in
theorem basics_any (an ad bn bd n d : Int) (w : World) :
    Calls Try.prog 3 #[.agg #[.int .i64 an, .int .i64 ad], .agg #[.int .i64 bn, .int .i64 bd], .int .i64 n, .int .i64 d] w fun e w' => e = .returned (.bool true) ∧ Below w.heap.size w w' := by
  go_enter Try.func3, Try.ntmps3
  go_wp2_with fail
  refine wp_region_quiet_all (fun w' => ∃ x : Lower _, w' = x.val) (by kernel_rfl) (by kernel_rfl) ⟨⟨_, (Below.refl _ _).drew⟩, rfl⟩ ?_
  repeat (go_big_quiet_step (first | (go_at_call 16; exact calls_lower _ (check_any _ _ _)) | (go_at_call 17; exact calls_lower _ (rcheck_any _ _ _))))
  refine wpQuiet_nil ?_
  intro w1 hx1
  obtain ⟨x1, hx1⟩ := hx1
  have hb1 := x1.prop
  rw [← hx1] at hb1
  clear hx1 x1
  obtain ⟨hc1, hf1⟩ := bcell hb1
  have hs1 := hb1.size
  try simp at hs1
  try have hz0 : w.heap.size < w1.heap.size := by omega
  try have hz1 : w.heap.size + 1 < w1.heap.size := by omega
  try have hz2 : w.heap.size + 1 + 1 < w1.heap.size := by omega
  try have hz3 : w.heap.size + 1 + 1 + 1 < w1.heap.size := by omega
  try have hz4 : w.heap.size + 1 + 1 + 1 + 1 < w1.heap.size := by omega
  try have hz5 : w.heap.size + 1 + 1 + 1 + 1 + 1 < w1.heap.size := by omega
  go_wp2_with fail
  refine (make_any _ _ _).mono ?_; rintro e w2 ⟨rfl, hb2⟩; obtain ⟨hc2, hf2⟩ := bcell hb2; have hs2 := hb2.size; (try simp at hs2); (try have hz20 : w.heap.size < w2.heap.size := by omega); (try have hz21 : w.heap.size + 1 < w2.heap.size := by omega); (try have hz22 : w.heap.size + 1 + 1 < w2.heap.size := by omega); (try have hz23 : w.heap.size + 1 + 1 + 1 < w2.heap.size := by omega); (try have hz24 : w.heap.size + 1 + 1 + 1 + 1 < w2.heap.size := by omega); (try have hz25 : w.heap.size + 1 + 1 + 1 + 1 + 1 < w2.heap.size := by omega); (try have hy1_2 : w1.heap.size < w2.heap.size := by omega)
  go_wp2_with fail
  refine (rmake_any _ _ _).mono ?_; rintro e w3 ⟨rfl, hb3⟩; obtain ⟨hc3, hf3⟩ := bcell hb3; have hs3 := hb3.size; (try simp at hs3); (try have hz30 : w.heap.size < w3.heap.size := by omega); (try have hz31 : w.heap.size + 1 < w3.heap.size := by omega); (try have hz32 : w.heap.size + 1 + 1 < w3.heap.size := by omega); (try have hz33 : w.heap.size + 1 + 1 + 1 < w3.heap.size := by omega); (try have hz34 : w.heap.size + 1 + 1 + 1 + 1 < w3.heap.size := by omega); (try have hz35 : w.heap.size + 1 + 1 + 1 + 1 + 1 < w3.heap.size := by omega); (try have hy1_3 : w1.heap.size < w3.heap.size := by omega); (try have hy2_3 : w2.heap.size < w3.heap.size := by omega)
  go_wp2_with fail
  refine (neg_any _ _ _).mono ?_; rintro e w4 ⟨rfl, hb4⟩; obtain ⟨hc4, hf4⟩ := bcell hb4; have hs4 := hb4.size; (try simp at hs4); (try have hz40 : w.heap.size < w4.heap.size := by omega); (try have hz41 : w.heap.size + 1 < w4.heap.size := by omega); (try have hz42 : w.heap.size + 1 + 1 < w4.heap.size := by omega); (try have hz43 : w.heap.size + 1 + 1 + 1 < w4.heap.size := by omega); (try have hz44 : w.heap.size + 1 + 1 + 1 + 1 < w4.heap.size := by omega); (try have hz45 : w.heap.size + 1 + 1 + 1 + 1 + 1 < w4.heap.size := by omega); (try have hy1_4 : w1.heap.size < w4.heap.size := by omega); (try have hy2_4 : w2.heap.size < w4.heap.size := by omega); (try have hy3_4 : w3.heap.size < w4.heap.size := by omega)
  go_wp2_with fail
  refine (rneg_any _ _ _).mono ?_; rintro e w5 ⟨rfl, hb5⟩; obtain ⟨hc5, hf5⟩ := bcell hb5; have hs5 := hb5.size; (try simp at hs5); (try have hz50 : w.heap.size < w5.heap.size := by omega); (try have hz51 : w.heap.size + 1 < w5.heap.size := by omega); (try have hz52 : w.heap.size + 1 + 1 < w5.heap.size := by omega); (try have hz53 : w.heap.size + 1 + 1 + 1 < w5.heap.size := by omega); (try have hz54 : w.heap.size + 1 + 1 + 1 + 1 < w5.heap.size := by omega); (try have hz55 : w.heap.size + 1 + 1 + 1 + 1 + 1 < w5.heap.size := by omega); (try have hy1_5 : w1.heap.size < w5.heap.size := by omega); (try have hy2_5 : w2.heap.size < w5.heap.size := by omega); (try have hy3_5 : w3.heap.size < w5.heap.size := by omega); (try have hy4_5 : w4.heap.size < w5.heap.size := by omega)
  go_wp2_with fail
  refine (cmp_any _ _ _ _ _).mono ?_; rintro e w6 ⟨rfl, hb6⟩; obtain ⟨hc6, hf6⟩ := bcell hb6; have hs6 := hb6.size; (try simp at hs6); (try have hz60 : w.heap.size < w6.heap.size := by omega); (try have hz61 : w.heap.size + 1 < w6.heap.size := by omega); (try have hz62 : w.heap.size + 1 + 1 < w6.heap.size := by omega); (try have hz63 : w.heap.size + 1 + 1 + 1 < w6.heap.size := by omega); (try have hz64 : w.heap.size + 1 + 1 + 1 + 1 < w6.heap.size := by omega); (try have hz65 : w.heap.size + 1 + 1 + 1 + 1 + 1 < w6.heap.size := by omega); (try have hy1_6 : w1.heap.size < w6.heap.size := by omega); (try have hy2_6 : w2.heap.size < w6.heap.size := by omega); (try have hy3_6 : w3.heap.size < w6.heap.size := by omega); (try have hy4_6 : w4.heap.size < w6.heap.size := by omega); (try have hy5_6 : w5.heap.size < w6.heap.size := by omega)
  go_wp2_with fail
  refine (rcmp_any _ _ _ _ _).mono ?_; rintro e w7 ⟨rfl, hb7⟩; obtain ⟨hc7, hf7⟩ := bcell hb7; have hs7 := hb7.size; (try simp at hs7); (try have hz70 : w.heap.size < w7.heap.size := by omega); (try have hz71 : w.heap.size + 1 < w7.heap.size := by omega); (try have hz72 : w.heap.size + 1 + 1 < w7.heap.size := by omega); (try have hz73 : w.heap.size + 1 + 1 + 1 < w7.heap.size := by omega); (try have hz74 : w.heap.size + 1 + 1 + 1 + 1 < w7.heap.size := by omega); (try have hz75 : w.heap.size + 1 + 1 + 1 + 1 + 1 < w7.heap.size := by omega); (try have hy1_7 : w1.heap.size < w7.heap.size := by omega); (try have hy2_7 : w2.heap.size < w7.heap.size := by omega); (try have hy3_7 : w3.heap.size < w7.heap.size := by omega); (try have hy4_7 : w4.heap.size < w7.heap.size := by omega); (try have hy5_7 : w5.heap.size < w7.heap.size := by omega); (try have hy6_7 : w6.heap.size < w7.heap.size := by omega)
  go_wp2_with fail
  refine (whole_any _ _ _).mono ?_; rintro e w8 ⟨rfl, hb8⟩; obtain ⟨hc8, hf8⟩ := bcell hb8; have hs8 := hb8.size; (try simp at hs8); (try have hz80 : w.heap.size < w8.heap.size := by omega); (try have hz81 : w.heap.size + 1 < w8.heap.size := by omega); (try have hz82 : w.heap.size + 1 + 1 < w8.heap.size := by omega); (try have hz83 : w.heap.size + 1 + 1 + 1 < w8.heap.size := by omega); (try have hz84 : w.heap.size + 1 + 1 + 1 + 1 < w8.heap.size := by omega); (try have hz85 : w.heap.size + 1 + 1 + 1 + 1 + 1 < w8.heap.size := by omega); (try have hy1_8 : w1.heap.size < w8.heap.size := by omega); (try have hy2_8 : w2.heap.size < w8.heap.size := by omega); (try have hy3_8 : w3.heap.size < w8.heap.size := by omega); (try have hy4_8 : w4.heap.size < w8.heap.size := by omega); (try have hy5_8 : w5.heap.size < w8.heap.size := by omega); (try have hy6_8 : w6.heap.size < w8.heap.size := by omega); (try have hy7_8 : w7.heap.size < w8.heap.size := by omega)
  go_wp2_with fail
  refine (rwhole_any _ _ _).mono ?_; rintro e w9 ⟨rfl, hb9⟩; obtain ⟨hc9, hf9⟩ := bcell hb9; have hs9 := hb9.size; (try simp at hs9); (try have hz90 : w.heap.size < w9.heap.size := by omega); (try have hz91 : w.heap.size + 1 < w9.heap.size := by omega); (try have hz92 : w.heap.size + 1 + 1 < w9.heap.size := by omega); (try have hz93 : w.heap.size + 1 + 1 + 1 < w9.heap.size := by omega); (try have hz94 : w.heap.size + 1 + 1 + 1 + 1 < w9.heap.size := by omega); (try have hz95 : w.heap.size + 1 + 1 + 1 + 1 + 1 < w9.heap.size := by omega); (try have hy1_9 : w1.heap.size < w9.heap.size := by omega); (try have hy2_9 : w2.heap.size < w9.heap.size := by omega); (try have hy3_9 : w3.heap.size < w9.heap.size := by omega); (try have hy4_9 : w4.heap.size < w9.heap.size := by omega); (try have hy5_9 : w5.heap.size < w9.heap.size := by omega); (try have hy6_9 : w6.heap.size < w9.heap.size := by omega); (try have hy7_9 : w7.heap.size < w9.heap.size := by omega); (try have hy8_9 : w8.heap.size < w9.heap.size := by omega)
  go_wp2_with fail
  refine (summed_any _).mono ?_; rintro e w10 ⟨rfl, hb10⟩; obtain ⟨hc10, hf10⟩ := bcell hb10; have hs10 := hb10.size; (try simp at hs10); (try have hz100 : w.heap.size < w10.heap.size := by omega); (try have hz101 : w.heap.size + 1 < w10.heap.size := by omega); (try have hz102 : w.heap.size + 1 + 1 < w10.heap.size := by omega); (try have hz103 : w.heap.size + 1 + 1 + 1 < w10.heap.size := by omega); (try have hz104 : w.heap.size + 1 + 1 + 1 + 1 < w10.heap.size := by omega); (try have hz105 : w.heap.size + 1 + 1 + 1 + 1 + 1 < w10.heap.size := by omega)
  go_wp2
  go_ret
  exact ⟨rfl, by ((repeat' (first | exact Below.refl _ _ | assumption | refine Below.setCell ?_ ?_ _ | refine bdrewN ?_ _ | refine Below.drew ?_ | refine Below.alloc ?_ ?_ _ | refine bbehind ?_ (by assumption) ?_)); all_goals first | (simp; done) | (simp; omega) | omega)⟩
end Go.Proofs.Ytgefidffhdanhaa
