import Derived.Test.YtgefidffhdanhaaLawFieldB
import Derived.Test.YtgefidffhdanhaaAllocTail
namespace Go.Proofs.Ytgefidffhdanhaa
open Go.RowKit Go.BigFrame

set_option maxRecDepth 100000 in
set_option maxHeartbeats 4000000 in
theorem field_no_no (an ad bn bd cn cd  : Int) (w : World) (ha : chk an ad = 0) (hb : chk bn bd = 0) (hc : chk cn cd = 0) (hx : addT an ad bn bd = (0, 0, 8)) (hx1 : addT bn bd an ad = (0, 0, 8)) (hz : mulT an ad bn bd = (0, 0, 8)) (hz1 : mulT bn bd an ad = (0, 0, 8)) :
    Calls Try.prog 8 #[.agg #[.int .i64 an, .int .i64 ad], .agg #[.int .i64 bn, .int .i64 bd], .agg #[.int .i64 cn, .int .i64 cd]] w fun e w' => e = .returned (.bool true) ∧ Below w.heap.size w w' := by
  go_enter Try.func8, Try.ntmps8
  go_wp2_with fail
  refine (fit_ok _ _ _ _ _ _ _ ha hb hc).mono ?_; rintro e w1 ⟨rfl, hb1⟩; obtain ⟨hc1, hf1⟩ := bcell hb1; have hs1 := hb1.size; (try simp at hs1); (try have hz10 : w.heap.size < w1.heap.size := by omega); (try have hz11 : w.heap.size + 1 < w1.heap.size := by omega); (try have hz12 : w.heap.size + 1 + 1 < w1.heap.size := by omega); (try have hz13 : w.heap.size + 1 + 1 + 1 < w1.heap.size := by omega); (try have hz14 : w.heap.size + 1 + 1 + 1 + 1 < w1.heap.size := by omega); (try have hz15 : w.heap.size + 1 + 1 + 1 + 1 + 1 < w1.heap.size := by omega)
  go_wp2_with fail
  refine (add_res hx _).mono ?_; rintro e w2 ⟨rfl, hb2⟩; obtain ⟨hc2, hf2⟩ := bcell hb2; have hs2 := hb2.size; (try simp at hs2); (try have hz20 : w.heap.size < w2.heap.size := by omega); (try have hz21 : w.heap.size + 1 < w2.heap.size := by omega); (try have hz22 : w.heap.size + 1 + 1 < w2.heap.size := by omega); (try have hz23 : w.heap.size + 1 + 1 + 1 < w2.heap.size := by omega); (try have hz24 : w.heap.size + 1 + 1 + 1 + 1 < w2.heap.size := by omega); (try have hz25 : w.heap.size + 1 + 1 + 1 + 1 + 1 < w2.heap.size := by omega); (try have hy1_2 : w1.heap.size < w2.heap.size := by omega); (try have hp1_2 : p1 < w2.heap.size := by omega)
  go_wp2_with fail
  refine (add_res hx1 _).mono ?_; rintro e w3 ⟨rfl, hb3⟩; obtain ⟨hc3, hf3⟩ := bcell hb3; have hs3 := hb3.size; (try simp at hs3); (try have hz30 : w.heap.size < w3.heap.size := by omega); (try have hz31 : w.heap.size + 1 < w3.heap.size := by omega); (try have hz32 : w.heap.size + 1 + 1 < w3.heap.size := by omega); (try have hz33 : w.heap.size + 1 + 1 + 1 < w3.heap.size := by omega); (try have hz34 : w.heap.size + 1 + 1 + 1 + 1 < w3.heap.size := by omega); (try have hz35 : w.heap.size + 1 + 1 + 1 + 1 + 1 < w3.heap.size := by omega); (try have hy1_3 : w1.heap.size < w3.heap.size := by omega); (try have hy2_3 : w2.heap.size < w3.heap.size := by omega); (try have hp1_3 : p1 < w3.heap.size := by omega); (try have hp2_3 : p2 < w3.heap.size := by omega)
  go_wp2_with fail
  refine (mul_res hz _).mono ?_; rintro e w4 ⟨rfl, hb4⟩; obtain ⟨hc4, hf4⟩ := bcell hb4; have hs4 := hb4.size; (try simp at hs4); (try have hz40 : w.heap.size < w4.heap.size := by omega); (try have hz41 : w.heap.size + 1 < w4.heap.size := by omega); (try have hz42 : w.heap.size + 1 + 1 < w4.heap.size := by omega); (try have hz43 : w.heap.size + 1 + 1 + 1 < w4.heap.size := by omega); (try have hz44 : w.heap.size + 1 + 1 + 1 + 1 < w4.heap.size := by omega); (try have hz45 : w.heap.size + 1 + 1 + 1 + 1 + 1 < w4.heap.size := by omega); (try have hy1_4 : w1.heap.size < w4.heap.size := by omega); (try have hy2_4 : w2.heap.size < w4.heap.size := by omega); (try have hy3_4 : w3.heap.size < w4.heap.size := by omega); (try have hp1_4 : p1 < w4.heap.size := by omega); (try have hp2_4 : p2 < w4.heap.size := by omega); (try have hp3_4 : p3 < w4.heap.size := by omega)
  go_wp2_with fail
  refine (mul_res hz1 _).mono ?_; rintro e w5 ⟨rfl, hb5⟩; obtain ⟨hc5, hf5⟩ := bcell hb5; have hs5 := hb5.size; (try simp at hs5); (try have hz50 : w.heap.size < w5.heap.size := by omega); (try have hz51 : w.heap.size + 1 < w5.heap.size := by omega); (try have hz52 : w.heap.size + 1 + 1 < w5.heap.size := by omega); (try have hz53 : w.heap.size + 1 + 1 + 1 < w5.heap.size := by omega); (try have hz54 : w.heap.size + 1 + 1 + 1 + 1 < w5.heap.size := by omega); (try have hz55 : w.heap.size + 1 + 1 + 1 + 1 + 1 < w5.heap.size := by omega); (try have hy1_5 : w1.heap.size < w5.heap.size := by omega); (try have hy2_5 : w2.heap.size < w5.heap.size := by omega); (try have hy3_5 : w3.heap.size < w5.heap.size := by omega); (try have hy4_5 : w4.heap.size < w5.heap.size := by omega); (try have hp1_5 : p1 < w5.heap.size := by omega); (try have hp2_5 : p2 < w5.heap.size := by omega); (try have hp3_5 : p3 < w5.heap.size := by omega); (try have hp4_5 : p4 < w5.heap.size := by omega)
  go_wp2_with fail
  refine wp_region_alloc 6 19 110 (.agg #[.int .i64 (an), .int .i64 (ad)]) (.cells #[.int .i64 0, .int .i64 0] 23) (.cells #[.int .i64 (an), .int .i64 (ad)] 23) _ _ (by kernel_rfl) (by kernel_rfl) (by kernel_rfl) (by kernel_rfl) (by simp) rfl rfl (fun _ _ => by kernel_rfl) (stores_two rfl rfl fun a w p h1 h2 c0 c1 f0 f1 => by simp (maxDischargeDepth := 8) [go_sem, *]) ?_
  apply Exists.intro
  apply And.intro
  · intro WW hWW
    obtain ⟨hcW, hfW⟩ := bcell hWW
    have hsW := hWW.size
    try simp at hsW
    try have hbbW : b < WW.heap.size := by omega
    try have hzW0 : w.heap.size < WW.heap.size := by omega
    try have hzW1 : w.heap.size + 1 < WW.heap.size := by omega
    try have hzW2 : w.heap.size + 1 + 1 < WW.heap.size := by omega
    try have hzW3 : w.heap.size + 1 + 1 + 1 < WW.heap.size := by omega
    try have hzW4 : w.heap.size + 1 + 1 + 1 + 1 < WW.heap.size := by omega
    try have hzW5 : w.heap.size + 1 + 1 + 1 + 1 + 1 < WW.heap.size := by omega
    try have hy1_W : w1.heap.size < WW.heap.size := by omega
    try have hy2_W : w2.heap.size < WW.heap.size := by omega
    try have hy3_W : w3.heap.size < WW.heap.size := by omega
    try have hy4_W : w4.heap.size < WW.heap.size := by omega
    try have hy5_W : w5.heap.size < WW.heap.size := by omega
    try have hp1_W : p1 < WW.heap.size := by omega
    try have hp2_W : p2 < WW.heap.size := by omega
    try have hp3_W : p3 < WW.heap.size := by omega
    try have hp4_W : p4 < WW.heap.size := by omega
    try have hp5_W : p5 < WW.heap.size := by omega
    simp only [List.take_succ_cons, List.take_zero]
    repeat (go_big_quiet_step (first | (go_at_call 61; exact calls_lower _ (zero_any _)) | (go_at_call 27; exact calls_lower _ (add_res (add_zero' ha) _))))
    refine wpQuiet_nil ?_
    exact rfl
  refine ⟨rfl, ?_⟩
  intro p6 w6 hb6 hpl6 hpr6 hpo6
  obtain ⟨hc6, hf6⟩ := bcell hb6
  have hs6 := hb6.size
  try simp at hs6
  try simp at hpl6
  try have hz60 : w.heap.size < w6.heap.size := by omega
  try have hz61 : w.heap.size + 1 < w6.heap.size := by omega
  try have hz62 : w.heap.size + 1 + 1 < w6.heap.size := by omega
  try have hz63 : w.heap.size + 1 + 1 + 1 < w6.heap.size := by omega
  try have hz64 : w.heap.size + 1 + 1 + 1 + 1 < w6.heap.size := by omega
  try have hz65 : w.heap.size + 1 + 1 + 1 + 1 + 1 < w6.heap.size := by omega
  try have hy1_6 : w1.heap.size < w6.heap.size := by omega
  try have hy2_6 : w2.heap.size < w6.heap.size := by omega
  try have hy3_6 : w3.heap.size < w6.heap.size := by omega
  try have hy4_6 : w4.heap.size < w6.heap.size := by omega
  try have hy5_6 : w5.heap.size < w6.heap.size := by omega
  try have hp1_6 : p1 < w6.heap.size := by omega
  try have hp2_6 : p2 < w6.heap.size := by omega
  try have hp3_6 : p3 < w6.heap.size := by omega
  try have hp4_6 : p4 < w6.heap.size := by omega
  try have hp5_6 : p5 < w6.heap.size := by omega
  try have hq60 : w.heap.size < p6 := by omega
  try have hq61 : w.heap.size + 1 < p6 := by omega
  try have hq62 : w.heap.size + 1 + 1 < p6 := by omega
  try have hq63 : w.heap.size + 1 + 1 + 1 < p6 := by omega
  try have hq64 : w.heap.size + 1 + 1 + 1 + 1 < p6 := by omega
  try have hq65 : w.heap.size + 1 + 1 + 1 + 1 + 1 < p6 := by omega
  try have hq1_6 : w1.heap.size < p6 := by omega
  try have hq2_6 : w2.heap.size < p6 := by omega
  try have hq3_6 : w3.heap.size < p6 := by omega
  try have hq4_6 : w4.heap.size < p6 := by omega
  try have hq5_6 : w5.heap.size < p6 := by omega
  have hpc6_0 : w6.cell? ⟨p6, 0, none⟩ = some (.int .i64 (an)) := cell_of_block hpo6 rfl
  have hpc6_1 : w6.cell? ⟨p6, 1, none⟩ = some (.int .i64 (ad)) := cell_of_block hpo6 rfl
  have hpf6_0 := frozen_of_block (o := 0) hpo6
  have hpf6_1 := frozen_of_block (o := 1) hpo6
  clear hpo6
  simp only [List.drop_succ_cons, List.drop_zero, Act.put]
  go_wp2_with fail
  refine wp_region_alloc 6 21 116 (.agg #[.int .i64 (an), .int .i64 (ad)]) (.cells #[.int .i64 0, .int .i64 0] 23) (.cells #[.int .i64 (an), .int .i64 (ad)] 23) _ _ (by kernel_rfl) (by kernel_rfl) (by kernel_rfl) (by kernel_rfl) (by simp) rfl rfl (fun _ _ => by kernel_rfl) (stores_two rfl rfl fun a w p h1 h2 c0 c1 f0 f1 => by simp (maxDischargeDepth := 8) [go_sem, *]) ?_
  apply Exists.intro
  apply And.intro
  · intro WW hWW
    obtain ⟨hcW, hfW⟩ := bcell hWW
    have hsW := hWW.size
    try simp at hsW
    try have hbbW : b < WW.heap.size := by omega
    try have hzW0 : w.heap.size < WW.heap.size := by omega
    try have hzW1 : w.heap.size + 1 < WW.heap.size := by omega
    try have hzW2 : w.heap.size + 1 + 1 < WW.heap.size := by omega
    try have hzW3 : w.heap.size + 1 + 1 + 1 < WW.heap.size := by omega
    try have hzW4 : w.heap.size + 1 + 1 + 1 + 1 < WW.heap.size := by omega
    try have hzW5 : w.heap.size + 1 + 1 + 1 + 1 + 1 < WW.heap.size := by omega
    try have hy1_W : w1.heap.size < WW.heap.size := by omega
    try have hy2_W : w2.heap.size < WW.heap.size := by omega
    try have hy3_W : w3.heap.size < WW.heap.size := by omega
    try have hy4_W : w4.heap.size < WW.heap.size := by omega
    try have hy5_W : w5.heap.size < WW.heap.size := by omega
    try have hy6_W : w6.heap.size < WW.heap.size := by omega
    try have hp1_W : p1 < WW.heap.size := by omega
    try have hp2_W : p2 < WW.heap.size := by omega
    try have hp3_W : p3 < WW.heap.size := by omega
    try have hp4_W : p4 < WW.heap.size := by omega
    try have hp5_W : p5 < WW.heap.size := by omega
    try have hp6_W : p6 < WW.heap.size := by omega
    simp only [List.take_succ_cons, List.take_zero]
    repeat (go_big_quiet_step (first | (go_at_call 62; exact calls_lower _ (one_any _)) | (go_at_call 31; exact calls_lower _ (mul_res (mul_one' ha) _))))
    refine wpQuiet_nil ?_
    exact rfl
  refine ⟨rfl, ?_⟩
  intro p7 w7 hb7 hpl7 hpr7 hpo7
  obtain ⟨hc7, hf7⟩ := bcell hb7
  have hs7 := hb7.size
  try simp at hs7
  try simp at hpl7
  try have hz70 : w.heap.size < w7.heap.size := by omega
  try have hz71 : w.heap.size + 1 < w7.heap.size := by omega
  try have hz72 : w.heap.size + 1 + 1 < w7.heap.size := by omega
  try have hz73 : w.heap.size + 1 + 1 + 1 < w7.heap.size := by omega
  try have hz74 : w.heap.size + 1 + 1 + 1 + 1 < w7.heap.size := by omega
  try have hz75 : w.heap.size + 1 + 1 + 1 + 1 + 1 < w7.heap.size := by omega
  try have hy1_7 : w1.heap.size < w7.heap.size := by omega
  try have hy2_7 : w2.heap.size < w7.heap.size := by omega
  try have hy3_7 : w3.heap.size < w7.heap.size := by omega
  try have hy4_7 : w4.heap.size < w7.heap.size := by omega
  try have hy5_7 : w5.heap.size < w7.heap.size := by omega
  try have hy6_7 : w6.heap.size < w7.heap.size := by omega
  try have hp1_7 : p1 < w7.heap.size := by omega
  try have hp2_7 : p2 < w7.heap.size := by omega
  try have hp3_7 : p3 < w7.heap.size := by omega
  try have hp4_7 : p4 < w7.heap.size := by omega
  try have hp5_7 : p5 < w7.heap.size := by omega
  try have hp6_7 : p6 < w7.heap.size := by omega
  try have hq70 : w.heap.size < p7 := by omega
  try have hq71 : w.heap.size + 1 < p7 := by omega
  try have hq72 : w.heap.size + 1 + 1 < p7 := by omega
  try have hq73 : w.heap.size + 1 + 1 + 1 < p7 := by omega
  try have hq74 : w.heap.size + 1 + 1 + 1 + 1 < p7 := by omega
  try have hq75 : w.heap.size + 1 + 1 + 1 + 1 + 1 < p7 := by omega
  try have hq1_7 : w1.heap.size < p7 := by omega
  try have hq2_7 : w2.heap.size < p7 := by omega
  try have hq3_7 : w3.heap.size < p7 := by omega
  try have hq4_7 : w4.heap.size < p7 := by omega
  try have hq5_7 : w5.heap.size < p7 := by omega
  try have hq6_7 : w6.heap.size < p7 := by omega
  have hpc7_0 : w7.cell? ⟨p7, 0, none⟩ = some (.int .i64 (an)) := cell_of_block hpo7 rfl
  have hpc7_1 : w7.cell? ⟨p7, 1, none⟩ = some (.int .i64 (ad)) := cell_of_block hpo7 rfl
  have hpf7_0 := frozen_of_block (o := 0) hpo7
  have hpf7_1 := frozen_of_block (o := 1) hpo7
  clear hpo7
  simp only [List.drop_succ_cons, List.drop_zero, Act.put]
  go_wp2_with fail
  refine (joined_any _ _ _ _ _ _ _ ha hb hc).mono ?_; rintro e w8 ⟨rfl, hb8⟩; obtain ⟨hc8, hf8⟩ := bcell hb8; have hs8 := hb8.size; (try simp at hs8); (try have hz80 : w.heap.size < w8.heap.size := by omega); (try have hz81 : w.heap.size + 1 < w8.heap.size := by omega); (try have hz82 : w.heap.size + 1 + 1 < w8.heap.size := by omega); (try have hz83 : w.heap.size + 1 + 1 + 1 < w8.heap.size := by omega); (try have hz84 : w.heap.size + 1 + 1 + 1 + 1 < w8.heap.size := by omega); (try have hz85 : w.heap.size + 1 + 1 + 1 + 1 + 1 < w8.heap.size := by omega); (try have hy1_8 : w1.heap.size < w8.heap.size := by omega); (try have hy2_8 : w2.heap.size < w8.heap.size := by omega); (try have hy3_8 : w3.heap.size < w8.heap.size := by omega); (try have hy4_8 : w4.heap.size < w8.heap.size := by omega); (try have hy5_8 : w5.heap.size < w8.heap.size := by omega); (try have hy6_8 : w6.heap.size < w8.heap.size := by omega); (try have hy7_8 : w7.heap.size < w8.heap.size := by omega); (try have hp1_8 : p1 < w8.heap.size := by omega); (try have hp2_8 : p2 < w8.heap.size := by omega); (try have hp3_8 : p3 < w8.heap.size := by omega); (try have hp4_8 : p4 < w8.heap.size := by omega); (try have hp5_8 : p5 < w8.heap.size := by omega); (try have hp6_8 : p6 < w8.heap.size := by omega); (try have hp7_8 : p7 < w8.heap.size := by omega)
  go_wp2_with fail
  refine (summed_any _).mono ?_; rintro e w9 ⟨rfl, hb9⟩; obtain ⟨hc9, hf9⟩ := bcell hb9; have hs9 := hb9.size; (try simp at hs9); (try have hz90 : w.heap.size < w9.heap.size := by omega); (try have hz91 : w.heap.size + 1 < w9.heap.size := by omega); (try have hz92 : w.heap.size + 1 + 1 < w9.heap.size := by omega); (try have hz93 : w.heap.size + 1 + 1 + 1 < w9.heap.size := by omega); (try have hz94 : w.heap.size + 1 + 1 + 1 + 1 < w9.heap.size := by omega); (try have hz95 : w.heap.size + 1 + 1 + 1 + 1 + 1 < w9.heap.size := by omega); (try have hy1_9 : w1.heap.size < w9.heap.size := by omega); (try have hy2_9 : w2.heap.size < w9.heap.size := by omega); (try have hy3_9 : w3.heap.size < w9.heap.size := by omega); (try have hy4_9 : w4.heap.size < w9.heap.size := by omega); (try have hy5_9 : w5.heap.size < w9.heap.size := by omega); (try have hy6_9 : w6.heap.size < w9.heap.size := by omega); (try have hy7_9 : w7.heap.size < w9.heap.size := by omega); (try have hy8_9 : w8.heap.size < w9.heap.size := by omega); (try have hp1_9 : p1 < w9.heap.size := by omega); (try have hp2_9 : p2 < w9.heap.size := by omega); (try have hp3_9 : p3 < w9.heap.size := by omega); (try have hp4_9 : p4 < w9.heap.size := by omega); (try have hp5_9 : p5 < w9.heap.size := by omega); (try have hp6_9 : p6 < w9.heap.size := by omega); (try have hp7_9 : p7 < w9.heap.size := by omega); (try have hp8_9 : p8 < w9.heap.size := by omega)
  go_wp2
  go_ret
  exact ⟨rfl, by ((repeat' (first | exact Below.refl _ _ | assumption | refine Below.setCell ?_ ?_ _ | refine bdrewN ?_ _ | refine Below.drew ?_ | refine Below.alloc ?_ ?_ _ | refine bbehind ?_ (by assumption) ?_)); all_goals first | (simp; done) | (simp; omega) | omega)⟩

set_option maxRecDepth 100000 in
set_option maxHeartbeats 4000000 in
theorem field_no_b0 (an ad bn bd cn cd z1 z2 : Int) (w : World) (ha : chk an ad = 0) (hb : chk bn bd = 0) (hc : chk cn cd = 0) (hx : addT an ad bn bd = (0, 0, 8)) (hx1 : addT bn bd an ad = (0, 0, 8)) (hz : mulT an ad bn bd = (z1, z2, 0)) (hz1 : mulT bn bd an ad = (z1, z2, 0)) (h0 : bn = 0) :
    Calls Try.prog 8 #[.agg #[.int .i64 an, .int .i64 ad], .agg #[.int .i64 bn, .int .i64 bd], .agg #[.int .i64 cn, .int .i64 cd]] w fun e w' => e = .returned (.bool true) ∧ Below w.heap.size w w' := by
  subst h0
  go_enter Try.func8, Try.ntmps8
  go_wp2_with fail
  refine (fit_ok _ _ _ _ _ _ _ ha hb hc).mono ?_; rintro e w1 ⟨rfl, hb1⟩; obtain ⟨hc1, hf1⟩ := bcell hb1; have hs1 := hb1.size; (try simp at hs1); (try have hz10 : w.heap.size < w1.heap.size := by omega); (try have hz11 : w.heap.size + 1 < w1.heap.size := by omega); (try have hz12 : w.heap.size + 1 + 1 < w1.heap.size := by omega); (try have hz13 : w.heap.size + 1 + 1 + 1 < w1.heap.size := by omega); (try have hz14 : w.heap.size + 1 + 1 + 1 + 1 < w1.heap.size := by omega); (try have hz15 : w.heap.size + 1 + 1 + 1 + 1 + 1 < w1.heap.size := by omega)
  go_wp2_with fail
  refine (add_res hx _).mono ?_; rintro e w2 ⟨rfl, hb2⟩; obtain ⟨hc2, hf2⟩ := bcell hb2; have hs2 := hb2.size; (try simp at hs2); (try have hz20 : w.heap.size < w2.heap.size := by omega); (try have hz21 : w.heap.size + 1 < w2.heap.size := by omega); (try have hz22 : w.heap.size + 1 + 1 < w2.heap.size := by omega); (try have hz23 : w.heap.size + 1 + 1 + 1 < w2.heap.size := by omega); (try have hz24 : w.heap.size + 1 + 1 + 1 + 1 < w2.heap.size := by omega); (try have hz25 : w.heap.size + 1 + 1 + 1 + 1 + 1 < w2.heap.size := by omega); (try have hy1_2 : w1.heap.size < w2.heap.size := by omega); (try have hp1_2 : p1 < w2.heap.size := by omega)
  go_wp2_with fail
  refine (add_res hx1 _).mono ?_; rintro e w3 ⟨rfl, hb3⟩; obtain ⟨hc3, hf3⟩ := bcell hb3; have hs3 := hb3.size; (try simp at hs3); (try have hz30 : w.heap.size < w3.heap.size := by omega); (try have hz31 : w.heap.size + 1 < w3.heap.size := by omega); (try have hz32 : w.heap.size + 1 + 1 < w3.heap.size := by omega); (try have hz33 : w.heap.size + 1 + 1 + 1 < w3.heap.size := by omega); (try have hz34 : w.heap.size + 1 + 1 + 1 + 1 < w3.heap.size := by omega); (try have hz35 : w.heap.size + 1 + 1 + 1 + 1 + 1 < w3.heap.size := by omega); (try have hy1_3 : w1.heap.size < w3.heap.size := by omega); (try have hy2_3 : w2.heap.size < w3.heap.size := by omega); (try have hp1_3 : p1 < w3.heap.size := by omega); (try have hp2_3 : p2 < w3.heap.size := by omega)
  go_wp2_with fail
  refine (mul_res hz _).mono ?_; rintro e w4 ⟨rfl, hb4⟩; obtain ⟨hc4, hf4⟩ := bcell hb4; have hs4 := hb4.size; (try simp at hs4); (try have hz40 : w.heap.size < w4.heap.size := by omega); (try have hz41 : w.heap.size + 1 < w4.heap.size := by omega); (try have hz42 : w.heap.size + 1 + 1 < w4.heap.size := by omega); (try have hz43 : w.heap.size + 1 + 1 + 1 < w4.heap.size := by omega); (try have hz44 : w.heap.size + 1 + 1 + 1 + 1 < w4.heap.size := by omega); (try have hz45 : w.heap.size + 1 + 1 + 1 + 1 + 1 < w4.heap.size := by omega); (try have hy1_4 : w1.heap.size < w4.heap.size := by omega); (try have hy2_4 : w2.heap.size < w4.heap.size := by omega); (try have hy3_4 : w3.heap.size < w4.heap.size := by omega); (try have hp1_4 : p1 < w4.heap.size := by omega); (try have hp2_4 : p2 < w4.heap.size := by omega); (try have hp3_4 : p3 < w4.heap.size := by omega)
  go_wp2_with fail
  refine (mul_res hz1 _).mono ?_; rintro e w5 ⟨rfl, hb5⟩; obtain ⟨hc5, hf5⟩ := bcell hb5; have hs5 := hb5.size; (try simp at hs5); (try have hz50 : w.heap.size < w5.heap.size := by omega); (try have hz51 : w.heap.size + 1 < w5.heap.size := by omega); (try have hz52 : w.heap.size + 1 + 1 < w5.heap.size := by omega); (try have hz53 : w.heap.size + 1 + 1 + 1 < w5.heap.size := by omega); (try have hz54 : w.heap.size + 1 + 1 + 1 + 1 < w5.heap.size := by omega); (try have hz55 : w.heap.size + 1 + 1 + 1 + 1 + 1 < w5.heap.size := by omega); (try have hy1_5 : w1.heap.size < w5.heap.size := by omega); (try have hy2_5 : w2.heap.size < w5.heap.size := by omega); (try have hy3_5 : w3.heap.size < w5.heap.size := by omega); (try have hy4_5 : w4.heap.size < w5.heap.size := by omega); (try have hp1_5 : p1 < w5.heap.size := by omega); (try have hp2_5 : p2 < w5.heap.size := by omega); (try have hp3_5 : p3 < w5.heap.size := by omega); (try have hp4_5 : p4 < w5.heap.size := by omega)
  go_wp2_with fail
  refine wp_region_alloc 6 19 110 (.agg #[.int .i64 (an), .int .i64 (ad)]) (.cells #[.int .i64 0, .int .i64 0] 23) (.cells #[.int .i64 (an), .int .i64 (ad)] 23) _ _ (by kernel_rfl) (by kernel_rfl) (by kernel_rfl) (by kernel_rfl) (by simp) rfl rfl (fun _ _ => by kernel_rfl) (stores_two rfl rfl fun a w p h1 h2 c0 c1 f0 f1 => by simp (maxDischargeDepth := 8) [go_sem, *]) ?_
  apply Exists.intro
  apply And.intro
  · intro WW hWW
    obtain ⟨hcW, hfW⟩ := bcell hWW
    have hsW := hWW.size
    try simp at hsW
    try have hbbW : b < WW.heap.size := by omega
    try have hzW0 : w.heap.size < WW.heap.size := by omega
    try have hzW1 : w.heap.size + 1 < WW.heap.size := by omega
    try have hzW2 : w.heap.size + 1 + 1 < WW.heap.size := by omega
    try have hzW3 : w.heap.size + 1 + 1 + 1 < WW.heap.size := by omega
    try have hzW4 : w.heap.size + 1 + 1 + 1 + 1 < WW.heap.size := by omega
    try have hzW5 : w.heap.size + 1 + 1 + 1 + 1 + 1 < WW.heap.size := by omega
    try have hy1_W : w1.heap.size < WW.heap.size := by omega
    try have hy2_W : w2.heap.size < WW.heap.size := by omega
    try have hy3_W : w3.heap.size < WW.heap.size := by omega
    try have hy4_W : w4.heap.size < WW.heap.size := by omega
    try have hy5_W : w5.heap.size < WW.heap.size := by omega
    try have hp1_W : p1 < WW.heap.size := by omega
    try have hp2_W : p2 < WW.heap.size := by omega
    try have hp3_W : p3 < WW.heap.size := by omega
    try have hp4_W : p4 < WW.heap.size := by omega
    try have hp5_W : p5 < WW.heap.size := by omega
    simp only [List.take_succ_cons, List.take_zero]
    repeat (go_big_quiet_step (first | (go_at_call 61; exact calls_lower _ (zero_any _)) | (go_at_call 27; exact calls_lower _ (add_res (add_zero' ha) _))))
    refine wpQuiet_nil ?_
    exact rfl
  refine ⟨rfl, ?_⟩
  intro p6 w6 hb6 hpl6 hpr6 hpo6
  obtain ⟨hc6, hf6⟩ := bcell hb6
  have hs6 := hb6.size
  try simp at hs6
  try simp at hpl6
  try have hz60 : w.heap.size < w6.heap.size := by omega
  try have hz61 : w.heap.size + 1 < w6.heap.size := by omega
  try have hz62 : w.heap.size + 1 + 1 < w6.heap.size := by omega
  try have hz63 : w.heap.size + 1 + 1 + 1 < w6.heap.size := by omega
  try have hz64 : w.heap.size + 1 + 1 + 1 + 1 < w6.heap.size := by omega
  try have hz65 : w.heap.size + 1 + 1 + 1 + 1 + 1 < w6.heap.size := by omega
  try have hy1_6 : w1.heap.size < w6.heap.size := by omega
  try have hy2_6 : w2.heap.size < w6.heap.size := by omega
  try have hy3_6 : w3.heap.size < w6.heap.size := by omega
  try have hy4_6 : w4.heap.size < w6.heap.size := by omega
  try have hy5_6 : w5.heap.size < w6.heap.size := by omega
  try have hp1_6 : p1 < w6.heap.size := by omega
  try have hp2_6 : p2 < w6.heap.size := by omega
  try have hp3_6 : p3 < w6.heap.size := by omega
  try have hp4_6 : p4 < w6.heap.size := by omega
  try have hp5_6 : p5 < w6.heap.size := by omega
  try have hq60 : w.heap.size < p6 := by omega
  try have hq61 : w.heap.size + 1 < p6 := by omega
  try have hq62 : w.heap.size + 1 + 1 < p6 := by omega
  try have hq63 : w.heap.size + 1 + 1 + 1 < p6 := by omega
  try have hq64 : w.heap.size + 1 + 1 + 1 + 1 < p6 := by omega
  try have hq65 : w.heap.size + 1 + 1 + 1 + 1 + 1 < p6 := by omega
  try have hq1_6 : w1.heap.size < p6 := by omega
  try have hq2_6 : w2.heap.size < p6 := by omega
  try have hq3_6 : w3.heap.size < p6 := by omega
  try have hq4_6 : w4.heap.size < p6 := by omega
  try have hq5_6 : w5.heap.size < p6 := by omega
  have hpc6_0 : w6.cell? ⟨p6, 0, none⟩ = some (.int .i64 (an)) := cell_of_block hpo6 rfl
  have hpc6_1 : w6.cell? ⟨p6, 1, none⟩ = some (.int .i64 (ad)) := cell_of_block hpo6 rfl
  have hpf6_0 := frozen_of_block (o := 0) hpo6
  have hpf6_1 := frozen_of_block (o := 1) hpo6
  clear hpo6
  simp only [List.drop_succ_cons, List.drop_zero, Act.put]
  go_wp2_with fail
  refine wp_region_alloc 6 21 116 (.agg #[.int .i64 (an), .int .i64 (ad)]) (.cells #[.int .i64 0, .int .i64 0] 23) (.cells #[.int .i64 (an), .int .i64 (ad)] 23) _ _ (by kernel_rfl) (by kernel_rfl) (by kernel_rfl) (by kernel_rfl) (by simp) rfl rfl (fun _ _ => by kernel_rfl) (stores_two rfl rfl fun a w p h1 h2 c0 c1 f0 f1 => by simp (maxDischargeDepth := 8) [go_sem, *]) ?_
  apply Exists.intro
  apply And.intro
  · intro WW hWW
    obtain ⟨hcW, hfW⟩ := bcell hWW
    have hsW := hWW.size
    try simp at hsW
    try have hbbW : b < WW.heap.size := by omega
    try have hzW0 : w.heap.size < WW.heap.size := by omega
    try have hzW1 : w.heap.size + 1 < WW.heap.size := by omega
    try have hzW2 : w.heap.size + 1 + 1 < WW.heap.size := by omega
    try have hzW3 : w.heap.size + 1 + 1 + 1 < WW.heap.size := by omega
    try have hzW4 : w.heap.size + 1 + 1 + 1 + 1 < WW.heap.size := by omega
    try have hzW5 : w.heap.size + 1 + 1 + 1 + 1 + 1 < WW.heap.size := by omega
    try have hy1_W : w1.heap.size < WW.heap.size := by omega
    try have hy2_W : w2.heap.size < WW.heap.size := by omega
    try have hy3_W : w3.heap.size < WW.heap.size := by omega
    try have hy4_W : w4.heap.size < WW.heap.size := by omega
    try have hy5_W : w5.heap.size < WW.heap.size := by omega
    try have hy6_W : w6.heap.size < WW.heap.size := by omega
    try have hp1_W : p1 < WW.heap.size := by omega
    try have hp2_W : p2 < WW.heap.size := by omega
    try have hp3_W : p3 < WW.heap.size := by omega
    try have hp4_W : p4 < WW.heap.size := by omega
    try have hp5_W : p5 < WW.heap.size := by omega
    try have hp6_W : p6 < WW.heap.size := by omega
    simp only [List.take_succ_cons, List.take_zero]
    repeat (go_big_quiet_step (first | (go_at_call 62; exact calls_lower _ (one_any _)) | (go_at_call 31; exact calls_lower _ (mul_res (mul_one' ha) _))))
    refine wpQuiet_nil ?_
    exact rfl
  refine ⟨rfl, ?_⟩
  intro p7 w7 hb7 hpl7 hpr7 hpo7
  obtain ⟨hc7, hf7⟩ := bcell hb7
  have hs7 := hb7.size
  try simp at hs7
  try simp at hpl7
  try have hz70 : w.heap.size < w7.heap.size := by omega
  try have hz71 : w.heap.size + 1 < w7.heap.size := by omega
  try have hz72 : w.heap.size + 1 + 1 < w7.heap.size := by omega
  try have hz73 : w.heap.size + 1 + 1 + 1 < w7.heap.size := by omega
  try have hz74 : w.heap.size + 1 + 1 + 1 + 1 < w7.heap.size := by omega
  try have hz75 : w.heap.size + 1 + 1 + 1 + 1 + 1 < w7.heap.size := by omega
  try have hy1_7 : w1.heap.size < w7.heap.size := by omega
  try have hy2_7 : w2.heap.size < w7.heap.size := by omega
  try have hy3_7 : w3.heap.size < w7.heap.size := by omega
  try have hy4_7 : w4.heap.size < w7.heap.size := by omega
  try have hy5_7 : w5.heap.size < w7.heap.size := by omega
  try have hy6_7 : w6.heap.size < w7.heap.size := by omega
  try have hp1_7 : p1 < w7.heap.size := by omega
  try have hp2_7 : p2 < w7.heap.size := by omega
  try have hp3_7 : p3 < w7.heap.size := by omega
  try have hp4_7 : p4 < w7.heap.size := by omega
  try have hp5_7 : p5 < w7.heap.size := by omega
  try have hp6_7 : p6 < w7.heap.size := by omega
  try have hq70 : w.heap.size < p7 := by omega
  try have hq71 : w.heap.size + 1 < p7 := by omega
  try have hq72 : w.heap.size + 1 + 1 < p7 := by omega
  try have hq73 : w.heap.size + 1 + 1 + 1 < p7 := by omega
  try have hq74 : w.heap.size + 1 + 1 + 1 + 1 < p7 := by omega
  try have hq75 : w.heap.size + 1 + 1 + 1 + 1 + 1 < p7 := by omega
  try have hq1_7 : w1.heap.size < p7 := by omega
  try have hq2_7 : w2.heap.size < p7 := by omega
  try have hq3_7 : w3.heap.size < p7 := by omega
  try have hq4_7 : w4.heap.size < p7 := by omega
  try have hq5_7 : w5.heap.size < p7 := by omega
  try have hq6_7 : w6.heap.size < p7 := by omega
  have hpc7_0 : w7.cell? ⟨p7, 0, none⟩ = some (.int .i64 (an)) := cell_of_block hpo7 rfl
  have hpc7_1 : w7.cell? ⟨p7, 1, none⟩ = some (.int .i64 (ad)) := cell_of_block hpo7 rfl
  have hpf7_0 := frozen_of_block (o := 0) hpo7
  have hpf7_1 := frozen_of_block (o := 1) hpo7
  clear hpo7
  simp only [List.drop_succ_cons, List.drop_zero, Act.put]
  go_wp2_with fail
  refine (joined_any _ _ _ _ _ _ _ ha hb hc).mono ?_; rintro e w8 ⟨rfl, hb8⟩; obtain ⟨hc8, hf8⟩ := bcell hb8; have hs8 := hb8.size; (try simp at hs8); (try have hz80 : w.heap.size < w8.heap.size := by omega); (try have hz81 : w.heap.size + 1 < w8.heap.size := by omega); (try have hz82 : w.heap.size + 1 + 1 < w8.heap.size := by omega); (try have hz83 : w.heap.size + 1 + 1 + 1 < w8.heap.size := by omega); (try have hz84 : w.heap.size + 1 + 1 + 1 + 1 < w8.heap.size := by omega); (try have hz85 : w.heap.size + 1 + 1 + 1 + 1 + 1 < w8.heap.size := by omega); (try have hy1_8 : w1.heap.size < w8.heap.size := by omega); (try have hy2_8 : w2.heap.size < w8.heap.size := by omega); (try have hy3_8 : w3.heap.size < w8.heap.size := by omega); (try have hy4_8 : w4.heap.size < w8.heap.size := by omega); (try have hy5_8 : w5.heap.size < w8.heap.size := by omega); (try have hy6_8 : w6.heap.size < w8.heap.size := by omega); (try have hy7_8 : w7.heap.size < w8.heap.size := by omega); (try have hp1_8 : p1 < w8.heap.size := by omega); (try have hp2_8 : p2 < w8.heap.size := by omega); (try have hp3_8 : p3 < w8.heap.size := by omega); (try have hp4_8 : p4 < w8.heap.size := by omega); (try have hp5_8 : p5 < w8.heap.size := by omega); (try have hp6_8 : p6 < w8.heap.size := by omega); (try have hp7_8 : p7 < w8.heap.size := by omega)
  go_wp2_with fail
  refine (summed_any _).mono ?_; rintro e w9 ⟨rfl, hb9⟩; obtain ⟨hc9, hf9⟩ := bcell hb9; have hs9 := hb9.size; (try simp at hs9); (try have hz90 : w.heap.size < w9.heap.size := by omega); (try have hz91 : w.heap.size + 1 < w9.heap.size := by omega); (try have hz92 : w.heap.size + 1 + 1 < w9.heap.size := by omega); (try have hz93 : w.heap.size + 1 + 1 + 1 < w9.heap.size := by omega); (try have hz94 : w.heap.size + 1 + 1 + 1 + 1 < w9.heap.size := by omega); (try have hz95 : w.heap.size + 1 + 1 + 1 + 1 + 1 < w9.heap.size := by omega); (try have hy1_9 : w1.heap.size < w9.heap.size := by omega); (try have hy2_9 : w2.heap.size < w9.heap.size := by omega); (try have hy3_9 : w3.heap.size < w9.heap.size := by omega); (try have hy4_9 : w4.heap.size < w9.heap.size := by omega); (try have hy5_9 : w5.heap.size < w9.heap.size := by omega); (try have hy6_9 : w6.heap.size < w9.heap.size := by omega); (try have hy7_9 : w7.heap.size < w9.heap.size := by omega); (try have hy8_9 : w8.heap.size < w9.heap.size := by omega); (try have hp1_9 : p1 < w9.heap.size := by omega); (try have hp2_9 : p2 < w9.heap.size := by omega); (try have hp3_9 : p3 < w9.heap.size := by omega); (try have hp4_9 : p4 < w9.heap.size := by omega); (try have hp5_9 : p5 < w9.heap.size := by omega); (try have hp6_9 : p6 < w9.heap.size := by omega); (try have hp7_9 : p7 < w9.heap.size := by omega); (try have hp8_9 : p8 < w9.heap.size := by omega)
  go_wp2
  go_ret
  exact ⟨rfl, by ((repeat' (first | exact Below.refl _ _ | assumption | refine Below.setCell ?_ ?_ _ | refine bdrewN ?_ _ | refine Below.drew ?_ | refine Below.alloc ?_ ?_ _ | refine bbehind ?_ (by assumption) ?_)); all_goals first | (simp; done) | (simp; omega) | omega)⟩

set_option maxRecDepth 100000 in
set_option maxHeartbeats 4000000 in
theorem field_no_ok (an ad bn bd cn cd z1 z2 : Int) (w : World) (ha : chk an ad = 0) (hb : chk bn bd = 0) (hc : chk cn cd = 0) (hx : addT an ad bn bd = (0, 0, 8)) (hx1 : addT bn bd an ad = (0, 0, 8)) (hz : mulT an ad bn bd = (z1, z2, 0)) (hz1 : mulT bn bd an ad = (z1, z2, 0)) (h0 : (bn != 0) = true) (hv : divT z1 z2 bn bd = (an, ad, 0)) :
    Calls Try.prog 8 #[.agg #[.int .i64 an, .int .i64 ad], .agg #[.int .i64 bn, .int .i64 bd], .agg #[.int .i64 cn, .int .i64 cd]] w fun e w' => e = .returned (.bool true) ∧ Below w.heap.size w w' := by
  go_enter Try.func8, Try.ntmps8
  go_wp2_with fail
  refine (fit_ok _ _ _ _ _ _ _ ha hb hc).mono ?_; rintro e w1 ⟨rfl, hb1⟩; obtain ⟨hc1, hf1⟩ := bcell hb1; have hs1 := hb1.size; (try simp at hs1); (try have hz10 : w.heap.size < w1.heap.size := by omega); (try have hz11 : w.heap.size + 1 < w1.heap.size := by omega); (try have hz12 : w.heap.size + 1 + 1 < w1.heap.size := by omega); (try have hz13 : w.heap.size + 1 + 1 + 1 < w1.heap.size := by omega); (try have hz14 : w.heap.size + 1 + 1 + 1 + 1 < w1.heap.size := by omega); (try have hz15 : w.heap.size + 1 + 1 + 1 + 1 + 1 < w1.heap.size := by omega)
  go_wp2_with fail
  refine (add_res hx _).mono ?_; rintro e w2 ⟨rfl, hb2⟩; obtain ⟨hc2, hf2⟩ := bcell hb2; have hs2 := hb2.size; (try simp at hs2); (try have hz20 : w.heap.size < w2.heap.size := by omega); (try have hz21 : w.heap.size + 1 < w2.heap.size := by omega); (try have hz22 : w.heap.size + 1 + 1 < w2.heap.size := by omega); (try have hz23 : w.heap.size + 1 + 1 + 1 < w2.heap.size := by omega); (try have hz24 : w.heap.size + 1 + 1 + 1 + 1 < w2.heap.size := by omega); (try have hz25 : w.heap.size + 1 + 1 + 1 + 1 + 1 < w2.heap.size := by omega); (try have hy1_2 : w1.heap.size < w2.heap.size := by omega); (try have hp1_2 : p1 < w2.heap.size := by omega)
  go_wp2_with fail
  refine (add_res hx1 _).mono ?_; rintro e w3 ⟨rfl, hb3⟩; obtain ⟨hc3, hf3⟩ := bcell hb3; have hs3 := hb3.size; (try simp at hs3); (try have hz30 : w.heap.size < w3.heap.size := by omega); (try have hz31 : w.heap.size + 1 < w3.heap.size := by omega); (try have hz32 : w.heap.size + 1 + 1 < w3.heap.size := by omega); (try have hz33 : w.heap.size + 1 + 1 + 1 < w3.heap.size := by omega); (try have hz34 : w.heap.size + 1 + 1 + 1 + 1 < w3.heap.size := by omega); (try have hz35 : w.heap.size + 1 + 1 + 1 + 1 + 1 < w3.heap.size := by omega); (try have hy1_3 : w1.heap.size < w3.heap.size := by omega); (try have hy2_3 : w2.heap.size < w3.heap.size := by omega); (try have hp1_3 : p1 < w3.heap.size := by omega); (try have hp2_3 : p2 < w3.heap.size := by omega)
  go_wp2_with fail
  refine (mul_res hz _).mono ?_; rintro e w4 ⟨rfl, hb4⟩; obtain ⟨hc4, hf4⟩ := bcell hb4; have hs4 := hb4.size; (try simp at hs4); (try have hz40 : w.heap.size < w4.heap.size := by omega); (try have hz41 : w.heap.size + 1 < w4.heap.size := by omega); (try have hz42 : w.heap.size + 1 + 1 < w4.heap.size := by omega); (try have hz43 : w.heap.size + 1 + 1 + 1 < w4.heap.size := by omega); (try have hz44 : w.heap.size + 1 + 1 + 1 + 1 < w4.heap.size := by omega); (try have hz45 : w.heap.size + 1 + 1 + 1 + 1 + 1 < w4.heap.size := by omega); (try have hy1_4 : w1.heap.size < w4.heap.size := by omega); (try have hy2_4 : w2.heap.size < w4.heap.size := by omega); (try have hy3_4 : w3.heap.size < w4.heap.size := by omega); (try have hp1_4 : p1 < w4.heap.size := by omega); (try have hp2_4 : p2 < w4.heap.size := by omega); (try have hp3_4 : p3 < w4.heap.size := by omega)
  go_wp2_with fail
  refine (mul_res hz1 _).mono ?_; rintro e w5 ⟨rfl, hb5⟩; obtain ⟨hc5, hf5⟩ := bcell hb5; have hs5 := hb5.size; (try simp at hs5); (try have hz50 : w.heap.size < w5.heap.size := by omega); (try have hz51 : w.heap.size + 1 < w5.heap.size := by omega); (try have hz52 : w.heap.size + 1 + 1 < w5.heap.size := by omega); (try have hz53 : w.heap.size + 1 + 1 + 1 < w5.heap.size := by omega); (try have hz54 : w.heap.size + 1 + 1 + 1 + 1 < w5.heap.size := by omega); (try have hz55 : w.heap.size + 1 + 1 + 1 + 1 + 1 < w5.heap.size := by omega); (try have hy1_5 : w1.heap.size < w5.heap.size := by omega); (try have hy2_5 : w2.heap.size < w5.heap.size := by omega); (try have hy3_5 : w3.heap.size < w5.heap.size := by omega); (try have hy4_5 : w4.heap.size < w5.heap.size := by omega); (try have hp1_5 : p1 < w5.heap.size := by omega); (try have hp2_5 : p2 < w5.heap.size := by omega); (try have hp3_5 : p3 < w5.heap.size := by omega); (try have hp4_5 : p4 < w5.heap.size := by omega)
  go_wp2_with fail
  refine (div_res hv _).mono ?_; rintro e w6 ⟨rfl, hb6⟩; obtain ⟨hc6, hf6⟩ := bcell hb6; have hs6 := hb6.size; (try simp at hs6); (try have hz60 : w.heap.size < w6.heap.size := by omega); (try have hz61 : w.heap.size + 1 < w6.heap.size := by omega); (try have hz62 : w.heap.size + 1 + 1 < w6.heap.size := by omega); (try have hz63 : w.heap.size + 1 + 1 + 1 < w6.heap.size := by omega); (try have hz64 : w.heap.size + 1 + 1 + 1 + 1 < w6.heap.size := by omega); (try have hz65 : w.heap.size + 1 + 1 + 1 + 1 + 1 < w6.heap.size := by omega); (try have hy1_6 : w1.heap.size < w6.heap.size := by omega); (try have hy2_6 : w2.heap.size < w6.heap.size := by omega); (try have hy3_6 : w3.heap.size < w6.heap.size := by omega); (try have hy4_6 : w4.heap.size < w6.heap.size := by omega); (try have hy5_6 : w5.heap.size < w6.heap.size := by omega); (try have hp1_6 : p1 < w6.heap.size := by omega); (try have hp2_6 : p2 < w6.heap.size := by omega); (try have hp3_6 : p3 < w6.heap.size := by omega); (try have hp4_6 : p4 < w6.heap.size := by omega); (try have hp5_6 : p5 < w6.heap.size := by omega)
  go_wp2_with fail
  refine wp_region_alloc 6 19 110 (.agg #[.int .i64 (an), .int .i64 (ad)]) (.cells #[.int .i64 0, .int .i64 0] 23) (.cells #[.int .i64 (an), .int .i64 (ad)] 23) _ _ (by kernel_rfl) (by kernel_rfl) (by kernel_rfl) (by kernel_rfl) (by simp) rfl rfl (fun _ _ => by kernel_rfl) (stores_two rfl rfl fun a w p h1 h2 c0 c1 f0 f1 => by simp (maxDischargeDepth := 8) [go_sem, *]) ?_
  apply Exists.intro
  apply And.intro
  · intro WW hWW
    obtain ⟨hcW, hfW⟩ := bcell hWW
    have hsW := hWW.size
    try simp at hsW
    try have hbbW : b < WW.heap.size := by omega
    try have hzW0 : w.heap.size < WW.heap.size := by omega
    try have hzW1 : w.heap.size + 1 < WW.heap.size := by omega
    try have hzW2 : w.heap.size + 1 + 1 < WW.heap.size := by omega
    try have hzW3 : w.heap.size + 1 + 1 + 1 < WW.heap.size := by omega
    try have hzW4 : w.heap.size + 1 + 1 + 1 + 1 < WW.heap.size := by omega
    try have hzW5 : w.heap.size + 1 + 1 + 1 + 1 + 1 < WW.heap.size := by omega
    try have hy1_W : w1.heap.size < WW.heap.size := by omega
    try have hy2_W : w2.heap.size < WW.heap.size := by omega
    try have hy3_W : w3.heap.size < WW.heap.size := by omega
    try have hy4_W : w4.heap.size < WW.heap.size := by omega
    try have hy5_W : w5.heap.size < WW.heap.size := by omega
    try have hy6_W : w6.heap.size < WW.heap.size := by omega
    try have hp1_W : p1 < WW.heap.size := by omega
    try have hp2_W : p2 < WW.heap.size := by omega
    try have hp3_W : p3 < WW.heap.size := by omega
    try have hp4_W : p4 < WW.heap.size := by omega
    try have hp5_W : p5 < WW.heap.size := by omega
    try have hp6_W : p6 < WW.heap.size := by omega
    simp only [List.take_succ_cons, List.take_zero]
    repeat (go_big_quiet_step (first | (go_at_call 61; exact calls_lower _ (zero_any _)) | (go_at_call 27; exact calls_lower _ (add_res (add_zero' ha) _))))
    refine wpQuiet_nil ?_
    exact rfl
  refine ⟨rfl, ?_⟩
  intro p7 w7 hb7 hpl7 hpr7 hpo7
  obtain ⟨hc7, hf7⟩ := bcell hb7
  have hs7 := hb7.size
  try simp at hs7
  try simp at hpl7
  try have hz70 : w.heap.size < w7.heap.size := by omega
  try have hz71 : w.heap.size + 1 < w7.heap.size := by omega
  try have hz72 : w.heap.size + 1 + 1 < w7.heap.size := by omega
  try have hz73 : w.heap.size + 1 + 1 + 1 < w7.heap.size := by omega
  try have hz74 : w.heap.size + 1 + 1 + 1 + 1 < w7.heap.size := by omega
  try have hz75 : w.heap.size + 1 + 1 + 1 + 1 + 1 < w7.heap.size := by omega
  try have hy1_7 : w1.heap.size < w7.heap.size := by omega
  try have hy2_7 : w2.heap.size < w7.heap.size := by omega
  try have hy3_7 : w3.heap.size < w7.heap.size := by omega
  try have hy4_7 : w4.heap.size < w7.heap.size := by omega
  try have hy5_7 : w5.heap.size < w7.heap.size := by omega
  try have hy6_7 : w6.heap.size < w7.heap.size := by omega
  try have hp1_7 : p1 < w7.heap.size := by omega
  try have hp2_7 : p2 < w7.heap.size := by omega
  try have hp3_7 : p3 < w7.heap.size := by omega
  try have hp4_7 : p4 < w7.heap.size := by omega
  try have hp5_7 : p5 < w7.heap.size := by omega
  try have hp6_7 : p6 < w7.heap.size := by omega
  try have hq70 : w.heap.size < p7 := by omega
  try have hq71 : w.heap.size + 1 < p7 := by omega
  try have hq72 : w.heap.size + 1 + 1 < p7 := by omega
  try have hq73 : w.heap.size + 1 + 1 + 1 < p7 := by omega
  try have hq74 : w.heap.size + 1 + 1 + 1 + 1 < p7 := by omega
  try have hq75 : w.heap.size + 1 + 1 + 1 + 1 + 1 < p7 := by omega
  try have hq1_7 : w1.heap.size < p7 := by omega
  try have hq2_7 : w2.heap.size < p7 := by omega
  try have hq3_7 : w3.heap.size < p7 := by omega
  try have hq4_7 : w4.heap.size < p7 := by omega
  try have hq5_7 : w5.heap.size < p7 := by omega
  try have hq6_7 : w6.heap.size < p7 := by omega
  have hpc7_0 : w7.cell? ⟨p7, 0, none⟩ = some (.int .i64 (an)) := cell_of_block hpo7 rfl
  have hpc7_1 : w7.cell? ⟨p7, 1, none⟩ = some (.int .i64 (ad)) := cell_of_block hpo7 rfl
  have hpf7_0 := frozen_of_block (o := 0) hpo7
  have hpf7_1 := frozen_of_block (o := 1) hpo7
  clear hpo7
  simp only [List.drop_succ_cons, List.drop_zero, Act.put]
  go_wp2_with fail
  refine wp_region_alloc 6 21 116 (.agg #[.int .i64 (an), .int .i64 (ad)]) (.cells #[.int .i64 0, .int .i64 0] 23) (.cells #[.int .i64 (an), .int .i64 (ad)] 23) _ _ (by kernel_rfl) (by kernel_rfl) (by kernel_rfl) (by kernel_rfl) (by simp) rfl rfl (fun _ _ => by kernel_rfl) (stores_two rfl rfl fun a w p h1 h2 c0 c1 f0 f1 => by simp (maxDischargeDepth := 8) [go_sem, *]) ?_
  apply Exists.intro
  apply And.intro
  · intro WW hWW
    obtain ⟨hcW, hfW⟩ := bcell hWW
    have hsW := hWW.size
    try simp at hsW
    try have hbbW : b < WW.heap.size := by omega
    try have hzW0 : w.heap.size < WW.heap.size := by omega
    try have hzW1 : w.heap.size + 1 < WW.heap.size := by omega
    try have hzW2 : w.heap.size + 1 + 1 < WW.heap.size := by omega
    try have hzW3 : w.heap.size + 1 + 1 + 1 < WW.heap.size := by omega
    try have hzW4 : w.heap.size + 1 + 1 + 1 + 1 < WW.heap.size := by omega
    try have hzW5 : w.heap.size + 1 + 1 + 1 + 1 + 1 < WW.heap.size := by omega
    try have hy1_W : w1.heap.size < WW.heap.size := by omega
    try have hy2_W : w2.heap.size < WW.heap.size := by omega
    try have hy3_W : w3.heap.size < WW.heap.size := by omega
    try have hy4_W : w4.heap.size < WW.heap.size := by omega
    try have hy5_W : w5.heap.size < WW.heap.size := by omega
    try have hy6_W : w6.heap.size < WW.heap.size := by omega
    try have hy7_W : w7.heap.size < WW.heap.size := by omega
    try have hp1_W : p1 < WW.heap.size := by omega
    try have hp2_W : p2 < WW.heap.size := by omega
    try have hp3_W : p3 < WW.heap.size := by omega
    try have hp4_W : p4 < WW.heap.size := by omega
    try have hp5_W : p5 < WW.heap.size := by omega
    try have hp6_W : p6 < WW.heap.size := by omega
    try have hp7_W : p7 < WW.heap.size := by omega
    simp only [List.take_succ_cons, List.take_zero]
    repeat (go_big_quiet_step (first | (go_at_call 62; exact calls_lower _ (one_any _)) | (go_at_call 31; exact calls_lower _ (mul_res (mul_one' ha) _))))
    refine wpQuiet_nil ?_
    exact rfl
  refine ⟨rfl, ?_⟩
  intro p8 w8 hb8 hpl8 hpr8 hpo8
  obtain ⟨hc8, hf8⟩ := bcell hb8
  have hs8 := hb8.size
  try simp at hs8
  try simp at hpl8
  try have hz80 : w.heap.size < w8.heap.size := by omega
  try have hz81 : w.heap.size + 1 < w8.heap.size := by omega
  try have hz82 : w.heap.size + 1 + 1 < w8.heap.size := by omega
  try have hz83 : w.heap.size + 1 + 1 + 1 < w8.heap.size := by omega
  try have hz84 : w.heap.size + 1 + 1 + 1 + 1 < w8.heap.size := by omega
  try have hz85 : w.heap.size + 1 + 1 + 1 + 1 + 1 < w8.heap.size := by omega
  try have hy1_8 : w1.heap.size < w8.heap.size := by omega
  try have hy2_8 : w2.heap.size < w8.heap.size := by omega
  try have hy3_8 : w3.heap.size < w8.heap.size := by omega
  try have hy4_8 : w4.heap.size < w8.heap.size := by omega
  try have hy5_8 : w5.heap.size < w8.heap.size := by omega
  try have hy6_8 : w6.heap.size < w8.heap.size := by omega
  try have hy7_8 : w7.heap.size < w8.heap.size := by omega
  try have hp1_8 : p1 < w8.heap.size := by omega
  try have hp2_8 : p2 < w8.heap.size := by omega
  try have hp3_8 : p3 < w8.heap.size := by omega
  try have hp4_8 : p4 < w8.heap.size := by omega
  try have hp5_8 : p5 < w8.heap.size := by omega
  try have hp6_8 : p6 < w8.heap.size := by omega
  try have hp7_8 : p7 < w8.heap.size := by omega
  try have hq80 : w.heap.size < p8 := by omega
  try have hq81 : w.heap.size + 1 < p8 := by omega
  try have hq82 : w.heap.size + 1 + 1 < p8 := by omega
  try have hq83 : w.heap.size + 1 + 1 + 1 < p8 := by omega
  try have hq84 : w.heap.size + 1 + 1 + 1 + 1 < p8 := by omega
  try have hq85 : w.heap.size + 1 + 1 + 1 + 1 + 1 < p8 := by omega
  try have hq1_8 : w1.heap.size < p8 := by omega
  try have hq2_8 : w2.heap.size < p8 := by omega
  try have hq3_8 : w3.heap.size < p8 := by omega
  try have hq4_8 : w4.heap.size < p8 := by omega
  try have hq5_8 : w5.heap.size < p8 := by omega
  try have hq6_8 : w6.heap.size < p8 := by omega
  try have hq7_8 : w7.heap.size < p8 := by omega
  have hpc8_0 : w8.cell? ⟨p8, 0, none⟩ = some (.int .i64 (an)) := cell_of_block hpo8 rfl
  have hpc8_1 : w8.cell? ⟨p8, 1, none⟩ = some (.int .i64 (ad)) := cell_of_block hpo8 rfl
  have hpf8_0 := frozen_of_block (o := 0) hpo8
  have hpf8_1 := frozen_of_block (o := 1) hpo8
  clear hpo8
  simp only [List.drop_succ_cons, List.drop_zero, Act.put]
  go_wp2_with fail
  refine (joined_any _ _ _ _ _ _ _ ha hb hc).mono ?_; rintro e w9 ⟨rfl, hb9⟩; obtain ⟨hc9, hf9⟩ := bcell hb9; have hs9 := hb9.size; (try simp at hs9); (try have hz90 : w.heap.size < w9.heap.size := by omega); (try have hz91 : w.heap.size + 1 < w9.heap.size := by omega); (try have hz92 : w.heap.size + 1 + 1 < w9.heap.size := by omega); (try have hz93 : w.heap.size + 1 + 1 + 1 < w9.heap.size := by omega); (try have hz94 : w.heap.size + 1 + 1 + 1 + 1 < w9.heap.size := by omega); (try have hz95 : w.heap.size + 1 + 1 + 1 + 1 + 1 < w9.heap.size := by omega); (try have hy1_9 : w1.heap.size < w9.heap.size := by omega); (try have hy2_9 : w2.heap.size < w9.heap.size := by omega); (try have hy3_9 : w3.heap.size < w9.heap.size := by omega); (try have hy4_9 : w4.heap.size < w9.heap.size := by omega); (try have hy5_9 : w5.heap.size < w9.heap.size := by omega); (try have hy6_9 : w6.heap.size < w9.heap.size := by omega); (try have hy7_9 : w7.heap.size < w9.heap.size := by omega); (try have hy8_9 : w8.heap.size < w9.heap.size := by omega); (try have hp1_9 : p1 < w9.heap.size := by omega); (try have hp2_9 : p2 < w9.heap.size := by omega); (try have hp3_9 : p3 < w9.heap.size := by omega); (try have hp4_9 : p4 < w9.heap.size := by omega); (try have hp5_9 : p5 < w9.heap.size := by omega); (try have hp6_9 : p6 < w9.heap.size := by omega); (try have hp7_9 : p7 < w9.heap.size := by omega); (try have hp8_9 : p8 < w9.heap.size := by omega)
  go_wp2_with fail
  refine (summed_any _).mono ?_; rintro e w10 ⟨rfl, hb10⟩; obtain ⟨hc10, hf10⟩ := bcell hb10; have hs10 := hb10.size; (try simp at hs10); (try have hz100 : w.heap.size < w10.heap.size := by omega); (try have hz101 : w.heap.size + 1 < w10.heap.size := by omega); (try have hz102 : w.heap.size + 1 + 1 < w10.heap.size := by omega); (try have hz103 : w.heap.size + 1 + 1 + 1 < w10.heap.size := by omega); (try have hz104 : w.heap.size + 1 + 1 + 1 + 1 < w10.heap.size := by omega); (try have hz105 : w.heap.size + 1 + 1 + 1 + 1 + 1 < w10.heap.size := by omega); (try have hy1_10 : w1.heap.size < w10.heap.size := by omega); (try have hy2_10 : w2.heap.size < w10.heap.size := by omega); (try have hy3_10 : w3.heap.size < w10.heap.size := by omega); (try have hy4_10 : w4.heap.size < w10.heap.size := by omega); (try have hy5_10 : w5.heap.size < w10.heap.size := by omega); (try have hy6_10 : w6.heap.size < w10.heap.size := by omega); (try have hy7_10 : w7.heap.size < w10.heap.size := by omega); (try have hy8_10 : w8.heap.size < w10.heap.size := by omega); (try have hy9_10 : w9.heap.size < w10.heap.size := by omega); (try have hp1_10 : p1 < w10.heap.size := by omega); (try have hp2_10 : p2 < w10.heap.size := by omega); (try have hp3_10 : p3 < w10.heap.size := by omega); (try have hp4_10 : p4 < w10.heap.size := by omega); (try have hp5_10 : p5 < w10.heap.size := by omega); (try have hp6_10 : p6 < w10.heap.size := by omega); (try have hp7_10 : p7 < w10.heap.size := by omega); (try have hp8_10 : p8 < w10.heap.size := by omega); (try have hp9_10 : p9 < w10.heap.size := by omega)
  go_wp2
  go_ret
  exact ⟨rfl, by ((repeat' (first | exact Below.refl _ _ | assumption | refine Below.setCell ?_ ?_ _ | refine bdrewN ?_ _ | refine Below.drew ?_ | refine Below.alloc ?_ ?_ _ | refine bbehind ?_ (by assumption) ?_)); all_goals first | (simp; done) | (simp; omega) | omega)⟩

set_option maxRecDepth 100000 in
set_option maxHeartbeats 4000000 in
theorem field_ok_no (an ad bn bd cn cd x1 x2 : Int) (w : World) (ha : chk an ad = 0) (hb : chk bn bd = 0) (hc : chk cn cd = 0) (hx : addT an ad bn bd = (x1, x2, 0)) (hx1 : addT bn bd an ad = (x1, x2, 0)) (hz : mulT an ad bn bd = (0, 0, 8)) (hz1 : mulT bn bd an ad = (0, 0, 8)) (hd : subT x1 x2 bn bd = (an, ad, 0)) :
    Calls Try.prog 8 #[.agg #[.int .i64 an, .int .i64 ad], .agg #[.int .i64 bn, .int .i64 bd], .agg #[.int .i64 cn, .int .i64 cd]] w fun e w' => e = .returned (.bool true) ∧ Below w.heap.size w w' := by
  go_enter Try.func8, Try.ntmps8
  go_wp2_with fail
  refine (fit_ok _ _ _ _ _ _ _ ha hb hc).mono ?_; rintro e w1 ⟨rfl, hb1⟩; obtain ⟨hc1, hf1⟩ := bcell hb1; have hs1 := hb1.size; (try simp at hs1); (try have hz10 : w.heap.size < w1.heap.size := by omega); (try have hz11 : w.heap.size + 1 < w1.heap.size := by omega); (try have hz12 : w.heap.size + 1 + 1 < w1.heap.size := by omega); (try have hz13 : w.heap.size + 1 + 1 + 1 < w1.heap.size := by omega); (try have hz14 : w.heap.size + 1 + 1 + 1 + 1 < w1.heap.size := by omega); (try have hz15 : w.heap.size + 1 + 1 + 1 + 1 + 1 < w1.heap.size := by omega)
  go_wp2_with fail
  refine (add_res hx _).mono ?_; rintro e w2 ⟨rfl, hb2⟩; obtain ⟨hc2, hf2⟩ := bcell hb2; have hs2 := hb2.size; (try simp at hs2); (try have hz20 : w.heap.size < w2.heap.size := by omega); (try have hz21 : w.heap.size + 1 < w2.heap.size := by omega); (try have hz22 : w.heap.size + 1 + 1 < w2.heap.size := by omega); (try have hz23 : w.heap.size + 1 + 1 + 1 < w2.heap.size := by omega); (try have hz24 : w.heap.size + 1 + 1 + 1 + 1 < w2.heap.size := by omega); (try have hz25 : w.heap.size + 1 + 1 + 1 + 1 + 1 < w2.heap.size := by omega); (try have hy1_2 : w1.heap.size < w2.heap.size := by omega); (try have hp1_2 : p1 < w2.heap.size := by omega)
  go_wp2_with fail
  refine (add_res hx1 _).mono ?_; rintro e w3 ⟨rfl, hb3⟩; obtain ⟨hc3, hf3⟩ := bcell hb3; have hs3 := hb3.size; (try simp at hs3); (try have hz30 : w.heap.size < w3.heap.size := by omega); (try have hz31 : w.heap.size + 1 < w3.heap.size := by omega); (try have hz32 : w.heap.size + 1 + 1 < w3.heap.size := by omega); (try have hz33 : w.heap.size + 1 + 1 + 1 < w3.heap.size := by omega); (try have hz34 : w.heap.size + 1 + 1 + 1 + 1 < w3.heap.size := by omega); (try have hz35 : w.heap.size + 1 + 1 + 1 + 1 + 1 < w3.heap.size := by omega); (try have hy1_3 : w1.heap.size < w3.heap.size := by omega); (try have hy2_3 : w2.heap.size < w3.heap.size := by omega); (try have hp1_3 : p1 < w3.heap.size := by omega); (try have hp2_3 : p2 < w3.heap.size := by omega)
  go_wp2_with fail
  refine (mul_res hz _).mono ?_; rintro e w4 ⟨rfl, hb4⟩; obtain ⟨hc4, hf4⟩ := bcell hb4; have hs4 := hb4.size; (try simp at hs4); (try have hz40 : w.heap.size < w4.heap.size := by omega); (try have hz41 : w.heap.size + 1 < w4.heap.size := by omega); (try have hz42 : w.heap.size + 1 + 1 < w4.heap.size := by omega); (try have hz43 : w.heap.size + 1 + 1 + 1 < w4.heap.size := by omega); (try have hz44 : w.heap.size + 1 + 1 + 1 + 1 < w4.heap.size := by omega); (try have hz45 : w.heap.size + 1 + 1 + 1 + 1 + 1 < w4.heap.size := by omega); (try have hy1_4 : w1.heap.size < w4.heap.size := by omega); (try have hy2_4 : w2.heap.size < w4.heap.size := by omega); (try have hy3_4 : w3.heap.size < w4.heap.size := by omega); (try have hp1_4 : p1 < w4.heap.size := by omega); (try have hp2_4 : p2 < w4.heap.size := by omega); (try have hp3_4 : p3 < w4.heap.size := by omega)
  go_wp2_with fail
  refine (mul_res hz1 _).mono ?_; rintro e w5 ⟨rfl, hb5⟩; obtain ⟨hc5, hf5⟩ := bcell hb5; have hs5 := hb5.size; (try simp at hs5); (try have hz50 : w.heap.size < w5.heap.size := by omega); (try have hz51 : w.heap.size + 1 < w5.heap.size := by omega); (try have hz52 : w.heap.size + 1 + 1 < w5.heap.size := by omega); (try have hz53 : w.heap.size + 1 + 1 + 1 < w5.heap.size := by omega); (try have hz54 : w.heap.size + 1 + 1 + 1 + 1 < w5.heap.size := by omega); (try have hz55 : w.heap.size + 1 + 1 + 1 + 1 + 1 < w5.heap.size := by omega); (try have hy1_5 : w1.heap.size < w5.heap.size := by omega); (try have hy2_5 : w2.heap.size < w5.heap.size := by omega); (try have hy3_5 : w3.heap.size < w5.heap.size := by omega); (try have hy4_5 : w4.heap.size < w5.heap.size := by omega); (try have hp1_5 : p1 < w5.heap.size := by omega); (try have hp2_5 : p2 < w5.heap.size := by omega); (try have hp3_5 : p3 < w5.heap.size := by omega); (try have hp4_5 : p4 < w5.heap.size := by omega)
  go_wp2_with fail
  refine (sub_res hd _).mono ?_; rintro e w6 ⟨rfl, hb6⟩; obtain ⟨hc6, hf6⟩ := bcell hb6; have hs6 := hb6.size; (try simp at hs6); (try have hz60 : w.heap.size < w6.heap.size := by omega); (try have hz61 : w.heap.size + 1 < w6.heap.size := by omega); (try have hz62 : w.heap.size + 1 + 1 < w6.heap.size := by omega); (try have hz63 : w.heap.size + 1 + 1 + 1 < w6.heap.size := by omega); (try have hz64 : w.heap.size + 1 + 1 + 1 + 1 < w6.heap.size := by omega); (try have hz65 : w.heap.size + 1 + 1 + 1 + 1 + 1 < w6.heap.size := by omega); (try have hy1_6 : w1.heap.size < w6.heap.size := by omega); (try have hy2_6 : w2.heap.size < w6.heap.size := by omega); (try have hy3_6 : w3.heap.size < w6.heap.size := by omega); (try have hy4_6 : w4.heap.size < w6.heap.size := by omega); (try have hy5_6 : w5.heap.size < w6.heap.size := by omega); (try have hp1_6 : p1 < w6.heap.size := by omega); (try have hp2_6 : p2 < w6.heap.size := by omega); (try have hp3_6 : p3 < w6.heap.size := by omega); (try have hp4_6 : p4 < w6.heap.size := by omega); (try have hp5_6 : p5 < w6.heap.size := by omega)
  go_wp2_with fail
  refine wp_region_alloc 6 19 110 (.agg #[.int .i64 (an), .int .i64 (ad)]) (.cells #[.int .i64 0, .int .i64 0] 23) (.cells #[.int .i64 (an), .int .i64 (ad)] 23) _ _ (by kernel_rfl) (by kernel_rfl) (by kernel_rfl) (by kernel_rfl) (by simp) rfl rfl (fun _ _ => by kernel_rfl) (stores_two rfl rfl fun a w p h1 h2 c0 c1 f0 f1 => by simp (maxDischargeDepth := 8) [go_sem, *]) ?_
  apply Exists.intro
  apply And.intro
  · intro WW hWW
    obtain ⟨hcW, hfW⟩ := bcell hWW
    have hsW := hWW.size
    try simp at hsW
    try have hbbW : b < WW.heap.size := by omega
    try have hzW0 : w.heap.size < WW.heap.size := by omega
    try have hzW1 : w.heap.size + 1 < WW.heap.size := by omega
    try have hzW2 : w.heap.size + 1 + 1 < WW.heap.size := by omega
    try have hzW3 : w.heap.size + 1 + 1 + 1 < WW.heap.size := by omega
    try have hzW4 : w.heap.size + 1 + 1 + 1 + 1 < WW.heap.size := by omega
    try have hzW5 : w.heap.size + 1 + 1 + 1 + 1 + 1 < WW.heap.size := by omega
    try have hy1_W : w1.heap.size < WW.heap.size := by omega
    try have hy2_W : w2.heap.size < WW.heap.size := by omega
    try have hy3_W : w3.heap.size < WW.heap.size := by omega
    try have hy4_W : w4.heap.size < WW.heap.size := by omega
    try have hy5_W : w5.heap.size < WW.heap.size := by omega
    try have hy6_W : w6.heap.size < WW.heap.size := by omega
    try have hp1_W : p1 < WW.heap.size := by omega
    try have hp2_W : p2 < WW.heap.size := by omega
    try have hp3_W : p3 < WW.heap.size := by omega
    try have hp4_W : p4 < WW.heap.size := by omega
    try have hp5_W : p5 < WW.heap.size := by omega
    try have hp6_W : p6 < WW.heap.size := by omega
    simp only [List.take_succ_cons, List.take_zero]
    repeat (go_big_quiet_step (first | (go_at_call 61; exact calls_lower _ (zero_any _)) | (go_at_call 27; exact calls_lower _ (add_res (add_zero' ha) _))))
    refine wpQuiet_nil ?_
    exact rfl
  refine ⟨rfl, ?_⟩
  intro p7 w7 hb7 hpl7 hpr7 hpo7
  obtain ⟨hc7, hf7⟩ := bcell hb7
  have hs7 := hb7.size
  try simp at hs7
  try simp at hpl7
  try have hz70 : w.heap.size < w7.heap.size := by omega
  try have hz71 : w.heap.size + 1 < w7.heap.size := by omega
  try have hz72 : w.heap.size + 1 + 1 < w7.heap.size := by omega
  try have hz73 : w.heap.size + 1 + 1 + 1 < w7.heap.size := by omega
  try have hz74 : w.heap.size + 1 + 1 + 1 + 1 < w7.heap.size := by omega
  try have hz75 : w.heap.size + 1 + 1 + 1 + 1 + 1 < w7.heap.size := by omega
  try have hy1_7 : w1.heap.size < w7.heap.size := by omega
  try have hy2_7 : w2.heap.size < w7.heap.size := by omega
  try have hy3_7 : w3.heap.size < w7.heap.size := by omega
  try have hy4_7 : w4.heap.size < w7.heap.size := by omega
  try have hy5_7 : w5.heap.size < w7.heap.size := by omega
  try have hy6_7 : w6.heap.size < w7.heap.size := by omega
  try have hp1_7 : p1 < w7.heap.size := by omega
  try have hp2_7 : p2 < w7.heap.size := by omega
  try have hp3_7 : p3 < w7.heap.size := by omega
  try have hp4_7 : p4 < w7.heap.size := by omega
  try have hp5_7 : p5 < w7.heap.size := by omega
  try have hp6_7 : p6 < w7.heap.size := by omega
  try have hq70 : w.heap.size < p7 := by omega
  try have hq71 : w.heap.size + 1 < p7 := by omega
  try have hq72 : w.heap.size + 1 + 1 < p7 := by omega
  try have hq73 : w.heap.size + 1 + 1 + 1 < p7 := by omega
  try have hq74 : w.heap.size + 1 + 1 + 1 + 1 < p7 := by omega
  try have hq75 : w.heap.size + 1 + 1 + 1 + 1 + 1 < p7 := by omega
  try have hq1_7 : w1.heap.size < p7 := by omega
  try have hq2_7 : w2.heap.size < p7 := by omega
  try have hq3_7 : w3.heap.size < p7 := by omega
  try have hq4_7 : w4.heap.size < p7 := by omega
  try have hq5_7 : w5.heap.size < p7 := by omega
  try have hq6_7 : w6.heap.size < p7 := by omega
  have hpc7_0 : w7.cell? ⟨p7, 0, none⟩ = some (.int .i64 (an)) := cell_of_block hpo7 rfl
  have hpc7_1 : w7.cell? ⟨p7, 1, none⟩ = some (.int .i64 (ad)) := cell_of_block hpo7 rfl
  have hpf7_0 := frozen_of_block (o := 0) hpo7
  have hpf7_1 := frozen_of_block (o := 1) hpo7
  clear hpo7
  simp only [List.drop_succ_cons, List.drop_zero, Act.put]
  go_wp2_with fail
  refine wp_region_alloc 6 21 116 (.agg #[.int .i64 (an), .int .i64 (ad)]) (.cells #[.int .i64 0, .int .i64 0] 23) (.cells #[.int .i64 (an), .int .i64 (ad)] 23) _ _ (by kernel_rfl) (by kernel_rfl) (by kernel_rfl) (by kernel_rfl) (by simp) rfl rfl (fun _ _ => by kernel_rfl) (stores_two rfl rfl fun a w p h1 h2 c0 c1 f0 f1 => by simp (maxDischargeDepth := 8) [go_sem, *]) ?_
  apply Exists.intro
  apply And.intro
  · intro WW hWW
    obtain ⟨hcW, hfW⟩ := bcell hWW
    have hsW := hWW.size
    try simp at hsW
    try have hbbW : b < WW.heap.size := by omega
    try have hzW0 : w.heap.size < WW.heap.size := by omega
    try have hzW1 : w.heap.size + 1 < WW.heap.size := by omega
    try have hzW2 : w.heap.size + 1 + 1 < WW.heap.size := by omega
    try have hzW3 : w.heap.size + 1 + 1 + 1 < WW.heap.size := by omega
    try have hzW4 : w.heap.size + 1 + 1 + 1 + 1 < WW.heap.size := by omega
    try have hzW5 : w.heap.size + 1 + 1 + 1 + 1 + 1 < WW.heap.size := by omega
    try have hy1_W : w1.heap.size < WW.heap.size := by omega
    try have hy2_W : w2.heap.size < WW.heap.size := by omega
    try have hy3_W : w3.heap.size < WW.heap.size := by omega
    try have hy4_W : w4.heap.size < WW.heap.size := by omega
    try have hy5_W : w5.heap.size < WW.heap.size := by omega
    try have hy6_W : w6.heap.size < WW.heap.size := by omega
    try have hy7_W : w7.heap.size < WW.heap.size := by omega
    try have hp1_W : p1 < WW.heap.size := by omega
    try have hp2_W : p2 < WW.heap.size := by omega
    try have hp3_W : p3 < WW.heap.size := by omega
    try have hp4_W : p4 < WW.heap.size := by omega
    try have hp5_W : p5 < WW.heap.size := by omega
    try have hp6_W : p6 < WW.heap.size := by omega
    try have hp7_W : p7 < WW.heap.size := by omega
    simp only [List.take_succ_cons, List.take_zero]
    repeat (go_big_quiet_step (first | (go_at_call 62; exact calls_lower _ (one_any _)) | (go_at_call 31; exact calls_lower _ (mul_res (mul_one' ha) _))))
    refine wpQuiet_nil ?_
    exact rfl
  refine ⟨rfl, ?_⟩
  intro p8 w8 hb8 hpl8 hpr8 hpo8
  obtain ⟨hc8, hf8⟩ := bcell hb8
  have hs8 := hb8.size
  try simp at hs8
  try simp at hpl8
  try have hz80 : w.heap.size < w8.heap.size := by omega
  try have hz81 : w.heap.size + 1 < w8.heap.size := by omega
  try have hz82 : w.heap.size + 1 + 1 < w8.heap.size := by omega
  try have hz83 : w.heap.size + 1 + 1 + 1 < w8.heap.size := by omega
  try have hz84 : w.heap.size + 1 + 1 + 1 + 1 < w8.heap.size := by omega
  try have hz85 : w.heap.size + 1 + 1 + 1 + 1 + 1 < w8.heap.size := by omega
  try have hy1_8 : w1.heap.size < w8.heap.size := by omega
  try have hy2_8 : w2.heap.size < w8.heap.size := by omega
  try have hy3_8 : w3.heap.size < w8.heap.size := by omega
  try have hy4_8 : w4.heap.size < w8.heap.size := by omega
  try have hy5_8 : w5.heap.size < w8.heap.size := by omega
  try have hy6_8 : w6.heap.size < w8.heap.size := by omega
  try have hy7_8 : w7.heap.size < w8.heap.size := by omega
  try have hp1_8 : p1 < w8.heap.size := by omega
  try have hp2_8 : p2 < w8.heap.size := by omega
  try have hp3_8 : p3 < w8.heap.size := by omega
  try have hp4_8 : p4 < w8.heap.size := by omega
  try have hp5_8 : p5 < w8.heap.size := by omega
  try have hp6_8 : p6 < w8.heap.size := by omega
  try have hp7_8 : p7 < w8.heap.size := by omega
  try have hq80 : w.heap.size < p8 := by omega
  try have hq81 : w.heap.size + 1 < p8 := by omega
  try have hq82 : w.heap.size + 1 + 1 < p8 := by omega
  try have hq83 : w.heap.size + 1 + 1 + 1 < p8 := by omega
  try have hq84 : w.heap.size + 1 + 1 + 1 + 1 < p8 := by omega
  try have hq85 : w.heap.size + 1 + 1 + 1 + 1 + 1 < p8 := by omega
  try have hq1_8 : w1.heap.size < p8 := by omega
  try have hq2_8 : w2.heap.size < p8 := by omega
  try have hq3_8 : w3.heap.size < p8 := by omega
  try have hq4_8 : w4.heap.size < p8 := by omega
  try have hq5_8 : w5.heap.size < p8 := by omega
  try have hq6_8 : w6.heap.size < p8 := by omega
  try have hq7_8 : w7.heap.size < p8 := by omega
  have hpc8_0 : w8.cell? ⟨p8, 0, none⟩ = some (.int .i64 (an)) := cell_of_block hpo8 rfl
  have hpc8_1 : w8.cell? ⟨p8, 1, none⟩ = some (.int .i64 (ad)) := cell_of_block hpo8 rfl
  have hpf8_0 := frozen_of_block (o := 0) hpo8
  have hpf8_1 := frozen_of_block (o := 1) hpo8
  clear hpo8
  simp only [List.drop_succ_cons, List.drop_zero, Act.put]
  go_wp2_with fail
  refine (joined_any _ _ _ _ _ _ _ ha hb hc).mono ?_; rintro e w9 ⟨rfl, hb9⟩; obtain ⟨hc9, hf9⟩ := bcell hb9; have hs9 := hb9.size; (try simp at hs9); (try have hz90 : w.heap.size < w9.heap.size := by omega); (try have hz91 : w.heap.size + 1 < w9.heap.size := by omega); (try have hz92 : w.heap.size + 1 + 1 < w9.heap.size := by omega); (try have hz93 : w.heap.size + 1 + 1 + 1 < w9.heap.size := by omega); (try have hz94 : w.heap.size + 1 + 1 + 1 + 1 < w9.heap.size := by omega); (try have hz95 : w.heap.size + 1 + 1 + 1 + 1 + 1 < w9.heap.size := by omega); (try have hy1_9 : w1.heap.size < w9.heap.size := by omega); (try have hy2_9 : w2.heap.size < w9.heap.size := by omega); (try have hy3_9 : w3.heap.size < w9.heap.size := by omega); (try have hy4_9 : w4.heap.size < w9.heap.size := by omega); (try have hy5_9 : w5.heap.size < w9.heap.size := by omega); (try have hy6_9 : w6.heap.size < w9.heap.size := by omega); (try have hy7_9 : w7.heap.size < w9.heap.size := by omega); (try have hy8_9 : w8.heap.size < w9.heap.size := by omega); (try have hp1_9 : p1 < w9.heap.size := by omega); (try have hp2_9 : p2 < w9.heap.size := by omega); (try have hp3_9 : p3 < w9.heap.size := by omega); (try have hp4_9 : p4 < w9.heap.size := by omega); (try have hp5_9 : p5 < w9.heap.size := by omega); (try have hp6_9 : p6 < w9.heap.size := by omega); (try have hp7_9 : p7 < w9.heap.size := by omega); (try have hp8_9 : p8 < w9.heap.size := by omega)
  go_wp2_with fail
  refine (summed_any _).mono ?_; rintro e w10 ⟨rfl, hb10⟩; obtain ⟨hc10, hf10⟩ := bcell hb10; have hs10 := hb10.size; (try simp at hs10); (try have hz100 : w.heap.size < w10.heap.size := by omega); (try have hz101 : w.heap.size + 1 < w10.heap.size := by omega); (try have hz102 : w.heap.size + 1 + 1 < w10.heap.size := by omega); (try have hz103 : w.heap.size + 1 + 1 + 1 < w10.heap.size := by omega); (try have hz104 : w.heap.size + 1 + 1 + 1 + 1 < w10.heap.size := by omega); (try have hz105 : w.heap.size + 1 + 1 + 1 + 1 + 1 < w10.heap.size := by omega); (try have hy1_10 : w1.heap.size < w10.heap.size := by omega); (try have hy2_10 : w2.heap.size < w10.heap.size := by omega); (try have hy3_10 : w3.heap.size < w10.heap.size := by omega); (try have hy4_10 : w4.heap.size < w10.heap.size := by omega); (try have hy5_10 : w5.heap.size < w10.heap.size := by omega); (try have hy6_10 : w6.heap.size < w10.heap.size := by omega); (try have hy7_10 : w7.heap.size < w10.heap.size := by omega); (try have hy8_10 : w8.heap.size < w10.heap.size := by omega); (try have hy9_10 : w9.heap.size < w10.heap.size := by omega); (try have hp1_10 : p1 < w10.heap.size := by omega); (try have hp2_10 : p2 < w10.heap.size := by omega); (try have hp3_10 : p3 < w10.heap.size := by omega); (try have hp4_10 : p4 < w10.heap.size := by omega); (try have hp5_10 : p5 < w10.heap.size := by omega); (try have hp6_10 : p6 < w10.heap.size := by omega); (try have hp7_10 : p7 < w10.heap.size := by omega); (try have hp8_10 : p8 < w10.heap.size := by omega); (try have hp9_10 : p9 < w10.heap.size := by omega)
  go_wp2
  go_ret
  exact ⟨rfl, by ((repeat' (first | exact Below.refl _ _ | assumption | refine Below.setCell ?_ ?_ _ | refine bdrewN ?_ _ | refine Below.drew ?_ | refine Below.alloc ?_ ?_ _ | refine bbehind ?_ (by assumption) ?_)); all_goals first | (simp; done) | (simp; omega) | omega)⟩

set_option maxRecDepth 100000 in
set_option maxHeartbeats 4000000 in
theorem field_ok_b0 (an ad bn bd cn cd x1 x2 z1 z2 : Int) (w : World) (ha : chk an ad = 0) (hb : chk bn bd = 0) (hc : chk cn cd = 0) (hx : addT an ad bn bd = (x1, x2, 0)) (hx1 : addT bn bd an ad = (x1, x2, 0)) (hz : mulT an ad bn bd = (z1, z2, 0)) (hz1 : mulT bn bd an ad = (z1, z2, 0)) (hd : subT x1 x2 bn bd = (an, ad, 0)) (h0 : bn = 0) :
    Calls Try.prog 8 #[.agg #[.int .i64 an, .int .i64 ad], .agg #[.int .i64 bn, .int .i64 bd], .agg #[.int .i64 cn, .int .i64 cd]] w fun e w' => e = .returned (.bool true) ∧ Below w.heap.size w w' := by
  subst h0
  go_enter Try.func8, Try.ntmps8
  go_wp2_with fail
  refine (fit_ok _ _ _ _ _ _ _ ha hb hc).mono ?_; rintro e w1 ⟨rfl, hb1⟩; obtain ⟨hc1, hf1⟩ := bcell hb1; have hs1 := hb1.size; (try simp at hs1); (try have hz10 : w.heap.size < w1.heap.size := by omega); (try have hz11 : w.heap.size + 1 < w1.heap.size := by omega); (try have hz12 : w.heap.size + 1 + 1 < w1.heap.size := by omega); (try have hz13 : w.heap.size + 1 + 1 + 1 < w1.heap.size := by omega); (try have hz14 : w.heap.size + 1 + 1 + 1 + 1 < w1.heap.size := by omega); (try have hz15 : w.heap.size + 1 + 1 + 1 + 1 + 1 < w1.heap.size := by omega)
  go_wp2_with fail
  refine (add_res hx _).mono ?_; rintro e w2 ⟨rfl, hb2⟩; obtain ⟨hc2, hf2⟩ := bcell hb2; have hs2 := hb2.size; (try simp at hs2); (try have hz20 : w.heap.size < w2.heap.size := by omega); (try have hz21 : w.heap.size + 1 < w2.heap.size := by omega); (try have hz22 : w.heap.size + 1 + 1 < w2.heap.size := by omega); (try have hz23 : w.heap.size + 1 + 1 + 1 < w2.heap.size := by omega); (try have hz24 : w.heap.size + 1 + 1 + 1 + 1 < w2.heap.size := by omega); (try have hz25 : w.heap.size + 1 + 1 + 1 + 1 + 1 < w2.heap.size := by omega); (try have hy1_2 : w1.heap.size < w2.heap.size := by omega); (try have hp1_2 : p1 < w2.heap.size := by omega)
  go_wp2_with fail
  refine (add_res hx1 _).mono ?_; rintro e w3 ⟨rfl, hb3⟩; obtain ⟨hc3, hf3⟩ := bcell hb3; have hs3 := hb3.size; (try simp at hs3); (try have hz30 : w.heap.size < w3.heap.size := by omega); (try have hz31 : w.heap.size + 1 < w3.heap.size := by omega); (try have hz32 : w.heap.size + 1 + 1 < w3.heap.size := by omega); (try have hz33 : w.heap.size + 1 + 1 + 1 < w3.heap.size := by omega); (try have hz34 : w.heap.size + 1 + 1 + 1 + 1 < w3.heap.size := by omega); (try have hz35 : w.heap.size + 1 + 1 + 1 + 1 + 1 < w3.heap.size := by omega); (try have hy1_3 : w1.heap.size < w3.heap.size := by omega); (try have hy2_3 : w2.heap.size < w3.heap.size := by omega); (try have hp1_3 : p1 < w3.heap.size := by omega); (try have hp2_3 : p2 < w3.heap.size := by omega)
  go_wp2_with fail
  refine (mul_res hz _).mono ?_; rintro e w4 ⟨rfl, hb4⟩; obtain ⟨hc4, hf4⟩ := bcell hb4; have hs4 := hb4.size; (try simp at hs4); (try have hz40 : w.heap.size < w4.heap.size := by omega); (try have hz41 : w.heap.size + 1 < w4.heap.size := by omega); (try have hz42 : w.heap.size + 1 + 1 < w4.heap.size := by omega); (try have hz43 : w.heap.size + 1 + 1 + 1 < w4.heap.size := by omega); (try have hz44 : w.heap.size + 1 + 1 + 1 + 1 < w4.heap.size := by omega); (try have hz45 : w.heap.size + 1 + 1 + 1 + 1 + 1 < w4.heap.size := by omega); (try have hy1_4 : w1.heap.size < w4.heap.size := by omega); (try have hy2_4 : w2.heap.size < w4.heap.size := by omega); (try have hy3_4 : w3.heap.size < w4.heap.size := by omega); (try have hp1_4 : p1 < w4.heap.size := by omega); (try have hp2_4 : p2 < w4.heap.size := by omega); (try have hp3_4 : p3 < w4.heap.size := by omega)
  go_wp2_with fail
  refine (mul_res hz1 _).mono ?_; rintro e w5 ⟨rfl, hb5⟩; obtain ⟨hc5, hf5⟩ := bcell hb5; have hs5 := hb5.size; (try simp at hs5); (try have hz50 : w.heap.size < w5.heap.size := by omega); (try have hz51 : w.heap.size + 1 < w5.heap.size := by omega); (try have hz52 : w.heap.size + 1 + 1 < w5.heap.size := by omega); (try have hz53 : w.heap.size + 1 + 1 + 1 < w5.heap.size := by omega); (try have hz54 : w.heap.size + 1 + 1 + 1 + 1 < w5.heap.size := by omega); (try have hz55 : w.heap.size + 1 + 1 + 1 + 1 + 1 < w5.heap.size := by omega); (try have hy1_5 : w1.heap.size < w5.heap.size := by omega); (try have hy2_5 : w2.heap.size < w5.heap.size := by omega); (try have hy3_5 : w3.heap.size < w5.heap.size := by omega); (try have hy4_5 : w4.heap.size < w5.heap.size := by omega); (try have hp1_5 : p1 < w5.heap.size := by omega); (try have hp2_5 : p2 < w5.heap.size := by omega); (try have hp3_5 : p3 < w5.heap.size := by omega); (try have hp4_5 : p4 < w5.heap.size := by omega)
  go_wp2_with fail
  refine (sub_res hd _).mono ?_; rintro e w6 ⟨rfl, hb6⟩; obtain ⟨hc6, hf6⟩ := bcell hb6; have hs6 := hb6.size; (try simp at hs6); (try have hz60 : w.heap.size < w6.heap.size := by omega); (try have hz61 : w.heap.size + 1 < w6.heap.size := by omega); (try have hz62 : w.heap.size + 1 + 1 < w6.heap.size := by omega); (try have hz63 : w.heap.size + 1 + 1 + 1 < w6.heap.size := by omega); (try have hz64 : w.heap.size + 1 + 1 + 1 + 1 < w6.heap.size := by omega); (try have hz65 : w.heap.size + 1 + 1 + 1 + 1 + 1 < w6.heap.size := by omega); (try have hy1_6 : w1.heap.size < w6.heap.size := by omega); (try have hy2_6 : w2.heap.size < w6.heap.size := by omega); (try have hy3_6 : w3.heap.size < w6.heap.size := by omega); (try have hy4_6 : w4.heap.size < w6.heap.size := by omega); (try have hy5_6 : w5.heap.size < w6.heap.size := by omega); (try have hp1_6 : p1 < w6.heap.size := by omega); (try have hp2_6 : p2 < w6.heap.size := by omega); (try have hp3_6 : p3 < w6.heap.size := by omega); (try have hp4_6 : p4 < w6.heap.size := by omega); (try have hp5_6 : p5 < w6.heap.size := by omega)
  go_wp2_with fail
  refine wp_region_alloc 6 19 110 (.agg #[.int .i64 (an), .int .i64 (ad)]) (.cells #[.int .i64 0, .int .i64 0] 23) (.cells #[.int .i64 (an), .int .i64 (ad)] 23) _ _ (by kernel_rfl) (by kernel_rfl) (by kernel_rfl) (by kernel_rfl) (by simp) rfl rfl (fun _ _ => by kernel_rfl) (stores_two rfl rfl fun a w p h1 h2 c0 c1 f0 f1 => by simp (maxDischargeDepth := 8) [go_sem, *]) ?_
  apply Exists.intro
  apply And.intro
  · intro WW hWW
    obtain ⟨hcW, hfW⟩ := bcell hWW
    have hsW := hWW.size
    try simp at hsW
    try have hbbW : b < WW.heap.size := by omega
    try have hzW0 : w.heap.size < WW.heap.size := by omega
    try have hzW1 : w.heap.size + 1 < WW.heap.size := by omega
    try have hzW2 : w.heap.size + 1 + 1 < WW.heap.size := by omega
    try have hzW3 : w.heap.size + 1 + 1 + 1 < WW.heap.size := by omega
    try have hzW4 : w.heap.size + 1 + 1 + 1 + 1 < WW.heap.size := by omega
    try have hzW5 : w.heap.size + 1 + 1 + 1 + 1 + 1 < WW.heap.size := by omega
    try have hy1_W : w1.heap.size < WW.heap.size := by omega
    try have hy2_W : w2.heap.size < WW.heap.size := by omega
    try have hy3_W : w3.heap.size < WW.heap.size := by omega
    try have hy4_W : w4.heap.size < WW.heap.size := by omega
    try have hy5_W : w5.heap.size < WW.heap.size := by omega
    try have hy6_W : w6.heap.size < WW.heap.size := by omega
    try have hp1_W : p1 < WW.heap.size := by omega
    try have hp2_W : p2 < WW.heap.size := by omega
    try have hp3_W : p3 < WW.heap.size := by omega
    try have hp4_W : p4 < WW.heap.size := by omega
    try have hp5_W : p5 < WW.heap.size := by omega
    try have hp6_W : p6 < WW.heap.size := by omega
    simp only [List.take_succ_cons, List.take_zero]
    repeat (go_big_quiet_step (first | (go_at_call 61; exact calls_lower _ (zero_any _)) | (go_at_call 27; exact calls_lower _ (add_res (add_zero' ha) _))))
    refine wpQuiet_nil ?_
    exact rfl
  refine ⟨rfl, ?_⟩
  intro p7 w7 hb7 hpl7 hpr7 hpo7
  obtain ⟨hc7, hf7⟩ := bcell hb7
  have hs7 := hb7.size
  try simp at hs7
  try simp at hpl7
  try have hz70 : w.heap.size < w7.heap.size := by omega
  try have hz71 : w.heap.size + 1 < w7.heap.size := by omega
  try have hz72 : w.heap.size + 1 + 1 < w7.heap.size := by omega
  try have hz73 : w.heap.size + 1 + 1 + 1 < w7.heap.size := by omega
  try have hz74 : w.heap.size + 1 + 1 + 1 + 1 < w7.heap.size := by omega
  try have hz75 : w.heap.size + 1 + 1 + 1 + 1 + 1 < w7.heap.size := by omega
  try have hy1_7 : w1.heap.size < w7.heap.size := by omega
  try have hy2_7 : w2.heap.size < w7.heap.size := by omega
  try have hy3_7 : w3.heap.size < w7.heap.size := by omega
  try have hy4_7 : w4.heap.size < w7.heap.size := by omega
  try have hy5_7 : w5.heap.size < w7.heap.size := by omega
  try have hy6_7 : w6.heap.size < w7.heap.size := by omega
  try have hp1_7 : p1 < w7.heap.size := by omega
  try have hp2_7 : p2 < w7.heap.size := by omega
  try have hp3_7 : p3 < w7.heap.size := by omega
  try have hp4_7 : p4 < w7.heap.size := by omega
  try have hp5_7 : p5 < w7.heap.size := by omega
  try have hp6_7 : p6 < w7.heap.size := by omega
  try have hq70 : w.heap.size < p7 := by omega
  try have hq71 : w.heap.size + 1 < p7 := by omega
  try have hq72 : w.heap.size + 1 + 1 < p7 := by omega
  try have hq73 : w.heap.size + 1 + 1 + 1 < p7 := by omega
  try have hq74 : w.heap.size + 1 + 1 + 1 + 1 < p7 := by omega
  try have hq75 : w.heap.size + 1 + 1 + 1 + 1 + 1 < p7 := by omega
  try have hq1_7 : w1.heap.size < p7 := by omega
  try have hq2_7 : w2.heap.size < p7 := by omega
  try have hq3_7 : w3.heap.size < p7 := by omega
  try have hq4_7 : w4.heap.size < p7 := by omega
  try have hq5_7 : w5.heap.size < p7 := by omega
  try have hq6_7 : w6.heap.size < p7 := by omega
  have hpc7_0 : w7.cell? ⟨p7, 0, none⟩ = some (.int .i64 (an)) := cell_of_block hpo7 rfl
  have hpc7_1 : w7.cell? ⟨p7, 1, none⟩ = some (.int .i64 (ad)) := cell_of_block hpo7 rfl
  have hpf7_0 := frozen_of_block (o := 0) hpo7
  have hpf7_1 := frozen_of_block (o := 1) hpo7
  clear hpo7
  simp only [List.drop_succ_cons, List.drop_zero, Act.put]
  go_wp2_with fail
  refine wp_region_alloc 6 21 116 (.agg #[.int .i64 (an), .int .i64 (ad)]) (.cells #[.int .i64 0, .int .i64 0] 23) (.cells #[.int .i64 (an), .int .i64 (ad)] 23) _ _ (by kernel_rfl) (by kernel_rfl) (by kernel_rfl) (by kernel_rfl) (by simp) rfl rfl (fun _ _ => by kernel_rfl) (stores_two rfl rfl fun a w p h1 h2 c0 c1 f0 f1 => by simp (maxDischargeDepth := 8) [go_sem, *]) ?_
  apply Exists.intro
  apply And.intro
  · intro WW hWW
    obtain ⟨hcW, hfW⟩ := bcell hWW
    have hsW := hWW.size
    try simp at hsW
    try have hbbW : b < WW.heap.size := by omega
    try have hzW0 : w.heap.size < WW.heap.size := by omega
    try have hzW1 : w.heap.size + 1 < WW.heap.size := by omega
    try have hzW2 : w.heap.size + 1 + 1 < WW.heap.size := by omega
    try have hzW3 : w.heap.size + 1 + 1 + 1 < WW.heap.size := by omega
    try have hzW4 : w.heap.size + 1 + 1 + 1 + 1 < WW.heap.size := by omega
    try have hzW5 : w.heap.size + 1 + 1 + 1 + 1 + 1 < WW.heap.size := by omega
    try have hy1_W : w1.heap.size < WW.heap.size := by omega
    try have hy2_W : w2.heap.size < WW.heap.size := by omega
    try have hy3_W : w3.heap.size < WW.heap.size := by omega
    try have hy4_W : w4.heap.size < WW.heap.size := by omega
    try have hy5_W : w5.heap.size < WW.heap.size := by omega
    try have hy6_W : w6.heap.size < WW.heap.size := by omega
    try have hy7_W : w7.heap.size < WW.heap.size := by omega
    try have hp1_W : p1 < WW.heap.size := by omega
    try have hp2_W : p2 < WW.heap.size := by omega
    try have hp3_W : p3 < WW.heap.size := by omega
    try have hp4_W : p4 < WW.heap.size := by omega
    try have hp5_W : p5 < WW.heap.size := by omega
    try have hp6_W : p6 < WW.heap.size := by omega
    try have hp7_W : p7 < WW.heap.size := by omega
    simp only [List.take_succ_cons, List.take_zero]
    repeat (go_big_quiet_step (first | (go_at_call 62; exact calls_lower _ (one_any _)) | (go_at_call 31; exact calls_lower _ (mul_res (mul_one' ha) _))))
    refine wpQuiet_nil ?_
    exact rfl
  refine ⟨rfl, ?_⟩
  intro p8 w8 hb8 hpl8 hpr8 hpo8
  obtain ⟨hc8, hf8⟩ := bcell hb8
  have hs8 := hb8.size
  try simp at hs8
  try simp at hpl8
  try have hz80 : w.heap.size < w8.heap.size := by omega
  try have hz81 : w.heap.size + 1 < w8.heap.size := by omega
  try have hz82 : w.heap.size + 1 + 1 < w8.heap.size := by omega
  try have hz83 : w.heap.size + 1 + 1 + 1 < w8.heap.size := by omega
  try have hz84 : w.heap.size + 1 + 1 + 1 + 1 < w8.heap.size := by omega
  try have hz85 : w.heap.size + 1 + 1 + 1 + 1 + 1 < w8.heap.size := by omega
  try have hy1_8 : w1.heap.size < w8.heap.size := by omega
  try have hy2_8 : w2.heap.size < w8.heap.size := by omega
  try have hy3_8 : w3.heap.size < w8.heap.size := by omega
  try have hy4_8 : w4.heap.size < w8.heap.size := by omega
  try have hy5_8 : w5.heap.size < w8.heap.size := by omega
  try have hy6_8 : w6.heap.size < w8.heap.size := by omega
  try have hy7_8 : w7.heap.size < w8.heap.size := by omega
  try have hp1_8 : p1 < w8.heap.size := by omega
  try have hp2_8 : p2 < w8.heap.size := by omega
  try have hp3_8 : p3 < w8.heap.size := by omega
  try have hp4_8 : p4 < w8.heap.size := by omega
  try have hp5_8 : p5 < w8.heap.size := by omega
  try have hp6_8 : p6 < w8.heap.size := by omega
  try have hp7_8 : p7 < w8.heap.size := by omega
  try have hq80 : w.heap.size < p8 := by omega
  try have hq81 : w.heap.size + 1 < p8 := by omega
  try have hq82 : w.heap.size + 1 + 1 < p8 := by omega
  try have hq83 : w.heap.size + 1 + 1 + 1 < p8 := by omega
  try have hq84 : w.heap.size + 1 + 1 + 1 + 1 < p8 := by omega
  try have hq85 : w.heap.size + 1 + 1 + 1 + 1 + 1 < p8 := by omega
  try have hq1_8 : w1.heap.size < p8 := by omega
  try have hq2_8 : w2.heap.size < p8 := by omega
  try have hq3_8 : w3.heap.size < p8 := by omega
  try have hq4_8 : w4.heap.size < p8 := by omega
  try have hq5_8 : w5.heap.size < p8 := by omega
  try have hq6_8 : w6.heap.size < p8 := by omega
  try have hq7_8 : w7.heap.size < p8 := by omega
  have hpc8_0 : w8.cell? ⟨p8, 0, none⟩ = some (.int .i64 (an)) := cell_of_block hpo8 rfl
  have hpc8_1 : w8.cell? ⟨p8, 1, none⟩ = some (.int .i64 (ad)) := cell_of_block hpo8 rfl
  have hpf8_0 := frozen_of_block (o := 0) hpo8
  have hpf8_1 := frozen_of_block (o := 1) hpo8
  clear hpo8
  simp only [List.drop_succ_cons, List.drop_zero, Act.put]
  go_wp2_with fail
  refine (joined_any _ _ _ _ _ _ _ ha hb hc).mono ?_; rintro e w9 ⟨rfl, hb9⟩; obtain ⟨hc9, hf9⟩ := bcell hb9; have hs9 := hb9.size; (try simp at hs9); (try have hz90 : w.heap.size < w9.heap.size := by omega); (try have hz91 : w.heap.size + 1 < w9.heap.size := by omega); (try have hz92 : w.heap.size + 1 + 1 < w9.heap.size := by omega); (try have hz93 : w.heap.size + 1 + 1 + 1 < w9.heap.size := by omega); (try have hz94 : w.heap.size + 1 + 1 + 1 + 1 < w9.heap.size := by omega); (try have hz95 : w.heap.size + 1 + 1 + 1 + 1 + 1 < w9.heap.size := by omega); (try have hy1_9 : w1.heap.size < w9.heap.size := by omega); (try have hy2_9 : w2.heap.size < w9.heap.size := by omega); (try have hy3_9 : w3.heap.size < w9.heap.size := by omega); (try have hy4_9 : w4.heap.size < w9.heap.size := by omega); (try have hy5_9 : w5.heap.size < w9.heap.size := by omega); (try have hy6_9 : w6.heap.size < w9.heap.size := by omega); (try have hy7_9 : w7.heap.size < w9.heap.size := by omega); (try have hy8_9 : w8.heap.size < w9.heap.size := by omega); (try have hp1_9 : p1 < w9.heap.size := by omega); (try have hp2_9 : p2 < w9.heap.size := by omega); (try have hp3_9 : p3 < w9.heap.size := by omega); (try have hp4_9 : p4 < w9.heap.size := by omega); (try have hp5_9 : p5 < w9.heap.size := by omega); (try have hp6_9 : p6 < w9.heap.size := by omega); (try have hp7_9 : p7 < w9.heap.size := by omega); (try have hp8_9 : p8 < w9.heap.size := by omega)
  go_wp2_with fail
  refine (summed_any _).mono ?_; rintro e w10 ⟨rfl, hb10⟩; obtain ⟨hc10, hf10⟩ := bcell hb10; have hs10 := hb10.size; (try simp at hs10); (try have hz100 : w.heap.size < w10.heap.size := by omega); (try have hz101 : w.heap.size + 1 < w10.heap.size := by omega); (try have hz102 : w.heap.size + 1 + 1 < w10.heap.size := by omega); (try have hz103 : w.heap.size + 1 + 1 + 1 < w10.heap.size := by omega); (try have hz104 : w.heap.size + 1 + 1 + 1 + 1 < w10.heap.size := by omega); (try have hz105 : w.heap.size + 1 + 1 + 1 + 1 + 1 < w10.heap.size := by omega); (try have hy1_10 : w1.heap.size < w10.heap.size := by omega); (try have hy2_10 : w2.heap.size < w10.heap.size := by omega); (try have hy3_10 : w3.heap.size < w10.heap.size := by omega); (try have hy4_10 : w4.heap.size < w10.heap.size := by omega); (try have hy5_10 : w5.heap.size < w10.heap.size := by omega); (try have hy6_10 : w6.heap.size < w10.heap.size := by omega); (try have hy7_10 : w7.heap.size < w10.heap.size := by omega); (try have hy8_10 : w8.heap.size < w10.heap.size := by omega); (try have hy9_10 : w9.heap.size < w10.heap.size := by omega); (try have hp1_10 : p1 < w10.heap.size := by omega); (try have hp2_10 : p2 < w10.heap.size := by omega); (try have hp3_10 : p3 < w10.heap.size := by omega); (try have hp4_10 : p4 < w10.heap.size := by omega); (try have hp5_10 : p5 < w10.heap.size := by omega); (try have hp6_10 : p6 < w10.heap.size := by omega); (try have hp7_10 : p7 < w10.heap.size := by omega); (try have hp8_10 : p8 < w10.heap.size := by omega); (try have hp9_10 : p9 < w10.heap.size := by omega)
  go_wp2
  go_ret
  exact ⟨rfl, by ((repeat' (first | exact Below.refl _ _ | assumption | refine Below.setCell ?_ ?_ _ | refine bdrewN ?_ _ | refine Below.drew ?_ | refine Below.alloc ?_ ?_ _ | refine bbehind ?_ (by assumption) ?_)); all_goals first | (simp; done) | (simp; omega) | omega)⟩

set_option maxRecDepth 100000 in
set_option maxHeartbeats 4000000 in
theorem field_ok_ok (an ad bn bd cn cd x1 x2 z1 z2 : Int) (w : World) (ha : chk an ad = 0) (hb : chk bn bd = 0) (hc : chk cn cd = 0) (hx : addT an ad bn bd = (x1, x2, 0)) (hx1 : addT bn bd an ad = (x1, x2, 0)) (hz : mulT an ad bn bd = (z1, z2, 0)) (hz1 : mulT bn bd an ad = (z1, z2, 0)) (hd : subT x1 x2 bn bd = (an, ad, 0)) (h0 : (bn != 0) = true) (hv : divT z1 z2 bn bd = (an, ad, 0)) :
    Calls Try.prog 8 #[.agg #[.int .i64 an, .int .i64 ad], .agg #[.int .i64 bn, .int .i64 bd], .agg #[.int .i64 cn, .int .i64 cd]] w fun e w' => e = .returned (.bool true) ∧ Below w.heap.size w w' := by
  go_enter Try.func8, Try.ntmps8
  go_wp2_with fail
  refine (fit_ok _ _ _ _ _ _ _ ha hb hc).mono ?_; rintro e w1 ⟨rfl, hb1⟩; obtain ⟨hc1, hf1⟩ := bcell hb1; have hs1 := hb1.size; (try simp at hs1); (try have hz10 : w.heap.size < w1.heap.size := by omega); (try have hz11 : w.heap.size + 1 < w1.heap.size := by omega); (try have hz12 : w.heap.size + 1 + 1 < w1.heap.size := by omega); (try have hz13 : w.heap.size + 1 + 1 + 1 < w1.heap.size := by omega); (try have hz14 : w.heap.size + 1 + 1 + 1 + 1 < w1.heap.size := by omega); (try have hz15 : w.heap.size + 1 + 1 + 1 + 1 + 1 < w1.heap.size := by omega)
  go_wp2_with fail
  refine (add_res hx _).mono ?_; rintro e w2 ⟨rfl, hb2⟩; obtain ⟨hc2, hf2⟩ := bcell hb2; have hs2 := hb2.size; (try simp at hs2); (try have hz20 : w.heap.size < w2.heap.size := by omega); (try have hz21 : w.heap.size + 1 < w2.heap.size := by omega); (try have hz22 : w.heap.size + 1 + 1 < w2.heap.size := by omega); (try have hz23 : w.heap.size + 1 + 1 + 1 < w2.heap.size := by omega); (try have hz24 : w.heap.size + 1 + 1 + 1 + 1 < w2.heap.size := by omega); (try have hz25 : w.heap.size + 1 + 1 + 1 + 1 + 1 < w2.heap.size := by omega); (try have hy1_2 : w1.heap.size < w2.heap.size := by omega); (try have hp1_2 : p1 < w2.heap.size := by omega)
  go_wp2_with fail
  refine (add_res hx1 _).mono ?_; rintro e w3 ⟨rfl, hb3⟩; obtain ⟨hc3, hf3⟩ := bcell hb3; have hs3 := hb3.size; (try simp at hs3); (try have hz30 : w.heap.size < w3.heap.size := by omega); (try have hz31 : w.heap.size + 1 < w3.heap.size := by omega); (try have hz32 : w.heap.size + 1 + 1 < w3.heap.size := by omega); (try have hz33 : w.heap.size + 1 + 1 + 1 < w3.heap.size := by omega); (try have hz34 : w.heap.size + 1 + 1 + 1 + 1 < w3.heap.size := by omega); (try have hz35 : w.heap.size + 1 + 1 + 1 + 1 + 1 < w3.heap.size := by omega); (try have hy1_3 : w1.heap.size < w3.heap.size := by omega); (try have hy2_3 : w2.heap.size < w3.heap.size := by omega); (try have hp1_3 : p1 < w3.heap.size := by omega); (try have hp2_3 : p2 < w3.heap.size := by omega)
  go_wp2_with fail
  refine (mul_res hz _).mono ?_; rintro e w4 ⟨rfl, hb4⟩; obtain ⟨hc4, hf4⟩ := bcell hb4; have hs4 := hb4.size; (try simp at hs4); (try have hz40 : w.heap.size < w4.heap.size := by omega); (try have hz41 : w.heap.size + 1 < w4.heap.size := by omega); (try have hz42 : w.heap.size + 1 + 1 < w4.heap.size := by omega); (try have hz43 : w.heap.size + 1 + 1 + 1 < w4.heap.size := by omega); (try have hz44 : w.heap.size + 1 + 1 + 1 + 1 < w4.heap.size := by omega); (try have hz45 : w.heap.size + 1 + 1 + 1 + 1 + 1 < w4.heap.size := by omega); (try have hy1_4 : w1.heap.size < w4.heap.size := by omega); (try have hy2_4 : w2.heap.size < w4.heap.size := by omega); (try have hy3_4 : w3.heap.size < w4.heap.size := by omega); (try have hp1_4 : p1 < w4.heap.size := by omega); (try have hp2_4 : p2 < w4.heap.size := by omega); (try have hp3_4 : p3 < w4.heap.size := by omega)
  go_wp2_with fail
  refine (mul_res hz1 _).mono ?_; rintro e w5 ⟨rfl, hb5⟩; obtain ⟨hc5, hf5⟩ := bcell hb5; have hs5 := hb5.size; (try simp at hs5); (try have hz50 : w.heap.size < w5.heap.size := by omega); (try have hz51 : w.heap.size + 1 < w5.heap.size := by omega); (try have hz52 : w.heap.size + 1 + 1 < w5.heap.size := by omega); (try have hz53 : w.heap.size + 1 + 1 + 1 < w5.heap.size := by omega); (try have hz54 : w.heap.size + 1 + 1 + 1 + 1 < w5.heap.size := by omega); (try have hz55 : w.heap.size + 1 + 1 + 1 + 1 + 1 < w5.heap.size := by omega); (try have hy1_5 : w1.heap.size < w5.heap.size := by omega); (try have hy2_5 : w2.heap.size < w5.heap.size := by omega); (try have hy3_5 : w3.heap.size < w5.heap.size := by omega); (try have hy4_5 : w4.heap.size < w5.heap.size := by omega); (try have hp1_5 : p1 < w5.heap.size := by omega); (try have hp2_5 : p2 < w5.heap.size := by omega); (try have hp3_5 : p3 < w5.heap.size := by omega); (try have hp4_5 : p4 < w5.heap.size := by omega)
  go_wp2_with fail
  refine (sub_res hd _).mono ?_; rintro e w6 ⟨rfl, hb6⟩; obtain ⟨hc6, hf6⟩ := bcell hb6; have hs6 := hb6.size; (try simp at hs6); (try have hz60 : w.heap.size < w6.heap.size := by omega); (try have hz61 : w.heap.size + 1 < w6.heap.size := by omega); (try have hz62 : w.heap.size + 1 + 1 < w6.heap.size := by omega); (try have hz63 : w.heap.size + 1 + 1 + 1 < w6.heap.size := by omega); (try have hz64 : w.heap.size + 1 + 1 + 1 + 1 < w6.heap.size := by omega); (try have hz65 : w.heap.size + 1 + 1 + 1 + 1 + 1 < w6.heap.size := by omega); (try have hy1_6 : w1.heap.size < w6.heap.size := by omega); (try have hy2_6 : w2.heap.size < w6.heap.size := by omega); (try have hy3_6 : w3.heap.size < w6.heap.size := by omega); (try have hy4_6 : w4.heap.size < w6.heap.size := by omega); (try have hy5_6 : w5.heap.size < w6.heap.size := by omega); (try have hp1_6 : p1 < w6.heap.size := by omega); (try have hp2_6 : p2 < w6.heap.size := by omega); (try have hp3_6 : p3 < w6.heap.size := by omega); (try have hp4_6 : p4 < w6.heap.size := by omega); (try have hp5_6 : p5 < w6.heap.size := by omega)
  go_wp2_with fail
  refine (div_res hv _).mono ?_; rintro e w7 ⟨rfl, hb7⟩; obtain ⟨hc7, hf7⟩ := bcell hb7; have hs7 := hb7.size; (try simp at hs7); (try have hz70 : w.heap.size < w7.heap.size := by omega); (try have hz71 : w.heap.size + 1 < w7.heap.size := by omega); (try have hz72 : w.heap.size + 1 + 1 < w7.heap.size := by omega); (try have hz73 : w.heap.size + 1 + 1 + 1 < w7.heap.size := by omega); (try have hz74 : w.heap.size + 1 + 1 + 1 + 1 < w7.heap.size := by omega); (try have hz75 : w.heap.size + 1 + 1 + 1 + 1 + 1 < w7.heap.size := by omega); (try have hy1_7 : w1.heap.size < w7.heap.size := by omega); (try have hy2_7 : w2.heap.size < w7.heap.size := by omega); (try have hy3_7 : w3.heap.size < w7.heap.size := by omega); (try have hy4_7 : w4.heap.size < w7.heap.size := by omega); (try have hy5_7 : w5.heap.size < w7.heap.size := by omega); (try have hy6_7 : w6.heap.size < w7.heap.size := by omega); (try have hp1_7 : p1 < w7.heap.size := by omega); (try have hp2_7 : p2 < w7.heap.size := by omega); (try have hp3_7 : p3 < w7.heap.size := by omega); (try have hp4_7 : p4 < w7.heap.size := by omega); (try have hp5_7 : p5 < w7.heap.size := by omega); (try have hp6_7 : p6 < w7.heap.size := by omega)
  go_wp2_with fail
  refine wp_region_alloc 6 19 110 (.agg #[.int .i64 (an), .int .i64 (ad)]) (.cells #[.int .i64 0, .int .i64 0] 23) (.cells #[.int .i64 (an), .int .i64 (ad)] 23) _ _ (by kernel_rfl) (by kernel_rfl) (by kernel_rfl) (by kernel_rfl) (by simp) rfl rfl (fun _ _ => by kernel_rfl) (stores_two rfl rfl fun a w p h1 h2 c0 c1 f0 f1 => by simp (maxDischargeDepth := 8) [go_sem, *]) ?_
  apply Exists.intro
  apply And.intro
  · intro WW hWW
    obtain ⟨hcW, hfW⟩ := bcell hWW
    have hsW := hWW.size
    try simp at hsW
    try have hbbW : b < WW.heap.size := by omega
    try have hzW0 : w.heap.size < WW.heap.size := by omega
    try have hzW1 : w.heap.size + 1 < WW.heap.size := by omega
    try have hzW2 : w.heap.size + 1 + 1 < WW.heap.size := by omega
    try have hzW3 : w.heap.size + 1 + 1 + 1 < WW.heap.size := by omega
    try have hzW4 : w.heap.size + 1 + 1 + 1 + 1 < WW.heap.size := by omega
    try have hzW5 : w.heap.size + 1 + 1 + 1 + 1 + 1 < WW.heap.size := by omega
    try have hy1_W : w1.heap.size < WW.heap.size := by omega
    try have hy2_W : w2.heap.size < WW.heap.size := by omega
    try have hy3_W : w3.heap.size < WW.heap.size := by omega
    try have hy4_W : w4.heap.size < WW.heap.size := by omega
    try have hy5_W : w5.heap.size < WW.heap.size := by omega
    try have hy6_W : w6.heap.size < WW.heap.size := by omega
    try have hy7_W : w7.heap.size < WW.heap.size := by omega
    try have hp1_W : p1 < WW.heap.size := by omega
    try have hp2_W : p2 < WW.heap.size := by omega
    try have hp3_W : p3 < WW.heap.size := by omega
    try have hp4_W : p4 < WW.heap.size := by omega
    try have hp5_W : p5 < WW.heap.size := by omega
    try have hp6_W : p6 < WW.heap.size := by omega
    try have hp7_W : p7 < WW.heap.size := by omega
    simp only [List.take_succ_cons, List.take_zero]
    repeat (go_big_quiet_step (first | (go_at_call 61; exact calls_lower _ (zero_any _)) | (go_at_call 27; exact calls_lower _ (add_res (add_zero' ha) _))))
    refine wpQuiet_nil ?_
    exact rfl
  refine ⟨rfl, ?_⟩
  intro p8 w8 hb8 hpl8 hpr8 hpo8
  obtain ⟨hc8, hf8⟩ := bcell hb8
  have hs8 := hb8.size
  try simp at hs8
  try simp at hpl8
  try have hz80 : w.heap.size < w8.heap.size := by omega
  try have hz81 : w.heap.size + 1 < w8.heap.size := by omega
  try have hz82 : w.heap.size + 1 + 1 < w8.heap.size := by omega
  try have hz83 : w.heap.size + 1 + 1 + 1 < w8.heap.size := by omega
  try have hz84 : w.heap.size + 1 + 1 + 1 + 1 < w8.heap.size := by omega
  try have hz85 : w.heap.size + 1 + 1 + 1 + 1 + 1 < w8.heap.size := by omega
  try have hy1_8 : w1.heap.size < w8.heap.size := by omega
  try have hy2_8 : w2.heap.size < w8.heap.size := by omega
  try have hy3_8 : w3.heap.size < w8.heap.size := by omega
  try have hy4_8 : w4.heap.size < w8.heap.size := by omega
  try have hy5_8 : w5.heap.size < w8.heap.size := by omega
  try have hy6_8 : w6.heap.size < w8.heap.size := by omega
  try have hy7_8 : w7.heap.size < w8.heap.size := by omega
  try have hp1_8 : p1 < w8.heap.size := by omega
  try have hp2_8 : p2 < w8.heap.size := by omega
  try have hp3_8 : p3 < w8.heap.size := by omega
  try have hp4_8 : p4 < w8.heap.size := by omega
  try have hp5_8 : p5 < w8.heap.size := by omega
  try have hp6_8 : p6 < w8.heap.size := by omega
  try have hp7_8 : p7 < w8.heap.size := by omega
  try have hq80 : w.heap.size < p8 := by omega
  try have hq81 : w.heap.size + 1 < p8 := by omega
  try have hq82 : w.heap.size + 1 + 1 < p8 := by omega
  try have hq83 : w.heap.size + 1 + 1 + 1 < p8 := by omega
  try have hq84 : w.heap.size + 1 + 1 + 1 + 1 < p8 := by omega
  try have hq85 : w.heap.size + 1 + 1 + 1 + 1 + 1 < p8 := by omega
  try have hq1_8 : w1.heap.size < p8 := by omega
  try have hq2_8 : w2.heap.size < p8 := by omega
  try have hq3_8 : w3.heap.size < p8 := by omega
  try have hq4_8 : w4.heap.size < p8 := by omega
  try have hq5_8 : w5.heap.size < p8 := by omega
  try have hq6_8 : w6.heap.size < p8 := by omega
  try have hq7_8 : w7.heap.size < p8 := by omega
  have hpc8_0 : w8.cell? ⟨p8, 0, none⟩ = some (.int .i64 (an)) := cell_of_block hpo8 rfl
  have hpc8_1 : w8.cell? ⟨p8, 1, none⟩ = some (.int .i64 (ad)) := cell_of_block hpo8 rfl
  have hpf8_0 := frozen_of_block (o := 0) hpo8
  have hpf8_1 := frozen_of_block (o := 1) hpo8
  clear hpo8
  simp only [List.drop_succ_cons, List.drop_zero, Act.put]
  go_wp2_with fail
  refine wp_region_alloc 6 21 116 (.agg #[.int .i64 (an), .int .i64 (ad)]) (.cells #[.int .i64 0, .int .i64 0] 23) (.cells #[.int .i64 (an), .int .i64 (ad)] 23) _ _ (by kernel_rfl) (by kernel_rfl) (by kernel_rfl) (by kernel_rfl) (by simp) rfl rfl (fun _ _ => by kernel_rfl) (stores_two rfl rfl fun a w p h1 h2 c0 c1 f0 f1 => by simp (maxDischargeDepth := 8) [go_sem, *]) ?_
  apply Exists.intro
  apply And.intro
  · intro WW hWW
    obtain ⟨hcW, hfW⟩ := bcell hWW
    have hsW := hWW.size
    try simp at hsW
    try have hbbW : b < WW.heap.size := by omega
    try have hzW0 : w.heap.size < WW.heap.size := by omega
    try have hzW1 : w.heap.size + 1 < WW.heap.size := by omega
    try have hzW2 : w.heap.size + 1 + 1 < WW.heap.size := by omega
    try have hzW3 : w.heap.size + 1 + 1 + 1 < WW.heap.size := by omega
    try have hzW4 : w.heap.size + 1 + 1 + 1 + 1 < WW.heap.size := by omega
    try have hzW5 : w.heap.size + 1 + 1 + 1 + 1 + 1 < WW.heap.size := by omega
    try have hy1_W : w1.heap.size < WW.heap.size := by omega
    try have hy2_W : w2.heap.size < WW.heap.size := by omega
    try have hy3_W : w3.heap.size < WW.heap.size := by omega
    try have hy4_W : w4.heap.size < WW.heap.size := by omega
    try have hy5_W : w5.heap.size < WW.heap.size := by omega
    try have hy6_W : w6.heap.size < WW.heap.size := by omega
    try have hy7_W : w7.heap.size < WW.heap.size := by omega
    try have hy8_W : w8.heap.size < WW.heap.size := by omega
    try have hp1_W : p1 < WW.heap.size := by omega
    try have hp2_W : p2 < WW.heap.size := by omega
    try have hp3_W : p3 < WW.heap.size := by omega
    try have hp4_W : p4 < WW.heap.size := by omega
    try have hp5_W : p5 < WW.heap.size := by omega
    try have hp6_W : p6 < WW.heap.size := by omega
    try have hp7_W : p7 < WW.heap.size := by omega
    try have hp8_W : p8 < WW.heap.size := by omega
    simp only [List.take_succ_cons, List.take_zero]
    repeat (go_big_quiet_step (first | (go_at_call 62; exact calls_lower _ (one_any _)) | (go_at_call 31; exact calls_lower _ (mul_res (mul_one' ha) _))))
    refine wpQuiet_nil ?_
    exact rfl
  refine ⟨rfl, ?_⟩
  intro p9 w9 hb9 hpl9 hpr9 hpo9
  obtain ⟨hc9, hf9⟩ := bcell hb9
  have hs9 := hb9.size
  try simp at hs9
  try simp at hpl9
  try have hz90 : w.heap.size < w9.heap.size := by omega
  try have hz91 : w.heap.size + 1 < w9.heap.size := by omega
  try have hz92 : w.heap.size + 1 + 1 < w9.heap.size := by omega
  try have hz93 : w.heap.size + 1 + 1 + 1 < w9.heap.size := by omega
  try have hz94 : w.heap.size + 1 + 1 + 1 + 1 < w9.heap.size := by omega
  try have hz95 : w.heap.size + 1 + 1 + 1 + 1 + 1 < w9.heap.size := by omega
  try have hy1_9 : w1.heap.size < w9.heap.size := by omega
  try have hy2_9 : w2.heap.size < w9.heap.size := by omega
  try have hy3_9 : w3.heap.size < w9.heap.size := by omega
  try have hy4_9 : w4.heap.size < w9.heap.size := by omega
  try have hy5_9 : w5.heap.size < w9.heap.size := by omega
  try have hy6_9 : w6.heap.size < w9.heap.size := by omega
  try have hy7_9 : w7.heap.size < w9.heap.size := by omega
  try have hy8_9 : w8.heap.size < w9.heap.size := by omega
  try have hp1_9 : p1 < w9.heap.size := by omega
  try have hp2_9 : p2 < w9.heap.size := by omega
  try have hp3_9 : p3 < w9.heap.size := by omega
  try have hp4_9 : p4 < w9.heap.size := by omega
  try have hp5_9 : p5 < w9.heap.size := by omega
  try have hp6_9 : p6 < w9.heap.size := by omega
  try have hp7_9 : p7 < w9.heap.size := by omega
  try have hp8_9 : p8 < w9.heap.size := by omega
  try have hq90 : w.heap.size < p9 := by omega
  try have hq91 : w.heap.size + 1 < p9 := by omega
  try have hq92 : w.heap.size + 1 + 1 < p9 := by omega
  try have hq93 : w.heap.size + 1 + 1 + 1 < p9 := by omega
  try have hq94 : w.heap.size + 1 + 1 + 1 + 1 < p9 := by omega
  try have hq95 : w.heap.size + 1 + 1 + 1 + 1 + 1 < p9 := by omega
  try have hq1_9 : w1.heap.size < p9 := by omega
  try have hq2_9 : w2.heap.size < p9 := by omega
  try have hq3_9 : w3.heap.size < p9 := by omega
  try have hq4_9 : w4.heap.size < p9 := by omega
  try have hq5_9 : w5.heap.size < p9 := by omega
  try have hq6_9 : w6.heap.size < p9 := by omega
  try have hq7_9 : w7.heap.size < p9 := by omega
  try have hq8_9 : w8.heap.size < p9 := by omega
  have hpc9_0 : w9.cell? ⟨p9, 0, none⟩ = some (.int .i64 (an)) := cell_of_block hpo9 rfl
  have hpc9_1 : w9.cell? ⟨p9, 1, none⟩ = some (.int .i64 (ad)) := cell_of_block hpo9 rfl
  have hpf9_0 := frozen_of_block (o := 0) hpo9
  have hpf9_1 := frozen_of_block (o := 1) hpo9
  clear hpo9
  simp only [List.drop_succ_cons, List.drop_zero, Act.put]
  go_wp2_with fail
  refine (joined_any _ _ _ _ _ _ _ ha hb hc).mono ?_; rintro e w10 ⟨rfl, hb10⟩; obtain ⟨hc10, hf10⟩ := bcell hb10; have hs10 := hb10.size; (try simp at hs10); (try have hz100 : w.heap.size < w10.heap.size := by omega); (try have hz101 : w.heap.size + 1 < w10.heap.size := by omega); (try have hz102 : w.heap.size + 1 + 1 < w10.heap.size := by omega); (try have hz103 : w.heap.size + 1 + 1 + 1 < w10.heap.size := by omega); (try have hz104 : w.heap.size + 1 + 1 + 1 + 1 < w10.heap.size := by omega); (try have hz105 : w.heap.size + 1 + 1 + 1 + 1 + 1 < w10.heap.size := by omega); (try have hy1_10 : w1.heap.size < w10.heap.size := by omega); (try have hy2_10 : w2.heap.size < w10.heap.size := by omega); (try have hy3_10 : w3.heap.size < w10.heap.size := by omega); (try have hy4_10 : w4.heap.size < w10.heap.size := by omega); (try have hy5_10 : w5.heap.size < w10.heap.size := by omega); (try have hy6_10 : w6.heap.size < w10.heap.size := by omega); (try have hy7_10 : w7.heap.size < w10.heap.size := by omega); (try have hy8_10 : w8.heap.size < w10.heap.size := by omega); (try have hy9_10 : w9.heap.size < w10.heap.size := by omega); (try have hp1_10 : p1 < w10.heap.size := by omega); (try have hp2_10 : p2 < w10.heap.size := by omega); (try have hp3_10 : p3 < w10.heap.size := by omega); (try have hp4_10 : p4 < w10.heap.size := by omega); (try have hp5_10 : p5 < w10.heap.size := by omega); (try have hp6_10 : p6 < w10.heap.size := by omega); (try have hp7_10 : p7 < w10.heap.size := by omega); (try have hp8_10 : p8 < w10.heap.size := by omega); (try have hp9_10 : p9 < w10.heap.size := by omega)
  go_wp2_with fail
  refine (summed_any _).mono ?_; rintro e w11 ⟨rfl, hb11⟩; obtain ⟨hc11, hf11⟩ := bcell hb11; have hs11 := hb11.size; (try simp at hs11); (try have hz110 : w.heap.size < w11.heap.size := by omega); (try have hz111 : w.heap.size + 1 < w11.heap.size := by omega); (try have hz112 : w.heap.size + 1 + 1 < w11.heap.size := by omega); (try have hz113 : w.heap.size + 1 + 1 + 1 < w11.heap.size := by omega); (try have hz114 : w.heap.size + 1 + 1 + 1 + 1 < w11.heap.size := by omega); (try have hz115 : w.heap.size + 1 + 1 + 1 + 1 + 1 < w11.heap.size := by omega); (try have hy1_11 : w1.heap.size < w11.heap.size := by omega); (try have hy2_11 : w2.heap.size < w11.heap.size := by omega); (try have hy3_11 : w3.heap.size < w11.heap.size := by omega); (try have hy4_11 : w4.heap.size < w11.heap.size := by omega); (try have hy5_11 : w5.heap.size < w11.heap.size := by omega); (try have hy6_11 : w6.heap.size < w11.heap.size := by omega); (try have hy7_11 : w7.heap.size < w11.heap.size := by omega); (try have hy8_11 : w8.heap.size < w11.heap.size := by omega); (try have hy9_11 : w9.heap.size < w11.heap.size := by omega); (try have hy10_11 : w10.heap.size < w11.heap.size := by omega); (try have hp1_11 : p1 < w11.heap.size := by omega); (try have hp2_11 : p2 < w11.heap.size := by omega); (try have hp3_11 : p3 < w11.heap.size := by omega); (try have hp4_11 : p4 < w11.heap.size := by omega); (try have hp5_11 : p5 < w11.heap.size := by omega); (try have hp6_11 : p6 < w11.heap.size := by omega); (try have hp7_11 : p7 < w11.heap.size := by omega); (try have hp8_11 : p8 < w11.heap.size := by omega); (try have hp9_11 : p9 < w11.heap.size := by omega); (try have hp10_11 : p10 < w11.heap.size := by omega)
  go_wp2
  go_ret
  exact ⟨rfl, by ((repeat' (first | exact Below.refl _ _ | assumption | refine Below.setCell ?_ ?_ _ | refine bdrewN ?_ _ | refine Below.drew ?_ | refine Below.alloc ?_ ?_ _ | refine bbehind ?_ (by assumption) ?_)); all_goals first | (simp; done) | (simp; omega) | omega)⟩

set_option maxRecDepth 100000 in
theorem field_any (an ad bn bd cn cd : Int) (w : World) :
    Calls Try.prog 8 #[.agg #[.int .i64 an, .int .i64 ad], .agg #[.int .i64 bn, .int .i64 bd], .agg #[.int .i64 cn, .int .i64 cd]] w fun e w' => e = .returned (.bool true) ∧ Below w.heap.size w w' := by
  by_cases h : chk an ad = 0 ∧ chk bn bd = 0 ∧ chk cn cd = 0
  · obtain ⟨ha, hb, hc⟩ := h
    have cx := add_comm' ha hb
    have cz := mul_comm' ha hb
    rcases add_is ha hb with ⟨x1, x2, hx, gx, ex⟩ | ⟨hx, -⟩
    · have hd := sub_back ha hb gx ex
      rcases mul_is ha hb with ⟨z1, z2, hz, gz, ez⟩ | ⟨hz, -⟩
      · by_cases h0 : bn = 0
        · exact field_ok_b0 _ _ _ _ _ _ _ _ _ _ w ha hb hc hx (cx.trans hx) hz (cz.trans hz) hd h0
        · exact field_ok_ok _ _ _ _ _ _ _ _ _ _ w ha hb hc hx (cx.trans hx) hz (cz.trans hz) hd (by simpa using h0) (div_back ha hb gz h0 ez)
      · exact field_ok_no _ _ _ _ _ _ _ _ w ha hb hc hx (cx.trans hx) hz (cz.trans hz) hd
    · rcases mul_is ha hb with ⟨z1, z2, hz, gz, ez⟩ | ⟨hz, -⟩
      · by_cases h0 : bn = 0
        · exact field_no_b0 _ _ _ _ _ _ _ _ w ha hb hc hx (cx.trans hx) hz (cz.trans hz) h0
        · exact field_no_ok _ _ _ _ _ _ _ _ w ha hb hc hx (cx.trans hx) hz (cz.trans hz) (by simpa using h0) (div_back ha hb gz h0 ez)
      · exact field_no_no _ _ _ _ _ _ w ha hb hc hx (cx.trans hx) hz (cz.trans hz)
  · go_enter Try.func8, Try.ntmps8
    go_wp2_with fail
    refine (fit_no _ _ _ _ _ _ _ h).mono ?_; rintro e w1 ⟨rfl, hb1⟩; obtain ⟨hc1, hf1⟩ := bcell hb1; have hs1 := hb1.size; (try simp at hs1); (try have hz10 : w.heap.size < w1.heap.size := by omega); (try have hz11 : w.heap.size + 1 < w1.heap.size := by omega); (try have hz12 : w.heap.size + 1 + 1 < w1.heap.size := by omega); (try have hz13 : w.heap.size + 1 + 1 + 1 < w1.heap.size := by omega); (try have hz14 : w.heap.size + 1 + 1 + 1 + 1 < w1.heap.size := by omega); (try have hz15 : w.heap.size + 1 + 1 + 1 + 1 + 1 < w1.heap.size := by omega)
    go_wp2_with fail
    refine (summed_any _).mono ?_; rintro e w2 ⟨rfl, hb2⟩; obtain ⟨hc2, hf2⟩ := bcell hb2; have hs2 := hb2.size; (try simp at hs2); (try have hz20 : w.heap.size < w2.heap.size := by omega); (try have hz21 : w.heap.size + 1 < w2.heap.size := by omega); (try have hz22 : w.heap.size + 1 + 1 < w2.heap.size := by omega); (try have hz23 : w.heap.size + 1 + 1 + 1 < w2.heap.size := by omega); (try have hz24 : w.heap.size + 1 + 1 + 1 + 1 < w2.heap.size := by omega); (try have hz25 : w.heap.size + 1 + 1 + 1 + 1 + 1 < w2.heap.size := by omega); (try have hy1_2 : w1.heap.size < w2.heap.size := by omega); (try have hp1_2 : p1 < w2.heap.size := by omega)
    go_wp2
    go_ret
    exact ⟨rfl, by ((repeat' (first | exact Below.refl _ _ | assumption | refine Below.setCell ?_ ?_ _ | refine bdrewN ?_ _ | refine Below.drew ?_ | refine Below.alloc ?_ ?_ _ | refine bbehind ?_ (by assumption) ?_)); all_goals first | (simp; done) | (simp; omega) | omega)⟩
end Go.Proofs.Ytgefidffhdanhaa
