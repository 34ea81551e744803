import Derived.Test.YtgefidffhdanhaaLawFieldB
import Derived.Test.YtgefidffhdanhaaRefI
namespace Go.Proofs.Ytgefidffhdanhaa
open Go.RowKit Go.BigFrame

set_option maxRecDepth 100000 in
set_option maxHeartbeats 1000000 in
theorem rsum_nil (a : Option Addr) (cap : Nat) (w : World) :
    Calls Try.prog 36 #[.slice a 0 cap] w fun e w' => e = .returned (.tuple #[.agg #[.int .i64 (sumP []).1, .int .i64 (sumP []).2.1], .int .i64 (sumP []).2.2]) ∧ Below w.heap.size w w' := by
  go_enter Try.func36, Try.ntmps36
  go_wp2
  go_loopw [4] (fun i wr => i = .int .i64 0 ∧ RSum w wr) (fun i _ => 0)
  case atStart => exact ⟨rfl, by ((repeat' (first | exact Below.refl _ _ | assumption | refine Below.setCell ?_ ?_ _ | refine bdrewN ?_ _ | refine Below.drew ?_ | refine Below.alloc ?_ ?_ _ | refine bbehind ?_ (by assumption) ?_)); all_goals first | (simp; done) | (simp; omega) | omega), by simp, by simp [go_sem], by simp [go_sem], by simp [go_sem], by simp [go_sem]⟩
  case round =>
    obtain ⟨rfl, ⟨hbw, hsz, r0, r1, f0, f1⟩⟩ := hrel
    go_wp2_with fail
    refine (rint_any _ _).mono ?_; rintro e w1 ⟨rfl, hb1⟩; obtain ⟨hc1, hf1⟩ := bcell hb1; have hs1 := hb1.size; (try simp at hs1); (try have hz10 : w.heap.size < w1.heap.size := by omega); (try have hz11 : w.heap.size + 1 < w1.heap.size := by omega); (try have hz12 : w.heap.size + 1 + 1 < w1.heap.size := by omega); (try have hz13 : w.heap.size + 1 + 1 + 1 < w1.heap.size := by omega); (try have hz14 : w.heap.size + 1 + 1 + 1 + 1 < w1.heap.size := by omega); (try have hz15 : w.heap.size + 1 + 1 + 1 + 1 + 1 < w1.heap.size := by omega)
    go_wp2_with fail
    have o1 : w.heap.size < w1.heap.size := by omega
    go_loopw [7] (fun i wr => i = .int .i64 0 ∧ RSum2 w w1.heap.size 0 1 wr) (fun i _ => 0)
    case atStart => exact ⟨rfl, ⟨by ((repeat' (first | exact Below.refl _ _ | assumption | refine Below.setCell ?_ ?_ _ | refine bdrewN ?_ _ | refine Below.drew ?_ | refine Below.alloc ?_ ?_ _ | refine bbehind ?_ (by assumption) ?_)); all_goals first | (simp; done) | (simp; omega) | omega), (by first | assumption | (simp; done) | (simp; omega) | omega), (by simp (maxDischargeDepth := 8) [go_sem, *]), (by simp (maxDischargeDepth := 8) [go_sem, *]), (by simp (maxDischargeDepth := 8) [go_sem, *]), (by simp (maxDischargeDepth := 8) [go_sem, *])⟩, o1, (by first | assumption | (simp; done) | (simp; omega) | omega), (by simp (maxDischargeDepth := 8) [go_sem, *]), (by simp (maxDischargeDepth := 8) [go_sem, *]), (by simp (maxDischargeDepth := 8) [go_sem, *]), (by simp (maxDischargeDepth := 8) [go_sem, *])⟩
    case round =>
      clear r0 r1 f0 f1 hbw hsz
      obtain ⟨rfl, ⟨⟨hbw, hsz, r0, r1, f0, f1⟩, sq, qz, xp0, xp1, g0, g1⟩⟩ := hrel
      have ne1 : ¬ w.heap.size = w1.heap.size := by omega
      clear hb1 hc1 hf1
      go_wp2
      refine bodyPost_ret (v := .tuple #[.agg #[.int .i64 0, .int .i64 1], .int .i64 0]) (by simp (maxDischargeDepth := 8) [results, Try.results36, go_sem, *]) rfl ?_
      exact ⟨rfl, by ((repeat' (first | exact Below.refl _ _ | assumption | refine Below.setCell ?_ ?_ _ | refine bdrewN ?_ _ | refine Below.drew ?_ | refine Below.alloc ?_ ?_ _ | refine bbehind ?_ (by assumption) ?_)); all_goals first | (simp; done) | (simp; omega) | omega)⟩

theorem rsum_l (v : Value) (l : List (Int × Int)) (w : World) (hl : l.length ≤ 1000000) (h : LiesAt w v l) :
    Calls Try.prog 36 #[v] w fun e w' => e = .returned (.tuple #[.agg #[.int .i64 (sumP l).1, .int .i64 (sumP l).2.1], .int .i64 (sumP l).2.2]) ∧ Below w.heap.size w w' := by
  rcases h with ⟨a, cap, rfl, rfl⟩ | ⟨b, off, cap, rfl, h2, h3⟩
  · exact rsum_nil a cap w
  · exact rsum_any b off cap l w hl h2 h3

set_option maxRecDepth 100000 in
set_option maxHeartbeats 4000000 in
theorem sums_any (an ad bn bd n : Int) (sa : Option Addr) (len cap : Nat) (l : List (Int × Int)) (w : World) (hlen : len ≤ 30 → l.length = len ∧ LiesAt w (.slice sa len cap) l) :
    Calls Try.prog 4 #[.agg #[.int .i64 an, .int .i64 ad], .agg #[.int .i64 bn, .int .i64 bd], .slice sa len cap, .int .i64 n] w fun e w' => e = .returned (.bool true) ∧ Below w.heap.size w w' := by
  by_cases hl : 30 < len
  · have hl' : (30 : Int) < (len : Int) := by omega
    clear hl hlen
    go_enter Try.func4, Try.ntmps4
    go_wp2_with fail
    refine (summed_any _).mono ?_; rintro e w1 ⟨rfl, hb1⟩; obtain ⟨hc1, hf1⟩ := bcell hb1; have hs1 := hb1.size; (try simp at hs1); (try have hz10 : w.heap.size < w1.heap.size := by omega); (try have hz11 : w.heap.size + 1 < w1.heap.size := by omega); (try have hz12 : w.heap.size + 1 + 1 < w1.heap.size := by omega); (try have hz13 : w.heap.size + 1 + 1 + 1 < w1.heap.size := by omega); (try have hz14 : w.heap.size + 1 + 1 + 1 + 1 < w1.heap.size := by omega); (try have hz15 : w.heap.size + 1 + 1 + 1 + 1 + 1 < w1.heap.size := by omega)
    go_wp2
    go_ret
    exact ⟨rfl, by ((repeat' (first | exact Below.refl _ _ | assumption | refine Below.setCell ?_ ?_ _ | refine bdrewN ?_ _ | refine Below.drew ?_ | refine Below.alloc ?_ ?_ _ | refine bbehind ?_ (by assumption) ?_)); all_goals first | (simp; done) | (simp; omega) | omega)⟩
  · obtain ⟨h1, h2⟩ := hlen (by omega)
    have hl' : ¬ (30 : Int) < (len : Int) := by omega
    have A1 := Lib.hid (fun w => add_any an ad bn bd w)
    have A2 := Lib.hid (fun w => radd_any an ad bn bd w)
    have S1 := Lib.hid (fun w => sub_any an ad bn bd w)
    have S2 := Lib.hid (fun w => rsub_any an ad bn bd w)
    have M1 := Lib.hid (fun w => mul_any an ad bn bd w)
    have M2 := Lib.hid (fun w => rmul_any an ad bn bd w)
    have D1 := Lib.hid (fun w => div_any an ad bn bd w)
    have D2 := Lib.hid (fun w => rdiv_any an ad bn bd w)
    have P1 := Lib.hid (fun w => pow_any an ad n w)
    have P2 := Lib.hid (fun w => rpow_any an ad n w)
    have T1 := Lib.hid (fun w1 (hw : Below w.heap.size w w1) => sum_any (.slice sa len cap) l w1 (by omega) (lies_below h2 hw))
    have T2 := Lib.hid (fun w1 (hw : Below w.heap.size w w1) => rsum_l (.slice sa len cap) l w1 (by omega) (lies_below h2 hw))
    generalize addT an ad bn bd = r1 at *
    generalize subT an ad bn bd = r2 at *
    generalize mulT an ad bn bd = r3 at *
    generalize divT an ad bn bd = r4 at *
    generalize powP an ad n = r5 at *
    generalize sumP l = r6 at *
    obtain ⟨x1, y1, e1⟩ := r1
    obtain ⟨x2, y2, e2⟩ := r2
    obtain ⟨x3, y3, e3⟩ := r3
    obtain ⟨x4, y4, e4⟩ := r4
    obtain ⟨x5, y5, e5⟩ := r5
    obtain ⟨x6, y6, e6⟩ := r6
    simp only at A1 A2 S1 S2 M1 M2 D1 D2 P1 P2 T1 T2
    clear hl hlen h1 h2
    go_enter Try.func4, Try.ntmps4
    go_wp2_with fail
    refine (A1.out _).mono ?_; rintro e w1 ⟨rfl, hb1⟩; obtain ⟨hc1, hf1⟩ := bcell hb1; have hs1 := hb1.size; (try simp at hs1); (try have hz10 : w.heap.size < w1.heap.size := by omega); (try have hz11 : w.heap.size + 1 < w1.heap.size := by omega); (try have hz12 : w.heap.size + 1 + 1 < w1.heap.size := by omega); (try have hz13 : w.heap.size + 1 + 1 + 1 < w1.heap.size := by omega); (try have hz14 : w.heap.size + 1 + 1 + 1 + 1 < w1.heap.size := by omega); (try have hz15 : w.heap.size + 1 + 1 + 1 + 1 + 1 < w1.heap.size := by omega)
    go_wp2_with fail
    refine (A2.out _).mono ?_; rintro e w2 ⟨rfl, hb2⟩; obtain ⟨hc2, hf2⟩ := bcell hb2; have hs2 := hb2.size; (try simp at hs2); (try have hz20 : w.heap.size < w2.heap.size := by omega); (try have hz21 : w.heap.size + 1 < w2.heap.size := by omega); (try have hz22 : w.heap.size + 1 + 1 < w2.heap.size := by omega); (try have hz23 : w.heap.size + 1 + 1 + 1 < w2.heap.size := by omega); (try have hz24 : w.heap.size + 1 + 1 + 1 + 1 < w2.heap.size := by omega); (try have hz25 : w.heap.size + 1 + 1 + 1 + 1 + 1 < w2.heap.size := by omega); (try have hy1_2 : w1.heap.size < w2.heap.size := by omega)
    have ne1 : ¬ w1.heap.size = w2.heap.size := by omega
    have ne2 : ¬ w2.heap.size = w1.heap.size := by omega
    have ne3 : ¬ w.heap.size = w1.heap.size := by omega
    have ne4 : ¬ w.heap.size = w2.heap.size := by omega
    have ne5 : ¬ w.heap.size + 1 = w1.heap.size := by omega
    have ne6 : ¬ w.heap.size + 1 = w2.heap.size := by omega
    go_wp2_with fail
    refine (S1.out _).mono ?_; rintro e w3 ⟨rfl, hb3⟩; obtain ⟨hc3, hf3⟩ := bcell hb3; have hs3 := hb3.size; (try simp at hs3); (try have hz30 : w.heap.size < w3.heap.size := by omega); (try have hz31 : w.heap.size + 1 < w3.heap.size := by omega); (try have hz32 : w.heap.size + 1 + 1 < w3.heap.size := by omega); (try have hz33 : w.heap.size + 1 + 1 + 1 < w3.heap.size := by omega); (try have hz34 : w.heap.size + 1 + 1 + 1 + 1 < w3.heap.size := by omega); (try have hz35 : w.heap.size + 1 + 1 + 1 + 1 + 1 < w3.heap.size := by omega); (try have hy1_3 : w1.heap.size < w3.heap.size := by omega); (try have hy2_3 : w2.heap.size < w3.heap.size := by omega)
    have ca3 : w3.cell? ⟨w.heap.size, 0, none⟩ = some (.int .i64 an) := (by simp (maxDischargeDepth := 8) [go_sem, *])
    have cb3 : w3.cell? ⟨w.heap.size, 1, none⟩ = some (.int .i64 ad) := (by simp (maxDischargeDepth := 8) [go_sem, *])
    have cc3 : w3.cell? ⟨w.heap.size + 1, 0, none⟩ = some (.int .i64 bn) := (by simp (maxDischargeDepth := 8) [go_sem, *])
    have cd3 : w3.cell? ⟨w.heap.size + 1, 1, none⟩ = some (.int .i64 bd) := (by simp (maxDischargeDepth := 8) [go_sem, *])
    have ce3 : w3.cell? ⟨w1.heap.size, 0, none⟩ = some (.int .i64 x1) := (by simp (maxDischargeDepth := 8) [go_sem, *])
    have cf3 : w3.cell? ⟨w1.heap.size, 1, none⟩ = some (.int .i64 y1) := (by simp (maxDischargeDepth := 8) [go_sem, *])
    have cg3 : w3.cell? ⟨w2.heap.size, 0, none⟩ = some (.int .i64 x1) := (by simp (maxDischargeDepth := 8) [go_sem, *])
    have ch3 : w3.cell? ⟨w2.heap.size, 1, none⟩ = some (.int .i64 y1) := (by simp (maxDischargeDepth := 8) [go_sem, *])
    have ci3 : w3.frozen? ⟨w1.heap.size, 0, none⟩ = false := (by simp (maxDischargeDepth := 8) [go_sem, *])
    have cj3 : w3.frozen? ⟨w1.heap.size, 1, none⟩ = false := (by simp (maxDischargeDepth := 8) [go_sem, *])
    have ck3 : w3.frozen? ⟨w2.heap.size, 0, none⟩ = false := (by simp (maxDischargeDepth := 8) [go_sem, *])
    have cl3 : w3.frozen? ⟨w2.heap.size, 1, none⟩ = false := (by simp (maxDischargeDepth := 8) [go_sem, *])
    clear hc3 hf3 hc1 hc2 hf1 hf2
    go_wp2_with fail
    refine (S2.out _).mono ?_; rintro e w4 ⟨rfl, hb4⟩; obtain ⟨hc4, hf4⟩ := bcell hb4; have hs4 := hb4.size; (try simp at hs4); (try have hz40 : w.heap.size < w4.heap.size := by omega); (try have hz41 : w.heap.size + 1 < w4.heap.size := by omega); (try have hz42 : w.heap.size + 1 + 1 < w4.heap.size := by omega); (try have hz43 : w.heap.size + 1 + 1 + 1 < w4.heap.size := by omega); (try have hz44 : w.heap.size + 1 + 1 + 1 + 1 < w4.heap.size := by omega); (try have hz45 : w.heap.size + 1 + 1 + 1 + 1 + 1 < w4.heap.size := by omega); (try have hy1_4 : w1.heap.size < w4.heap.size := by omega); (try have hy2_4 : w2.heap.size < w4.heap.size := by omega); (try have hy3_4 : w3.heap.size < w4.heap.size := by omega)
    have ca4 : w4.cell? ⟨w.heap.size, 0, none⟩ = some (.int .i64 an) := (by simp (maxDischargeDepth := 8) [go_sem, *])
    have cb4 : w4.cell? ⟨w.heap.size, 1, none⟩ = some (.int .i64 ad) := (by simp (maxDischargeDepth := 8) [go_sem, *])
    have cc4 : w4.cell? ⟨w.heap.size + 1, 0, none⟩ = some (.int .i64 bn) := (by simp (maxDischargeDepth := 8) [go_sem, *])
    have cd4 : w4.cell? ⟨w.heap.size + 1, 1, none⟩ = some (.int .i64 bd) := (by simp (maxDischargeDepth := 8) [go_sem, *])
    have ce4 : w4.cell? ⟨w1.heap.size, 0, none⟩ = some (.int .i64 x2) := (by simp (maxDischargeDepth := 8) [go_sem, *])
    have cf4 : w4.cell? ⟨w1.heap.size, 1, none⟩ = some (.int .i64 y2) := (by simp (maxDischargeDepth := 8) [go_sem, *])
    have cg4 : w4.cell? ⟨w2.heap.size, 0, none⟩ = some (.int .i64 x1) := (by simp (maxDischargeDepth := 8) [go_sem, *])
    have ch4 : w4.cell? ⟨w2.heap.size, 1, none⟩ = some (.int .i64 y1) := (by simp (maxDischargeDepth := 8) [go_sem, *])
    have ci4 : w4.frozen? ⟨w1.heap.size, 0, none⟩ = false := (by simp (maxDischargeDepth := 8) [go_sem, *])
    have cj4 : w4.frozen? ⟨w1.heap.size, 1, none⟩ = false := (by simp (maxDischargeDepth := 8) [go_sem, *])
    have ck4 : w4.frozen? ⟨w2.heap.size, 0, none⟩ = false := (by simp (maxDischargeDepth := 8) [go_sem, *])
    have cl4 : w4.frozen? ⟨w2.heap.size, 1, none⟩ = false := (by simp (maxDischargeDepth := 8) [go_sem, *])
    clear hc4 hf4 ca3 cb3 cc3 cd3 ce3 cf3 cg3 ch3 ci3 cj3 ck3 cl3
    go_wp2_with fail
    refine (M1.out _).mono ?_; rintro e w5 ⟨rfl, hb5⟩; obtain ⟨hc5, hf5⟩ := bcell hb5; have hs5 := hb5.size; (try simp at hs5); (try have hz50 : w.heap.size < w5.heap.size := by omega); (try have hz51 : w.heap.size + 1 < w5.heap.size := by omega); (try have hz52 : w.heap.size + 1 + 1 < w5.heap.size := by omega); (try have hz53 : w.heap.size + 1 + 1 + 1 < w5.heap.size := by omega); (try have hz54 : w.heap.size + 1 + 1 + 1 + 1 < w5.heap.size := by omega); (try have hz55 : w.heap.size + 1 + 1 + 1 + 1 + 1 < w5.heap.size := by omega); (try have hy1_5 : w1.heap.size < w5.heap.size := by omega); (try have hy2_5 : w2.heap.size < w5.heap.size := by omega); (try have hy3_5 : w3.heap.size < w5.heap.size := by omega); (try have hy4_5 : w4.heap.size < w5.heap.size := by omega)
    have ca5 : w5.cell? ⟨w.heap.size, 0, none⟩ = some (.int .i64 an) := (by simp (maxDischargeDepth := 8) [go_sem, *])
    have cb5 : w5.cell? ⟨w.heap.size, 1, none⟩ = some (.int .i64 ad) := (by simp (maxDischargeDepth := 8) [go_sem, *])
    have cc5 : w5.cell? ⟨w.heap.size + 1, 0, none⟩ = some (.int .i64 bn) := (by simp (maxDischargeDepth := 8) [go_sem, *])
    have cd5 : w5.cell? ⟨w.heap.size + 1, 1, none⟩ = some (.int .i64 bd) := (by simp (maxDischargeDepth := 8) [go_sem, *])
    have ce5 : w5.cell? ⟨w1.heap.size, 0, none⟩ = some (.int .i64 x2) := (by simp (maxDischargeDepth := 8) [go_sem, *])
    have cf5 : w5.cell? ⟨w1.heap.size, 1, none⟩ = some (.int .i64 y2) := (by simp (maxDischargeDepth := 8) [go_sem, *])
    have cg5 : w5.cell? ⟨w2.heap.size, 0, none⟩ = some (.int .i64 x2) := (by simp (maxDischargeDepth := 8) [go_sem, *])
    have ch5 : w5.cell? ⟨w2.heap.size, 1, none⟩ = some (.int .i64 y2) := (by simp (maxDischargeDepth := 8) [go_sem, *])
    have ci5 : w5.frozen? ⟨w1.heap.size, 0, none⟩ = false := (by simp (maxDischargeDepth := 8) [go_sem, *])
    have cj5 : w5.frozen? ⟨w1.heap.size, 1, none⟩ = false := (by simp (maxDischargeDepth := 8) [go_sem, *])
    have ck5 : w5.frozen? ⟨w2.heap.size, 0, none⟩ = false := (by simp (maxDischargeDepth := 8) [go_sem, *])
    have cl5 : w5.frozen? ⟨w2.heap.size, 1, none⟩ = false := (by simp (maxDischargeDepth := 8) [go_sem, *])
    clear hc5 hf5 ca4 cb4 cc4 cd4 ce4 cf4 cg4 ch4 ci4 cj4 ck4 cl4
    go_wp2_with fail
    refine (M2.out _).mono ?_; rintro e w6 ⟨rfl, hb6⟩; obtain ⟨hc6, hf6⟩ := bcell hb6; have hs6 := hb6.size; (try simp at hs6); (try have hz60 : w.heap.size < w6.heap.size := by omega); (try have hz61 : w.heap.size + 1 < w6.heap.size := by omega); (try have hz62 : w.heap.size + 1 + 1 < w6.heap.size := by omega); (try have hz63 : w.heap.size + 1 + 1 + 1 < w6.heap.size := by omega); (try have hz64 : w.heap.size + 1 + 1 + 1 + 1 < w6.heap.size := by omega); (try have hz65 : w.heap.size + 1 + 1 + 1 + 1 + 1 < w6.heap.size := by omega); (try have hy1_6 : w1.heap.size < w6.heap.size := by omega); (try have hy2_6 : w2.heap.size < w6.heap.size := by omega); (try have hy3_6 : w3.heap.size < w6.heap.size := by omega); (try have hy4_6 : w4.heap.size < w6.heap.size := by omega); (try have hy5_6 : w5.heap.size < w6.heap.size := by omega)
    have ca6 : w6.cell? ⟨w.heap.size, 0, none⟩ = some (.int .i64 an) := (by simp (maxDischargeDepth := 8) [go_sem, *])
    have cb6 : w6.cell? ⟨w.heap.size, 1, none⟩ = some (.int .i64 ad) := (by simp (maxDischargeDepth := 8) [go_sem, *])
    have cc6 : w6.cell? ⟨w.heap.size + 1, 0, none⟩ = some (.int .i64 bn) := (by simp (maxDischargeDepth := 8) [go_sem, *])
    have cd6 : w6.cell? ⟨w.heap.size + 1, 1, none⟩ = some (.int .i64 bd) := (by simp (maxDischargeDepth := 8) [go_sem, *])
    have ce6 : w6.cell? ⟨w1.heap.size, 0, none⟩ = some (.int .i64 x3) := (by simp (maxDischargeDepth := 8) [go_sem, *])
    have cf6 : w6.cell? ⟨w1.heap.size, 1, none⟩ = some (.int .i64 y3) := (by simp (maxDischargeDepth := 8) [go_sem, *])
    have cg6 : w6.cell? ⟨w2.heap.size, 0, none⟩ = some (.int .i64 x2) := (by simp (maxDischargeDepth := 8) [go_sem, *])
    have ch6 : w6.cell? ⟨w2.heap.size, 1, none⟩ = some (.int .i64 y2) := (by simp (maxDischargeDepth := 8) [go_sem, *])
    have ci6 : w6.frozen? ⟨w1.heap.size, 0, none⟩ = false := (by simp (maxDischargeDepth := 8) [go_sem, *])
    have cj6 : w6.frozen? ⟨w1.heap.size, 1, none⟩ = false := (by simp (maxDischargeDepth := 8) [go_sem, *])
    have ck6 : w6.frozen? ⟨w2.heap.size, 0, none⟩ = false := (by simp (maxDischargeDepth := 8) [go_sem, *])
    have cl6 : w6.frozen? ⟨w2.heap.size, 1, none⟩ = false := (by simp (maxDischargeDepth := 8) [go_sem, *])
    clear hc6 hf6 ca5 cb5 cc5 cd5 ce5 cf5 cg5 ch5 ci5 cj5 ck5 cl5
    go_wp2_with fail
    refine (D1.out _).mono ?_; rintro e w7 ⟨rfl, hb7⟩; obtain ⟨hc7, hf7⟩ := bcell hb7; have hs7 := hb7.size; (try simp at hs7); (try have hz70 : w.heap.size < w7.heap.size := by omega); (try have hz71 : w.heap.size + 1 < w7.heap.size := by omega); (try have hz72 : w.heap.size + 1 + 1 < w7.heap.size := by omega); (try have hz73 : w.heap.size + 1 + 1 + 1 < w7.heap.size := by omega); (try have hz74 : w.heap.size + 1 + 1 + 1 + 1 < w7.heap.size := by omega); (try have hz75 : w.heap.size + 1 + 1 + 1 + 1 + 1 < w7.heap.size := by omega); (try have hy1_7 : w1.heap.size < w7.heap.size := by omega); (try have hy2_7 : w2.heap.size < w7.heap.size := by omega); (try have hy3_7 : w3.heap.size < w7.heap.size := by omega); (try have hy4_7 : w4.heap.size < w7.heap.size := by omega); (try have hy5_7 : w5.heap.size < w7.heap.size := by omega); (try have hy6_7 : w6.heap.size < w7.heap.size := by omega)
    have ca7 : w7.cell? ⟨w.heap.size, 0, none⟩ = some (.int .i64 an) := (by simp (maxDischargeDepth := 8) [go_sem, *])
    have cb7 : w7.cell? ⟨w.heap.size, 1, none⟩ = some (.int .i64 ad) := (by simp (maxDischargeDepth := 8) [go_sem, *])
    have cc7 : w7.cell? ⟨w.heap.size + 1, 0, none⟩ = some (.int .i64 bn) := (by simp (maxDischargeDepth := 8) [go_sem, *])
    have cd7 : w7.cell? ⟨w.heap.size + 1, 1, none⟩ = some (.int .i64 bd) := (by simp (maxDischargeDepth := 8) [go_sem, *])
    have ce7 : w7.cell? ⟨w1.heap.size, 0, none⟩ = some (.int .i64 x3) := (by simp (maxDischargeDepth := 8) [go_sem, *])
    have cf7 : w7.cell? ⟨w1.heap.size, 1, none⟩ = some (.int .i64 y3) := (by simp (maxDischargeDepth := 8) [go_sem, *])
    have cg7 : w7.cell? ⟨w2.heap.size, 0, none⟩ = some (.int .i64 x3) := (by simp (maxDischargeDepth := 8) [go_sem, *])
    have ch7 : w7.cell? ⟨w2.heap.size, 1, none⟩ = some (.int .i64 y3) := (by simp (maxDischargeDepth := 8) [go_sem, *])
    have ci7 : w7.frozen? ⟨w1.heap.size, 0, none⟩ = false := (by simp (maxDischargeDepth := 8) [go_sem, *])
    have cj7 : w7.frozen? ⟨w1.heap.size, 1, none⟩ = false := (by simp (maxDischargeDepth := 8) [go_sem, *])
    have ck7 : w7.frozen? ⟨w2.heap.size, 0, none⟩ = false := (by simp (maxDischargeDepth := 8) [go_sem, *])
    have cl7 : w7.frozen? ⟨w2.heap.size, 1, none⟩ = false := (by simp (maxDischargeDepth := 8) [go_sem, *])
    clear hc7 hf7 ca6 cb6 cc6 cd6 ce6 cf6 cg6 ch6 ci6 cj6 ck6 cl6
    go_wp2_with fail
    refine (D2.out _).mono ?_; rintro e w8 ⟨rfl, hb8⟩; obtain ⟨hc8, hf8⟩ := bcell hb8; have hs8 := hb8.size; (try simp at hs8); (try have hz80 : w.heap.size < w8.heap.size := by omega); (try have hz81 : w.heap.size + 1 < w8.heap.size := by omega); (try have hz82 : w.heap.size + 1 + 1 < w8.heap.size := by omega); (try have hz83 : w.heap.size + 1 + 1 + 1 < w8.heap.size := by omega); (try have hz84 : w.heap.size + 1 + 1 + 1 + 1 < w8.heap.size := by omega); (try have hz85 : w.heap.size + 1 + 1 + 1 + 1 + 1 < w8.heap.size := by omega); (try have hy1_8 : w1.heap.size < w8.heap.size := by omega); (try have hy2_8 : w2.heap.size < w8.heap.size := by omega); (try have hy3_8 : w3.heap.size < w8.heap.size := by omega); (try have hy4_8 : w4.heap.size < w8.heap.size := by omega); (try have hy5_8 : w5.heap.size < w8.heap.size := by omega); (try have hy6_8 : w6.heap.size < w8.heap.size := by omega); (try have hy7_8 : w7.heap.size < w8.heap.size := by omega)
    have ca8 : w8.cell? ⟨w.heap.size, 0, none⟩ = some (.int .i64 an) := (by simp (maxDischargeDepth := 8) [go_sem, *])
    have cb8 : w8.cell? ⟨w.heap.size, 1, none⟩ = some (.int .i64 ad) := (by simp (maxDischargeDepth := 8) [go_sem, *])
    have cc8 : w8.cell? ⟨w.heap.size + 1, 0, none⟩ = some (.int .i64 bn) := (by simp (maxDischargeDepth := 8) [go_sem, *])
    have cd8 : w8.cell? ⟨w.heap.size + 1, 1, none⟩ = some (.int .i64 bd) := (by simp (maxDischargeDepth := 8) [go_sem, *])
    have ce8 : w8.cell? ⟨w1.heap.size, 0, none⟩ = some (.int .i64 x4) := (by simp (maxDischargeDepth := 8) [go_sem, *])
    have cf8 : w8.cell? ⟨w1.heap.size, 1, none⟩ = some (.int .i64 y4) := (by simp (maxDischargeDepth := 8) [go_sem, *])
    have cg8 : w8.cell? ⟨w2.heap.size, 0, none⟩ = some (.int .i64 x3) := (by simp (maxDischargeDepth := 8) [go_sem, *])
    have ch8 : w8.cell? ⟨w2.heap.size, 1, none⟩ = some (.int .i64 y3) := (by simp (maxDischargeDepth := 8) [go_sem, *])
    have ci8 : w8.frozen? ⟨w1.heap.size, 0, none⟩ = false := (by simp (maxDischargeDepth := 8) [go_sem, *])
    have cj8 : w8.frozen? ⟨w1.heap.size, 1, none⟩ = false := (by simp (maxDischargeDepth := 8) [go_sem, *])
    have ck8 : w8.frozen? ⟨w2.heap.size, 0, none⟩ = false := (by simp (maxDischargeDepth := 8) [go_sem, *])
    have cl8 : w8.frozen? ⟨w2.heap.size, 1, none⟩ = false := (by simp (maxDischargeDepth := 8) [go_sem, *])
    clear hc8 hf8 ca7 cb7 cc7 cd7 ce7 cf7 cg7 ch7 ci7 cj7 ck7 cl7
    go_wp2_with fail
    refine (T1.out _ (by ((repeat' (first | exact Below.refl _ _ | assumption | refine Below.setCell ?_ ?_ _ | refine bdrewN ?_ _ | refine Below.drew ?_ | refine Below.alloc ?_ ?_ _ | refine bbehind ?_ (by assumption) ?_)); all_goals first | (simp; done) | (simp; omega) | omega))).mono ?_; rintro e w9 ⟨rfl, hb9⟩; obtain ⟨hc9, hf9⟩ := bcell hb9; have hs9 := hb9.size; (try simp at hs9); (try have hz90 : w.heap.size < w9.heap.size := by omega); (try have hz91 : w.heap.size + 1 < w9.heap.size := by omega); (try have hz92 : w.heap.size + 1 + 1 < w9.heap.size := by omega); (try have hz93 : w.heap.size + 1 + 1 + 1 < w9.heap.size := by omega); (try have hz94 : w.heap.size + 1 + 1 + 1 + 1 < w9.heap.size := by omega); (try have hz95 : w.heap.size + 1 + 1 + 1 + 1 + 1 < w9.heap.size := by omega); (try have hy1_9 : w1.heap.size < w9.heap.size := by omega); (try have hy2_9 : w2.heap.size < w9.heap.size := by omega); (try have hy3_9 : w3.heap.size < w9.heap.size := by omega); (try have hy4_9 : w4.heap.size < w9.heap.size := by omega); (try have hy5_9 : w5.heap.size < w9.heap.size := by omega); (try have hy6_9 : w6.heap.size < w9.heap.size := by omega); (try have hy7_9 : w7.heap.size < w9.heap.size := by omega); (try have hy8_9 : w8.heap.size < w9.heap.size := by omega)
    have ca9 : w9.cell? ⟨w.heap.size, 0, none⟩ = some (.int .i64 an) := (by simp (maxDischargeDepth := 8) [go_sem, *])
    have cb9 : w9.cell? ⟨w.heap.size, 1, none⟩ = some (.int .i64 ad) := (by simp (maxDischargeDepth := 8) [go_sem, *])
    have cc9 : w9.cell? ⟨w.heap.size + 1, 0, none⟩ = some (.int .i64 bn) := (by simp (maxDischargeDepth := 8) [go_sem, *])
    have cd9 : w9.cell? ⟨w.heap.size + 1, 1, none⟩ = some (.int .i64 bd) := (by simp (maxDischargeDepth := 8) [go_sem, *])
    have ce9 : w9.cell? ⟨w1.heap.size, 0, none⟩ = some (.int .i64 x4) := (by simp (maxDischargeDepth := 8) [go_sem, *])
    have cf9 : w9.cell? ⟨w1.heap.size, 1, none⟩ = some (.int .i64 y4) := (by simp (maxDischargeDepth := 8) [go_sem, *])
    have cg9 : w9.cell? ⟨w2.heap.size, 0, none⟩ = some (.int .i64 x4) := (by simp (maxDischargeDepth := 8) [go_sem, *])
    have ch9 : w9.cell? ⟨w2.heap.size, 1, none⟩ = some (.int .i64 y4) := (by simp (maxDischargeDepth := 8) [go_sem, *])
    have ci9 : w9.frozen? ⟨w1.heap.size, 0, none⟩ = false := (by simp (maxDischargeDepth := 8) [go_sem, *])
    have cj9 : w9.frozen? ⟨w1.heap.size, 1, none⟩ = false := (by simp (maxDischargeDepth := 8) [go_sem, *])
    have ck9 : w9.frozen? ⟨w2.heap.size, 0, none⟩ = false := (by simp (maxDischargeDepth := 8) [go_sem, *])
    have cl9 : w9.frozen? ⟨w2.heap.size, 1, none⟩ = false := (by simp (maxDischargeDepth := 8) [go_sem, *])
    clear hc9 hf9 ca8 cb8 cc8 cd8 ce8 cf8 cg8 ch8 ci8 cj8 ck8 cl8
    go_wp2_with fail
    refine (T2.out _ (by ((repeat' (first | exact Below.refl _ _ | assumption | refine Below.setCell ?_ ?_ _ | refine bdrewN ?_ _ | refine Below.drew ?_ | refine Below.alloc ?_ ?_ _ | refine bbehind ?_ (by assumption) ?_)); all_goals first | (simp; done) | (simp; omega) | omega))).mono ?_; rintro e w10 ⟨rfl, hb10⟩; obtain ⟨hc10, hf10⟩ := bcell hb10; have hs10 := hb10.size; (try simp at hs10); (try have hz100 : w.heap.size < w10.heap.size := by omega); (try have hz101 : w.heap.size + 1 < w10.heap.size := by omega); (try have hz102 : w.heap.size + 1 + 1 < w10.heap.size := by omega); (try have hz103 : w.heap.size + 1 + 1 + 1 < w10.heap.size := by omega); (try have hz104 : w.heap.size + 1 + 1 + 1 + 1 < w10.heap.size := by omega); (try have hz105 : w.heap.size + 1 + 1 + 1 + 1 + 1 < w10.heap.size := by omega); (try have hy1_10 : w1.heap.size < w10.heap.size := by omega); (try have hy2_10 : w2.heap.size < w10.heap.size := by omega); (try have hy3_10 : w3.heap.size < w10.heap.size := by omega); (try have hy4_10 : w4.heap.size < w10.heap.size := by omega); (try have hy5_10 : w5.heap.size < w10.heap.size := by omega); (try have hy6_10 : w6.heap.size < w10.heap.size := by omega); (try have hy7_10 : w7.heap.size < w10.heap.size := by omega); (try have hy8_10 : w8.heap.size < w10.heap.size := by omega); (try have hy9_10 : w9.heap.size < w10.heap.size := by omega)
    have ca10 : w10.cell? ⟨w.heap.size, 0, none⟩ = some (.int .i64 an) := (by simp (maxDischargeDepth := 8) [go_sem, *])
    have cb10 : w10.cell? ⟨w.heap.size, 1, none⟩ = some (.int .i64 ad) := (by simp (maxDischargeDepth := 8) [go_sem, *])
    have cc10 : w10.cell? ⟨w.heap.size + 1, 0, none⟩ = some (.int .i64 bn) := (by simp (maxDischargeDepth := 8) [go_sem, *])
    have cd10 : w10.cell? ⟨w.heap.size + 1, 1, none⟩ = some (.int .i64 bd) := (by simp (maxDischargeDepth := 8) [go_sem, *])
    have ce10 : w10.cell? ⟨w1.heap.size, 0, none⟩ = some (.int .i64 x6) := (by simp (maxDischargeDepth := 8) [go_sem, *])
    have cf10 : w10.cell? ⟨w1.heap.size, 1, none⟩ = some (.int .i64 y6) := (by simp (maxDischargeDepth := 8) [go_sem, *])
    have cg10 : w10.cell? ⟨w2.heap.size, 0, none⟩ = some (.int .i64 x4) := (by simp (maxDischargeDepth := 8) [go_sem, *])
    have ch10 : w10.cell? ⟨w2.heap.size, 1, none⟩ = some (.int .i64 y4) := (by simp (maxDischargeDepth := 8) [go_sem, *])
    have ci10 : w10.frozen? ⟨w1.heap.size, 0, none⟩ = false := (by simp (maxDischargeDepth := 8) [go_sem, *])
    have cj10 : w10.frozen? ⟨w1.heap.size, 1, none⟩ = false := (by simp (maxDischargeDepth := 8) [go_sem, *])
    have ck10 : w10.frozen? ⟨w2.heap.size, 0, none⟩ = false := (by simp (maxDischargeDepth := 8) [go_sem, *])
    have cl10 : w10.frozen? ⟨w2.heap.size, 1, none⟩ = false := (by simp (maxDischargeDepth := 8) [go_sem, *])
    clear hc10 hf10 ca9 cb9 cc9 cd9 ce9 cf9 cg9 ch9 ci9 cj9 ck9 cl9
    go_wp2_with fail
    refine (P1.out _).mono ?_; rintro e w11 ⟨rfl, hb11⟩; obtain ⟨hc11, hf11⟩ := bcell hb11; have hs11 := hb11.size; (try simp at hs11); (try have hz110 : w.heap.size < w11.heap.size := by omega); (try have hz111 : w.heap.size + 1 < w11.heap.size := by omega); (try have hz112 : w.heap.size + 1 + 1 < w11.heap.size := by omega); (try have hz113 : w.heap.size + 1 + 1 + 1 < w11.heap.size := by omega); (try have hz114 : w.heap.size + 1 + 1 + 1 + 1 < w11.heap.size := by omega); (try have hz115 : w.heap.size + 1 + 1 + 1 + 1 + 1 < w11.heap.size := by omega); (try have hy1_11 : w1.heap.size < w11.heap.size := by omega); (try have hy2_11 : w2.heap.size < w11.heap.size := by omega); (try have hy3_11 : w3.heap.size < w11.heap.size := by omega); (try have hy4_11 : w4.heap.size < w11.heap.size := by omega); (try have hy5_11 : w5.heap.size < w11.heap.size := by omega); (try have hy6_11 : w6.heap.size < w11.heap.size := by omega); (try have hy7_11 : w7.heap.size < w11.heap.size := by omega); (try have hy8_11 : w8.heap.size < w11.heap.size := by omega); (try have hy9_11 : w9.heap.size < w11.heap.size := by omega); (try have hy10_11 : w10.heap.size < w11.heap.size := by omega)
    have ca11 : w11.cell? ⟨w.heap.size, 0, none⟩ = some (.int .i64 an) := (by simp (maxDischargeDepth := 8) [go_sem, *])
    have cb11 : w11.cell? ⟨w.heap.size, 1, none⟩ = some (.int .i64 ad) := (by simp (maxDischargeDepth := 8) [go_sem, *])
    have cc11 : w11.cell? ⟨w.heap.size + 1, 0, none⟩ = some (.int .i64 bn) := (by simp (maxDischargeDepth := 8) [go_sem, *])
    have cd11 : w11.cell? ⟨w.heap.size + 1, 1, none⟩ = some (.int .i64 bd) := (by simp (maxDischargeDepth := 8) [go_sem, *])
    have ce11 : w11.cell? ⟨w1.heap.size, 0, none⟩ = some (.int .i64 x6) := (by simp (maxDischargeDepth := 8) [go_sem, *])
    have cf11 : w11.cell? ⟨w1.heap.size, 1, none⟩ = some (.int .i64 y6) := (by simp (maxDischargeDepth := 8) [go_sem, *])
    have cg11 : w11.cell? ⟨w2.heap.size, 0, none⟩ = some (.int .i64 x6) := (by simp (maxDischargeDepth := 8) [go_sem, *])
    have ch11 : w11.cell? ⟨w2.heap.size, 1, none⟩ = some (.int .i64 y6) := (by simp (maxDischargeDepth := 8) [go_sem, *])
    have ci11 : w11.frozen? ⟨w1.heap.size, 0, none⟩ = false := (by simp (maxDischargeDepth := 8) [go_sem, *])
    have cj11 : w11.frozen? ⟨w1.heap.size, 1, none⟩ = false := (by simp (maxDischargeDepth := 8) [go_sem, *])
    have ck11 : w11.frozen? ⟨w2.heap.size, 0, none⟩ = false := (by simp (maxDischargeDepth := 8) [go_sem, *])
    have cl11 : w11.frozen? ⟨w2.heap.size, 1, none⟩ = false := (by simp (maxDischargeDepth := 8) [go_sem, *])
    clear hc11 hf11 ca10 cb10 cc10 cd10 ce10 cf10 cg10 ch10 ci10 cj10 ck10 cl10
    go_wp2_with fail
    refine (P2.out _).mono ?_; rintro e w12 ⟨rfl, hb12⟩; obtain ⟨hc12, hf12⟩ := bcell hb12; have hs12 := hb12.size; (try simp at hs12); (try have hz120 : w.heap.size < w12.heap.size := by omega); (try have hz121 : w.heap.size + 1 < w12.heap.size := by omega); (try have hz122 : w.heap.size + 1 + 1 < w12.heap.size := by omega); (try have hz123 : w.heap.size + 1 + 1 + 1 < w12.heap.size := by omega); (try have hz124 : w.heap.size + 1 + 1 + 1 + 1 < w12.heap.size := by omega); (try have hz125 : w.heap.size + 1 + 1 + 1 + 1 + 1 < w12.heap.size := by omega); (try have hy1_12 : w1.heap.size < w12.heap.size := by omega); (try have hy2_12 : w2.heap.size < w12.heap.size := by omega); (try have hy3_12 : w3.heap.size < w12.heap.size := by omega); (try have hy4_12 : w4.heap.size < w12.heap.size := by omega); (try have hy5_12 : w5.heap.size < w12.heap.size := by omega); (try have hy6_12 : w6.heap.size < w12.heap.size := by omega); (try have hy7_12 : w7.heap.size < w12.heap.size := by omega); (try have hy8_12 : w8.heap.size < w12.heap.size := by omega); (try have hy9_12 : w9.heap.size < w12.heap.size := by omega); (try have hy10_12 : w10.heap.size < w12.heap.size := by omega); (try have hy11_12 : w11.heap.size < w12.heap.size := by omega)
    have ca12 : w12.cell? ⟨w.heap.size, 0, none⟩ = some (.int .i64 an) := (by simp (maxDischargeDepth := 8) [go_sem, *])
    have cb12 : w12.cell? ⟨w.heap.size, 1, none⟩ = some (.int .i64 ad) := (by simp (maxDischargeDepth := 8) [go_sem, *])
    have cc12 : w12.cell? ⟨w.heap.size + 1, 0, none⟩ = some (.int .i64 bn) := (by simp (maxDischargeDepth := 8) [go_sem, *])
    have cd12 : w12.cell? ⟨w.heap.size + 1, 1, none⟩ = some (.int .i64 bd) := (by simp (maxDischargeDepth := 8) [go_sem, *])
    have ce12 : w12.cell? ⟨w1.heap.size, 0, none⟩ = some (.int .i64 x6) := (by simp (maxDischargeDepth := 8) [go_sem, *])
    have cf12 : w12.cell? ⟨w1.heap.size, 1, none⟩ = some (.int .i64 y6) := (by simp (maxDischargeDepth := 8) [go_sem, *])
    have cg12 : w12.cell? ⟨w2.heap.size, 0, none⟩ = some (.int .i64 x6) := (by simp (maxDischargeDepth := 8) [go_sem, *])
    have ch12 : w12.cell? ⟨w2.heap.size, 1, none⟩ = some (.int .i64 y6) := (by simp (maxDischargeDepth := 8) [go_sem, *])
    have ci12 : w12.frozen? ⟨w1.heap.size, 0, none⟩ = false := (by simp (maxDischargeDepth := 8) [go_sem, *])
    have cj12 : w12.frozen? ⟨w1.heap.size, 1, none⟩ = false := (by simp (maxDischargeDepth := 8) [go_sem, *])
    have ck12 : w12.frozen? ⟨w2.heap.size, 0, none⟩ = false := (by simp (maxDischargeDepth := 8) [go_sem, *])
    have cl12 : w12.frozen? ⟨w2.heap.size, 1, none⟩ = false := (by simp (maxDischargeDepth := 8) [go_sem, *])
    have cm12 : w12.cell? ⟨w11.heap.size, 0, none⟩ = some (.int .i64 x5) := (by simp (maxDischargeDepth := 8) [go_sem, *])
    have cn12 : w12.cell? ⟨w11.heap.size, 1, none⟩ = some (.int .i64 y5) := (by simp (maxDischargeDepth := 8) [go_sem, *])
    clear hc12 hf12 ca11 cb11 cc11 cd11 ce11 cf11 cg11 ch11 ci11 cj11 ck11 cl11
    go_wp2_with fail
    refine (summed_any _).mono ?_; rintro e w13 ⟨rfl, hb13⟩; obtain ⟨hc13, hf13⟩ := bcell hb13; have hs13 := hb13.size; (try simp at hs13); (try have hz130 : w.heap.size < w13.heap.size := by omega); (try have hz131 : w.heap.size + 1 < w13.heap.size := by omega); (try have hz132 : w.heap.size + 1 + 1 < w13.heap.size := by omega); (try have hz133 : w.heap.size + 1 + 1 + 1 < w13.heap.size := by omega); (try have hz134 : w.heap.size + 1 + 1 + 1 + 1 < w13.heap.size := by omega); (try have hz135 : w.heap.size + 1 + 1 + 1 + 1 + 1 < w13.heap.size := by omega); (try have hy1_13 : w1.heap.size < w13.heap.size := by omega); (try have hy2_13 : w2.heap.size < w13.heap.size := by omega); (try have hy3_13 : w3.heap.size < w13.heap.size := by omega); (try have hy4_13 : w4.heap.size < w13.heap.size := by omega); (try have hy5_13 : w5.heap.size < w13.heap.size := by omega); (try have hy6_13 : w6.heap.size < w13.heap.size := by omega); (try have hy7_13 : w7.heap.size < w13.heap.size := by omega); (try have hy8_13 : w8.heap.size < w13.heap.size := by omega); (try have hy9_13 : w9.heap.size < w13.heap.size := by omega); (try have hy10_13 : w10.heap.size < w13.heap.size := by omega); (try have hy11_13 : w11.heap.size < w13.heap.size := by omega); (try have hy12_13 : w12.heap.size < w13.heap.size := by omega)
    go_wp2
    go_ret
    exact ⟨rfl, by ((repeat' (first | exact Below.refl _ _ | assumption | refine Below.setCell ?_ ?_ _ | refine bdrewN ?_ _ | refine Below.drew ?_ | refine Below.alloc ?_ ?_ _ | refine bbehind ?_ (by assumption) ?_)); all_goals first | (simp; done) | (simp; omega) | omega)⟩
end Go.Proofs.Ytgefidffhdanhaa
