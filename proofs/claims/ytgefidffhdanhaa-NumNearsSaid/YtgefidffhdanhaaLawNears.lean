import Derived.Test.YtgefidffhdanhaaLawA
import Derived.Test.YtgefidffhdanhaaRefL
import Derived.Test.YtgefidffhdanhaaRefK2
namespace Go.Proofs.Ytgefidffhdanhaa
open Go.RowKit Go.BigFrame

/-- a list of integers lies where it lay, though two blocks below its own are written. -/
theorem ints_two {w w' : World} {v : Value} {l : List Int} {B p q : Nat} (h : IntsLie w v l) (ho : OwnAt B v) (hp : p < B) (hq : q < B) (hk : ∀ k, k < w.heap.size → k ≠ p → k ≠ q → w'.heap[k]? = w.heap[k]?) (hs : w.heap.size ≤ w'.heap.size) : IntsLie w' v l := by
  rcases h with h | ⟨b, off, cap, rfl, h0, h2, h3⟩
  · exact .inl h
  · have hb : B ≤ b := ho ⟨b, off, none⟩ _ _ rfl
    refine .inr ⟨b, off, cap, rfl, h0, by omega, fun k hk' => ?_⟩
    rw [World.cell?_of_block (w := w) (hk b h2 (by omega) (by omega))]
    exact h3 k hk'

set_option maxRecDepth 100000 in
set_option maxHeartbeats 8000000 in
theorem nears_any (an ad bn bd p : Int) (sa : Option Addr) (len cap : Nat) (l : List Int) (w : World) (hlen : l.length = len) (hL : IntsLie w (.slice sa len cap) l) :
    Calls Try.prog 6 #[.agg #[.int .i64 an, .int .i64 ad], .agg #[.int .i64 bn, .int .i64 bd], .int .i64 p, .slice sa len cap] w fun e w' => e = .returned (.bool true) ∧ Below w.heap.size w w' := by
  by_cases hl : 60 < len
  · have hl' : (60 : Int) < (len : Int) := by omega
    clear hl hlen hL
    go_enter Try.func6, Try.ntmps6
    go_wp2_with fail
    refine (summed_any _).mono ?_; rintro e w1 ⟨rfl, hb1⟩; obtain ⟨hc1, hf1⟩ := bcell hb1; have hs1 := hb1.size; (try simp at hs1); (try have hz10 : w.heap.size < w1.heap.size := by omega); (try have hz11 : w.heap.size + 1 < w1.heap.size := by omega); (try have hz12 : w.heap.size + 1 + 1 < w1.heap.size := by omega); (try have hz13 : w.heap.size + 1 + 1 + 1 < w1.heap.size := by omega); (try have hz14 : w.heap.size + 1 + 1 + 1 + 1 < w1.heap.size := by omega); (try have hz15 : w.heap.size + 1 + 1 + 1 + 1 + 1 < w1.heap.size := by omega)
    go_wp2
    go_ret
    exact ⟨rfl, by ((repeat' (first | exact Below.refl _ _ | assumption | refine Below.setCell ?_ ?_ _ | refine bdrewN ?_ _ | refine Below.drew ?_ | refine Below.alloc ?_ ?_ _ | refine bbehind ?_ (by assumption) ?_)); all_goals first | (simp; done) | (simp; omega) | omega)⟩
  · have hl' : ¬ (60 : Int) < (len : Int) := by omega
    have C1 := Lib.hid (fun w => simplest_any an ad bn bd w)
    have C2 := Lib.hid (fun w => rsimplest_any an ad bn bd w)
    have C3 := Lib.hid (fun w => near_all an ad p w)
    have C4 := Lib.hid (fun w => rnear_all an ad p w)
    have C7 := Lib.hid (fun w1 (hw : Below w.heap.size w w1) => of_any (.slice sa len cap) l w1 (ints_below hL hw) (by omega))
    have C8 := Lib.hid (fun w1 (hw : Below w.heap.size w w1) => rof_any (.slice sa len cap) l w1 (ints_below hL hw) (by omega))
    clear hL hl hlen
    generalize simT an ad bn bd = s at *
    obtain ⟨s1, s2, s3⟩ := s
    generalize nearT an ad p = t at *
    obtain ⟨t1, t2, t3⟩ := t
    generalize ofT l = o at *
    obtain ⟨o1, o2, o3⟩ := o
    simp only at C1 C2 C3 C4 C7 C8
    by_cases hc : chk an ad = 0
    · have T1 := Lib.hid (fun w => terms_ok an ad w hc)
      have T2 := Lib.hid (fun w => rterms_ok an ad w hc)
      have hq : (quo an ad).length ≤ 50 := quo_len (fit_of_chk hc).dhi
      clear hc
      go_enter Try.func6, Try.ntmps6
      go_wp2_with fail
      refine (C1.out _).mono ?_; rintro e w1 ⟨rfl, hb1⟩; obtain ⟨hc1, hf1⟩ := bcell hb1; have hs1 := hb1.size; (try simp at hs1); (try have hz10 : w.heap.size < w1.heap.size := by omega); (try have hz11 : w.heap.size + 1 < w1.heap.size := by omega); (try have hz12 : w.heap.size + 1 + 1 < w1.heap.size := by omega); (try have hz13 : w.heap.size + 1 + 1 + 1 < w1.heap.size := by omega); (try have hz14 : w.heap.size + 1 + 1 + 1 + 1 < w1.heap.size := by omega); (try have hz15 : w.heap.size + 1 + 1 + 1 + 1 + 1 < w1.heap.size := by omega)
      go_wp2_with fail
      refine (C2.out _).mono ?_; rintro e w2 ⟨rfl, hb2⟩; obtain ⟨hc2, hf2⟩ := bcell hb2; have hs2 := hb2.size; (try simp at hs2); (try have hz20 : w.heap.size < w2.heap.size := by omega); (try have hz21 : w.heap.size + 1 < w2.heap.size := by omega); (try have hz22 : w.heap.size + 1 + 1 < w2.heap.size := by omega); (try have hz23 : w.heap.size + 1 + 1 + 1 < w2.heap.size := by omega); (try have hz24 : w.heap.size + 1 + 1 + 1 + 1 < w2.heap.size := by omega); (try have hz25 : w.heap.size + 1 + 1 + 1 + 1 + 1 < w2.heap.size := by omega); (try have hy1_2 : w1.heap.size < w2.heap.size := by omega)
      have ne1 : ¬ w1.heap.size = w2.heap.size := by omega
      have ne2 : ¬ w2.heap.size = w1.heap.size := by omega
      have ne3 : ¬ w.heap.size = w1.heap.size := by omega
      have ne4 : ¬ w.heap.size = w2.heap.size := by omega
      have ne5 : ¬ w1.heap.size = w.heap.size := by omega
      have ne6 : ¬ w2.heap.size = w.heap.size := by omega
      have lt1 : w1.heap.size < w2.heap.size + 1 := by omega
      have lt2 : w.heap.size < w2.heap.size + 1 := by omega
      have lt3 : w.heap.size + 1 < w2.heap.size + 1 := by omega
      go_wp2_with fail
      refine (C3.out _).mono ?_; rintro e w3 ⟨rfl, hb3⟩; obtain ⟨hc3, hf3⟩ := bcell hb3; have hs3 := hb3.size; (try simp at hs3); (try have hz30 : w.heap.size < w3.heap.size := by omega); (try have hz31 : w.heap.size + 1 < w3.heap.size := by omega); (try have hz32 : w.heap.size + 1 + 1 < w3.heap.size := by omega); (try have hz33 : w.heap.size + 1 + 1 + 1 < w3.heap.size := by omega); (try have hz34 : w.heap.size + 1 + 1 + 1 + 1 < w3.heap.size := by omega); (try have hz35 : w.heap.size + 1 + 1 + 1 + 1 + 1 < w3.heap.size := by omega); (try have hy1_3 : w1.heap.size < w3.heap.size := by omega); (try have hy2_3 : w2.heap.size < w3.heap.size := by omega)
      go_wp2_with fail
      refine (C4.out _).mono ?_; rintro e w4 ⟨rfl, hb4⟩; obtain ⟨hc4, hf4⟩ := bcell hb4; have hs4 := hb4.size; (try simp at hs4); (try have hz40 : w.heap.size < w4.heap.size := by omega); (try have hz41 : w.heap.size + 1 < w4.heap.size := by omega); (try have hz42 : w.heap.size + 1 + 1 < w4.heap.size := by omega); (try have hz43 : w.heap.size + 1 + 1 + 1 < w4.heap.size := by omega); (try have hz44 : w.heap.size + 1 + 1 + 1 + 1 < w4.heap.size := by omega); (try have hz45 : w.heap.size + 1 + 1 + 1 + 1 + 1 < w4.heap.size := by omega); (try have hy1_4 : w1.heap.size < w4.heap.size := by omega); (try have hy2_4 : w2.heap.size < w4.heap.size := by omega); (try have hy3_4 : w3.heap.size < w4.heap.size := by omega)
      go_wp2_with fail
      refine (T1.out _).mono ?_; rintro e w5 ⟨v5, rfl, hv5, hb5, ho5⟩; obtain ⟨hc5, hf5⟩ := bcell hb5; have hs5 := hb5.size; (try simp at hs5)
      have HV5 := Lib.hid hv5; clear hv5
      have HO5 := Lib.hid ho5; clear ho5
      have x0 : w5.cell? ⟨w1.heap.size, 0, none⟩ = some (.int .i64 t1) := (hc5 _ _ (by simp; omega)).trans (by simp (maxDischargeDepth := 8) [go_sem, *])
      have x1 : w5.cell? ⟨w1.heap.size, 1, none⟩ = some (.int .i64 t2) := (hc5 _ _ (by simp; omega)).trans (by simp (maxDischargeDepth := 8) [go_sem, *])
      have y0 : w5.cell? ⟨w2.heap.size, 0, none⟩ = some (.int .i64 t1) := (hc5 _ _ (by simp; omega)).trans (by simp (maxDischargeDepth := 8) [go_sem, *])
      have y1 : w5.cell? ⟨w2.heap.size, 1, none⟩ = some (.int .i64 t2) := (hc5 _ _ (by simp; omega)).trans (by simp (maxDischargeDepth := 8) [go_sem, *])
      have a0 : w5.cell? ⟨w.heap.size, 0, none⟩ = some (.int .i64 an) := (hc5 _ _ (by simp; omega)).trans (by simp (maxDischargeDepth := 8) [go_sem, *])
      have a1 : w5.cell? ⟨w.heap.size, 1, none⟩ = some (.int .i64 ad) := (hc5 _ _ (by simp; omega)).trans (by simp (maxDischargeDepth := 8) [go_sem, *])
      have u0 : w5.frozen? ⟨w1.heap.size, 0, none⟩ = false := (hf5 _ _ (by simp; omega)).trans (by simp (maxDischargeDepth := 8) [go_sem, *])
      have u1 : w5.frozen? ⟨w1.heap.size, 1, none⟩ = false := (hf5 _ _ (by simp; omega)).trans (by simp (maxDischargeDepth := 8) [go_sem, *])
      have v0 : w5.frozen? ⟨w2.heap.size, 0, none⟩ = false := (hf5 _ _ (by simp; omega)).trans (by simp (maxDischargeDepth := 8) [go_sem, *])
      have v1 : w5.frozen? ⟨w2.heap.size, 1, none⟩ = false := (hf5 _ _ (by simp; omega)).trans (by simp (maxDischargeDepth := 8) [go_sem, *])
      have B5 : Below w.heap.size w w5 := by ((repeat' (first | exact Below.refl _ _ | assumption | refine Below.setCell ?_ ?_ _ | refine bdrewN ?_ _ | refine Below.drew ?_ | refine Below.alloc ?_ ?_ _ | refine bbehind ?_ (by assumption) ?_)); all_goals first | (simp; done) | (simp; omega) | omega)
      have r1 : w1.heap.size < w5.heap.size := by omega
      have r2 : w2.heap.size < w5.heap.size := by omega
      have r3 : w.heap.size < w5.heap.size := by omega
      clear hc1 hc2 hc3 hc4 hc5 hf1 hf2 hf3 hf4 hf5 hb1 hb2 hb3 hb4 hb5
      go_wp2_with fail
      refine (T2.out _).mono ?_; rintro e w6 ⟨v6, rfl, hv6, hb6, ho6⟩; obtain ⟨hc6, hf6⟩ := bcell hb6; have hs6 := hb6.size; (try simp at hs6)
      have HV6 := Lib.hid hv6; clear hv6
      have HO6 := Lib.hid ho6; clear ho6
      have L56 := Lib.hid (ints_below HV5.out hb6)
      have r4 : w1.heap.size < w6.heap.size := by omega
      have r5 : w2.heap.size < w6.heap.size := by omega
      have r6 : w.heap.size < w6.heap.size := by omega
      go_wp2_with fail
      refine (C7.out _ (by ((repeat' (first | exact Below.refl _ _ | assumption | refine Below.setCell ?_ ?_ _ | refine bdrewN ?_ _ | refine Below.drew ?_ | refine Below.alloc ?_ ?_ _ | refine bbehind ?_ (by assumption) ?_)); all_goals first | (simp; done) | (simp; omega) | omega))).mono ?_; rintro e w7 ⟨rfl, hb7⟩; obtain ⟨hc7, hf7⟩ := bcell hb7; have hs7 := hb7.size; (try simp at hs7); (try have hz70 : w.heap.size < w7.heap.size := by omega); (try have hz71 : w.heap.size + 1 < w7.heap.size := by omega); (try have hz72 : w.heap.size + 1 + 1 < w7.heap.size := by omega); (try have hz73 : w.heap.size + 1 + 1 + 1 < w7.heap.size := by omega); (try have hz74 : w.heap.size + 1 + 1 + 1 + 1 < w7.heap.size := by omega); (try have hz75 : w.heap.size + 1 + 1 + 1 + 1 + 1 < w7.heap.size := by omega); (try have hy1_7 : w1.heap.size < w7.heap.size := by omega); (try have hy2_7 : w2.heap.size < w7.heap.size := by omega); (try have hy3_7 : w3.heap.size < w7.heap.size := by omega); (try have hy4_7 : w4.heap.size < w7.heap.size := by omega); (try have hy5_7 : w5.heap.size < w7.heap.size := by omega); (try have hy6_7 : w6.heap.size < w7.heap.size := by omega)
      go_wp2_with fail
      refine (C8.out _ (by ((repeat' (first | exact Below.refl _ _ | assumption | refine Below.setCell ?_ ?_ _ | refine bdrewN ?_ _ | refine Below.drew ?_ | refine Below.alloc ?_ ?_ _ | refine bbehind ?_ (by assumption) ?_)); all_goals first | (simp; done) | (simp; omega) | omega))).mono ?_; rintro e w8 ⟨rfl, hb8⟩; obtain ⟨hc8, hf8⟩ := bcell hb8; have hs8 := hb8.size; (try simp at hs8); (try have hz80 : w.heap.size < w8.heap.size := by omega); (try have hz81 : w.heap.size + 1 < w8.heap.size := by omega); (try have hz82 : w.heap.size + 1 + 1 < w8.heap.size := by omega); (try have hz83 : w.heap.size + 1 + 1 + 1 < w8.heap.size := by omega); (try have hz84 : w.heap.size + 1 + 1 + 1 + 1 < w8.heap.size := by omega); (try have hz85 : w.heap.size + 1 + 1 + 1 + 1 + 1 < w8.heap.size := by omega); (try have hy1_8 : w1.heap.size < w8.heap.size := by omega); (try have hy2_8 : w2.heap.size < w8.heap.size := by omega); (try have hy3_8 : w3.heap.size < w8.heap.size := by omega); (try have hy4_8 : w4.heap.size < w8.heap.size := by omega); (try have hy5_8 : w5.heap.size < w8.heap.size := by omega); (try have hy6_8 : w6.heap.size < w8.heap.size := by omega); (try have hy7_8 : w7.heap.size < w8.heap.size := by omega)
      have q56 : w5.heap.size ≤ w6.heap.size := hb6.size
      have z4 : w2.heap.size < w4.heap.size := by omega
      go_wp2_with fail
      have K8 : ∀ k, k < w6.heap.size → k ≠ w1.heap.size → k ≠ w2.heap.size → ((w8.setCell ⟨w2.heap.size, 0, none⟩ (.int .i64 o1)).setCell ⟨w2.heap.size, 1, none⟩ (.int .i64 o2)).heap[k]? = w6.heap[k]? := by
        intro k h1 h2 h3
        rw [Below.heap_setCell _ _ _ _ h3, Below.heap_setCell _ _ _ _ h3, hb8.block k (by simp; omega), Below.heap_setCell _ _ _ _ h2, Below.heap_setCell _ _ _ _ h2, hb7.block k (by omega)]
      have V5 := ints_two L56.out HO5.out (p := w1.heap.size) (q := w2.heap.size) (by simp; omega) (by simp; omega) K8 (by simp; omega)
      have V6 := ints_two HV6.out HO6.out (p := w1.heap.size) (q := w2.heap.size) (by first | omega | (simp; omega)) (by first | omega | (simp; omega)) K8 (by simp; omega)
      have A := Lib.hid (alike_any v5 v6 _ _ _ V5 V6 (by omega) (by omega))
      clear V5 V6 K8
      rw [show alikeB (quo an ad) (quo an ad) = true from decide_eq_true rfl] at A
      refine (A.out).mono ?_; rintro e w9 ⟨rfl, hb9⟩; obtain ⟨hc9, hf9⟩ := bcell hb9; have hs9 := hb9.size; (try simp at hs9); (try have hz90 : w.heap.size < w9.heap.size := by omega); (try have hz91 : w.heap.size + 1 < w9.heap.size := by omega); (try have hz92 : w.heap.size + 1 + 1 < w9.heap.size := by omega); (try have hz93 : w.heap.size + 1 + 1 + 1 < w9.heap.size := by omega); (try have hz94 : w.heap.size + 1 + 1 + 1 + 1 < w9.heap.size := by omega); (try have hz95 : w.heap.size + 1 + 1 + 1 + 1 + 1 < w9.heap.size := by omega); (try have hy1_9 : w1.heap.size < w9.heap.size := by omega); (try have hy2_9 : w2.heap.size < w9.heap.size := by omega); (try have hy3_9 : w3.heap.size < w9.heap.size := by omega); (try have hy4_9 : w4.heap.size < w9.heap.size := by omega); (try have hy5_9 : w5.heap.size < w9.heap.size := by omega); (try have hy6_9 : w6.heap.size < w9.heap.size := by omega); (try have hy7_9 : w7.heap.size < w9.heap.size := by omega); (try have hy8_9 : w8.heap.size < w9.heap.size := by omega)
      go_wp2_with fail
      refine (summed_any _).mono ?_; rintro e w10 ⟨rfl, hb10⟩; obtain ⟨hc10, hf10⟩ := bcell hb10; have hs10 := hb10.size; (try simp at hs10); (try have hz100 : w.heap.size < w10.heap.size := by omega); (try have hz101 : w.heap.size + 1 < w10.heap.size := by omega); (try have hz102 : w.heap.size + 1 + 1 < w10.heap.size := by omega); (try have hz103 : w.heap.size + 1 + 1 + 1 < w10.heap.size := by omega); (try have hz104 : w.heap.size + 1 + 1 + 1 + 1 < w10.heap.size := by omega); (try have hz105 : w.heap.size + 1 + 1 + 1 + 1 + 1 < w10.heap.size := by omega); (try have hy1_10 : w1.heap.size < w10.heap.size := by omega); (try have hy2_10 : w2.heap.size < w10.heap.size := by omega); (try have hy3_10 : w3.heap.size < w10.heap.size := by omega); (try have hy4_10 : w4.heap.size < w10.heap.size := by omega); (try have hy5_10 : w5.heap.size < w10.heap.size := by omega); (try have hy6_10 : w6.heap.size < w10.heap.size := by omega); (try have hy7_10 : w7.heap.size < w10.heap.size := by omega); (try have hy8_10 : w8.heap.size < w10.heap.size := by omega); (try have hy9_10 : w9.heap.size < w10.heap.size := by omega)
      go_wp2
      go_ret
      exact ⟨rfl, by ((repeat' (first | exact Below.refl _ _ | assumption | refine Below.setCell ?_ ?_ _ | refine bdrewN ?_ _ | refine Below.drew ?_ | refine Below.alloc ?_ ?_ _ | refine bbehind ?_ (by assumption) ?_)); all_goals first | (simp; done) | (simp; omega) | omega)⟩
    · have T1 := Lib.hid (fun w => terms_no an ad w hc)
      have T2 := Lib.hid (fun w => rterms_no an ad w hc)
      generalize chk an ad = E at *
      clear hc
      go_enter Try.func6, Try.ntmps6
      go_wp2_with fail
      refine (C1.out _).mono ?_; rintro e w1 ⟨rfl, hb1⟩; obtain ⟨hc1, hf1⟩ := bcell hb1; have hs1 := hb1.size; (try simp at hs1); (try have hz10 : w.heap.size < w1.heap.size := by omega); (try have hz11 : w.heap.size + 1 < w1.heap.size := by omega); (try have hz12 : w.heap.size + 1 + 1 < w1.heap.size := by omega); (try have hz13 : w.heap.size + 1 + 1 + 1 < w1.heap.size := by omega); (try have hz14 : w.heap.size + 1 + 1 + 1 + 1 < w1.heap.size := by omega); (try have hz15 : w.heap.size + 1 + 1 + 1 + 1 + 1 < w1.heap.size := by omega)
      go_wp2_with fail
      refine (C2.out _).mono ?_; rintro e w2 ⟨rfl, hb2⟩; obtain ⟨hc2, hf2⟩ := bcell hb2; have hs2 := hb2.size; (try simp at hs2); (try have hz20 : w.heap.size < w2.heap.size := by omega); (try have hz21 : w.heap.size + 1 < w2.heap.size := by omega); (try have hz22 : w.heap.size + 1 + 1 < w2.heap.size := by omega); (try have hz23 : w.heap.size + 1 + 1 + 1 < w2.heap.size := by omega); (try have hz24 : w.heap.size + 1 + 1 + 1 + 1 < w2.heap.size := by omega); (try have hz25 : w.heap.size + 1 + 1 + 1 + 1 + 1 < w2.heap.size := by omega); (try have hy1_2 : w1.heap.size < w2.heap.size := by omega)
      have ne1 : ¬ w1.heap.size = w2.heap.size := by omega
      have ne2 : ¬ w2.heap.size = w1.heap.size := by omega
      have ne3 : ¬ w.heap.size = w1.heap.size := by omega
      have ne4 : ¬ w.heap.size = w2.heap.size := by omega
      have ne5 : ¬ w1.heap.size = w.heap.size := by omega
      have ne6 : ¬ w2.heap.size = w.heap.size := by omega
      have lt1 : w1.heap.size < w2.heap.size + 1 := by omega
      have lt2 : w.heap.size < w2.heap.size + 1 := by omega
      have lt3 : w.heap.size + 1 < w2.heap.size + 1 := by omega
      go_wp2_with fail
      refine (C3.out _).mono ?_; rintro e w3 ⟨rfl, hb3⟩; obtain ⟨hc3, hf3⟩ := bcell hb3; have hs3 := hb3.size; (try simp at hs3); (try have hz30 : w.heap.size < w3.heap.size := by omega); (try have hz31 : w.heap.size + 1 < w3.heap.size := by omega); (try have hz32 : w.heap.size + 1 + 1 < w3.heap.size := by omega); (try have hz33 : w.heap.size + 1 + 1 + 1 < w3.heap.size := by omega); (try have hz34 : w.heap.size + 1 + 1 + 1 + 1 < w3.heap.size := by omega); (try have hz35 : w.heap.size + 1 + 1 + 1 + 1 + 1 < w3.heap.size := by omega); (try have hy1_3 : w1.heap.size < w3.heap.size := by omega); (try have hy2_3 : w2.heap.size < w3.heap.size := by omega)
      go_wp2_with fail
      refine (C4.out _).mono ?_; rintro e w4 ⟨rfl, hb4⟩; obtain ⟨hc4, hf4⟩ := bcell hb4; have hs4 := hb4.size; (try simp at hs4); (try have hz40 : w.heap.size < w4.heap.size := by omega); (try have hz41 : w.heap.size + 1 < w4.heap.size := by omega); (try have hz42 : w.heap.size + 1 + 1 < w4.heap.size := by omega); (try have hz43 : w.heap.size + 1 + 1 + 1 < w4.heap.size := by omega); (try have hz44 : w.heap.size + 1 + 1 + 1 + 1 < w4.heap.size := by omega); (try have hz45 : w.heap.size + 1 + 1 + 1 + 1 + 1 < w4.heap.size := by omega); (try have hy1_4 : w1.heap.size < w4.heap.size := by omega); (try have hy2_4 : w2.heap.size < w4.heap.size := by omega); (try have hy3_4 : w3.heap.size < w4.heap.size := by omega)
      go_wp2_with fail
      refine (T1.out _).mono ?_; rintro e w5 ⟨rfl, hb5⟩; obtain ⟨hc5, hf5⟩ := bcell hb5; have hs5 := hb5.size; (try simp at hs5); (try have hz50 : w.heap.size < w5.heap.size := by omega); (try have hz51 : w.heap.size + 1 < w5.heap.size := by omega); (try have hz52 : w.heap.size + 1 + 1 < w5.heap.size := by omega); (try have hz53 : w.heap.size + 1 + 1 + 1 < w5.heap.size := by omega); (try have hz54 : w.heap.size + 1 + 1 + 1 + 1 < w5.heap.size := by omega); (try have hz55 : w.heap.size + 1 + 1 + 1 + 1 + 1 < w5.heap.size := by omega); (try have hy1_5 : w1.heap.size < w5.heap.size := by omega); (try have hy2_5 : w2.heap.size < w5.heap.size := by omega); (try have hy3_5 : w3.heap.size < w5.heap.size := by omega); (try have hy4_5 : w4.heap.size < w5.heap.size := by omega)
      have x0 : w5.cell? ⟨w1.heap.size, 0, none⟩ = some (.int .i64 t1) := (hc5 _ _ (by simp; omega)).trans (by simp (maxDischargeDepth := 8) [go_sem, *])
      have x1 : w5.cell? ⟨w1.heap.size, 1, none⟩ = some (.int .i64 t2) := (hc5 _ _ (by simp; omega)).trans (by simp (maxDischargeDepth := 8) [go_sem, *])
      have y0 : w5.cell? ⟨w2.heap.size, 0, none⟩ = some (.int .i64 t1) := (hc5 _ _ (by simp; omega)).trans (by simp (maxDischargeDepth := 8) [go_sem, *])
      have y1 : w5.cell? ⟨w2.heap.size, 1, none⟩ = some (.int .i64 t2) := (hc5 _ _ (by simp; omega)).trans (by simp (maxDischargeDepth := 8) [go_sem, *])
      have a0 : w5.cell? ⟨w.heap.size, 0, none⟩ = some (.int .i64 an) := (hc5 _ _ (by simp; omega)).trans (by simp (maxDischargeDepth := 8) [go_sem, *])
      have a1 : w5.cell? ⟨w.heap.size, 1, none⟩ = some (.int .i64 ad) := (hc5 _ _ (by simp; omega)).trans (by simp (maxDischargeDepth := 8) [go_sem, *])
      have u0 : w5.frozen? ⟨w1.heap.size, 0, none⟩ = false := (hf5 _ _ (by simp; omega)).trans (by simp (maxDischargeDepth := 8) [go_sem, *])
      have u1 : w5.frozen? ⟨w1.heap.size, 1, none⟩ = false := (hf5 _ _ (by simp; omega)).trans (by simp (maxDischargeDepth := 8) [go_sem, *])
      have v0 : w5.frozen? ⟨w2.heap.size, 0, none⟩ = false := (hf5 _ _ (by simp; omega)).trans (by simp (maxDischargeDepth := 8) [go_sem, *])
      have v1 : w5.frozen? ⟨w2.heap.size, 1, none⟩ = false := (hf5 _ _ (by simp; omega)).trans (by simp (maxDischargeDepth := 8) [go_sem, *])
      have B5 : Below w.heap.size w w5 := by ((repeat' (first | exact Below.refl _ _ | assumption | refine Below.setCell ?_ ?_ _ | refine bdrewN ?_ _ | refine Below.drew ?_ | refine Below.alloc ?_ ?_ _ | refine bbehind ?_ (by assumption) ?_)); all_goals first | (simp; done) | (simp; omega) | omega)
      have r1 : w1.heap.size < w5.heap.size := by omega
      have r2 : w2.heap.size < w5.heap.size := by omega
      have r3 : w.heap.size < w5.heap.size := by omega
      clear hc1 hc2 hc3 hc4 hc5 hf1 hf2 hf3 hf4 hf5 hb1 hb2 hb3 hb4 hb5
      go_wp2_with fail
      refine (T2.out _).mono ?_; rintro e w6 ⟨rfl, hb6⟩; obtain ⟨hc6, hf6⟩ := bcell hb6; have hs6 := hb6.size; (try simp at hs6); (try have hz60 : w.heap.size < w6.heap.size := by omega); (try have hz61 : w.heap.size + 1 < w6.heap.size := by omega); (try have hz62 : w.heap.size + 1 + 1 < w6.heap.size := by omega); (try have hz63 : w.heap.size + 1 + 1 + 1 < w6.heap.size := by omega); (try have hz64 : w.heap.size + 1 + 1 + 1 + 1 < w6.heap.size := by omega); (try have hz65 : w.heap.size + 1 + 1 + 1 + 1 + 1 < w6.heap.size := by omega); (try have hy1_6 : w1.heap.size < w6.heap.size := by omega); (try have hy2_6 : w2.heap.size < w6.heap.size := by omega); (try have hy3_6 : w3.heap.size < w6.heap.size := by omega); (try have hy4_6 : w4.heap.size < w6.heap.size := by omega); (try have hy5_6 : w5.heap.size < w6.heap.size := by omega)
      go_wp2_with fail
      refine (C7.out _ (by ((repeat' (first | exact Below.refl _ _ | assumption | refine Below.setCell ?_ ?_ _ | refine bdrewN ?_ _ | refine Below.drew ?_ | refine Below.alloc ?_ ?_ _ | refine bbehind ?_ (by assumption) ?_)); all_goals first | (simp; done) | (simp; omega) | omega))).mono ?_; rintro e w7 ⟨rfl, hb7⟩; obtain ⟨hc7, hf7⟩ := bcell hb7; have hs7 := hb7.size; (try simp at hs7); (try have hz70 : w.heap.size < w7.heap.size := by omega); (try have hz71 : w.heap.size + 1 < w7.heap.size := by omega); (try have hz72 : w.heap.size + 1 + 1 < w7.heap.size := by omega); (try have hz73 : w.heap.size + 1 + 1 + 1 < w7.heap.size := by omega); (try have hz74 : w.heap.size + 1 + 1 + 1 + 1 < w7.heap.size := by omega); (try have hz75 : w.heap.size + 1 + 1 + 1 + 1 + 1 < w7.heap.size := by omega); (try have hy1_7 : w1.heap.size < w7.heap.size := by omega); (try have hy2_7 : w2.heap.size < w7.heap.size := by omega); (try have hy3_7 : w3.heap.size < w7.heap.size := by omega); (try have hy4_7 : w4.heap.size < w7.heap.size := by omega); (try have hy5_7 : w5.heap.size < w7.heap.size := by omega); (try have hy6_7 : w6.heap.size < w7.heap.size := by omega)
      go_wp2_with fail
      refine (C8.out _ (by ((repeat' (first | exact Below.refl _ _ | assumption | refine Below.setCell ?_ ?_ _ | refine bdrewN ?_ _ | refine Below.drew ?_ | refine Below.alloc ?_ ?_ _ | refine bbehind ?_ (by assumption) ?_)); all_goals first | (simp; done) | (simp; omega) | omega))).mono ?_; rintro e w8 ⟨rfl, hb8⟩; obtain ⟨hc8, hf8⟩ := bcell hb8; have hs8 := hb8.size; (try simp at hs8); (try have hz80 : w.heap.size < w8.heap.size := by omega); (try have hz81 : w.heap.size + 1 < w8.heap.size := by omega); (try have hz82 : w.heap.size + 1 + 1 < w8.heap.size := by omega); (try have hz83 : w.heap.size + 1 + 1 + 1 < w8.heap.size := by omega); (try have hz84 : w.heap.size + 1 + 1 + 1 + 1 < w8.heap.size := by omega); (try have hz85 : w.heap.size + 1 + 1 + 1 + 1 + 1 < w8.heap.size := by omega); (try have hy1_8 : w1.heap.size < w8.heap.size := by omega); (try have hy2_8 : w2.heap.size < w8.heap.size := by omega); (try have hy3_8 : w3.heap.size < w8.heap.size := by omega); (try have hy4_8 : w4.heap.size < w8.heap.size := by omega); (try have hy5_8 : w5.heap.size < w8.heap.size := by omega); (try have hy6_8 : w6.heap.size < w8.heap.size := by omega); (try have hy7_8 : w7.heap.size < w8.heap.size := by omega)
      have A := Lib.hid (fun W => alike_any (.slice none 0 0) (.slice none 0 0) [] [] W (.inl ⟨_, _, rfl, rfl⟩) (.inl ⟨_, _, rfl, rfl⟩) (by simp) (by simp))
      rw [show alikeB [] [] = true from decide_eq_true rfl] at A
      go_wp2_with fail
      refine (A.out _).mono ?_; rintro e w9 ⟨rfl, hb9⟩; obtain ⟨hc9, hf9⟩ := bcell hb9; have hs9 := hb9.size; (try simp at hs9); (try have hz90 : w.heap.size < w9.heap.size := by omega); (try have hz91 : w.heap.size + 1 < w9.heap.size := by omega); (try have hz92 : w.heap.size + 1 + 1 < w9.heap.size := by omega); (try have hz93 : w.heap.size + 1 + 1 + 1 < w9.heap.size := by omega); (try have hz94 : w.heap.size + 1 + 1 + 1 + 1 < w9.heap.size := by omega); (try have hz95 : w.heap.size + 1 + 1 + 1 + 1 + 1 < w9.heap.size := by omega); (try have hy1_9 : w1.heap.size < w9.heap.size := by omega); (try have hy2_9 : w2.heap.size < w9.heap.size := by omega); (try have hy3_9 : w3.heap.size < w9.heap.size := by omega); (try have hy4_9 : w4.heap.size < w9.heap.size := by omega); (try have hy5_9 : w5.heap.size < w9.heap.size := by omega); (try have hy6_9 : w6.heap.size < w9.heap.size := by omega); (try have hy7_9 : w7.heap.size < w9.heap.size := by omega); (try have hy8_9 : w8.heap.size < w9.heap.size := by omega)
      go_wp2_with fail
      refine (summed_any _).mono ?_; rintro e w10 ⟨rfl, hb10⟩; obtain ⟨hc10, hf10⟩ := bcell hb10; have hs10 := hb10.size; (try simp at hs10); (try have hz100 : w.heap.size < w10.heap.size := by omega); (try have hz101 : w.heap.size + 1 < w10.heap.size := by omega); (try have hz102 : w.heap.size + 1 + 1 < w10.heap.size := by omega); (try have hz103 : w.heap.size + 1 + 1 + 1 < w10.heap.size := by omega); (try have hz104 : w.heap.size + 1 + 1 + 1 + 1 < w10.heap.size := by omega); (try have hz105 : w.heap.size + 1 + 1 + 1 + 1 + 1 < w10.heap.size := by omega); (try have hy1_10 : w1.heap.size < w10.heap.size := by omega); (try have hy2_10 : w2.heap.size < w10.heap.size := by omega); (try have hy3_10 : w3.heap.size < w10.heap.size := by omega); (try have hy4_10 : w4.heap.size < w10.heap.size := by omega); (try have hy5_10 : w5.heap.size < w10.heap.size := by omega); (try have hy6_10 : w6.heap.size < w10.heap.size := by omega); (try have hy7_10 : w7.heap.size < w10.heap.size := by omega); (try have hy8_10 : w8.heap.size < w10.heap.size := by omega); (try have hy9_10 : w9.heap.size < w10.heap.size := by omega)
      go_wp2
      go_ret
      exact ⟨rfl, by ((repeat' (first | exact Below.refl _ _ | assumption | refine Below.setCell ?_ ?_ _ | refine bdrewN ?_ _ | refine Below.drew ?_ | refine Below.alloc ?_ ?_ _ | refine bbehind ?_ (by assumption) ?_)); all_goals first | (simp; done) | (simp; omega) | omega)⟩
end Go.Proofs.Ytgefidffhdanhaa
