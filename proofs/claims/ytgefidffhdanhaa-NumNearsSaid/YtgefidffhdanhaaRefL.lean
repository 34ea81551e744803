/- the reference's Near. -/
import Derived.Test.YtgefidffhdanhaaNumNr
import Derived.Test.YtgefidffhdanhaaLawSimple
import Derived.Deep.DeepCutAuto
import Derived.Test.YtgefidffhdanhaaRefK2
import Derived.IntWalk
import Derived.Test.YtgefidffhdanhaaNumX
namespace Go.Proofs.Ytgefidffhdanhaa
open Go.RowKit Go.BigFrame

set_option maxHeartbeats 1000000 in
theorem gap_any (an ad n d : Int) (w : World) (h1 : -1000000000000000000 ≤ an * d) (h2 : an * d ≤ 1000000000000000000) (h3 : -1000000000000000000 ≤ n * ad) (h4 : n * ad ≤ 1000000000000000000) :
    Calls Try.prog 107 #[.agg #[.int .i64 an, .int .i64 ad], .int .i64 n, .int .i64 d] w fun e w' => e = .returned (.int .i64 (dist an ad (n, d))) ∧ Below w.heap.size w w' := by
  have HD := Lib.hid (show dist an ad (n, d) = ((n * ad - an * d).natAbs : Int) from rfl)
  by_cases h : an * d - n * ad < 0
  · go_enter Try.func107, Try.ntmps107
    go_wp2
    go_ret
    exact ⟨congrArg (fun z : Int => Ending.returned (.int .i64 z)) (by rw [HD.out]; omega), by ((repeat' (first | exact Below.refl _ _ | assumption | refine Below.setCell ?_ ?_ _ | refine bdrewN ?_ _ | refine Below.drew ?_ | refine Below.alloc ?_ ?_ _ | refine bbehind ?_ (by assumption) ?_)); all_goals first | (simp; done) | (simp; omega) | omega)⟩
  · go_enter Try.func107, Try.ntmps107
    go_wp2
    go_ret
    exact ⟨congrArg (fun z : Int => Ending.returned (.int .i64 z)) (by rw [HD.out]; omega), by ((repeat' (first | exact Below.refl _ _ | assumption | refine Below.setCell ?_ ?_ _ | refine bdrewN ?_ _ | refine Below.drew ?_ | refine Below.alloc ?_ ?_ _ | refine bbehind ?_ (by assumption) ?_)); all_goals first | (simp; done) | (simp; omega) | omega)⟩
end Go.Proofs.Ytgefidffhdanhaa

/- the reference's Near. -/
namespace Go.Proofs.Ytgefidffhdanhaa
open Go.RowKit Go.BigFrame

theorem cand_fit {an ad : Int} {m : Nat} {x : Int × Int} (f : Fit an ad) (hm : (m : Int) < ad) (h : Cand an ad m x) : Fit x.1 x.2 := by
  obtain ⟨c1, c2, c3⟩ := h
  have f1 := f.nlo; have f2 := f.nhi; have f3 := f.dhi; have pd := f.dlo
  refine ⟨?_, ?_, c1, by omega⟩
  · refine Int.le_of_mul_le_mul_right (a := ad) ?_ (by omega)
    have a1 : -1000000000 * x.2 ≤ an * x.2 := Int.mul_le_mul_of_nonneg_right f1 (by omega)
    omega
  · refine Int.le_of_mul_le_mul_right (a := ad) ?_ (by omega)
    have a1 : an * x.2 ≤ 1000000000 * x.2 := Int.mul_le_mul_of_nonneg_right f2 (by omega)
    omega

/-- what the loop's best is: none yet, or a candidate. -/
def BestIs (an ad : Int) (m : Nat) (x y : Int) : Prop := (x = 0 ∧ y = 0) ∨ Cand an ad m (x, y)
theorem best_gap {an ad x y : Int} {m : Nat} (f : Fit an ad) (hm : m ≤ 1000) (h : BestIs an ad m x y) (w : World) :
    Calls Try.prog 107 #[.agg #[.int .i64 an, .int .i64 ad], .int .i64 x, .int .i64 y] w fun e w' => e = .returned (.int .i64 (dist an ad (x, y))) ∧ Below w.heap.size w w' := by
  rcases h with ⟨rfl, rfl⟩ | h
  · exact gap_any _ _ _ _ w (by omega) (by omega) (by omega) (by omega)
  · obtain ⟨b1, b2, _⟩ := cand_bd f hm h
    simp only at b1 b2
    exact gap_any _ _ _ _ w (by omega) (by omega) (by omega) (by omega)
theorem best_dist {an ad x y : Int} {m : Nat} (f : Fit an ad) (hm : m ≤ 1000) (h : BestIs an ad m x y) : 0 ≤ dist an ad (x, y) ∧ dist an ad (x, y) ≤ 1000000000 ∧ 0 ≤ y ∧ y ≤ 1000 := by
  have f4 := f.dhi
  rcases h with ⟨rfl, rfl⟩ | h
  · have : dist an ad (0, 0) = 0 := by unfold dist; simp
    rw [this]; omega
  · obtain ⟨_, _, _, b3, b4⟩ := cand_bd f hm h
    have h1 := h.lo; have h2 := h.hi
    simp only at b3 b4 h1 h2
    omega

/-- what the cells hold behind so many candidates. -/
structure RNear (w : World) (B : Nat) (an ad : Int) (m : Nat) (pre : List (Int × Int)) (x y : Int) (wr : World) : Prop where
  hb : Below w.heap.size w wr
  s2 : B < wr.heap.size
  is : BestIs an ad m x y
  pk : pick an ad pre none = if y = 0 then none else some (x, y)
  p0 : wr.cell? ⟨B, 0, none⟩ = some (.int .i64 x)
  p1 : wr.cell? ⟨B, 1, none⟩ = some (.int .i64 y)
  a0 : wr.cell? ⟨w.heap.size, 0, none⟩ = some (.int .i64 an)
  a1 : wr.cell? ⟨w.heap.size, 1, none⟩ = some (.int .i64 ad)
  r0 : wr.cell? ⟨w.heap.size + 1, 0, none⟩ = some (.int .i64 0)
  r1 : wr.cell? ⟨w.heap.size + 1, 1, none⟩ = some (.int .i64 0)
  f0 : wr.frozen? ⟨B, 0, none⟩ = false
  f1 : wr.frozen? ⟨B, 1, none⟩ = false
  g0 : wr.frozen? ⟨w.heap.size + 1, 0, none⟩ = false
  g1 : wr.frozen? ⟨w.heap.size + 1, 1, none⟩ = false

theorem pick_new {an ad : Int} {pre : List (Int × Int)} {c : Int × Int} (hc : ¬ c.2 = 0) (h : pick an ad pre none = none) : pick an ad (pre ++ [c]) none = if c.2 = 0 then none else some (c.1, c.2) := by
  rw [pick_snoc, h, if_neg hc]
theorem pick_two {an ad x y : Int} {pre : List (Int × Int)} {c : Int × Int} (hy : ¬ y = 0) (h : pick an ad pre none = if y = 0 then none else some (x, y)) :
    pick an ad (pre ++ [c]) none = some (if betterM an ad c (x, y) = true then c else (x, y)) := by
  rw [pick_snoc, h, if_neg hy]

set_option maxRecDepth 100000 in
set_option maxHeartbeats 16000000 in
theorem rnear_some (an ad : Int) (m : Nat) (w : World) (hc : chk an ad = 0) (hm1 : 1 ≤ m) (hm : m ≤ 1000) (hlt : (m : Int) < ad) :
    Calls Try.prog 50 #[.agg #[.int .i64 an, .int .i64 ad], .int .i64 m] w fun e w' => e = .returned (.tuple #[.agg #[.int .i64 (bestQ an ad m).1, .int .i64 (bestQ an ad m).2], .int .i64 0]) ∧ Below w.heap.size w w' := by
  have f := fit_of_chk hc
  have pa := den_pos hc
  have C := Lib.hid (fun w => rcheck_any an ad w)
  rw [hc] at C
  have I := Lib.hid (fun w => in_any (m : Int) 1 1000 w)
  rw [inB_yes (by omega)] at I
  have HQ := Lib.hid (best_is (an := an) pa hm1)
  have HFIT := Lib.hid (best_fit hc (best_is (an := an) pa hm1).2 hm)
  have HF := Lib.hid f
  obtain ⟨n1, n2, d1, d2⟩ := f
  clear hc
  go_enter Try.func50, Try.ntmps50
  go_wp2_with fail
  refine (C.out _).mono ?_; rintro e w1 ⟨rfl, hb1⟩; obtain ⟨hc1, hf1⟩ := bcell hb1; have hs1 := hb1.size; (try simp at hs1); (try have hz10 : w.heap.size < w1.heap.size := by omega); (try have hz11 : w.heap.size + 1 < w1.heap.size := by omega); (try have hz12 : w.heap.size + 1 + 1 < w1.heap.size := by omega); (try have hz13 : w.heap.size + 1 + 1 + 1 < w1.heap.size := by omega); (try have hz14 : w.heap.size + 1 + 1 + 1 + 1 < w1.heap.size := by omega); (try have hz15 : w.heap.size + 1 + 1 + 1 + 1 + 1 < w1.heap.size := by omega)
  go_wp2_with fail
  refine (I.out _).mono ?_; rintro e w2 ⟨rfl, rfl⟩
  go_wp2
  have hB1 : w.heap.size + 1 < w1.heap.size := by omega
  have ne1 : ¬ w.heap.size = w1.heap.size := by omega
  have ne2 : ¬ w.heap.size + 1 = w1.heap.size := by omega
  have ne3 : ¬ w1.heap.size = w.heap.size := by omega
  have ne4 : ¬ w1.heap.size = w.heap.size + 1 := by omega
  go_loopw [8] (fun i wr => ∃ (k : Nat) (z x y : Int), i = .int .i64 z ∧ z = k + 1 ∧ k ≤ m ∧ RNear w w1.heap.size an ad m (cands an ad k) x y wr) (fun i _ => (m + 1 - intOf i).toNat)
  case atStart => exact ⟨0, 1, 0, 0, rfl, by omega, by omega, by ((repeat' (first | exact Below.refl _ _ | assumption | refine Below.setCell ?_ ?_ _ | refine bdrewN ?_ _ | refine Below.drew ?_ | refine Below.alloc ?_ ?_ _ | refine bbehind ?_ (by assumption) ?_)); all_goals first | (simp; done) | (simp; omega) | omega), (by first | assumption | (simp; done) | (simp; omega) | omega), .inl ⟨rfl, rfl⟩, rfl, (by simp (maxDischargeDepth := 8) [go_sem, *]), (by simp (maxDischargeDepth := 8) [go_sem, *]), (by simp (maxDischargeDepth := 8) [go_sem, *]), (by simp (maxDischargeDepth := 8) [go_sem, *]), (by simp (maxDischargeDepth := 8) [go_sem, *]), (by simp (maxDischargeDepth := 8) [go_sem, *]), (by simp (maxDischargeDepth := 8) [go_sem, *]), (by simp (maxDischargeDepth := 8) [go_sem, *]), (by simp (maxDischargeDepth := 8) [go_sem, *]), (by simp (maxDischargeDepth := 8) [go_sem, *])⟩
  case round =>
    obtain ⟨k, z, x, y, rfl, hz, hk, hbw, s2, his, hpk, p0, p1, a0, a1, r0, r1, f0, f1, g0, g1⟩ := hrel
    have HZ := Lib.hid hz
    have HPK := Lib.hid hpk
    have HIS := Lib.hid his
    have s0 : w.heap.size < wr.heap.size := by omega
    have s1 : w.heap.size + 1 < wr.heap.size := by omega
    clear hb1 hc1 hf1 hpk his
    by_cases hzm : z ≤ m
    · have HZM := Lib.hid hzm
      obtain ⟨f, hf⟩ : ∃ f, an * z / ad = f := ⟨_, rfl⟩
      have HC2 := Lib.hid (cand_two (an := an) (m := m) pa (show 1 ≤ z by omega) hzm)
      rw [hf] at HC2
      have b1 : an * z ≤ 1000000000 * z := Int.mul_le_mul_of_nonneg_right n2 (by omega)
      have b2 : -1000000000 * z ≤ an * z := Int.mul_le_mul_of_nonneg_right n1 (by omega)
      have b3 : an * z ≤ 1000000000000 := by omega
      have b4 : -1000000000000 ≤ an * z := by omega
      have U := Lib.hid (fun w => under_any (an * z) ad w (by omega) (by omega) pa (by omega))
      rw [hf] at U
      have fb := ediv_bd (an * z) ad 1000000000000 b4 b3 pa
      rw [hf] at fb
      obtain ⟨fb1, fb2⟩ := fb
      have HCS := Lib.hid (show cands an ad (k + 1) = cands an ad k ++ [(f, z), (f + 1, z)] by
        show cands an ad k ++ _ = _; rw [← HZ.out, hf])
      clear b1 b2 hf hz
      go_wp2_with fail
      refine (U.out _).mono ?_; rintro e w3 ⟨rfl, rfl⟩
      go_wp2
      go_loopw [10] (fun n wr => ∃ (j : Nat) (x y : Int), n = .int .i64 (f + j) ∧ j ≤ 2 ∧ RNear w w1.heap.size an ad m (cands an ad k ++ [(f, z), (f + 1, z)].take j) x y wr) (fun n _ => (f + 2 - intOf n).toNat)
      case atStart => exact ⟨0, x, y, by go_num, by omega, hbw, s2, HIS.out, by rw [List.take_zero, List.append_nil]; exact HPK.out, p0, p1, a0, a1, r0, r1, f0, f1, g0, g1⟩
      case round =>
        clear HPK HIS hbw s2 p0 p1 a0 a1 r0 r1 f0 f1 g0 g1 s0 s1
        obtain ⟨j, x, y, rfl, hj, hbw, s2, his, hpk, p0, p1, a0, a1, r0, r1, f0, f1, g0, g1⟩ := hrel
        have HPK := Lib.hid hpk
        have HIS := Lib.hid his
        clear hpk his
        by_cases hj2 : j < 2
        · have hcand : Cand an ad m (f + j, z) := by
            match j, hj2 with
            | 0, _ => simpa using HC2.out.1
            | 1, _ => exact HC2.out.2
          have HB2 := Lib.hid (show BestIs an ad m (f + j) z from .inr hcand)
          have hz0 : ¬ z = 0 := by have := HZ.out; omega
          have HT : [(f, z), (f + 1, z)].take (j + 1) = [(f, z), (f + 1, z)].take j ++ [(f + (j : Int), z)] := by
            match j, hj2 with
            | 0, _ => simp
            | 1, _ => simp
          have HP := Lib.hid (show cands an ad k ++ [(f, z), (f + 1, z)].take (j + 1) = (cands an ad k ++ [(f, z), (f + 1, z)].take j) ++ [(f + (j : Int), z)] by rw [HT, List.append_assoc])
          clear HT
          have e1 := best_dist HF.out hm HB2.out
          have e2 := best_dist HF.out hm HIS.out
          obtain ⟨e1a, e1b, e1c, e1d⟩ := e1
          obtain ⟨e2a, e2b, e2c, e2d⟩ := e2
          have m1 := mul_bd (a := dist an ad (f + j, z)) (b := y) (A := 1000000000) (B := 1000) (by omega) (by omega) (by omega) (by omega)
          have m2 := mul_bd (a := dist an ad (x, y)) (b := z) (A := 1000000000) (B := 1000) (by omega) (by omega) (by omega) (by omega)
          have wq1 : IntKind.i64.wrap (dist an ad (f + j, z) * y) = dist an ad (f + j, z) * y := IntWalk.i64_in _ (by omega)
          have wq2 : IntKind.i64.wrap (dist an ad (x, y) * z) = dist an ad (x, y) * z := IntWalk.i64_in _ (by omega)
          have s0 : w.heap.size < wr.heap.size := by omega
          have s1 : w.heap.size + 1 < wr.heap.size := by omega
          have hle : f + (j : Int) ≤ f + 1 := by omega
          clear m1 m2 e1a e1b e2a e2b
          by_cases hy : y = 0
          · have hy' : (y == 0) = true := by simp [hy]
            have HPN := Lib.hid (show pick an ad (cands an ad k ++ [(f, z), (f + 1, z)].take (j + 1)) none = if z = 0 then none else some (f + (j : Int), z) by
              rw [HP.out]; exact pick_new hz0 (by rw [HPK.out, if_pos hy]))
            clear hy hcand
            go_wp2
            refine wp_region_quiet_all (fun w' => ∃ x : Lower _, w' = x.val) (by kernel_rfl) (by kernel_rfl) ⟨⟨_, (Below.refl _ _).drew⟩, rfl⟩ ?_
            repeat (go_big_quiet_step ((go_at_call 107; exact calls_lower _ (best_gap HF.out hm (by first | exact HB2.out | exact HIS.out) _))))
            refine wpQuiet_nil ?_
            intro w5 hx5
            obtain ⟨x5, hx5⟩ := hx5
            have hb5 := x5.prop
            rw [← hx5] at hb5
            clear hx5 x5
            obtain ⟨hc5, hf5⟩ := bcell hb5
            have hs5 := hb5.size
            try simp at hs5
            try have hz50 : w.heap.size < w5.heap.size := by omega
            try have hz51 : w.heap.size + 1 < w5.heap.size := by omega
            try have hz52 : w.heap.size + 1 + 1 < w5.heap.size := by omega
            try have hz53 : w.heap.size + 1 + 1 + 1 < w5.heap.size := by omega
            try have hz54 : w.heap.size + 1 + 1 + 1 + 1 < w5.heap.size := by omega
            try have hz55 : w.heap.size + 1 + 1 + 1 + 1 + 1 < w5.heap.size := by omega
            try have hy1_5 : w1.heap.size < w5.heap.size := by omega
            try have hy2_5 : w2.heap.size < w5.heap.size := by omega
            try have hy3_5 : w3.heap.size < w5.heap.size := by omega
            try have hy4_5 : w4.heap.size < w5.heap.size := by omega
            clear wq1 wq2
            generalize dist an ad (f + j, z) * y = D1 at *
            generalize dist an ad (x, y) * z = D2 at *
            go_wp2
            go_roundw
            case rel => exact ⟨j + 1, f + j, z, by go_num, by omega, by ((repeat' (first | exact Below.refl _ _ | assumption | refine Below.setCell ?_ ?_ _ | refine bdrewN ?_ _ | refine Below.drew ?_ | refine Below.alloc ?_ ?_ _ | refine bbehind ?_ (by assumption) ?_)); all_goals first | (simp; done) | (simp; omega) | omega), (by first | assumption | (simp; done) | (simp; omega) | omega), HB2.out, HPN.out, (by simp (maxDischargeDepth := 8) [go_sem, *]), (by simp (maxDischargeDepth := 8) [go_sem, *]), (by simp (maxDischargeDepth := 8) [go_sem, *]), (by simp (maxDischargeDepth := 8) [go_sem, *]), (by simp (maxDischargeDepth := 8) [go_sem, *]), (by simp (maxDischargeDepth := 8) [go_sem, *]), (by simp (maxDischargeDepth := 8) [go_sem, *]), (by simp (maxDischargeDepth := 8) [go_sem, *]), (by simp (maxDischargeDepth := 8) [go_sem, *]), (by simp (maxDischargeDepth := 8) [go_sem, *])⟩
            case measure => first | (simp [intOf]; done) | (simp [intOf]; omega)
          · have hy' : (y == 0) = false := by simpa using hy
            have hxy : Cand an ad m (x, y) := by
              rcases HIS.out with ⟨_, h⟩ | h
              · exact absurd h hy
              · exact h
            have SI := Lib.hid (fun w => simpler_any (f + j) z x y w (cand_fit HF.out hlt hcand) (cand_fit HF.out hlt hxy))
            have HPT := Lib.hid (pick_two (c := (f + (j : Int), z)) hy HPK.out)
            have HBI := Lib.hid (better_iff (an := an) (ad := ad) (x := (f + (j : Int), z)) (y := (x, y)))
            have HY := Lib.hid hy
            have HZ0 := Lib.hid hz0
            have goNew : betterM an ad (f + (j : Int), z) (x, y) = true → pick an ad (cands an ad k ++ [(f, z), (f + 1, z)].take (j + 1)) none = if z = 0 then none else some (f + (j : Int), z) := fun h => (by
              rw [HP.out, HPT.out, if_pos h, if_neg HZ0.out])
            have goOld : ¬ betterM an ad (f + (j : Int), z) (x, y) = true → pick an ad (cands an ad k ++ [(f, z), (f + 1, z)].take (j + 1)) none = if y = 0 then none else some (x, y) := fun h => (by
              rw [HP.out, HPT.out, if_neg h, if_neg HY.out])
            clear hcand hxy hy
            by_cases hD : dist an ad (f + (j : Int), z) * y < dist an ad (x, y) * z
            · have HPN := Lib.hid (goNew (HBI.out.2 (.inl hD)))
              clear goNew goOld
              go_wp2
              refine wp_region_quiet_all (fun w' => ∃ x : Lower _, w' = x.val) (by kernel_rfl) (by kernel_rfl) ⟨⟨_, (Below.refl _ _).drew⟩, rfl⟩ ?_
              repeat (go_big_quiet_step ((go_at_call 107; exact calls_lower _ (best_gap HF.out hm (by first | exact HB2.out | exact HIS.out) _))))
              refine wpQuiet_nil ?_
              intro w5 hx5
              obtain ⟨x5, hx5⟩ := hx5
              have hb5 := x5.prop
              rw [← hx5] at hb5
              clear hx5 x5
              obtain ⟨hc5, hf5⟩ := bcell hb5
              have hs5 := hb5.size
              try simp at hs5
              try have hz50 : w.heap.size < w5.heap.size := by omega
              try have hz51 : w.heap.size + 1 < w5.heap.size := by omega
              try have hz52 : w.heap.size + 1 + 1 < w5.heap.size := by omega
              try have hz53 : w.heap.size + 1 + 1 + 1 < w5.heap.size := by omega
              try have hz54 : w.heap.size + 1 + 1 + 1 + 1 < w5.heap.size := by omega
              try have hz55 : w.heap.size + 1 + 1 + 1 + 1 + 1 < w5.heap.size := by omega
              try have hy1_5 : w1.heap.size < w5.heap.size := by omega
              try have hy2_5 : w2.heap.size < w5.heap.size := by omega
              try have hy3_5 : w3.heap.size < w5.heap.size := by omega
              try have hy4_5 : w4.heap.size < w5.heap.size := by omega
              clear wq1 wq2
              generalize dist an ad (f + j, z) * y = D1 at *
              generalize dist an ad (x, y) * z = D2 at *
              go_wp2
              go_roundw
              case rel => exact ⟨j + 1, f + j, z, by go_num, by omega, by ((repeat' (first | exact Below.refl _ _ | assumption | refine Below.setCell ?_ ?_ _ | refine bdrewN ?_ _ | refine Below.drew ?_ | refine Below.alloc ?_ ?_ _ | refine bbehind ?_ (by assumption) ?_)); all_goals first | (simp; done) | (simp; omega) | omega), (by first | assumption | (simp; done) | (simp; omega) | omega), HB2.out, HPN.out, (by simp (maxDischargeDepth := 8) [go_sem, *]), (by simp (maxDischargeDepth := 8) [go_sem, *]), (by simp (maxDischargeDepth := 8) [go_sem, *]), (by simp (maxDischargeDepth := 8) [go_sem, *]), (by simp (maxDischargeDepth := 8) [go_sem, *]), (by simp (maxDischargeDepth := 8) [go_sem, *]), (by simp (maxDischargeDepth := 8) [go_sem, *]), (by simp (maxDischargeDepth := 8) [go_sem, *]), (by simp (maxDischargeDepth := 8) [go_sem, *]), (by simp (maxDischargeDepth := 8) [go_sem, *])⟩
              case measure => first | (simp [intOf]; done) | (simp [intOf]; omega)
            · by_cases hE : dist an ad (f + (j : Int), z) * y = dist an ad (x, y) * z
              · cases hs : simplerM (f + (j : Int)) z x y with
                | true =>
                  have HPN := Lib.hid (goNew (HBI.out.2 (.inr ⟨hE, hs⟩)))
                  rw [hs] at SI
                  have hE' : (dist an ad (f + (j : Int), z) * y == dist an ad (x, y) * z) = true := by simp [hE]
                  clear goNew goOld hE hs
                  go_wp2
                  refine wp_region_quiet_all (fun w' => ∃ x : Lower _, w' = x.val) (by kernel_rfl) (by kernel_rfl) ⟨⟨_, (Below.refl _ _).drew⟩, rfl⟩ ?_
                  repeat (go_big_quiet_step ((go_at_call 107; exact calls_lower _ (best_gap HF.out hm (by first | exact HB2.out | exact HIS.out) _))))
                  refine wpQuiet_nil ?_
                  intro w5 hx5
                  obtain ⟨x5, hx5⟩ := hx5
                  have hb5 := x5.prop
                  rw [← hx5] at hb5
                  clear hx5 x5
                  obtain ⟨hc5, hf5⟩ := bcell hb5
                  have hs5 := hb5.size
                  try simp at hs5
                  try have hz50 : w.heap.size < w5.heap.size := by omega
                  try have hz51 : w.heap.size + 1 < w5.heap.size := by omega
                  try have hz52 : w.heap.size + 1 + 1 < w5.heap.size := by omega
                  try have hz53 : w.heap.size + 1 + 1 + 1 < w5.heap.size := by omega
                  try have hz54 : w.heap.size + 1 + 1 + 1 + 1 < w5.heap.size := by omega
                  try have hz55 : w.heap.size + 1 + 1 + 1 + 1 + 1 < w5.heap.size := by omega
                  try have hy1_5 : w1.heap.size < w5.heap.size := by omega
                  try have hy2_5 : w2.heap.size < w5.heap.size := by omega
                  try have hy3_5 : w3.heap.size < w5.heap.size := by omega
                  try have hy4_5 : w4.heap.size < w5.heap.size := by omega
                  clear wq1 wq2
                  generalize dist an ad (f + j, z) * y = D1 at *
                  generalize dist an ad (x, y) * z = D2 at *
                  go_wp2_with fail
                  refine (SI.out _).mono ?_; rintro e w6 ⟨rfl, hb6⟩; obtain ⟨hc6, hf6⟩ := bcell hb6; have hs6 := hb6.size; (try simp at hs6); (try have hz60 : w.heap.size < w6.heap.size := by omega); (try have hz61 : w.heap.size + 1 < w6.heap.size := by omega); (try have hz62 : w.heap.size + 1 + 1 < w6.heap.size := by omega); (try have hz63 : w.heap.size + 1 + 1 + 1 < w6.heap.size := by omega); (try have hz64 : w.heap.size + 1 + 1 + 1 + 1 < w6.heap.size := by omega); (try have hz65 : w.heap.size + 1 + 1 + 1 + 1 + 1 < w6.heap.size := by omega); (try have hy1_6 : w1.heap.size < w6.heap.size := by omega); (try have hy2_6 : w2.heap.size < w6.heap.size := by omega); (try have hy3_6 : w3.heap.size < w6.heap.size := by omega); (try have hy4_6 : w4.heap.size < w6.heap.size := by omega); (try have hy5_6 : w5.heap.size < w6.heap.size := by omega)
                  go_wp2
                  go_roundw
                  case rel => exact ⟨j + 1, f + j, z, by go_num, by omega, by ((repeat' (first | exact Below.refl _ _ | assumption | refine Below.setCell ?_ ?_ _ | refine bdrewN ?_ _ | refine Below.drew ?_ | refine Below.alloc ?_ ?_ _ | refine bbehind ?_ (by assumption) ?_)); all_goals first | (simp; done) | (simp; omega) | omega), (by first | assumption | (simp; done) | (simp; omega) | omega), HB2.out, HPN.out, (by simp (maxDischargeDepth := 8) [go_sem, *]), (by simp (maxDischargeDepth := 8) [go_sem, *]), (by simp (maxDischargeDepth := 8) [go_sem, *]), (by simp (maxDischargeDepth := 8) [go_sem, *]), (by simp (maxDischargeDepth := 8) [go_sem, *]), (by simp (maxDischargeDepth := 8) [go_sem, *]), (by simp (maxDischargeDepth := 8) [go_sem, *]), (by simp (maxDischargeDepth := 8) [go_sem, *]), (by simp (maxDischargeDepth := 8) [go_sem, *]), (by simp (maxDischargeDepth := 8) [go_sem, *])⟩
                  case measure => first | (simp [intOf]; done) | (simp [intOf]; omega)
                | false =>
                  have HPN := Lib.hid (goOld (fun h => by
                    rcases HBI.out.1 h with h | ⟨_, h⟩
                    · exact hD h
                    · rw [hs] at h; cases h))
                  rw [hs] at SI
                  have hE' : (dist an ad (f + (j : Int), z) * y == dist an ad (x, y) * z) = true := by simp [hE]
                  clear goNew goOld hE hs
                  go_wp2
                  refine wp_region_quiet_all (fun w' => ∃ x : Lower _, w' = x.val) (by kernel_rfl) (by kernel_rfl) ⟨⟨_, (Below.refl _ _).drew⟩, rfl⟩ ?_
                  repeat (go_big_quiet_step ((go_at_call 107; exact calls_lower _ (best_gap HF.out hm (by first | exact HB2.out | exact HIS.out) _))))
                  refine wpQuiet_nil ?_
                  intro w5 hx5
                  obtain ⟨x5, hx5⟩ := hx5
                  have hb5 := x5.prop
                  rw [← hx5] at hb5
                  clear hx5 x5
                  obtain ⟨hc5, hf5⟩ := bcell hb5
                  have hs5 := hb5.size
                  try simp at hs5
                  try have hz50 : w.heap.size < w5.heap.size := by omega
                  try have hz51 : w.heap.size + 1 < w5.heap.size := by omega
                  try have hz52 : w.heap.size + 1 + 1 < w5.heap.size := by omega
                  try have hz53 : w.heap.size + 1 + 1 + 1 < w5.heap.size := by omega
                  try have hz54 : w.heap.size + 1 + 1 + 1 + 1 < w5.heap.size := by omega
                  try have hz55 : w.heap.size + 1 + 1 + 1 + 1 + 1 < w5.heap.size := by omega
                  try have hy1_5 : w1.heap.size < w5.heap.size := by omega
                  try have hy2_5 : w2.heap.size < w5.heap.size := by omega
                  try have hy3_5 : w3.heap.size < w5.heap.size := by omega
                  try have hy4_5 : w4.heap.size < w5.heap.size := by omega
                  clear wq1 wq2
                  generalize dist an ad (f + j, z) * y = D1 at *
                  generalize dist an ad (x, y) * z = D2 at *
                  go_wp2_with fail
                  refine (SI.out _).mono ?_; rintro e w6 ⟨rfl, hb6⟩; obtain ⟨hc6, hf6⟩ := bcell hb6; have hs6 := hb6.size; (try simp at hs6); (try have hz60 : w.heap.size < w6.heap.size := by omega); (try have hz61 : w.heap.size + 1 < w6.heap.size := by omega); (try have hz62 : w.heap.size + 1 + 1 < w6.heap.size := by omega); (try have hz63 : w.heap.size + 1 + 1 + 1 < w6.heap.size := by omega); (try have hz64 : w.heap.size + 1 + 1 + 1 + 1 < w6.heap.size := by omega); (try have hz65 : w.heap.size + 1 + 1 + 1 + 1 + 1 < w6.heap.size := by omega); (try have hy1_6 : w1.heap.size < w6.heap.size := by omega); (try have hy2_6 : w2.heap.size < w6.heap.size := by omega); (try have hy3_6 : w3.heap.size < w6.heap.size := by omega); (try have hy4_6 : w4.heap.size < w6.heap.size := by omega); (try have hy5_6 : w5.heap.size < w6.heap.size := by omega)
                  go_wp2
                  go_roundw
                  case rel => exact ⟨j + 1, x, y, by go_num, by omega, by ((repeat' (first | exact Below.refl _ _ | assumption | refine Below.setCell ?_ ?_ _ | refine bdrewN ?_ _ | refine Below.drew ?_ | refine Below.alloc ?_ ?_ _ | refine bbehind ?_ (by assumption) ?_)); all_goals first | (simp; done) | (simp; omega) | omega), (by first | assumption | (simp; done) | (simp; omega) | omega), HIS.out, HPN.out, (by simp (maxDischargeDepth := 8) [go_sem, *]), (by simp (maxDischargeDepth := 8) [go_sem, *]), (by simp (maxDischargeDepth := 8) [go_sem, *]), (by simp (maxDischargeDepth := 8) [go_sem, *]), (by simp (maxDischargeDepth := 8) [go_sem, *]), (by simp (maxDischargeDepth := 8) [go_sem, *]), (by simp (maxDischargeDepth := 8) [go_sem, *]), (by simp (maxDischargeDepth := 8) [go_sem, *]), (by simp (maxDischargeDepth := 8) [go_sem, *]), (by simp (maxDischargeDepth := 8) [go_sem, *])⟩
                  case measure => first | (simp [intOf]; done) | (simp [intOf]; omega)
              · have HPN := Lib.hid (goOld (fun h => by
                  rcases HBI.out.1 h with h | ⟨h, _⟩
                  · exact hD h
                  · exact hE h))
                have hE' : (dist an ad (f + (j : Int), z) * y == dist an ad (x, y) * z) = false := by simpa using hE
                clear goNew goOld hE
                go_wp2
                refine wp_region_quiet_all (fun w' => ∃ x : Lower _, w' = x.val) (by kernel_rfl) (by kernel_rfl) ⟨⟨_, (Below.refl _ _).drew⟩, rfl⟩ ?_
                repeat (go_big_quiet_step ((go_at_call 107; exact calls_lower _ (best_gap HF.out hm (by first | exact HB2.out | exact HIS.out) _))))
                refine wpQuiet_nil ?_
                intro w5 hx5
                obtain ⟨x5, hx5⟩ := hx5
                have hb5 := x5.prop
                rw [← hx5] at hb5
                clear hx5 x5
                obtain ⟨hc5, hf5⟩ := bcell hb5
                have hs5 := hb5.size
                try simp at hs5
                try have hz50 : w.heap.size < w5.heap.size := by omega
                try have hz51 : w.heap.size + 1 < w5.heap.size := by omega
                try have hz52 : w.heap.size + 1 + 1 < w5.heap.size := by omega
                try have hz53 : w.heap.size + 1 + 1 + 1 < w5.heap.size := by omega
                try have hz54 : w.heap.size + 1 + 1 + 1 + 1 < w5.heap.size := by omega
                try have hz55 : w.heap.size + 1 + 1 + 1 + 1 + 1 < w5.heap.size := by omega
                try have hy1_5 : w1.heap.size < w5.heap.size := by omega
                try have hy2_5 : w2.heap.size < w5.heap.size := by omega
                try have hy3_5 : w3.heap.size < w5.heap.size := by omega
                try have hy4_5 : w4.heap.size < w5.heap.size := by omega
                clear wq1 wq2
                generalize dist an ad (f + j, z) * y = D1 at *
                generalize dist an ad (x, y) * z = D2 at *
                go_wp2
                go_roundw
                case rel => exact ⟨j + 1, x, y, by go_num, by omega, by ((repeat' (first | exact Below.refl _ _ | assumption | refine Below.setCell ?_ ?_ _ | refine bdrewN ?_ _ | refine Below.drew ?_ | refine Below.alloc ?_ ?_ _ | refine bbehind ?_ (by assumption) ?_)); all_goals first | (simp; done) | (simp; omega) | omega), (by first | assumption | (simp; done) | (simp; omega) | omega), HIS.out, HPN.out, (by simp (maxDischargeDepth := 8) [go_sem, *]), (by simp (maxDischargeDepth := 8) [go_sem, *]), (by simp (maxDischargeDepth := 8) [go_sem, *]), (by simp (maxDischargeDepth := 8) [go_sem, *]), (by simp (maxDischargeDepth := 8) [go_sem, *]), (by simp (maxDischargeDepth := 8) [go_sem, *]), (by simp (maxDischargeDepth := 8) [go_sem, *]), (by simp (maxDischargeDepth := 8) [go_sem, *]), (by simp (maxDischargeDepth := 8) [go_sem, *]), (by simp (maxDischargeDepth := 8) [go_sem, *])⟩
                case measure => first | (simp [intOf]; done) | (simp [intOf]; omega)
        · obtain rfl : j = 2 := by omega
          have hle : ¬ f + 2 ≤ f + 1 := by omega
          have hzb1 : 0 ≤ z := by have := HZ.out; omega
          have hzb : z ≤ 1000 := by have := HZM.out; omega
          go_wp2
          go_roundw
          case rel => exact ⟨k + 1, z + 1, x, y, by go_num, by have := HZ.out; push_cast; omega, by have := HZ.out; have := HZM.out; omega, hbw, s2, HIS.out, by rw [HCS.out]; exact HPK.out, p0, p1, a0, a1, r0, r1, f0, f1, g0, g1⟩
          case measure =>
            have := HZM.out
            have := HZ.out
            first | (simp [intOf]; done) | (simp [intOf]; omega)
    · have hkm : k = m := by have := HZ.out; omega
      have HR := Lib.hid (show bestQ an ad m = (x, y) ∧ ¬ y = 0 by
        have h := HPK.out
        rw [hkm, HQ.out.1] at h
        by_cases hy : y = 0
        · rw [if_pos hy] at h; cases h
        · rw [if_neg hy] at h; exact ⟨Option.some.inj h, hy⟩)
      have hch : chk x y = 0 := by have := HFIT.out; rw [HR.out.1] at this; exact this
      have fx := fit_of_chk hch
      obtain ⟨x1, x2, x3, x4⟩ := fx
      have LO := Lib.hid (fun w => rlow_res x y x y 0 w (by omega) (by omega) (by omega) (by omega) HR.out.2 (low_eq HR.out.2 hch rfl))
      clear hch hkm hz
      go_wp2_with fail
      refine (LO.out _).mono ?_; rintro e w6 ⟨rfl, hb6⟩; obtain ⟨hc6, hf6⟩ := bcell hb6; have hs6 := hb6.size; (try simp at hs6); (try have hz60 : w.heap.size < w6.heap.size := by omega); (try have hz61 : w.heap.size + 1 < w6.heap.size := by omega); (try have hz62 : w.heap.size + 1 + 1 < w6.heap.size := by omega); (try have hz63 : w.heap.size + 1 + 1 + 1 < w6.heap.size := by omega); (try have hz64 : w.heap.size + 1 + 1 + 1 + 1 < w6.heap.size := by omega); (try have hz65 : w.heap.size + 1 + 1 + 1 + 1 + 1 < w6.heap.size := by omega); (try have hy1_6 : w1.heap.size < w6.heap.size := by omega); (try have hy2_6 : w2.heap.size < w6.heap.size := by omega); (try have hy3_6 : w3.heap.size < w6.heap.size := by omega); (try have hy4_6 : w4.heap.size < w6.heap.size := by omega); (try have hy5_6 : w5.heap.size < w6.heap.size := by omega)
      go_wp2
      rw [HR.out.1]
      refine bodyPost_ret (v := .tuple #[.agg #[.int .i64 x, .int .i64 y], .int .i64 0]) (by simp (maxDischargeDepth := 8) [results, Try.results50, go_sem, *]) rfl ?_
      exact ⟨rfl, by ((repeat' (first | exact Below.refl _ _ | assumption | refine Below.setCell ?_ ?_ _ | refine bdrewN ?_ _ | refine Below.drew ?_ | refine Below.alloc ?_ ?_ _ | refine bbehind ?_ (by assumption) ?_)); all_goals first | (simp; done) | (simp; omega) | omega)⟩
end Go.Proofs.Ytgefidffhdanhaa

/- the reference's Near: every answer. -/
namespace Go.Proofs.Ytgefidffhdanhaa
open Go.RowKit Go.BigFrame

set_option maxRecDepth 100000 in
set_option maxHeartbeats 4000000 in
theorem rnear_all (an ad p : Int) (w : World) :
    Calls Try.prog 50 #[.agg #[.int .i64 an, .int .i64 ad], .int .i64 p] w fun e w' => e = .returned (.tuple #[.agg #[.int .i64 (nearT an ad p).1, .int .i64 (nearT an ad p).2.1], .int .i64 (nearT an ad p).2.2]) ∧ Below w.heap.size w w' := by
  unfold nearT
  by_cases hc : chk an ad = 0
  · rw [if_neg (fun h => h hc)]
    have C := Lib.hid (fun w => rcheck_any an ad w)
    rw [hc] at C
    by_cases h1 : p < 1 ∨ 1000 < p
    · rw [if_pos h1]
      have I := Lib.hid (fun w => in_any p 1 1000 w)
      rw [inB_no (by omega)] at I
      clear hc h1
      go_enter Try.func50, Try.ntmps50
      go_wp2_with fail
      refine (C.out _).mono ?_; rintro e w1 ⟨rfl, hb1⟩; obtain ⟨hc1, hf1⟩ := bcell hb1; have hs1 := hb1.size; (try simp at hs1); (try have hz10 : w.heap.size < w1.heap.size := by omega); (try have hz11 : w.heap.size + 1 < w1.heap.size := by omega); (try have hz12 : w.heap.size + 1 + 1 < w1.heap.size := by omega); (try have hz13 : w.heap.size + 1 + 1 + 1 < w1.heap.size := by omega); (try have hz14 : w.heap.size + 1 + 1 + 1 + 1 < w1.heap.size := by omega); (try have hz15 : w.heap.size + 1 + 1 + 1 + 1 + 1 < w1.heap.size := by omega)
      go_wp2_with fail
      refine (I.out _).mono ?_; rintro e w2 ⟨rfl, rfl⟩
      go_wp2
      refine bodyPost_ret (v := .tuple #[.agg #[.int .i64 0, .int .i64 0], .int .i64 3]) (by simp (maxDischargeDepth := 8) [results, Try.results50, go_sem, *]) rfl ?_
      exact ⟨rfl, by ((repeat' (first | exact Below.refl _ _ | assumption | refine Below.setCell ?_ ?_ _ | refine bdrewN ?_ _ | refine Below.drew ?_ | refine Below.alloc ?_ ?_ _ | refine bbehind ?_ (by assumption) ?_)); all_goals first | (simp; done) | (simp; omega) | omega)⟩
    · rw [if_neg h1]
      by_cases hlt : p < ad
      · have := rnear_some an ad p.toNat w hc (by omega) (by omega) (by omega)
        rw [show ((p.toNat : Nat) : Int) = p by omega] at this
        exact this
      · have HB := Lib.hid (best_own hc (best_is (an := an) (den_pos hc) (show 1 ≤ p.toNat by omega)).2 (by omega))
        have I := Lib.hid (fun w => in_any p 1 1000 w)
        rw [inB_yes (by omega)] at I
        have dl : decide (ad ≤ p) = true := by simp; omega
        rw [HB.out]
        clear hc h1
        go_enter Try.func50, Try.ntmps50
        go_wp2_with fail
        refine (C.out _).mono ?_; rintro e w1 ⟨rfl, hb1⟩; obtain ⟨hc1, hf1⟩ := bcell hb1; have hs1 := hb1.size; (try simp at hs1); (try have hz10 : w.heap.size < w1.heap.size := by omega); (try have hz11 : w.heap.size + 1 < w1.heap.size := by omega); (try have hz12 : w.heap.size + 1 + 1 < w1.heap.size := by omega); (try have hz13 : w.heap.size + 1 + 1 + 1 < w1.heap.size := by omega); (try have hz14 : w.heap.size + 1 + 1 + 1 + 1 < w1.heap.size := by omega); (try have hz15 : w.heap.size + 1 + 1 + 1 + 1 + 1 < w1.heap.size := by omega)
        go_wp2_with fail
        refine (I.out _).mono ?_; rintro e w2 ⟨rfl, rfl⟩
        go_wp2
        refine bodyPost_ret (v := .tuple #[.agg #[.int .i64 an, .int .i64 ad], .int .i64 0]) (by simp (maxDischargeDepth := 8) [results, Try.results50, go_sem, *]) rfl ?_
        exact ⟨rfl, by ((repeat' (first | exact Below.refl _ _ | assumption | refine Below.setCell ?_ ?_ _ | refine bdrewN ?_ _ | refine Below.drew ?_ | refine Below.alloc ?_ ?_ _ | refine bbehind ?_ (by assumption) ?_)); all_goals first | (simp; done) | (simp; omega) | omega)⟩
  · rw [if_pos hc]
    have C := Lib.hid (fun w => rcheck_any an ad w)
    generalize chk an ad = E at *
    have hc' : (E != 0) = true := by simpa using hc
    clear hc
    go_enter Try.func50, Try.ntmps50
    go_wp2_with fail
    refine (C.out _).mono ?_; rintro e w1 ⟨rfl, hb1⟩; obtain ⟨hc1, hf1⟩ := bcell hb1; have hs1 := hb1.size; (try simp at hs1); (try have hz10 : w.heap.size < w1.heap.size := by omega); (try have hz11 : w.heap.size + 1 < w1.heap.size := by omega); (try have hz12 : w.heap.size + 1 + 1 < w1.heap.size := by omega); (try have hz13 : w.heap.size + 1 + 1 + 1 < w1.heap.size := by omega); (try have hz14 : w.heap.size + 1 + 1 + 1 + 1 < w1.heap.size := by omega); (try have hz15 : w.heap.size + 1 + 1 + 1 + 1 + 1 < w1.heap.size := by omega)
    go_wp2
    refine bodyPost_ret (v := .tuple #[.agg #[.int .i64 0, .int .i64 0], .int .i64 E]) (by simp (maxDischargeDepth := 8) [results, Try.results50, go_sem, *]) rfl ?_
    exact ⟨rfl, by ((repeat' (first | exact Below.refl _ _ | assumption | refine Below.setCell ?_ ?_ _ | refine bdrewN ?_ _ | refine Below.drew ?_ | refine Below.alloc ?_ ?_ _ | refine bbehind ?_ (by assumption) ?_)); all_goals first | (simp; done) | (simp; omega) | omega)⟩
end Go.Proofs.Ytgefidffhdanhaa

/- the reference's Terms. -/
namespace Go.Proofs.Ytgefidffhdanhaa
open Go.RowKit Go.BigFrame

theorem div_parts {a b : Int} (hb : 0 < b) : ∃ q r, a / b = q ∧ a % b = r ∧ a - q * b = r ∧ 0 ≤ r ∧ r < b :=
  ⟨_, _, rfl, rfl, by have := Int.mul_ediv_add_emod a b; rw [Int.mul_comm] at this; omega, Int.emod_nonneg _ (by omega), Int.emod_lt_of_pos _ hb⟩

set_option maxRecDepth 100000 in
set_option maxHeartbeats 4000000 in
theorem rterms_ok (n d : Int) (w : World) (hc : chk n d = 0) :
    Calls Try.prog 52 #[.agg #[.int .i64 n, .int .i64 d]] w fun e W' => ∃ v, e = .returned (.tuple #[v, .int .i64 0]) ∧ IntsLie W' v (quo n d) ∧ Below w.heap.size w W' ∧ OwnAt w.heap.size v := by
  have f := fit_of_chk hc
  obtain ⟨f1, f2, f3, f4⟩ := f
  have hql := quo_len (n := n) f4
  have C := Lib.hid (fun w => rcheck_any n d w)
  rw [hc] at C
  clear hc
  obtain ⟨i0, hi, hz0, hz1, hz2⟩ := info_parts infoInt
  go_enter Try.func52, Try.ntmps52
  go_wp2_with fail
  refine (C.out _).mono ?_; rintro e w1 ⟨rfl, hb1⟩; obtain ⟨hc1, hf1⟩ := bcell hb1; have hs1 := hb1.size; (try simp at hs1); (try have hz10 : w.heap.size < w1.heap.size := by omega); (try have hz11 : w.heap.size + 1 < w1.heap.size := by omega); (try have hz12 : w.heap.size + 1 + 1 < w1.heap.size := by omega); (try have hz13 : w.heap.size + 1 + 1 + 1 < w1.heap.size := by omega); (try have hz14 : w.heap.size + 1 + 1 + 1 + 1 < w1.heap.size := by omega); (try have hz15 : w.heap.size + 1 + 1 + 1 + 1 + 1 < w1.heap.size := by omega)
  go_wp2
  refine wp_region_quiet_all (fun w' => ∃ x : Lower _, w' = x.val) (by kernel_rfl) (by kernel_rfl) ⟨⟨_, (Below.refl _ _).drew⟩, rfl⟩ ?_
  repeat (go_big_quiet_step (fail))
  refine wpQuiet_nil ?_
  intro w2 hx2
  obtain ⟨x2, hx2⟩ := hx2
  have hb2 := x2.prop
  rw [← hx2] at hb2
  clear hx2 x2
  obtain ⟨hc2, hf2⟩ := bcell hb2
  have hs2 := hb2.size
  try simp at hs2
  try have hz20 : w.heap.size < w2.heap.size := by omega
  try have hz21 : w.heap.size + 1 < w2.heap.size := by omega
  try have hz22 : w.heap.size + 1 + 1 < w2.heap.size := by omega
  try have hz23 : w.heap.size + 1 + 1 + 1 < w2.heap.size := by omega
  try have hz24 : w.heap.size + 1 + 1 + 1 + 1 < w2.heap.size := by omega
  try have hz25 : w.heap.size + 1 + 1 + 1 + 1 + 1 < w2.heap.size := by omega
  try have hy1_2 : w1.heap.size < w2.heap.size := by omega
  go_wp2
  have hB2 : Below w.heap.size w w2 := by ((repeat' (first | exact Below.refl _ _ | assumption | refine Below.setCell ?_ ?_ _ | refine bdrewN ?_ _ | refine Below.drew ?_ | refine Below.alloc ?_ ?_ _ | refine bbehind ?_ (by assumption) ?_)); all_goals first | (simp; done) | (simp; omega) | omega)
  have hZ2 : w.heap.size < w2.heap.size := by omega
  clear hc1 hf1 hc2 hf2 C
  go_loopw [5, 6, 7] (fun v x y wr => ∃ (pre : List Int) (a b : Int), x = .int .i64 a ∧ y = .int .i64 b ∧ quo n d = pre ++ quo a b ∧ wr.ownsRow w.heap.size 3 1 v pre.length (pre.map (Value.int .i64)) ∧ Below w.heap.size w wr ∧
      0 ≤ b ∧ b ≤ 1000000000 ∧ -1000000000 ≤ a ∧ a ≤ 1000000000)
    (fun _ _ y _ => (intOf y).toNat)
  case atStart => exact ⟨[], n, d, rfl, rfl, rfl, World.ownsRow_nil _ _ _ _, hB2, by omega, by omega, f1, f2⟩
  case round =>
    obtain ⟨pre, a, b, rfl, rfl, hpre, hown, hB, b0, b1, a1, a2⟩ := hrel
    by_cases hb : 0 < b
    · obtain ⟨q, r, hq, hr, hs, r0, r1⟩ := div_parts (a := a) hb
      have hQ := ediv_bd a b 1000000000 a1 a2 hb
      rw [hq] at hQ
      obtain ⟨q1, q2⟩ := hQ
      have hU := Lib.hid (fun w => under_any a b w (by omega) (by omega) hb (by omega))
      rw [hq] at hU
      have hP := Lib.hid (show quo n d = (pre ++ [q]) ++ quo b r by rw [hpre, quo_pos hb, hq, hr]; simp)
      have hpl : pre.length + 1 ≤ 50 := by
        have := congrArg List.length hP.out
        simp at this; omega
      have m1 : -3000000000 ≤ q * b := by omega
      have m2 : q * b ≤ 3000000000 := by omega
      clear hq hr hpre hql
      go_wp2_with fail
      refine (hU.out _).mono ?_; rintro e w3 ⟨rfl, rfl⟩
      go_wp2_with (at_builtin; refine wpList_append_own _ rfl _ _ 44 rfl w.heap.size 3 i0 (.int .i64 0) 1 8 Try.underlying44 hi hz0 hz1 hz2 rfl (by decide) _ _ _ rfl (hown.alloc _) ⟨wr.heap.size, 0, none⟩ 1 1 [.int .i64 q] rfl rfl ?c1 ?c2 ?c3 ?c4 ?c5 ?_)
      case c1 =>
        intro j u hj
        match j, hj with
        | 0, hj => simp at hj; subst hj; simp [Addr.add]
      case c2 => intro u hu; simp at hu; subst hu; rfl
      case c3 => unfold maxLen; omega
      case c4 => omega
      case c5 => have := hB.size; simp; omega
      · intro v' w1 hown' hgrow _
        have hsz := hB.size
        have hB' : Below w.heap.size w w1 := (hB.alloc hsz _).grown hgrow (by simp; omega) (fun j hj => by have := (hown.lt j hj).1; omega)
        clear hown hgrow
        go_wp2
        go_roundw
        case rel => exact ⟨pre ++ [q], b, r, rfl, rfl, hP.out, by simpa using hown', hB', r0, by omega, by omega, b1⟩
        case measure => simp [intOf]; omega
    · have hpr : pre = quo n d := by rw [hpre, quo_zero hb]; simp
      subst hpr
      clear hpre hql
      go_wp2
      refine bodyPost_ret (v := .tuple #[u5, .int .i64 0]) (by simp (maxDischargeDepth := 8) [results, Try.results52, go_sem, *]) rfl ?_
      exact ⟨_, rfl, lies_owned hown, hB, ownAt_owned hown (Nat.le_refl _)⟩

set_option maxRecDepth 100000 in
set_option maxHeartbeats 1000000 in
theorem rterms_no (n d : Int) (w : World) (hc : ¬ chk n d = 0) :
    Calls Try.prog 52 #[.agg #[.int .i64 n, .int .i64 d]] w fun e W' => e = .returned (.tuple #[.slice none 0 0, .int .i64 (chk n d)]) ∧ Below w.heap.size w W' := by
  have C := Lib.hid (fun w => rcheck_any n d w)
  generalize chk n d = E at *
  have hc' : (E != 0) = true := by simpa using hc
  clear hc
  go_enter Try.func52, Try.ntmps52
  go_wp2_with fail
  refine (C.out _).mono ?_; rintro e w1 ⟨rfl, hb1⟩; obtain ⟨hc1, hf1⟩ := bcell hb1; have hs1 := hb1.size; (try simp at hs1); (try have hz10 : w.heap.size < w1.heap.size := by omega); (try have hz11 : w.heap.size + 1 < w1.heap.size := by omega); (try have hz12 : w.heap.size + 1 + 1 < w1.heap.size := by omega); (try have hz13 : w.heap.size + 1 + 1 + 1 < w1.heap.size := by omega); (try have hz14 : w.heap.size + 1 + 1 + 1 + 1 < w1.heap.size := by omega); (try have hz15 : w.heap.size + 1 + 1 + 1 + 1 + 1 < w1.heap.size := by omega)
  go_wp2
  refine bodyPost_ret (v := .tuple #[.slice none 0 0, .int .i64 E]) (by simp (maxDischargeDepth := 8) [results, Try.results52, go_sem, *]) rfl ?_
  exact ⟨rfl, by ((repeat' (first | exact Below.refl _ _ | assumption | refine Below.setCell ?_ ?_ _ | refine bdrewN ?_ _ | refine Below.drew ?_ | refine Below.alloc ?_ ?_ _ | refine bbehind ?_ (by assumption) ?_)); all_goals first | (simp; done) | (simp; omega) | omega)⟩

set_option maxRecDepth 100000 in
set_option maxHeartbeats 1000000 in
theorem terms_no (n d : Int) (w : World) (hc : ¬ chk n d = 0) :
    Calls Try.prog 51 #[.agg #[.int .i64 n, .int .i64 d]] w fun e W' => e = .returned (.tuple #[.slice none 0 0, .int .i64 (chk n d)]) ∧ Below w.heap.size w W' := by
  have C := Lib.hid (fun w => check_any n d w)
  generalize chk n d = E at *
  have hc' : (E != 0) = true := by simpa using hc
  clear hc
  go_enter Try.func51, Try.ntmps51
  go_wp2_with fail
  refine (C.out _).mono ?_; rintro e w1 ⟨rfl, hb1⟩; obtain ⟨hc1, hf1⟩ := bcell hb1; have hs1 := hb1.size; (try simp at hs1); (try have hz10 : w.heap.size < w1.heap.size := by omega); (try have hz11 : w.heap.size + 1 < w1.heap.size := by omega); (try have hz12 : w.heap.size + 1 + 1 < w1.heap.size := by omega); (try have hz13 : w.heap.size + 1 + 1 + 1 < w1.heap.size := by omega); (try have hz14 : w.heap.size + 1 + 1 + 1 + 1 < w1.heap.size := by omega); (try have hz15 : w.heap.size + 1 + 1 + 1 + 1 + 1 < w1.heap.size := by omega)
  go_wp2
  refine bodyPost_ret (v := .tuple #[.slice none 0 0, .int .i64 E]) (by simp (maxDischargeDepth := 8) [results, Try.results51, go_sem, *]) rfl ?_
  exact ⟨rfl, by ((repeat' (first | exact Below.refl _ _ | assumption | refine Below.setCell ?_ ?_ _ | refine bdrewN ?_ _ | refine Below.drew ?_ | refine Below.alloc ?_ ?_ _ | refine bbehind ?_ (by assumption) ?_)); all_goals first | (simp; done) | (simp; omega) | omega)⟩
end Go.Proofs.Ytgefidffhdanhaa
