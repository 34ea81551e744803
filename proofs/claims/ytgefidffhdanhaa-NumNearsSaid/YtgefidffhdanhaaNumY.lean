/- Near: what is nearer. -/
import Derived.Test.YtgefidffhdanhaaMathJ
import Derived.Test.YtgefidffhdanhaaNumF
import Derived.IntWalk
namespace Go.Proofs.Ytgefidffhdanhaa
open Go.RowKit Go.BigFrame

/-- the sizes that Near meets. -/
theorem cand_bd {an ad : Int} {m : Nat} {x : Int × Int} (f : Fit an ad) (hm : m ≤ 1000) (h : Cand an ad m x) :
    (-1000000000000 ≤ an * x.2 ∧ an * x.2 ≤ 1000000000000) ∧ (-2000000000000 ≤ x.1 * ad ∧ x.1 * ad ≤ 2000000000000) ∧ (-2000000000000 ≤ x.1 ∧ x.1 ≤ 2000000000000) ∧ 0 ≤ dist an ad x ∧ dist an ad x ≤ ad := by
  obtain ⟨h1, h2, h3⟩ := h
  obtain ⟨f1, f2, f3, f4⟩ := f
  have b1 : an * x.2 ≤ 1000000000 * x.2 := Int.mul_le_mul_of_nonneg_right f2 (by omega)
  have b2 : -1000000000 * x.2 ≤ an * x.2 := Int.mul_le_mul_of_nonneg_right f1 (by omega)
  have d0 : 0 ≤ dist an ad x ∧ dist an ad x ≤ ad := by unfold dist; omega
  refine ⟨by omega, by omega, ?_, d0.1, d0.2⟩
  constructor
  · by_cases hn : 0 ≤ x.1
    · omega
    · have : x.1 * ad ≤ x.1 * 1 := Int.mul_le_mul_of_nonpos_left (by omega) f3
      omega
  · by_cases hn : x.1 ≤ 0
    · omega
    · have : x.1 * 1 ≤ x.1 * ad := Int.mul_le_mul_of_nonneg_left f3 (by omega)
      omega

set_option maxHeartbeats 800000 in
theorem distance_any (an ad xn xd : Int) (m : Nat) (w : World) (f : Fit an ad) (hm : m ≤ 1000) (h : Cand an ad m (xn, xd)) :
    Calls Try.prog 105 #[.agg #[.int .i64 an, .int .i64 ad], .agg #[.int .i64 xn, .int .i64 xd]] w fun e w' => e = .returned (.int .i64 (dist an ad (xn, xd))) ∧ Below w.heap.size w w' := by
  have b := cand_bd f hm h
  simp only at b
  obtain ⟨⟨b1, b2⟩, ⟨b3, b4⟩, ⟨b5, b6⟩, b7, b8⟩ := b
  have h2 := h.hi
  have h1 := h.lo
  simp only at h1 h2
  obtain ⟨f1, f2, f3, f4⟩ := f
  unfold dist
  simp only
  clear b7 b8 h
  go_enter Try.func105, Try.ntmps105
  go_wp2_with (go_at_call 93; refine (abs_any _ _ (by omega) (by omega)).mono ?_; rintro e w1 ⟨rfl, rfl⟩)
  go_ret
  exact ⟨rfl, by ((repeat' (first | exact Below.refl _ _ | assumption | refine Below.setCell ?_ ?_ _ | refine bdrewN ?_ _ | refine Below.drew ?_ | refine Below.alloc ?_ ?_ _ | refine bbehind ?_ (by assumption) ?_)); all_goals first | (simp; done) | (simp; omega) | omega)⟩

set_option maxRecDepth 100000 in
set_option maxHeartbeats 2000000 in
theorem nsimpler_any (an ad bn bd : Int) (w : World) (a1 : -2000000000000 ≤ an) (a2 : an ≤ 2000000000000) (b1 : -2000000000000 ≤ bn) (b2 : bn ≤ 2000000000000) :
    Calls Try.prog 106 #[.agg #[.int .i64 an, .int .i64 ad], .agg #[.int .i64 bn, .int .i64 bd]] w fun e w' => e = .returned (.bool (simplerM an ad bn bd)) ∧ Below w.heap.size w w' := by
  unfold simplerM
  by_cases hd : ad = bd
  · subst hd
    rw [if_pos rfl]
    obtain ⟨p, hp⟩ : ∃ p : Nat, an.natAbs = p := ⟨_, rfl⟩
    obtain ⟨q, hq⟩ : ∃ q : Nat, bn.natAbs = q := ⟨_, rfl⟩
    by_cases he : an.natAbs = bn.natAbs
    · have he' : (((an.natAbs : Nat) : Int) != ((bn.natAbs : Nat) : Int)) = false := by simp [he]
      have HE := Lib.hid (show decide (an.natAbs < bn.natAbs ∨ an.natAbs = bn.natAbs ∧ bn < an) = decide (bn < an) by
        rw [Bool.eq_iff_iff]; simp [he])
      clear hp hq
      have HH := Lib.hid he; clear he
      rw [HE.out]
      go_enter Try.func106, Try.ntmps106
      go_wp2
      refine wp_region_quiet_all (fun w' => ∃ x : Lower _, w' = x.val) (by kernel_rfl) (by kernel_rfl) ⟨⟨_, (Below.refl _ _).drew⟩, rfl⟩ ?_
      repeat (go_big_quiet_step ((go_at_call 93; exact calls_lower_same _ (abs_any _ _ (by omega) (by omega)))))
      refine wpQuiet_nil ?_
      intro w1 hx1
      obtain ⟨x1, hx1⟩ := hx1
      have hb1 := x1.prop
      rw [← hx1] at hb1
      clear hx1 x1
      obtain ⟨hc1, hf1⟩ := bcell hb1
      have hs1 := hb1.size
      try simp at hs1
      try have hz0 : w.heap.size < w1.heap.size := by omega
      try have hz1 : w.heap.size + 1 < w1.heap.size := by omega
      try have hz2 : w.heap.size + 1 + 1 < w1.heap.size := by omega
      try have hz3 : w.heap.size + 1 + 1 + 1 < w1.heap.size := by omega
      try have hz4 : w.heap.size + 1 + 1 + 1 + 1 < w1.heap.size := by omega
      try have hz5 : w.heap.size + 1 + 1 + 1 + 1 + 1 < w1.heap.size := by omega
      go_wp2
      go_ret
      exact ⟨rfl, by ((repeat' (first | exact Below.refl _ _ | assumption | refine Below.setCell ?_ ?_ _ | refine bdrewN ?_ _ | refine Below.drew ?_ | refine Below.alloc ?_ ?_ _ | refine bbehind ?_ (by assumption) ?_)); all_goals first | (simp; done) | (simp; omega) | omega)⟩
    · have he' : (((an.natAbs : Nat) : Int) != ((bn.natAbs : Nat) : Int)) = true := by simp; omega
      have HE := Lib.hid (show decide (an.natAbs < bn.natAbs ∨ an.natAbs = bn.natAbs ∧ bn < an) = decide (an.natAbs < bn.natAbs) by
        rw [Bool.eq_iff_iff]; simp [he])
      clear hp hq he
      rw [HE.out]
      go_enter Try.func106, Try.ntmps106
      go_wp2
      refine wp_region_quiet_all (fun w' => ∃ x : Lower _, w' = x.val) (by kernel_rfl) (by kernel_rfl) ⟨⟨_, (Below.refl _ _).drew⟩, rfl⟩ ?_
      repeat (go_big_quiet_step ((go_at_call 93; exact calls_lower_same _ (abs_any _ _ (by omega) (by omega)))))
      refine wpQuiet_nil ?_
      intro w1 hx1
      obtain ⟨x1, hx1⟩ := hx1
      have hb1 := x1.prop
      rw [← hx1] at hb1
      clear hx1 x1
      obtain ⟨hc1, hf1⟩ := bcell hb1
      have hs1 := hb1.size
      try simp at hs1
      try have hz0 : w.heap.size < w1.heap.size := by omega
      try have hz1 : w.heap.size + 1 < w1.heap.size := by omega
      try have hz2 : w.heap.size + 1 + 1 < w1.heap.size := by omega
      try have hz3 : w.heap.size + 1 + 1 + 1 < w1.heap.size := by omega
      try have hz4 : w.heap.size + 1 + 1 + 1 + 1 < w1.heap.size := by omega
      try have hz5 : w.heap.size + 1 + 1 + 1 + 1 + 1 < w1.heap.size := by omega
      go_wp2
      refine wp_region_quiet_all (fun w' => ∃ x : Lower _, w' = x.val) (by kernel_rfl) (by kernel_rfl) ⟨⟨_, (Below.refl _ _).drew⟩, rfl⟩ ?_
      repeat (go_big_quiet_step ((go_at_call 93; exact calls_lower_same _ (abs_any _ _ (by omega) (by omega)))))
      refine wpQuiet_nil ?_
      intro w2 hx2
      obtain ⟨x2, hx2⟩ := hx2
      have hb2 := x2.prop
      rw [← hx2] at hb2
      clear hx2 x2
      obtain ⟨hc2, hf2⟩ := bcell hb2
      have hs2 := hb2.size
      try simp at hs2
      try have hz20 : w.heap.size < w2.heap.size := by omega
      try have hz21 : w.heap.size + 1 < w2.heap.size := by omega
      try have hz22 : w.heap.size + 1 + 1 < w2.heap.size := by omega
      try have hz23 : w.heap.size + 1 + 1 + 1 < w2.heap.size := by omega
      try have hz24 : w.heap.size + 1 + 1 + 1 + 1 < w2.heap.size := by omega
      try have hz25 : w.heap.size + 1 + 1 + 1 + 1 + 1 < w2.heap.size := by omega
      try have hy1_2 : w1.heap.size < w2.heap.size := by omega
      go_wp2
      go_ret
      exact ⟨rfl, by ((repeat' (first | exact Below.refl _ _ | assumption | refine Below.setCell ?_ ?_ _ | refine bdrewN ?_ _ | refine Below.drew ?_ | refine Below.alloc ?_ ?_ _ | refine bbehind ?_ (by assumption) ?_)); all_goals first | (simp; done) | (simp; omega) | omega)⟩
  · have hd' : (ad != bd) = true := by simpa using hd
    rw [if_neg hd]
    clear hd
    go_enter Try.func106, Try.ntmps106
    go_wp2
    go_ret
    exact ⟨rfl, by ((repeat' (first | exact Below.refl _ _ | assumption | refine Below.setCell ?_ ?_ _ | refine bdrewN ?_ _ | refine Below.drew ?_ | refine Below.alloc ?_ ?_ _ | refine bbehind ?_ (by assumption) ?_)); all_goals first | (simp; done) | (simp; omega) | omega)⟩

set_option maxRecDepth 100000 in
set_option maxHeartbeats 2000000 in
theorem better_any (b0 : Nat) (an ad xn xd yn yd : Int) (m : Nat) (w : World) (f : Fit an ad) (hm : m ≤ 1000) (hx : Cand an ad m (xn, xd)) (hy : Cand an ad m (yn, yd))
    (c1 : w.cell? ⟨b0, 0, none⟩ = some (.int .i64 an)) (c2 : w.cell? ⟨b0, 1, none⟩ = some (.int .i64 ad)) (k0 : b0 < w.heap.size) :
    Calls Try.prog 104 #[.agg #[.int .i64 xn, .int .i64 xd], .agg #[.int .i64 yn, .int .i64 yd], .pointer (some ⟨b0, 0, none⟩)] w fun e w' => e = .returned (.bool (betterM an ad (xn, xd) (yn, yd))) ∧ Below w.heap.size w w' := by
  have bx := cand_bd f hm hx
  have by' := cand_bd f hm hy
  simp only at bx by'
  obtain ⟨-, -, ⟨x5, x6⟩, x7, x8⟩ := bx
  obtain ⟨-, -, ⟨y5, y6⟩, y7, y8⟩ := by'
  have hx1 := hx.lo; have hx2 := hx.hi; have hy1 := hy.lo; have hy2 := hy.hi
  simp only at hx1 hx2 hy1 hy2
  have f4 := f.dhi
  have m1 := mul_bd (a := dist an ad (xn, xd)) (b := yd) (A := 1000000000) (B := 1000) (by omega) (by omega) (by omega) (by omega)
  have m2 := mul_bd (a := dist an ad (yn, yd)) (b := xd) (A := 1000000000) (B := 1000) (by omega) (by omega) (by omega) (by omega)
  have wq1 : IntKind.i64.wrap (dist an ad (xn, xd) * yd) = dist an ad (xn, xd) * yd := IntWalk.i64_in _ (by omega)
  have wq2 : IntKind.i64.wrap (dist an ad (yn, yd) * xd) = dist an ad (yn, yd) * xd := IntWalk.i64_in _ (by omega)
  have DX := Lib.hid (fun w => distance_any an ad xn xd m w f hm hx)
  have DY := Lib.hid (fun w => distance_any an ad yn yd m w f hm hy)
  have SI := Lib.hid (fun w => nsimpler_any xn xd yn yd w x5 x6 y5 y6)
  have k1 : b0 < w.heap.size + 1 := by omega
  have k2 : b0 < w.heap.size + 1 + 1 := by omega
  have HM := Lib.hid (show betterM an ad (xn, xd) (yn, yd) = (decide (dist an ad (xn, xd) * yd < dist an ad (yn, yd) * xd) || (decide (dist an ad (xn, xd) * yd = dist an ad (yn, yd) * xd) && simplerM xn xd yn yd)) from rfl)
  clear m1 m2 x5 x6 x7 x8 y5 y6 y7 y8 hx1 hx2 hy1 hy2 f4
  have HX := Lib.hid hx; have HY := Lib.hid hy; have HF := Lib.hid f
  clear hx hy f
  go_enter Try.func104, Try.ntmps104
  go_wp2
  refine wp_region_quiet_all (fun w' => ∃ x : Lower _, w' = x.val) (by kernel_rfl) (by kernel_rfl) ⟨⟨_, (Below.refl _ _).drew⟩, rfl⟩ ?_
  repeat (go_big_quiet_step ((go_at_call 105; exact calls_lower _ (distance_any _ _ _ _ m _ HF.out hm (by first | exact HX.out | exact HY.out)))))
  refine wpQuiet_nil ?_
  intro w1 hx1
  obtain ⟨x1, hx1⟩ := hx1
  have hb1 := x1.prop
  rw [← hx1] at hb1
  clear hx1 x1
  obtain ⟨hc1, hf1⟩ := bcell hb1
  have hs1 := hb1.size
  try simp at hs1
  try have hz0 : w.heap.size < w1.heap.size := by omega
  try have hz1 : w.heap.size + 1 < w1.heap.size := by omega
  try have hz2 : w.heap.size + 1 + 1 < w1.heap.size := by omega
  try have hz3 : w.heap.size + 1 + 1 + 1 < w1.heap.size := by omega
  try have hz4 : w.heap.size + 1 + 1 + 1 + 1 < w1.heap.size := by omega
  try have hz5 : w.heap.size + 1 + 1 + 1 + 1 + 1 < w1.heap.size := by omega
  clear wq1 wq2
  generalize dist an ad (xn, xd) * yd = D1 at *
  generalize dist an ad (yn, yd) * xd = D2 at *
  clear DX DY HX HY HF
  by_cases h1 : D1 < D2
  · have HE := Lib.hid (show (decide (D1 < D2) || (decide (D1 = D2) && simplerM xn xd yn yd)) = true by simp [h1])
    go_wp2
    go_ret
    exact ⟨by rw [HM.out, HE.out]; rfl, by ((repeat' (first | exact Below.refl _ _ | assumption | refine Below.setCell ?_ ?_ _ | refine bdrewN ?_ _ | refine Below.drew ?_ | refine Below.alloc ?_ ?_ _ | refine bbehind ?_ (by assumption) ?_)); all_goals first | (simp; done) | (simp; omega) | omega)⟩
  · by_cases h2 : D1 = D2
    · have HE := Lib.hid (show (decide (D1 < D2) || (decide (D1 = D2) && simplerM xn xd yn yd)) = simplerM xn xd yn yd by simp [h2])
      have h3 : (D1 == D2) = true := by simpa using h2
      clear h2
      go_wp2_with fail
      refine (SI.out _).mono ?_; rintro e w2 ⟨rfl, hb2⟩; obtain ⟨hc2, hf2⟩ := bcell hb2; have hs2 := hb2.size; (try simp at hs2); (try have hz20 : w.heap.size < w2.heap.size := by omega); (try have hz21 : w.heap.size + 1 < w2.heap.size := by omega); (try have hz22 : w.heap.size + 1 + 1 < w2.heap.size := by omega); (try have hz23 : w.heap.size + 1 + 1 + 1 < w2.heap.size := by omega); (try have hz24 : w.heap.size + 1 + 1 + 1 + 1 < w2.heap.size := by omega); (try have hz25 : w.heap.size + 1 + 1 + 1 + 1 + 1 < w2.heap.size := by omega); (try have hy1_2 : w1.heap.size < w2.heap.size := by omega)
      go_wp2
      go_ret
      exact ⟨by rw [HM.out, HE.out]; rfl, by ((repeat' (first | exact Below.refl _ _ | assumption | refine Below.setCell ?_ ?_ _ | refine bdrewN ?_ _ | refine Below.drew ?_ | refine Below.alloc ?_ ?_ _ | refine bbehind ?_ (by assumption) ?_)); all_goals first | (simp; done) | (simp; omega) | omega)⟩
    · have HE := Lib.hid (show (decide (D1 < D2) || (decide (D1 = D2) && simplerM xn xd yn yd)) = false by simp [h1, h2])
      have h3 : (D1 == D2) = false := by simpa using h2
      clear h2
      go_wp2
      go_ret
      exact ⟨by rw [HM.out, HE.out]; rfl, by ((repeat' (first | exact Below.refl _ _ | assumption | refine Below.setCell ?_ ?_ _ | refine bdrewN ?_ _ | refine Below.drew ?_ | refine Below.alloc ?_ ?_ _ | refine bbehind ?_ (by assumption) ?_)); all_goals first | (simp; done) | (simp; omega) | omega)⟩
end Go.Proofs.Ytgefidffhdanhaa
