import Derived.Test.YtgefidffhdanhaaLawSimple
import Derived.Test.YtgefidffhdanhaaNumNr
import Derived.Deep.DeepCutAuto
namespace Go.Proofs.Ytgefidffhdanhaa
open Go.RowKit Go.BigFrame

theorem chk_abs {n d : Int} (h : chk n d = 0) : chk (n.natAbs : Int) d = 0 := by
  by_cases hn : n < 0
  · have e : (n.natAbs : Int) = -n := by omega
    rw [e]; exact chk_neg h
  · have e : (n.natAbs : Int) = n := by omega
    rw [e]; exact h

/-- the distances, in lowest terms. -/
theorem dist_low {an ad x y p q : Int} (h : p * (y * ad) = (x * ad - an * y) * q) (hq : 0 < q) (hd : 0 < y * ad) : (p.natAbs : Int) * (y * ad) = dist an ad (x, y) * q := by
  have e1 : (p * (y * ad)).natAbs = ((x * ad - an * y) * q).natAbs := by rw [h]
  rw [Int.natAbs_mul p, Int.natAbs_mul (x * ad - an * y)] at e1
  have e2 : ((y * ad).natAbs : Int) = y * ad := by omega
  have e3 : (q.natAbs : Int) = q := by omega
  unfold dist
  show (p.natAbs : Int) * (y * ad) = ((x * ad - an * y).natAbs : Int) * q
  rw [← e2, ← e3, ← Int.natCast_mul, ← Int.natCast_mul, e3, e2] at *
  exact congrArg _ e1

theorem cmp_dist {an ad x y c d p q r s : Int} (ha : 0 < ad) (hy : 0 < y) (hd : 0 < d) (hq : 0 < q) (hs : 0 < s)
    (h1 : p * (y * ad) = dist an ad (x, y) * q) (h2 : r * (d * ad) = dist an ad (c, d) * s) (hb : ¬ betterM an ad (c, d) (x, y) = true) :
    cmpM (p * s) (r * q) < 0 ∨ (cmpM (p * s) (r * q) = 0 ∧ simplerM c d x y = false) := by
  rw [better_iff] at hb
  simp only [not_or, not_and] at hb
  obtain ⟨hb1, hb2⟩ := hb
  generalize dist an ad (x, y) = D at *
  generalize dist an ad (c, d) = E at *
  have pos : 0 < y * ad * d := Int.mul_pos (Int.mul_pos hy ha) hd
  have l : (p * s) * (y * ad * d) = (D * d) * (q * s) := by
    calc (p * s) * (y * ad * d) = (p * (y * ad)) * (s * d) := by ac_rfl
      _ = (D * q) * (s * d) := by rw [h1]
      _ = (D * d) * (q * s) := by ac_rfl
  have k : (r * q) * (y * ad * d) = (E * y) * (q * s) := by
    calc (r * q) * (y * ad * d) = (r * (d * ad)) * (q * y) := by ac_rfl
      _ = (E * s) * (q * y) := by rw [h2]
      _ = (E * y) * (q * s) := by ac_rfl
  have qs : 0 < q * s := Int.mul_pos hq hs
  rcases Int.lt_trichotomy (D * d) (E * y) with h | h | h
  · left
    rw [cmpM_neg1.2]
    · decide
    · refine Int.lt_of_mul_lt_mul_right (a := y * ad * d) ?_ (by omega)
      rw [l, k]
      exact Int.mul_lt_mul_of_pos_right h qs
  · right
    refine ⟨?_, ?_⟩
    · have e : p * s = r * q := by
        refine Int.eq_of_mul_eq_mul_right (a := y * ad * d) (by omega) ?_
        rw [l, k, h]
      rw [e]; unfold cmpM; simp
    · have := hb2 h.symm
      simpa using this
  · omega

/-- in what order the walk meets what. -/
structure NearFacts (an ad cn cd : Int) (m : Nat) (x y : Int) : Prop where
  q : bestQ an ad m = (x, y)
  fit : chk x y = 0
  lo : 1 ≤ y
  hi : y ≤ m
  own : ad ≤ m → x = an ∧ y = ad
  best : cd ≤ m → ¬ betterM an ad (cn, cd) (x, y) = true

theorem near_facts {an ad cn cd : Int} {m : Nat} (ha : chk an ad = 0) (hc : chk cn cd = 0) (hm1 : 1 ≤ m) (hm : m ≤ 1000) : ∃ x y, NearFacts an ad cn cd m x y := by
  have B := (best_is (an := an) (den_pos ha) hm1).2
  refine ⟨(bestQ an ad m).1, (bestQ an ad m).2, rfl, best_fit ha B hm, B.cand.lo, B.cand.hi, fun h => ?_, fun h => B.best _ (by have := den_pos hc; show 1 ≤ cd; omega) h⟩
  have := best_own ha B h
  rw [this]; exact ⟨rfl, rfl⟩

/-- both differences are there. -/
structure DiffFacts (px py rx ry K : Int) : Prop where
  p : chk px py = 0
  r : chk rx ry = 0
  k : cmpM ((px.natAbs : Int) * ry) ((rx.natAbs : Int) * py) = K

theorem diff_facts {an ad cn cd px py rx ry x y : Int} {m : Nat} (ha : chk an ad = 0) (hc : chk cn cd = 0) (F : NearFacts an ad cn cd m x y) (h : cd ≤ m) (h1 : subT x y an ad = (px, py, 0)) (h2 : subT cn cd an ad = (rx, ry, 0)) :
    ∃ K, DiffFacts px py rx ry K ∧ (K < 0 ∨ (K = 0 ∧ simplerM cn cd x y = false)) := by
  rcases sub_is F.fit ha with ⟨a, b, s1, s2, s3⟩ | ⟨s1, _⟩
  · rw [s1] at h1
    simp only [Prod.mk.injEq, and_true] at h1
    obtain ⟨rfl, rfl⟩ := h1
    rcases sub_is hc ha with ⟨c, d, t1, t2, t3⟩ | ⟨t1, _⟩
    · rw [t1] at h2
      simp only [Prod.mk.injEq, and_true] at h2
      obtain ⟨rfl, rfl⟩ := h2
      have pa := den_pos ha; have pc := den_pos hc; have px := den_pos F.fit; have p1 := den_pos s2; have p2 := den_pos t2
      exact ⟨_, ⟨s2, t2, rfl⟩, cmp_dist pa px pc p1 p2 (dist_low s3.symm p1 (Int.mul_pos px pa)) (dist_low t3.symm p2 (Int.mul_pos pc pa)) (F.best h)⟩
    · rw [t1] at h2; simp at h2
  · rw [s1] at h1; simp at h1

set_option maxRecDepth 100000 in
set_option maxHeartbeats 8000000 in
theorem nearest_ok (an ad cn cd k x y px py e1 rx ry e2 : Int) (m : Nat) (w : World) (hk : 0 ≤ k) (hk2 : k ≤ 65535) (hmk : 1 + k % 1000 = m) (hm1 : 1 ≤ m) (hm : m ≤ 1000) (ha : chk an ad = 0) (hc : chk cn cd = 0) (F : NearFacts an ad cn cd m x y)
    (h1 : subT x y an ad = (px, py, e1)) (h2 : subT cn cd an ad = (rx, ry, e2)) :
    Calls Try.prog 13 #[.agg #[.int .i64 an, .int .i64 ad], .agg #[.int .i64 cn, .int .i64 cd], .int .u16 k] w fun e w' => e = .returned (.bool true) ∧ Below w.heap.size w w' := by
  have C := Lib.hid (fun w => near_ok an ad m w ha hm1 hm)
  rw [F.q] at C
  have I := Lib.hid (fun w => in_any y 1 m w)
  rw [inB_yes ⟨F.lo, F.hi⟩] at I
  have C0 := Lib.hid (fun w => fit_ok an ad cn cd cn cd w ha hc hc)
  have S1 := Lib.hid (fun w => sub_res h1 w)
  have S2 := Lib.hid (fun w => sub_res h2 w)
  have SI := Lib.hid (fun w => simpler_any cn cd x y w (fit_of_chk hc) (fit_of_chk F.fit))
  have HO := Lib.hid F.own
  have HD := Lib.hid (fun (h : cd ≤ m) (z1 : e1 = 0) (z2 : e2 = 0) => diff_facts ha hc F h (by rw [h1, z1]) (by rw [h2, z2]))
  clear F ha hc h1 h2
  go_enter Try.func13, Try.ntmps13
  go_wp2_with fail
  refine (C0.out _).mono ?_; rintro e w1 ⟨rfl, hb1⟩; obtain ⟨hc1, hf1⟩ := bcell hb1; have hs1 := hb1.size; (try simp at hs1); (try have hz10 : w.heap.size < w1.heap.size := by omega); (try have hz11 : w.heap.size + 1 < w1.heap.size := by omega); (try have hz12 : w.heap.size + 1 + 1 < w1.heap.size := by omega); (try have hz13 : w.heap.size + 1 + 1 + 1 < w1.heap.size := by omega); (try have hz14 : w.heap.size + 1 + 1 + 1 + 1 < w1.heap.size := by omega); (try have hz15 : w.heap.size + 1 + 1 + 1 + 1 + 1 < w1.heap.size := by omega)
  go_wp2_with fail
  refine (C.out _).mono ?_; rintro e w2 ⟨rfl, hb2⟩; obtain ⟨hc2, hf2⟩ := bcell hb2; have hs2 := hb2.size; (try simp at hs2); (try have hz20 : w.heap.size < w2.heap.size := by omega); (try have hz21 : w.heap.size + 1 < w2.heap.size := by omega); (try have hz22 : w.heap.size + 1 + 1 < w2.heap.size := by omega); (try have hz23 : w.heap.size + 1 + 1 + 1 < w2.heap.size := by omega); (try have hz24 : w.heap.size + 1 + 1 + 1 + 1 < w2.heap.size := by omega); (try have hz25 : w.heap.size + 1 + 1 + 1 + 1 + 1 < w2.heap.size := by omega); (try have hy1_2 : w1.heap.size < w2.heap.size := by omega)
  go_wp2_with fail
  refine (I.out _).mono ?_; rintro e w3 ⟨rfl, rfl⟩
  by_cases ho : ad ≤ m
  · obtain ⟨hx1, hx2⟩ := HO.out ho
    subst hx1 hx2
    clear HO
    have HO := trivial
    by_cases hcm : (m : Int) < cd
    · go_wp2_with fail
      refine (summed_any _).mono ?_; rintro e w4 ⟨rfl, hb4⟩; obtain ⟨hc4, hf4⟩ := bcell hb4; have hs4 := hb4.size; (try simp at hs4); (try have hz40 : w.heap.size < w4.heap.size := by omega); (try have hz41 : w.heap.size + 1 < w4.heap.size := by omega); (try have hz42 : w.heap.size + 1 + 1 < w4.heap.size := by omega); (try have hz43 : w.heap.size + 1 + 1 + 1 < w4.heap.size := by omega); (try have hz44 : w.heap.size + 1 + 1 + 1 + 1 < w4.heap.size := by omega); (try have hz45 : w.heap.size + 1 + 1 + 1 + 1 + 1 < w4.heap.size := by omega); (try have hy1_4 : w1.heap.size < w4.heap.size := by omega); (try have hy2_4 : w2.heap.size < w4.heap.size := by omega); (try have hy3_4 : w3.heap.size < w4.heap.size := by omega)
      go_wp2
      go_ret
      exact ⟨rfl, by ((repeat' (first | exact Below.refl _ _ | assumption | refine Below.setCell ?_ ?_ _ | refine bdrewN ?_ _ | refine Below.drew ?_ | refine Below.alloc ?_ ?_ _ | refine bbehind ?_ (by assumption) ?_)); all_goals first | (simp; done) | (simp; omega) | omega)⟩
    · go_wp2_with fail
      refine (S1.out _).mono ?_; rintro e w4 ⟨rfl, hb4⟩; obtain ⟨hc4, hf4⟩ := bcell hb4; have hs4 := hb4.size; (try simp at hs4); (try have hz40 : w.heap.size < w4.heap.size := by omega); (try have hz41 : w.heap.size + 1 < w4.heap.size := by omega); (try have hz42 : w.heap.size + 1 + 1 < w4.heap.size := by omega); (try have hz43 : w.heap.size + 1 + 1 + 1 < w4.heap.size := by omega); (try have hz44 : w.heap.size + 1 + 1 + 1 + 1 < w4.heap.size := by omega); (try have hz45 : w.heap.size + 1 + 1 + 1 + 1 + 1 < w4.heap.size := by omega); (try have hy1_4 : w1.heap.size < w4.heap.size := by omega); (try have hy2_4 : w2.heap.size < w4.heap.size := by omega); (try have hy3_4 : w3.heap.size < w4.heap.size := by omega)
      go_wp2_with fail
      refine (S2.out _).mono ?_; rintro e w5 ⟨rfl, hb5⟩; obtain ⟨hc5, hf5⟩ := bcell hb5; have hs5 := hb5.size; (try simp at hs5); (try have hz50 : w.heap.size < w5.heap.size := by omega); (try have hz51 : w.heap.size + 1 < w5.heap.size := by omega); (try have hz52 : w.heap.size + 1 + 1 < w5.heap.size := by omega); (try have hz53 : w.heap.size + 1 + 1 + 1 < w5.heap.size := by omega); (try have hz54 : w.heap.size + 1 + 1 + 1 + 1 < w5.heap.size := by omega); (try have hz55 : w.heap.size + 1 + 1 + 1 + 1 + 1 < w5.heap.size := by omega); (try have hy1_5 : w1.heap.size < w5.heap.size := by omega); (try have hy2_5 : w2.heap.size < w5.heap.size := by omega); (try have hy3_5 : w3.heap.size < w5.heap.size := by omega); (try have hy4_5 : w4.heap.size < w5.heap.size := by omega)
      by_cases z1 : e1 = 0
      · by_cases z2 : e2 = 0
        · obtain ⟨K, hD, hK⟩ := HD.out (by omega) z1 z2
          subst z1 z2
          have CK := Lib.hid (fun w => cmp_res (chk_abs hD.p) (chk_abs hD.r) hD.k w)
          obtain ⟨fp1, fp2, -, -⟩ := fit_of_chk hD.p
          obtain ⟨fr1, fr2, -, -⟩ := fit_of_chk hD.r
          clear hD HD C C0 S1 S2 I HO
          by_cases n1 : px < 0
          · by_cases n2 : rx < 0
            · obtain ⟨P, hP⟩ : ∃ P : Int, (px.natAbs : Int) = P := ⟨_, rfl⟩
              have hpx : px = -P := by omega
              rw [hP] at CK
              have bP : 0 ≤ P ∧ P ≤ 1000000000 := by omega
              obtain ⟨bP1, bP2⟩ := bP
              subst hpx
              clear hP
              have nP : -P < 0 := n1
              obtain ⟨R, hR⟩ : ∃ R : Int, (rx.natAbs : Int) = R := ⟨_, rfl⟩
              have hrx : rx = -R := by omega
              rw [hR] at CK
              have bR : 0 ≤ R ∧ R ≤ 1000000000 := by omega
              obtain ⟨bR1, bR2⟩ := bR
              subst hrx
              clear hR
              have nR : -R < 0 := n2
              go_wp2_with fail
              refine (CK.out _).mono ?_; rintro e w6 ⟨rfl, hb6⟩; obtain ⟨hc6, hf6⟩ := bcell hb6; have hs6 := hb6.size; (try simp at hs6); (try have hz60 : w.heap.size < w6.heap.size := by omega); (try have hz61 : w.heap.size + 1 < w6.heap.size := by omega); (try have hz62 : w.heap.size + 1 + 1 < w6.heap.size := by omega); (try have hz63 : w.heap.size + 1 + 1 + 1 < w6.heap.size := by omega); (try have hz64 : w.heap.size + 1 + 1 + 1 + 1 < w6.heap.size := by omega); (try have hz65 : w.heap.size + 1 + 1 + 1 + 1 + 1 < w6.heap.size := by omega); (try have hy1_6 : w1.heap.size < w6.heap.size := by omega); (try have hy2_6 : w2.heap.size < w6.heap.size := by omega); (try have hy3_6 : w3.heap.size < w6.heap.size := by omega); (try have hy4_6 : w4.heap.size < w6.heap.size := by omega); (try have hy5_6 : w5.heap.size < w6.heap.size := by omega)
              rcases hK with hK | ⟨hK, hS⟩
              · go_wp2_with fail
                refine (summed_any _).mono ?_; rintro e w7 ⟨rfl, hb7⟩; obtain ⟨hc7, hf7⟩ := bcell hb7; have hs7 := hb7.size; (try simp at hs7); (try have hz70 : w.heap.size < w7.heap.size := by omega); (try have hz71 : w.heap.size + 1 < w7.heap.size := by omega); (try have hz72 : w.heap.size + 1 + 1 < w7.heap.size := by omega); (try have hz73 : w.heap.size + 1 + 1 + 1 < w7.heap.size := by omega); (try have hz74 : w.heap.size + 1 + 1 + 1 + 1 < w7.heap.size := by omega); (try have hz75 : w.heap.size + 1 + 1 + 1 + 1 + 1 < w7.heap.size := by omega); (try have hy1_7 : w1.heap.size < w7.heap.size := by omega); (try have hy2_7 : w2.heap.size < w7.heap.size := by omega); (try have hy3_7 : w3.heap.size < w7.heap.size := by omega); (try have hy4_7 : w4.heap.size < w7.heap.size := by omega); (try have hy5_7 : w5.heap.size < w7.heap.size := by omega); (try have hy6_7 : w6.heap.size < w7.heap.size := by omega)
                go_wp2
                go_ret
                exact ⟨rfl, by ((repeat' (first | exact Below.refl _ _ | assumption | refine Below.setCell ?_ ?_ _ | refine bdrewN ?_ _ | refine Below.drew ?_ | refine Below.alloc ?_ ?_ _ | refine bbehind ?_ (by assumption) ?_)); all_goals first | (simp; done) | (simp; omega) | omega)⟩
              · subst hK
                rw [hS] at SI
                clear hS
                go_wp2_with fail
                refine (SI.out _).mono ?_; rintro e w7 ⟨rfl, hb7⟩; obtain ⟨hc7, hf7⟩ := bcell hb7; have hs7 := hb7.size; (try simp at hs7); (try have hz70 : w.heap.size < w7.heap.size := by omega); (try have hz71 : w.heap.size + 1 < w7.heap.size := by omega); (try have hz72 : w.heap.size + 1 + 1 < w7.heap.size := by omega); (try have hz73 : w.heap.size + 1 + 1 + 1 < w7.heap.size := by omega); (try have hz74 : w.heap.size + 1 + 1 + 1 + 1 < w7.heap.size := by omega); (try have hz75 : w.heap.size + 1 + 1 + 1 + 1 + 1 < w7.heap.size := by omega); (try have hy1_7 : w1.heap.size < w7.heap.size := by omega); (try have hy2_7 : w2.heap.size < w7.heap.size := by omega); (try have hy3_7 : w3.heap.size < w7.heap.size := by omega); (try have hy4_7 : w4.heap.size < w7.heap.size := by omega); (try have hy5_7 : w5.heap.size < w7.heap.size := by omega); (try have hy6_7 : w6.heap.size < w7.heap.size := by omega)
                go_wp2_with fail
                refine (summed_any _).mono ?_; rintro e w8 ⟨rfl, hb8⟩; obtain ⟨hc8, hf8⟩ := bcell hb8; have hs8 := hb8.size; (try simp at hs8); (try have hz80 : w.heap.size < w8.heap.size := by omega); (try have hz81 : w.heap.size + 1 < w8.heap.size := by omega); (try have hz82 : w.heap.size + 1 + 1 < w8.heap.size := by omega); (try have hz83 : w.heap.size + 1 + 1 + 1 < w8.heap.size := by omega); (try have hz84 : w.heap.size + 1 + 1 + 1 + 1 < w8.heap.size := by omega); (try have hz85 : w.heap.size + 1 + 1 + 1 + 1 + 1 < w8.heap.size := by omega); (try have hy1_8 : w1.heap.size < w8.heap.size := by omega); (try have hy2_8 : w2.heap.size < w8.heap.size := by omega); (try have hy3_8 : w3.heap.size < w8.heap.size := by omega); (try have hy4_8 : w4.heap.size < w8.heap.size := by omega); (try have hy5_8 : w5.heap.size < w8.heap.size := by omega); (try have hy6_8 : w6.heap.size < w8.heap.size := by omega); (try have hy7_8 : w7.heap.size < w8.heap.size := by omega)
                go_wp2
                go_ret
                exact ⟨rfl, by ((repeat' (first | exact Below.refl _ _ | assumption | refine Below.setCell ?_ ?_ _ | refine bdrewN ?_ _ | refine Below.drew ?_ | refine Below.alloc ?_ ?_ _ | refine bbehind ?_ (by assumption) ?_)); all_goals first | (simp; done) | (simp; omega) | omega)⟩
            · obtain ⟨P, hP⟩ : ∃ P : Int, (px.natAbs : Int) = P := ⟨_, rfl⟩
              have hpx : px = -P := by omega
              rw [hP] at CK
              have bP : 0 ≤ P ∧ P ≤ 1000000000 := by omega
              obtain ⟨bP1, bP2⟩ := bP
              subst hpx
              clear hP
              have nP : -P < 0 := n1
              have hrx : (rx.natAbs : Int) = rx := by omega
              rw [hrx] at CK
              clear hrx
              go_wp2_with fail
              refine (CK.out _).mono ?_; rintro e w6 ⟨rfl, hb6⟩; obtain ⟨hc6, hf6⟩ := bcell hb6; have hs6 := hb6.size; (try simp at hs6); (try have hz60 : w.heap.size < w6.heap.size := by omega); (try have hz61 : w.heap.size + 1 < w6.heap.size := by omega); (try have hz62 : w.heap.size + 1 + 1 < w6.heap.size := by omega); (try have hz63 : w.heap.size + 1 + 1 + 1 < w6.heap.size := by omega); (try have hz64 : w.heap.size + 1 + 1 + 1 + 1 < w6.heap.size := by omega); (try have hz65 : w.heap.size + 1 + 1 + 1 + 1 + 1 < w6.heap.size := by omega); (try have hy1_6 : w1.heap.size < w6.heap.size := by omega); (try have hy2_6 : w2.heap.size < w6.heap.size := by omega); (try have hy3_6 : w3.heap.size < w6.heap.size := by omega); (try have hy4_6 : w4.heap.size < w6.heap.size := by omega); (try have hy5_6 : w5.heap.size < w6.heap.size := by omega)
              rcases hK with hK | ⟨hK, hS⟩
              · go_wp2_with fail
                refine (summed_any _).mono ?_; rintro e w7 ⟨rfl, hb7⟩; obtain ⟨hc7, hf7⟩ := bcell hb7; have hs7 := hb7.size; (try simp at hs7); (try have hz70 : w.heap.size < w7.heap.size := by omega); (try have hz71 : w.heap.size + 1 < w7.heap.size := by omega); (try have hz72 : w.heap.size + 1 + 1 < w7.heap.size := by omega); (try have hz73 : w.heap.size + 1 + 1 + 1 < w7.heap.size := by omega); (try have hz74 : w.heap.size + 1 + 1 + 1 + 1 < w7.heap.size := by omega); (try have hz75 : w.heap.size + 1 + 1 + 1 + 1 + 1 < w7.heap.size := by omega); (try have hy1_7 : w1.heap.size < w7.heap.size := by omega); (try have hy2_7 : w2.heap.size < w7.heap.size := by omega); (try have hy3_7 : w3.heap.size < w7.heap.size := by omega); (try have hy4_7 : w4.heap.size < w7.heap.size := by omega); (try have hy5_7 : w5.heap.size < w7.heap.size := by omega); (try have hy6_7 : w6.heap.size < w7.heap.size := by omega)
                go_wp2
                go_ret
                exact ⟨rfl, by ((repeat' (first | exact Below.refl _ _ | assumption | refine Below.setCell ?_ ?_ _ | refine bdrewN ?_ _ | refine Below.drew ?_ | refine Below.alloc ?_ ?_ _ | refine bbehind ?_ (by assumption) ?_)); all_goals first | (simp; done) | (simp; omega) | omega)⟩
              · subst hK
                rw [hS] at SI
                clear hS
                go_wp2_with fail
                refine (SI.out _).mono ?_; rintro e w7 ⟨rfl, hb7⟩; obtain ⟨hc7, hf7⟩ := bcell hb7; have hs7 := hb7.size; (try simp at hs7); (try have hz70 : w.heap.size < w7.heap.size := by omega); (try have hz71 : w.heap.size + 1 < w7.heap.size := by omega); (try have hz72 : w.heap.size + 1 + 1 < w7.heap.size := by omega); (try have hz73 : w.heap.size + 1 + 1 + 1 < w7.heap.size := by omega); (try have hz74 : w.heap.size + 1 + 1 + 1 + 1 < w7.heap.size := by omega); (try have hz75 : w.heap.size + 1 + 1 + 1 + 1 + 1 < w7.heap.size := by omega); (try have hy1_7 : w1.heap.size < w7.heap.size := by omega); (try have hy2_7 : w2.heap.size < w7.heap.size := by omega); (try have hy3_7 : w3.heap.size < w7.heap.size := by omega); (try have hy4_7 : w4.heap.size < w7.heap.size := by omega); (try have hy5_7 : w5.heap.size < w7.heap.size := by omega); (try have hy6_7 : w6.heap.size < w7.heap.size := by omega)
                go_wp2_with fail
                refine (summed_any _).mono ?_; rintro e w8 ⟨rfl, hb8⟩; obtain ⟨hc8, hf8⟩ := bcell hb8; have hs8 := hb8.size; (try simp at hs8); (try have hz80 : w.heap.size < w8.heap.size := by omega); (try have hz81 : w.heap.size + 1 < w8.heap.size := by omega); (try have hz82 : w.heap.size + 1 + 1 < w8.heap.size := by omega); (try have hz83 : w.heap.size + 1 + 1 + 1 < w8.heap.size := by omega); (try have hz84 : w.heap.size + 1 + 1 + 1 + 1 < w8.heap.size := by omega); (try have hz85 : w.heap.size + 1 + 1 + 1 + 1 + 1 < w8.heap.size := by omega); (try have hy1_8 : w1.heap.size < w8.heap.size := by omega); (try have hy2_8 : w2.heap.size < w8.heap.size := by omega); (try have hy3_8 : w3.heap.size < w8.heap.size := by omega); (try have hy4_8 : w4.heap.size < w8.heap.size := by omega); (try have hy5_8 : w5.heap.size < w8.heap.size := by omega); (try have hy6_8 : w6.heap.size < w8.heap.size := by omega); (try have hy7_8 : w7.heap.size < w8.heap.size := by omega)
                go_wp2
                go_ret
                exact ⟨rfl, by ((repeat' (first | exact Below.refl _ _ | assumption | refine Below.setCell ?_ ?_ _ | refine bdrewN ?_ _ | refine Below.drew ?_ | refine Below.alloc ?_ ?_ _ | refine bbehind ?_ (by assumption) ?_)); all_goals first | (simp; done) | (simp; omega) | omega)⟩
          · by_cases n2 : rx < 0
            · have hpx : (px.natAbs : Int) = px := by omega
              rw [hpx] at CK
              clear hpx
              obtain ⟨R, hR⟩ : ∃ R : Int, (rx.natAbs : Int) = R := ⟨_, rfl⟩
              have hrx : rx = -R := by omega
              rw [hR] at CK
              have bR : 0 ≤ R ∧ R ≤ 1000000000 := by omega
              obtain ⟨bR1, bR2⟩ := bR
              subst hrx
              clear hR
              have nR : -R < 0 := n2
              go_wp2_with fail
              refine (CK.out _).mono ?_; rintro e w6 ⟨rfl, hb6⟩; obtain ⟨hc6, hf6⟩ := bcell hb6; have hs6 := hb6.size; (try simp at hs6); (try have hz60 : w.heap.size < w6.heap.size := by omega); (try have hz61 : w.heap.size + 1 < w6.heap.size := by omega); (try have hz62 : w.heap.size + 1 + 1 < w6.heap.size := by omega); (try have hz63 : w.heap.size + 1 + 1 + 1 < w6.heap.size := by omega); (try have hz64 : w.heap.size + 1 + 1 + 1 + 1 < w6.heap.size := by omega); (try have hz65 : w.heap.size + 1 + 1 + 1 + 1 + 1 < w6.heap.size := by omega); (try have hy1_6 : w1.heap.size < w6.heap.size := by omega); (try have hy2_6 : w2.heap.size < w6.heap.size := by omega); (try have hy3_6 : w3.heap.size < w6.heap.size := by omega); (try have hy4_6 : w4.heap.size < w6.heap.size := by omega); (try have hy5_6 : w5.heap.size < w6.heap.size := by omega)
              rcases hK with hK | ⟨hK, hS⟩
              · go_wp2_with fail
                refine (summed_any _).mono ?_; rintro e w7 ⟨rfl, hb7⟩; obtain ⟨hc7, hf7⟩ := bcell hb7; have hs7 := hb7.size; (try simp at hs7); (try have hz70 : w.heap.size < w7.heap.size := by omega); (try have hz71 : w.heap.size + 1 < w7.heap.size := by omega); (try have hz72 : w.heap.size + 1 + 1 < w7.heap.size := by omega); (try have hz73 : w.heap.size + 1 + 1 + 1 < w7.heap.size := by omega); (try have hz74 : w.heap.size + 1 + 1 + 1 + 1 < w7.heap.size := by omega); (try have hz75 : w.heap.size + 1 + 1 + 1 + 1 + 1 < w7.heap.size := by omega); (try have hy1_7 : w1.heap.size < w7.heap.size := by omega); (try have hy2_7 : w2.heap.size < w7.heap.size := by omega); (try have hy3_7 : w3.heap.size < w7.heap.size := by omega); (try have hy4_7 : w4.heap.size < w7.heap.size := by omega); (try have hy5_7 : w5.heap.size < w7.heap.size := by omega); (try have hy6_7 : w6.heap.size < w7.heap.size := by omega)
                go_wp2
                go_ret
                exact ⟨rfl, by ((repeat' (first | exact Below.refl _ _ | assumption | refine Below.setCell ?_ ?_ _ | refine bdrewN ?_ _ | refine Below.drew ?_ | refine Below.alloc ?_ ?_ _ | refine bbehind ?_ (by assumption) ?_)); all_goals first | (simp; done) | (simp; omega) | omega)⟩
              · subst hK
                rw [hS] at SI
                clear hS
                go_wp2_with fail
                refine (SI.out _).mono ?_; rintro e w7 ⟨rfl, hb7⟩; obtain ⟨hc7, hf7⟩ := bcell hb7; have hs7 := hb7.size; (try simp at hs7); (try have hz70 : w.heap.size < w7.heap.size := by omega); (try have hz71 : w.heap.size + 1 < w7.heap.size := by omega); (try have hz72 : w.heap.size + 1 + 1 < w7.heap.size := by omega); (try have hz73 : w.heap.size + 1 + 1 + 1 < w7.heap.size := by omega); (try have hz74 : w.heap.size + 1 + 1 + 1 + 1 < w7.heap.size := by omega); (try have hz75 : w.heap.size + 1 + 1 + 1 + 1 + 1 < w7.heap.size := by omega); (try have hy1_7 : w1.heap.size < w7.heap.size := by omega); (try have hy2_7 : w2.heap.size < w7.heap.size := by omega); (try have hy3_7 : w3.heap.size < w7.heap.size := by omega); (try have hy4_7 : w4.heap.size < w7.heap.size := by omega); (try have hy5_7 : w5.heap.size < w7.heap.size := by omega); (try have hy6_7 : w6.heap.size < w7.heap.size := by omega)
                go_wp2_with fail
                refine (summed_any _).mono ?_; rintro e w8 ⟨rfl, hb8⟩; obtain ⟨hc8, hf8⟩ := bcell hb8; have hs8 := hb8.size; (try simp at hs8); (try have hz80 : w.heap.size < w8.heap.size := by omega); (try have hz81 : w.heap.size + 1 < w8.heap.size := by omega); (try have hz82 : w.heap.size + 1 + 1 < w8.heap.size := by omega); (try have hz83 : w.heap.size + 1 + 1 + 1 < w8.heap.size := by omega); (try have hz84 : w.heap.size + 1 + 1 + 1 + 1 < w8.heap.size := by omega); (try have hz85 : w.heap.size + 1 + 1 + 1 + 1 + 1 < w8.heap.size := by omega); (try have hy1_8 : w1.heap.size < w8.heap.size := by omega); (try have hy2_8 : w2.heap.size < w8.heap.size := by omega); (try have hy3_8 : w3.heap.size < w8.heap.size := by omega); (try have hy4_8 : w4.heap.size < w8.heap.size := by omega); (try have hy5_8 : w5.heap.size < w8.heap.size := by omega); (try have hy6_8 : w6.heap.size < w8.heap.size := by omega); (try have hy7_8 : w7.heap.size < w8.heap.size := by omega)
                go_wp2
                go_ret
                exact ⟨rfl, by ((repeat' (first | exact Below.refl _ _ | assumption | refine Below.setCell ?_ ?_ _ | refine bdrewN ?_ _ | refine Below.drew ?_ | refine Below.alloc ?_ ?_ _ | refine bbehind ?_ (by assumption) ?_)); all_goals first | (simp; done) | (simp; omega) | omega)⟩
            · have hpx : (px.natAbs : Int) = px := by omega
              rw [hpx] at CK
              clear hpx
              have hrx : (rx.natAbs : Int) = rx := by omega
              rw [hrx] at CK
              clear hrx
              go_wp2_with fail
              refine (CK.out _).mono ?_; rintro e w6 ⟨rfl, hb6⟩; obtain ⟨hc6, hf6⟩ := bcell hb6; have hs6 := hb6.size; (try simp at hs6); (try have hz60 : w.heap.size < w6.heap.size := by omega); (try have hz61 : w.heap.size + 1 < w6.heap.size := by omega); (try have hz62 : w.heap.size + 1 + 1 < w6.heap.size := by omega); (try have hz63 : w.heap.size + 1 + 1 + 1 < w6.heap.size := by omega); (try have hz64 : w.heap.size + 1 + 1 + 1 + 1 < w6.heap.size := by omega); (try have hz65 : w.heap.size + 1 + 1 + 1 + 1 + 1 < w6.heap.size := by omega); (try have hy1_6 : w1.heap.size < w6.heap.size := by omega); (try have hy2_6 : w2.heap.size < w6.heap.size := by omega); (try have hy3_6 : w3.heap.size < w6.heap.size := by omega); (try have hy4_6 : w4.heap.size < w6.heap.size := by omega); (try have hy5_6 : w5.heap.size < w6.heap.size := by omega)
              rcases hK with hK | ⟨hK, hS⟩
              · go_wp2_with fail
                refine (summed_any _).mono ?_; rintro e w7 ⟨rfl, hb7⟩; obtain ⟨hc7, hf7⟩ := bcell hb7; have hs7 := hb7.size; (try simp at hs7); (try have hz70 : w.heap.size < w7.heap.size := by omega); (try have hz71 : w.heap.size + 1 < w7.heap.size := by omega); (try have hz72 : w.heap.size + 1 + 1 < w7.heap.size := by omega); (try have hz73 : w.heap.size + 1 + 1 + 1 < w7.heap.size := by omega); (try have hz74 : w.heap.size + 1 + 1 + 1 + 1 < w7.heap.size := by omega); (try have hz75 : w.heap.size + 1 + 1 + 1 + 1 + 1 < w7.heap.size := by omega); (try have hy1_7 : w1.heap.size < w7.heap.size := by omega); (try have hy2_7 : w2.heap.size < w7.heap.size := by omega); (try have hy3_7 : w3.heap.size < w7.heap.size := by omega); (try have hy4_7 : w4.heap.size < w7.heap.size := by omega); (try have hy5_7 : w5.heap.size < w7.heap.size := by omega); (try have hy6_7 : w6.heap.size < w7.heap.size := by omega)
                go_wp2
                go_ret
                exact ⟨rfl, by ((repeat' (first | exact Below.refl _ _ | assumption | refine Below.setCell ?_ ?_ _ | refine bdrewN ?_ _ | refine Below.drew ?_ | refine Below.alloc ?_ ?_ _ | refine bbehind ?_ (by assumption) ?_)); all_goals first | (simp; done) | (simp; omega) | omega)⟩
              · subst hK
                rw [hS] at SI
                clear hS
                go_wp2_with fail
                refine (SI.out _).mono ?_; rintro e w7 ⟨rfl, hb7⟩; obtain ⟨hc7, hf7⟩ := bcell hb7; have hs7 := hb7.size; (try simp at hs7); (try have hz70 : w.heap.size < w7.heap.size := by omega); (try have hz71 : w.heap.size + 1 < w7.heap.size := by omega); (try have hz72 : w.heap.size + 1 + 1 < w7.heap.size := by omega); (try have hz73 : w.heap.size + 1 + 1 + 1 < w7.heap.size := by omega); (try have hz74 : w.heap.size + 1 + 1 + 1 + 1 < w7.heap.size := by omega); (try have hz75 : w.heap.size + 1 + 1 + 1 + 1 + 1 < w7.heap.size := by omega); (try have hy1_7 : w1.heap.size < w7.heap.size := by omega); (try have hy2_7 : w2.heap.size < w7.heap.size := by omega); (try have hy3_7 : w3.heap.size < w7.heap.size := by omega); (try have hy4_7 : w4.heap.size < w7.heap.size := by omega); (try have hy5_7 : w5.heap.size < w7.heap.size := by omega); (try have hy6_7 : w6.heap.size < w7.heap.size := by omega)
                go_wp2_with fail
                refine (summed_any _).mono ?_; rintro e w8 ⟨rfl, hb8⟩; obtain ⟨hc8, hf8⟩ := bcell hb8; have hs8 := hb8.size; (try simp at hs8); (try have hz80 : w.heap.size < w8.heap.size := by omega); (try have hz81 : w.heap.size + 1 < w8.heap.size := by omega); (try have hz82 : w.heap.size + 1 + 1 < w8.heap.size := by omega); (try have hz83 : w.heap.size + 1 + 1 + 1 < w8.heap.size := by omega); (try have hz84 : w.heap.size + 1 + 1 + 1 + 1 < w8.heap.size := by omega); (try have hz85 : w.heap.size + 1 + 1 + 1 + 1 + 1 < w8.heap.size := by omega); (try have hy1_8 : w1.heap.size < w8.heap.size := by omega); (try have hy2_8 : w2.heap.size < w8.heap.size := by omega); (try have hy3_8 : w3.heap.size < w8.heap.size := by omega); (try have hy4_8 : w4.heap.size < w8.heap.size := by omega); (try have hy5_8 : w5.heap.size < w8.heap.size := by omega); (try have hy6_8 : w6.heap.size < w8.heap.size := by omega); (try have hy7_8 : w7.heap.size < w8.heap.size := by omega)
                go_wp2
                go_ret
                exact ⟨rfl, by ((repeat' (first | exact Below.refl _ _ | assumption | refine Below.setCell ?_ ?_ _ | refine bdrewN ?_ _ | refine Below.drew ?_ | refine Below.alloc ?_ ?_ _ | refine bbehind ?_ (by assumption) ?_)); all_goals first | (simp; done) | (simp; omega) | omega)⟩
        · have z2' : (e2 != 0) = true := by simpa using z2
          subst z1
          go_wp2_with fail
          refine (summed_any _).mono ?_; rintro e w6 ⟨rfl, hb6⟩; obtain ⟨hc6, hf6⟩ := bcell hb6; have hs6 := hb6.size; (try simp at hs6); (try have hz60 : w.heap.size < w6.heap.size := by omega); (try have hz61 : w.heap.size + 1 < w6.heap.size := by omega); (try have hz62 : w.heap.size + 1 + 1 < w6.heap.size := by omega); (try have hz63 : w.heap.size + 1 + 1 + 1 < w6.heap.size := by omega); (try have hz64 : w.heap.size + 1 + 1 + 1 + 1 < w6.heap.size := by omega); (try have hz65 : w.heap.size + 1 + 1 + 1 + 1 + 1 < w6.heap.size := by omega); (try have hy1_6 : w1.heap.size < w6.heap.size := by omega); (try have hy2_6 : w2.heap.size < w6.heap.size := by omega); (try have hy3_6 : w3.heap.size < w6.heap.size := by omega); (try have hy4_6 : w4.heap.size < w6.heap.size := by omega); (try have hy5_6 : w5.heap.size < w6.heap.size := by omega)
          go_wp2
          go_ret
          exact ⟨rfl, by ((repeat' (first | exact Below.refl _ _ | assumption | refine Below.setCell ?_ ?_ _ | refine bdrewN ?_ _ | refine Below.drew ?_ | refine Below.alloc ?_ ?_ _ | refine bbehind ?_ (by assumption) ?_)); all_goals first | (simp; done) | (simp; omega) | omega)⟩
      · have z1' : (e1 != 0) = true := by simpa using z1
        go_wp2_with fail
        refine (summed_any _).mono ?_; rintro e w6 ⟨rfl, hb6⟩; obtain ⟨hc6, hf6⟩ := bcell hb6; have hs6 := hb6.size; (try simp at hs6); (try have hz60 : w.heap.size < w6.heap.size := by omega); (try have hz61 : w.heap.size + 1 < w6.heap.size := by omega); (try have hz62 : w.heap.size + 1 + 1 < w6.heap.size := by omega); (try have hz63 : w.heap.size + 1 + 1 + 1 < w6.heap.size := by omega); (try have hz64 : w.heap.size + 1 + 1 + 1 + 1 < w6.heap.size := by omega); (try have hz65 : w.heap.size + 1 + 1 + 1 + 1 + 1 < w6.heap.size := by omega); (try have hy1_6 : w1.heap.size < w6.heap.size := by omega); (try have hy2_6 : w2.heap.size < w6.heap.size := by omega); (try have hy3_6 : w3.heap.size < w6.heap.size := by omega); (try have hy4_6 : w4.heap.size < w6.heap.size := by omega); (try have hy5_6 : w5.heap.size < w6.heap.size := by omega)
        go_wp2
        go_ret
        exact ⟨rfl, by ((repeat' (first | exact Below.refl _ _ | assumption | refine Below.setCell ?_ ?_ _ | refine bdrewN ?_ _ | refine Below.drew ?_ | refine Below.alloc ?_ ?_ _ | refine bbehind ?_ (by assumption) ?_)); all_goals first | (simp; done) | (simp; omega) | omega)⟩
  · by_cases hcm : (m : Int) < cd
    · go_wp2_with fail
      refine (summed_any _).mono ?_; rintro e w4 ⟨rfl, hb4⟩; obtain ⟨hc4, hf4⟩ := bcell hb4; have hs4 := hb4.size; (try simp at hs4); (try have hz40 : w.heap.size < w4.heap.size := by omega); (try have hz41 : w.heap.size + 1 < w4.heap.size := by omega); (try have hz42 : w.heap.size + 1 + 1 < w4.heap.size := by omega); (try have hz43 : w.heap.size + 1 + 1 + 1 < w4.heap.size := by omega); (try have hz44 : w.heap.size + 1 + 1 + 1 + 1 < w4.heap.size := by omega); (try have hz45 : w.heap.size + 1 + 1 + 1 + 1 + 1 < w4.heap.size := by omega); (try have hy1_4 : w1.heap.size < w4.heap.size := by omega); (try have hy2_4 : w2.heap.size < w4.heap.size := by omega); (try have hy3_4 : w3.heap.size < w4.heap.size := by omega)
      go_wp2
      go_ret
      exact ⟨rfl, by ((repeat' (first | exact Below.refl _ _ | assumption | refine Below.setCell ?_ ?_ _ | refine bdrewN ?_ _ | refine Below.drew ?_ | refine Below.alloc ?_ ?_ _ | refine bbehind ?_ (by assumption) ?_)); all_goals first | (simp; done) | (simp; omega) | omega)⟩
    · go_wp2_with fail
      refine (S1.out _).mono ?_; rintro e w4 ⟨rfl, hb4⟩; obtain ⟨hc4, hf4⟩ := bcell hb4; have hs4 := hb4.size; (try simp at hs4); (try have hz40 : w.heap.size < w4.heap.size := by omega); (try have hz41 : w.heap.size + 1 < w4.heap.size := by omega); (try have hz42 : w.heap.size + 1 + 1 < w4.heap.size := by omega); (try have hz43 : w.heap.size + 1 + 1 + 1 < w4.heap.size := by omega); (try have hz44 : w.heap.size + 1 + 1 + 1 + 1 < w4.heap.size := by omega); (try have hz45 : w.heap.size + 1 + 1 + 1 + 1 + 1 < w4.heap.size := by omega); (try have hy1_4 : w1.heap.size < w4.heap.size := by omega); (try have hy2_4 : w2.heap.size < w4.heap.size := by omega); (try have hy3_4 : w3.heap.size < w4.heap.size := by omega)
      go_wp2_with fail
      refine (S2.out _).mono ?_; rintro e w5 ⟨rfl, hb5⟩; obtain ⟨hc5, hf5⟩ := bcell hb5; have hs5 := hb5.size; (try simp at hs5); (try have hz50 : w.heap.size < w5.heap.size := by omega); (try have hz51 : w.heap.size + 1 < w5.heap.size := by omega); (try have hz52 : w.heap.size + 1 + 1 < w5.heap.size := by omega); (try have hz53 : w.heap.size + 1 + 1 + 1 < w5.heap.size := by omega); (try have hz54 : w.heap.size + 1 + 1 + 1 + 1 < w5.heap.size := by omega); (try have hz55 : w.heap.size + 1 + 1 + 1 + 1 + 1 < w5.heap.size := by omega); (try have hy1_5 : w1.heap.size < w5.heap.size := by omega); (try have hy2_5 : w2.heap.size < w5.heap.size := by omega); (try have hy3_5 : w3.heap.size < w5.heap.size := by omega); (try have hy4_5 : w4.heap.size < w5.heap.size := by omega)
      by_cases z1 : e1 = 0
      · by_cases z2 : e2 = 0
        · obtain ⟨K, hD, hK⟩ := HD.out (by omega) z1 z2
          subst z1 z2
          have CK := Lib.hid (fun w => cmp_res (chk_abs hD.p) (chk_abs hD.r) hD.k w)
          obtain ⟨fp1, fp2, -, -⟩ := fit_of_chk hD.p
          obtain ⟨fr1, fr2, -, -⟩ := fit_of_chk hD.r
          clear hD HD C C0 S1 S2 I HO
          by_cases n1 : px < 0
          · by_cases n2 : rx < 0
            · obtain ⟨P, hP⟩ : ∃ P : Int, (px.natAbs : Int) = P := ⟨_, rfl⟩
              have hpx : px = -P := by omega
              rw [hP] at CK
              have bP : 0 ≤ P ∧ P ≤ 1000000000 := by omega
              obtain ⟨bP1, bP2⟩ := bP
              subst hpx
              clear hP
              have nP : -P < 0 := n1
              obtain ⟨R, hR⟩ : ∃ R : Int, (rx.natAbs : Int) = R := ⟨_, rfl⟩
              have hrx : rx = -R := by omega
              rw [hR] at CK
              have bR : 0 ≤ R ∧ R ≤ 1000000000 := by omega
              obtain ⟨bR1, bR2⟩ := bR
              subst hrx
              clear hR
              have nR : -R < 0 := n2
              go_wp2_with fail
              refine (CK.out _).mono ?_; rintro e w6 ⟨rfl, hb6⟩; obtain ⟨hc6, hf6⟩ := bcell hb6; have hs6 := hb6.size; (try simp at hs6); (try have hz60 : w.heap.size < w6.heap.size := by omega); (try have hz61 : w.heap.size + 1 < w6.heap.size := by omega); (try have hz62 : w.heap.size + 1 + 1 < w6.heap.size := by omega); (try have hz63 : w.heap.size + 1 + 1 + 1 < w6.heap.size := by omega); (try have hz64 : w.heap.size + 1 + 1 + 1 + 1 < w6.heap.size := by omega); (try have hz65 : w.heap.size + 1 + 1 + 1 + 1 + 1 < w6.heap.size := by omega); (try have hy1_6 : w1.heap.size < w6.heap.size := by omega); (try have hy2_6 : w2.heap.size < w6.heap.size := by omega); (try have hy3_6 : w3.heap.size < w6.heap.size := by omega); (try have hy4_6 : w4.heap.size < w6.heap.size := by omega); (try have hy5_6 : w5.heap.size < w6.heap.size := by omega)
              rcases hK with hK | ⟨hK, hS⟩
              · go_wp2_with fail
                refine (summed_any _).mono ?_; rintro e w7 ⟨rfl, hb7⟩; obtain ⟨hc7, hf7⟩ := bcell hb7; have hs7 := hb7.size; (try simp at hs7); (try have hz70 : w.heap.size < w7.heap.size := by omega); (try have hz71 : w.heap.size + 1 < w7.heap.size := by omega); (try have hz72 : w.heap.size + 1 + 1 < w7.heap.size := by omega); (try have hz73 : w.heap.size + 1 + 1 + 1 < w7.heap.size := by omega); (try have hz74 : w.heap.size + 1 + 1 + 1 + 1 < w7.heap.size := by omega); (try have hz75 : w.heap.size + 1 + 1 + 1 + 1 + 1 < w7.heap.size := by omega); (try have hy1_7 : w1.heap.size < w7.heap.size := by omega); (try have hy2_7 : w2.heap.size < w7.heap.size := by omega); (try have hy3_7 : w3.heap.size < w7.heap.size := by omega); (try have hy4_7 : w4.heap.size < w7.heap.size := by omega); (try have hy5_7 : w5.heap.size < w7.heap.size := by omega); (try have hy6_7 : w6.heap.size < w7.heap.size := by omega)
                go_wp2
                go_ret
                exact ⟨rfl, by ((repeat' (first | exact Below.refl _ _ | assumption | refine Below.setCell ?_ ?_ _ | refine bdrewN ?_ _ | refine Below.drew ?_ | refine Below.alloc ?_ ?_ _ | refine bbehind ?_ (by assumption) ?_)); all_goals first | (simp; done) | (simp; omega) | omega)⟩
              · subst hK
                rw [hS] at SI
                clear hS
                go_wp2_with fail
                refine (SI.out _).mono ?_; rintro e w7 ⟨rfl, hb7⟩; obtain ⟨hc7, hf7⟩ := bcell hb7; have hs7 := hb7.size; (try simp at hs7); (try have hz70 : w.heap.size < w7.heap.size := by omega); (try have hz71 : w.heap.size + 1 < w7.heap.size := by omega); (try have hz72 : w.heap.size + 1 + 1 < w7.heap.size := by omega); (try have hz73 : w.heap.size + 1 + 1 + 1 < w7.heap.size := by omega); (try have hz74 : w.heap.size + 1 + 1 + 1 + 1 < w7.heap.size := by omega); (try have hz75 : w.heap.size + 1 + 1 + 1 + 1 + 1 < w7.heap.size := by omega); (try have hy1_7 : w1.heap.size < w7.heap.size := by omega); (try have hy2_7 : w2.heap.size < w7.heap.size := by omega); (try have hy3_7 : w3.heap.size < w7.heap.size := by omega); (try have hy4_7 : w4.heap.size < w7.heap.size := by omega); (try have hy5_7 : w5.heap.size < w7.heap.size := by omega); (try have hy6_7 : w6.heap.size < w7.heap.size := by omega)
                go_wp2_with fail
                refine (summed_any _).mono ?_; rintro e w8 ⟨rfl, hb8⟩; obtain ⟨hc8, hf8⟩ := bcell hb8; have hs8 := hb8.size; (try simp at hs8); (try have hz80 : w.heap.size < w8.heap.size := by omega); (try have hz81 : w.heap.size + 1 < w8.heap.size := by omega); (try have hz82 : w.heap.size + 1 + 1 < w8.heap.size := by omega); (try have hz83 : w.heap.size + 1 + 1 + 1 < w8.heap.size := by omega); (try have hz84 : w.heap.size + 1 + 1 + 1 + 1 < w8.heap.size := by omega); (try have hz85 : w.heap.size + 1 + 1 + 1 + 1 + 1 < w8.heap.size := by omega); (try have hy1_8 : w1.heap.size < w8.heap.size := by omega); (try have hy2_8 : w2.heap.size < w8.heap.size := by omega); (try have hy3_8 : w3.heap.size < w8.heap.size := by omega); (try have hy4_8 : w4.heap.size < w8.heap.size := by omega); (try have hy5_8 : w5.heap.size < w8.heap.size := by omega); (try have hy6_8 : w6.heap.size < w8.heap.size := by omega); (try have hy7_8 : w7.heap.size < w8.heap.size := by omega)
                go_wp2
                go_ret
                exact ⟨rfl, by ((repeat' (first | exact Below.refl _ _ | assumption | refine Below.setCell ?_ ?_ _ | refine bdrewN ?_ _ | refine Below.drew ?_ | refine Below.alloc ?_ ?_ _ | refine bbehind ?_ (by assumption) ?_)); all_goals first | (simp; done) | (simp; omega) | omega)⟩
            · obtain ⟨P, hP⟩ : ∃ P : Int, (px.natAbs : Int) = P := ⟨_, rfl⟩
              have hpx : px = -P := by omega
              rw [hP] at CK
              have bP : 0 ≤ P ∧ P ≤ 1000000000 := by omega
              obtain ⟨bP1, bP2⟩ := bP
              subst hpx
              clear hP
              have nP : -P < 0 := n1
              have hrx : (rx.natAbs : Int) = rx := by omega
              rw [hrx] at CK
              clear hrx
              go_wp2_with fail
              refine (CK.out _).mono ?_; rintro e w6 ⟨rfl, hb6⟩; obtain ⟨hc6, hf6⟩ := bcell hb6; have hs6 := hb6.size; (try simp at hs6); (try have hz60 : w.heap.size < w6.heap.size := by omega); (try have hz61 : w.heap.size + 1 < w6.heap.size := by omega); (try have hz62 : w.heap.size + 1 + 1 < w6.heap.size := by omega); (try have hz63 : w.heap.size + 1 + 1 + 1 < w6.heap.size := by omega); (try have hz64 : w.heap.size + 1 + 1 + 1 + 1 < w6.heap.size := by omega); (try have hz65 : w.heap.size + 1 + 1 + 1 + 1 + 1 < w6.heap.size := by omega); (try have hy1_6 : w1.heap.size < w6.heap.size := by omega); (try have hy2_6 : w2.heap.size < w6.heap.size := by omega); (try have hy3_6 : w3.heap.size < w6.heap.size := by omega); (try have hy4_6 : w4.heap.size < w6.heap.size := by omega); (try have hy5_6 : w5.heap.size < w6.heap.size := by omega)
              rcases hK with hK | ⟨hK, hS⟩
              · go_wp2_with fail
                refine (summed_any _).mono ?_; rintro e w7 ⟨rfl, hb7⟩; obtain ⟨hc7, hf7⟩ := bcell hb7; have hs7 := hb7.size; (try simp at hs7); (try have hz70 : w.heap.size < w7.heap.size := by omega); (try have hz71 : w.heap.size + 1 < w7.heap.size := by omega); (try have hz72 : w.heap.size + 1 + 1 < w7.heap.size := by omega); (try have hz73 : w.heap.size + 1 + 1 + 1 < w7.heap.size := by omega); (try have hz74 : w.heap.size + 1 + 1 + 1 + 1 < w7.heap.size := by omega); (try have hz75 : w.heap.size + 1 + 1 + 1 + 1 + 1 < w7.heap.size := by omega); (try have hy1_7 : w1.heap.size < w7.heap.size := by omega); (try have hy2_7 : w2.heap.size < w7.heap.size := by omega); (try have hy3_7 : w3.heap.size < w7.heap.size := by omega); (try have hy4_7 : w4.heap.size < w7.heap.size := by omega); (try have hy5_7 : w5.heap.size < w7.heap.size := by omega); (try have hy6_7 : w6.heap.size < w7.heap.size := by omega)
                go_wp2
                go_ret
                exact ⟨rfl, by ((repeat' (first | exact Below.refl _ _ | assumption | refine Below.setCell ?_ ?_ _ | refine bdrewN ?_ _ | refine Below.drew ?_ | refine Below.alloc ?_ ?_ _ | refine bbehind ?_ (by assumption) ?_)); all_goals first | (simp; done) | (simp; omega) | omega)⟩
              · subst hK
                rw [hS] at SI
                clear hS
                go_wp2_with fail
                refine (SI.out _).mono ?_; rintro e w7 ⟨rfl, hb7⟩; obtain ⟨hc7, hf7⟩ := bcell hb7; have hs7 := hb7.size; (try simp at hs7); (try have hz70 : w.heap.size < w7.heap.size := by omega); (try have hz71 : w.heap.size + 1 < w7.heap.size := by omega); (try have hz72 : w.heap.size + 1 + 1 < w7.heap.size := by omega); (try have hz73 : w.heap.size + 1 + 1 + 1 < w7.heap.size := by omega); (try have hz74 : w.heap.size + 1 + 1 + 1 + 1 < w7.heap.size := by omega); (try have hz75 : w.heap.size + 1 + 1 + 1 + 1 + 1 < w7.heap.size := by omega); (try have hy1_7 : w1.heap.size < w7.heap.size := by omega); (try have hy2_7 : w2.heap.size < w7.heap.size := by omega); (try have hy3_7 : w3.heap.size < w7.heap.size := by omega); (try have hy4_7 : w4.heap.size < w7.heap.size := by omega); (try have hy5_7 : w5.heap.size < w7.heap.size := by omega); (try have hy6_7 : w6.heap.size < w7.heap.size := by omega)
                go_wp2_with fail
                refine (summed_any _).mono ?_; rintro e w8 ⟨rfl, hb8⟩; obtain ⟨hc8, hf8⟩ := bcell hb8; have hs8 := hb8.size; (try simp at hs8); (try have hz80 : w.heap.size < w8.heap.size := by omega); (try have hz81 : w.heap.size + 1 < w8.heap.size := by omega); (try have hz82 : w.heap.size + 1 + 1 < w8.heap.size := by omega); (try have hz83 : w.heap.size + 1 + 1 + 1 < w8.heap.size := by omega); (try have hz84 : w.heap.size + 1 + 1 + 1 + 1 < w8.heap.size := by omega); (try have hz85 : w.heap.size + 1 + 1 + 1 + 1 + 1 < w8.heap.size := by omega); (try have hy1_8 : w1.heap.size < w8.heap.size := by omega); (try have hy2_8 : w2.heap.size < w8.heap.size := by omega); (try have hy3_8 : w3.heap.size < w8.heap.size := by omega); (try have hy4_8 : w4.heap.size < w8.heap.size := by omega); (try have hy5_8 : w5.heap.size < w8.heap.size := by omega); (try have hy6_8 : w6.heap.size < w8.heap.size := by omega); (try have hy7_8 : w7.heap.size < w8.heap.size := by omega)
                go_wp2
                go_ret
                exact ⟨rfl, by ((repeat' (first | exact Below.refl _ _ | assumption | refine Below.setCell ?_ ?_ _ | refine bdrewN ?_ _ | refine Below.drew ?_ | refine Below.alloc ?_ ?_ _ | refine bbehind ?_ (by assumption) ?_)); all_goals first | (simp; done) | (simp; omega) | omega)⟩
          · by_cases n2 : rx < 0
            · have hpx : (px.natAbs : Int) = px := by omega
              rw [hpx] at CK
              clear hpx
              obtain ⟨R, hR⟩ : ∃ R : Int, (rx.natAbs : Int) = R := ⟨_, rfl⟩
              have hrx : rx = -R := by omega
              rw [hR] at CK
              have bR : 0 ≤ R ∧ R ≤ 1000000000 := by omega
              obtain ⟨bR1, bR2⟩ := bR
              subst hrx
              clear hR
              have nR : -R < 0 := n2
              go_wp2_with fail
              refine (CK.out _).mono ?_; rintro e w6 ⟨rfl, hb6⟩; obtain ⟨hc6, hf6⟩ := bcell hb6; have hs6 := hb6.size; (try simp at hs6); (try have hz60 : w.heap.size < w6.heap.size := by omega); (try have hz61 : w.heap.size + 1 < w6.heap.size := by omega); (try have hz62 : w.heap.size + 1 + 1 < w6.heap.size := by omega); (try have hz63 : w.heap.size + 1 + 1 + 1 < w6.heap.size := by omega); (try have hz64 : w.heap.size + 1 + 1 + 1 + 1 < w6.heap.size := by omega); (try have hz65 : w.heap.size + 1 + 1 + 1 + 1 + 1 < w6.heap.size := by omega); (try have hy1_6 : w1.heap.size < w6.heap.size := by omega); (try have hy2_6 : w2.heap.size < w6.heap.size := by omega); (try have hy3_6 : w3.heap.size < w6.heap.size := by omega); (try have hy4_6 : w4.heap.size < w6.heap.size := by omega); (try have hy5_6 : w5.heap.size < w6.heap.size := by omega)
              rcases hK with hK | ⟨hK, hS⟩
              · go_wp2_with fail
                refine (summed_any _).mono ?_; rintro e w7 ⟨rfl, hb7⟩; obtain ⟨hc7, hf7⟩ := bcell hb7; have hs7 := hb7.size; (try simp at hs7); (try have hz70 : w.heap.size < w7.heap.size := by omega); (try have hz71 : w.heap.size + 1 < w7.heap.size := by omega); (try have hz72 : w.heap.size + 1 + 1 < w7.heap.size := by omega); (try have hz73 : w.heap.size + 1 + 1 + 1 < w7.heap.size := by omega); (try have hz74 : w.heap.size + 1 + 1 + 1 + 1 < w7.heap.size := by omega); (try have hz75 : w.heap.size + 1 + 1 + 1 + 1 + 1 < w7.heap.size := by omega); (try have hy1_7 : w1.heap.size < w7.heap.size := by omega); (try have hy2_7 : w2.heap.size < w7.heap.size := by omega); (try have hy3_7 : w3.heap.size < w7.heap.size := by omega); (try have hy4_7 : w4.heap.size < w7.heap.size := by omega); (try have hy5_7 : w5.heap.size < w7.heap.size := by omega); (try have hy6_7 : w6.heap.size < w7.heap.size := by omega)
                go_wp2
                go_ret
                exact ⟨rfl, by ((repeat' (first | exact Below.refl _ _ | assumption | refine Below.setCell ?_ ?_ _ | refine bdrewN ?_ _ | refine Below.drew ?_ | refine Below.alloc ?_ ?_ _ | refine bbehind ?_ (by assumption) ?_)); all_goals first | (simp; done) | (simp; omega) | omega)⟩
              · subst hK
                rw [hS] at SI
                clear hS
                go_wp2_with fail
                refine (SI.out _).mono ?_; rintro e w7 ⟨rfl, hb7⟩; obtain ⟨hc7, hf7⟩ := bcell hb7; have hs7 := hb7.size; (try simp at hs7); (try have hz70 : w.heap.size < w7.heap.size := by omega); (try have hz71 : w.heap.size + 1 < w7.heap.size := by omega); (try have hz72 : w.heap.size + 1 + 1 < w7.heap.size := by omega); (try have hz73 : w.heap.size + 1 + 1 + 1 < w7.heap.size := by omega); (try have hz74 : w.heap.size + 1 + 1 + 1 + 1 < w7.heap.size := by omega); (try have hz75 : w.heap.size + 1 + 1 + 1 + 1 + 1 < w7.heap.size := by omega); (try have hy1_7 : w1.heap.size < w7.heap.size := by omega); (try have hy2_7 : w2.heap.size < w7.heap.size := by omega); (try have hy3_7 : w3.heap.size < w7.heap.size := by omega); (try have hy4_7 : w4.heap.size < w7.heap.size := by omega); (try have hy5_7 : w5.heap.size < w7.heap.size := by omega); (try have hy6_7 : w6.heap.size < w7.heap.size := by omega)
                go_wp2_with fail
                refine (summed_any _).mono ?_; rintro e w8 ⟨rfl, hb8⟩; obtain ⟨hc8, hf8⟩ := bcell hb8; have hs8 := hb8.size; (try simp at hs8); (try have hz80 : w.heap.size < w8.heap.size := by omega); (try have hz81 : w.heap.size + 1 < w8.heap.size := by omega); (try have hz82 : w.heap.size + 1 + 1 < w8.heap.size := by omega); (try have hz83 : w.heap.size + 1 + 1 + 1 < w8.heap.size := by omega); (try have hz84 : w.heap.size + 1 + 1 + 1 + 1 < w8.heap.size := by omega); (try have hz85 : w.heap.size + 1 + 1 + 1 + 1 + 1 < w8.heap.size := by omega); (try have hy1_8 : w1.heap.size < w8.heap.size := by omega); (try have hy2_8 : w2.heap.size < w8.heap.size := by omega); (try have hy3_8 : w3.heap.size < w8.heap.size := by omega); (try have hy4_8 : w4.heap.size < w8.heap.size := by omega); (try have hy5_8 : w5.heap.size < w8.heap.size := by omega); (try have hy6_8 : w6.heap.size < w8.heap.size := by omega); (try have hy7_8 : w7.heap.size < w8.heap.size := by omega)
                go_wp2
                go_ret
                exact ⟨rfl, by ((repeat' (first | exact Below.refl _ _ | assumption | refine Below.setCell ?_ ?_ _ | refine bdrewN ?_ _ | refine Below.drew ?_ | refine Below.alloc ?_ ?_ _ | refine bbehind ?_ (by assumption) ?_)); all_goals first | (simp; done) | (simp; omega) | omega)⟩
            · have hpx : (px.natAbs : Int) = px := by omega
              rw [hpx] at CK
              clear hpx
              have hrx : (rx.natAbs : Int) = rx := by omega
              rw [hrx] at CK
              clear hrx
              go_wp2_with fail
              refine (CK.out _).mono ?_; rintro e w6 ⟨rfl, hb6⟩; obtain ⟨hc6, hf6⟩ := bcell hb6; have hs6 := hb6.size; (try simp at hs6); (try have hz60 : w.heap.size < w6.heap.size := by omega); (try have hz61 : w.heap.size + 1 < w6.heap.size := by omega); (try have hz62 : w.heap.size + 1 + 1 < w6.heap.size := by omega); (try have hz63 : w.heap.size + 1 + 1 + 1 < w6.heap.size := by omega); (try have hz64 : w.heap.size + 1 + 1 + 1 + 1 < w6.heap.size := by omega); (try have hz65 : w.heap.size + 1 + 1 + 1 + 1 + 1 < w6.heap.size := by omega); (try have hy1_6 : w1.heap.size < w6.heap.size := by omega); (try have hy2_6 : w2.heap.size < w6.heap.size := by omega); (try have hy3_6 : w3.heap.size < w6.heap.size := by omega); (try have hy4_6 : w4.heap.size < w6.heap.size := by omega); (try have hy5_6 : w5.heap.size < w6.heap.size := by omega)
              rcases hK with hK | ⟨hK, hS⟩
              · go_wp2_with fail
                refine (summed_any _).mono ?_; rintro e w7 ⟨rfl, hb7⟩; obtain ⟨hc7, hf7⟩ := bcell hb7; have hs7 := hb7.size; (try simp at hs7); (try have hz70 : w.heap.size < w7.heap.size := by omega); (try have hz71 : w.heap.size + 1 < w7.heap.size := by omega); (try have hz72 : w.heap.size + 1 + 1 < w7.heap.size := by omega); (try have hz73 : w.heap.size + 1 + 1 + 1 < w7.heap.size := by omega); (try have hz74 : w.heap.size + 1 + 1 + 1 + 1 < w7.heap.size := by omega); (try have hz75 : w.heap.size + 1 + 1 + 1 + 1 + 1 < w7.heap.size := by omega); (try have hy1_7 : w1.heap.size < w7.heap.size := by omega); (try have hy2_7 : w2.heap.size < w7.heap.size := by omega); (try have hy3_7 : w3.heap.size < w7.heap.size := by omega); (try have hy4_7 : w4.heap.size < w7.heap.size := by omega); (try have hy5_7 : w5.heap.size < w7.heap.size := by omega); (try have hy6_7 : w6.heap.size < w7.heap.size := by omega)
                go_wp2
                go_ret
                exact ⟨rfl, by ((repeat' (first | exact Below.refl _ _ | assumption | refine Below.setCell ?_ ?_ _ | refine bdrewN ?_ _ | refine Below.drew ?_ | refine Below.alloc ?_ ?_ _ | refine bbehind ?_ (by assumption) ?_)); all_goals first | (simp; done) | (simp; omega) | omega)⟩
              · subst hK
                rw [hS] at SI
                clear hS
                go_wp2_with fail
                refine (SI.out _).mono ?_; rintro e w7 ⟨rfl, hb7⟩; obtain ⟨hc7, hf7⟩ := bcell hb7; have hs7 := hb7.size; (try simp at hs7); (try have hz70 : w.heap.size < w7.heap.size := by omega); (try have hz71 : w.heap.size + 1 < w7.heap.size := by omega); (try have hz72 : w.heap.size + 1 + 1 < w7.heap.size := by omega); (try have hz73 : w.heap.size + 1 + 1 + 1 < w7.heap.size := by omega); (try have hz74 : w.heap.size + 1 + 1 + 1 + 1 < w7.heap.size := by omega); (try have hz75 : w.heap.size + 1 + 1 + 1 + 1 + 1 < w7.heap.size := by omega); (try have hy1_7 : w1.heap.size < w7.heap.size := by omega); (try have hy2_7 : w2.heap.size < w7.heap.size := by omega); (try have hy3_7 : w3.heap.size < w7.heap.size := by omega); (try have hy4_7 : w4.heap.size < w7.heap.size := by omega); (try have hy5_7 : w5.heap.size < w7.heap.size := by omega); (try have hy6_7 : w6.heap.size < w7.heap.size := by omega)
                go_wp2_with fail
                refine (summed_any _).mono ?_; rintro e w8 ⟨rfl, hb8⟩; obtain ⟨hc8, hf8⟩ := bcell hb8; have hs8 := hb8.size; (try simp at hs8); (try have hz80 : w.heap.size < w8.heap.size := by omega); (try have hz81 : w.heap.size + 1 < w8.heap.size := by omega); (try have hz82 : w.heap.size + 1 + 1 < w8.heap.size := by omega); (try have hz83 : w.heap.size + 1 + 1 + 1 < w8.heap.size := by omega); (try have hz84 : w.heap.size + 1 + 1 + 1 + 1 < w8.heap.size := by omega); (try have hz85 : w.heap.size + 1 + 1 + 1 + 1 + 1 < w8.heap.size := by omega); (try have hy1_8 : w1.heap.size < w8.heap.size := by omega); (try have hy2_8 : w2.heap.size < w8.heap.size := by omega); (try have hy3_8 : w3.heap.size < w8.heap.size := by omega); (try have hy4_8 : w4.heap.size < w8.heap.size := by omega); (try have hy5_8 : w5.heap.size < w8.heap.size := by omega); (try have hy6_8 : w6.heap.size < w8.heap.size := by omega); (try have hy7_8 : w7.heap.size < w8.heap.size := by omega)
                go_wp2
                go_ret
                exact ⟨rfl, by ((repeat' (first | exact Below.refl _ _ | assumption | refine Below.setCell ?_ ?_ _ | refine bdrewN ?_ _ | refine Below.drew ?_ | refine Below.alloc ?_ ?_ _ | refine bbehind ?_ (by assumption) ?_)); all_goals first | (simp; done) | (simp; omega) | omega)⟩
        · have z2' : (e2 != 0) = true := by simpa using z2
          subst z1
          go_wp2_with fail
          refine (summed_any _).mono ?_; rintro e w6 ⟨rfl, hb6⟩; obtain ⟨hc6, hf6⟩ := bcell hb6; have hs6 := hb6.size; (try simp at hs6); (try have hz60 : w.heap.size < w6.heap.size := by omega); (try have hz61 : w.heap.size + 1 < w6.heap.size := by omega); (try have hz62 : w.heap.size + 1 + 1 < w6.heap.size := by omega); (try have hz63 : w.heap.size + 1 + 1 + 1 < w6.heap.size := by omega); (try have hz64 : w.heap.size + 1 + 1 + 1 + 1 < w6.heap.size := by omega); (try have hz65 : w.heap.size + 1 + 1 + 1 + 1 + 1 < w6.heap.size := by omega); (try have hy1_6 : w1.heap.size < w6.heap.size := by omega); (try have hy2_6 : w2.heap.size < w6.heap.size := by omega); (try have hy3_6 : w3.heap.size < w6.heap.size := by omega); (try have hy4_6 : w4.heap.size < w6.heap.size := by omega); (try have hy5_6 : w5.heap.size < w6.heap.size := by omega)
          go_wp2
          go_ret
          exact ⟨rfl, by ((repeat' (first | exact Below.refl _ _ | assumption | refine Below.setCell ?_ ?_ _ | refine bdrewN ?_ _ | refine Below.drew ?_ | refine Below.alloc ?_ ?_ _ | refine bbehind ?_ (by assumption) ?_)); all_goals first | (simp; done) | (simp; omega) | omega)⟩
      · have z1' : (e1 != 0) = true := by simpa using z1
        go_wp2_with fail
        refine (summed_any _).mono ?_; rintro e w6 ⟨rfl, hb6⟩; obtain ⟨hc6, hf6⟩ := bcell hb6; have hs6 := hb6.size; (try simp at hs6); (try have hz60 : w.heap.size < w6.heap.size := by omega); (try have hz61 : w.heap.size + 1 < w6.heap.size := by omega); (try have hz62 : w.heap.size + 1 + 1 < w6.heap.size := by omega); (try have hz63 : w.heap.size + 1 + 1 + 1 < w6.heap.size := by omega); (try have hz64 : w.heap.size + 1 + 1 + 1 + 1 < w6.heap.size := by omega); (try have hz65 : w.heap.size + 1 + 1 + 1 + 1 + 1 < w6.heap.size := by omega); (try have hy1_6 : w1.heap.size < w6.heap.size := by omega); (try have hy2_6 : w2.heap.size < w6.heap.size := by omega); (try have hy3_6 : w3.heap.size < w6.heap.size := by omega); (try have hy4_6 : w4.heap.size < w6.heap.size := by omega); (try have hy5_6 : w5.heap.size < w6.heap.size := by omega)
        go_wp2
        go_ret
        exact ⟨rfl, by ((repeat' (first | exact Below.refl _ _ | assumption | refine Below.setCell ?_ ?_ _ | refine bdrewN ?_ _ | refine Below.drew ?_ | refine Below.alloc ?_ ?_ _ | refine bbehind ?_ (by assumption) ?_)); all_goals first | (simp; done) | (simp; omega) | omega)⟩
end Go.Proofs.Ytgefidffhdanhaa
