/- What the proof of PrfTreeChecks rests on, part 3 of 11. -/
import Derived.RangeFuncBox
import Derived.RangeFuncNested
import Derived.OpenShut
import Derived.ProofKit
import Derived.ChangeOld
import Derived.Deep.SlicePairs
import Derived.Test.YtefongoinlcgaaaGreatMPrfTreeChecks2
/- The error of a head that has nothing that its kind lacks, in the reference. -/
namespace Go.Proofs.YtefongoinlcgaaaGreat
open Go.RowKit

theorem plain_cases {k : Int} {l : List UInt8} {ats : List (List UInt8 × List UInt8)} {n d : Int} {x : List UInt8} (hs : strayB ⟨k, l, ats, n, d, x⟩ = false) :
    (k = 0 ∧ n = 0 ∧ d = 0 ∧ x = []) ∨ (k = 1 ∧ l = [] ∧ ats = [] ∧ x = []) ∨ (k = 2 ∧ l = [] ∧ ats = [] ∧ n = 0 ∧ d = 0) := by
  unfold strayB at hs
  by_cases k0 : k = 0
  · left; simp [k0] at hs; exact ⟨k0, hs.1.1, hs.1.2, hs.2⟩
  · by_cases k1 : k = 1
    · right; left; simp [k1] at hs; exact ⟨k1, hs.2.1, hs.2.2, hs.1⟩
    · by_cases k2 : k = 2
      · right; right; simp [k2] at hs; exact ⟨k2, hs.2.1, hs.2.2, hs.1.1, hs.1.2⟩
      · simp [k0, k1, k2] at hs

def prevName (ats : List (List UInt8 × List UInt8)) (j : Nat) : List UInt8 := if j = 0 then [] else (ats.getD (j - 1) ([], [])).1
theorem leB_nil {n : List UInt8} (h : namedB n = true) : leB n [] = false := by
  cases n with
  | nil => simp [namedB] at h
  | cons a t => simp [leB, Op.bytesLess]
theorem attrs_step {ats : List (List UInt8 × List UInt8)} {j : Nat} (hj : j < ats.length) :
    attrsErr (prevName ats j) (ats.drop j) = if namedB (ats.getD j ([], [])).1 = false then 2 else if leB (ats.getD j ([], [])).1 (prevName ats j) = true then 7 else
      if printableB (ats.getD j ([], [])).2 12 = false then 3 else attrsErr (prevName ats (j + 1)) (ats.drop (j + 1)) := by
  rw [List.drop_eq_getElem_cons hj]
  have e : ats.getD j ([], []) = ats[j] := by rw [List.getD_eq_getElem?_getD, List.getElem?_eq_getElem hj, Option.getD_some]
  have e2 : prevName ats (j + 1) = ats[j].1 := by unfold prevName; rw [if_neg (by omega), Nat.add_sub_cancel, e]
  rw [e, e2]
  rfl

set_option maxRecDepth 100000 in
set_option maxHeartbeats 2000000 in
theorem qhead_num (n d : Int) (a0 : Option Addr) (cap0 : Nat) (w : World) :
    Calls Tryz.prog 18 #[.agg #[.int .i64 1, .string ⟨#[]⟩, .slice a0 0 cap0, .int .i64 n, .int .i64 d, .string ⟨#[]⟩]] w fun e w' => e = .returned (.int .i64 (chk n d)) ∧ Below w.heap.size w w' := by
  go_enter Tryz.func18, Tryz.ntmps18
  go_wp2_with fail
  refine (rcheck_any _ _ _).mono ?_; rintro e w1 ⟨rfl, hb1⟩; obtain ⟨hc1, hf1⟩ := bcell hb1; have hs1 := hb1.size; (try simp at hs1); (try have hz10 : w.heap.size < w1.heap.size := by omega); (try have hz11 : w.heap.size + 1 < w1.heap.size := by omega); (try have hz12 : w.heap.size + 1 + 1 < w1.heap.size := by omega); (try have hz13 : w.heap.size + 1 + 1 + 1 < w1.heap.size := by omega); (try have hz14 : w.heap.size + 1 + 1 + 1 + 1 < w1.heap.size := by omega); (try have hz15 : w.heap.size + 1 + 1 + 1 + 1 + 1 < w1.heap.size := by omega)
  go_wp2_with fail
  go_ret
  exact ⟨rfl, by ((repeat' (first | exact Below.refl _ _ | assumption | refine Below.setCell ?_ ?_ _ | refine bdrewN ?_ _ | refine Below.drew ?_ | refine Below.alloc ?_ ?_ _ | refine bbehind ?_ (by assumption) ?_)); all_goals first | (simp; done) | (simp; omega) | omega)⟩
set_option maxRecDepth 100000 in
set_option maxHeartbeats 2000000 in
theorem qhead_text (x : List UInt8) (a0 : Option Addr) (cap0 : Nat) (w : World) (hx : x.length ≤ 1000000) :
    Calls Tryz.prog 18 #[.agg #[.int .i64 2, .string ⟨#[]⟩, .slice a0 0 cap0, .int .i64 0, .int .i64 0, .string ⟨x.toArray⟩]] w fun e w' => e = .returned (.int .i64 (if printableB x 24 = true then 0 else 3)) ∧ Below w.heap.size w w' := by
  have P := Lib.hid (fun w => printable_any x 24 w hx)
  cases hp : printableB x 24 with
  | true =>
    rw [hp] at P
    go_enter Tryz.func18, Tryz.ntmps18
    go_wp2_with fail
    refine (P.out _).mono ?_; rintro e w' ⟨rfl, rfl⟩
    go_wp2_with fail
    go_ret
    exact ⟨rfl, by ((repeat' (first | exact Below.refl _ _ | assumption | refine Below.setCell ?_ ?_ _ | refine bdrewN ?_ _ | refine Below.drew ?_ | refine Below.alloc ?_ ?_ _ | refine bbehind ?_ (by assumption) ?_)); all_goals first | (simp; done) | (simp; omega) | omega)⟩
  | false =>
    rw [hp] at P
    go_enter Tryz.func18, Tryz.ntmps18
    go_wp2_with fail
    refine (P.out _).mono ?_; rintro e w' ⟨rfl, rfl⟩
    go_wp2_with fail
    go_ret
    exact ⟨rfl, by ((repeat' (first | exact Below.refl _ _ | assumption | refine Below.setCell ?_ ?_ _ | refine bdrewN ?_ _ | refine Below.drew ?_ | refine Below.alloc ?_ ?_ _ | refine bbehind ?_ (by assumption) ?_)); all_goals first | (simp; done) | (simp; omega) | omega)⟩

set_option maxRecDepth 100000 in
set_option maxHeartbeats 4000000 in
theorem qhead_elem (l : List UInt8) (ats : List (List UInt8 × List UInt8)) (va : Value) (w : World) (ha : AttrsLie w va ats) (hl : l.length ≤ 1000000)
    (hs : ∀ j, j < ats.length → (ats.getD j ([], [])).1.length ≤ 1000000 ∧ (ats.getD j ([], [])).2.length ≤ 1000000) :
    Calls Tryz.prog 18 #[.agg #[.int .i64 0, .string ⟨l.toArray⟩, va, .int .i64 0, .int .i64 0, .string ⟨#[]⟩]] w fun e w' => e = .returned (.int .i64 (if namedB l = false then 2 else if 3 < ats.length then 4 else attrsErr [] ats)) ∧ Below w.heap.size w w' := by
  have N := Lib.hid (fun w => named_any l w hl)
  obtain ⟨a0, cap0, rfl⟩ := attrs_form ha
  have HA := Lib.hid ha
  have HS := Lib.hid hs
  clear ha hs
  cases hn : namedB l with
  | false =>
    rw [hn] at N
    go_enter Tryz.func18, Tryz.ntmps18
    go_wp2_with fail
    refine (N.out _).mono ?_; rintro e w' ⟨rfl, rfl⟩
    go_wp2_with fail
    go_ret
    exact ⟨rfl, by ((repeat' (first | exact Below.refl _ _ | assumption | refine Below.setCell ?_ ?_ _ | refine bdrewN ?_ _ | refine Below.drew ?_ | refine Below.alloc ?_ ?_ _ | refine bbehind ?_ (by assumption) ?_)); all_goals first | (simp; done) | (simp; omega) | omega)⟩
  | true =>
    rw [if_neg (by simp)]
    rw [hn] at N
    by_cases h3 : 3 < ats.length
    · rw [if_pos h3]
      have d3 : decide ((3 : Int) < (ats.length : Int)) = true := by simp; omega
      go_enter Tryz.func18, Tryz.ntmps18
      go_wp2_with fail
      refine (N.out _).mono ?_; rintro e w' ⟨rfl, rfl⟩
      go_wp2_with fail
      go_ret
      exact ⟨rfl, by ((repeat' (first | exact Below.refl _ _ | assumption | refine Below.setCell ?_ ?_ _ | refine bdrewN ?_ _ | refine Below.drew ?_ | refine Below.alloc ?_ ?_ _ | refine bbehind ?_ (by assumption) ?_)); all_goals first | (simp; done) | (simp; omega) | omega)⟩
    · rw [if_neg h3]
      have d3 : decide ((3 : Int) < (ats.length : Int)) = false := by simp; omega
      go_enter Tryz.func18, Tryz.ntmps18
      go_wp2_with fail
      refine (N.out _).mono ?_; rintro e w' ⟨rfl, rfl⟩
      go_wp2_with fail
      clear N d3
      have hsz : w.heap.size < w.heap.size + 1 := by omega
      go_loopw [3] (fun i wr => ∃ j : Nat, i = .int .i64 j ∧ j ≤ ats.length ∧ attrsErr [] ats = attrsErr (prevName ats j) (ats.drop j) ∧ wr.cell? ⟨w.heap.size, 2, none⟩ = some (.slice a0 ats.length cap0) ∧ w.heap.size < wr.heap.size ∧ Below w.heap.size w wr) (fun i _ => ats.length - (intOf i).toNat)
      case atStart => exact ⟨0, rfl, Nat.zero_le _, rfl, (by simp (maxDischargeDepth := 8) [go_sem, *]), (by first | assumption | (simp; done) | (simp; omega) | omega), by ((repeat' (first | exact Below.refl _ _ | assumption | refine Below.setCell ?_ ?_ _ | refine bdrewN ?_ _ | refine Below.drew ?_ | refine Below.alloc ?_ ?_ _ | refine bbehind ?_ (by assumption) ?_)); all_goals first | (simp; done) | (simp; omega) | omega)⟩
      case round =>
        obtain ⟨j, rfl, hj, he, cb, sb, hbw⟩ := hrel
        have HE := Lib.hid he
        clear he
        by_cases hlt : j < ats.length
        · obtain ⟨b, off, cap, hs, hcap, hlim, hb, hc⟩ := attrs_row HA.out (by omega)
          simp only [Value.slice.injEq] at hs
          obtain ⟨rfl, -, rfl⟩ := hs
          obtain ⟨c1, c2⟩ := hc j hlt
          have c1 := (hbw.cell (p := ⟨b, off + j * 2, none⟩) hb).trans c1
          have c2 := (hbw.cell (p := ⟨b, off + j * 2 + 1, none⟩) hb).trans c2
          have hbr : b < wr.heap.size := by omega
          have ST := Lib.hid (attrs_step hlt)
          obtain ⟨l1, l2⟩ := HS.out j hlt
          have N1 := Lib.hid (fun w => named_any (ats.getD j ([], [])).1 w l1)
          have P1 := Lib.hid (fun w => printable_any (ats.getD j ([], [])).2 12 w l2)
          have HC := Lib.hid hc
          clear hc
          generalize hs1 : (ats.getD j ([], [])).1 = s1 at *
          generalize hs2 : (ats.getD j ([], [])).2 = s2 at *
          clear hs1 hs2
          cases hn1 : namedB s1 with
          | false =>
            as_aux_lemma =>
              rw [hn1] at N1
              have HX := Lib.hid (HE.out.trans (ST.out.trans (if_pos hn1)))
              go_wp2_with fail
              refine (N1.out _).mono ?_; rintro e w' ⟨rfl, rfl⟩
              go_wp2_with fail
              go_ret
              exact ⟨ret_int' HX.out.symm, by ((repeat' (first | exact Below.refl _ _ | assumption | refine Below.setCell ?_ ?_ _ | refine bdrewN ?_ _ | refine Below.drew ?_ | refine Below.alloc ?_ ?_ _ | refine bbehind ?_ (by assumption) ?_)); all_goals first | (simp; done) | (simp; omega) | omega)⟩
          | true =>
            rw [hn1] at N1
            by_cases hpos : ¬ 0 < j
            · have d0 : decide (0 < j) = false := by simpa using hpos
              have HL := Lib.hid (show leB s1 (prevName ats j) = false from by rw [show j = 0 by omega]; exact leB_nil hn1)
              clear hpos
              cases hp1 : printableB s2 12 with
              | false =>
                as_aux_lemma =>
                  rw [hp1] at P1
                  have HX := Lib.hid (HE.out.trans (ST.out.trans (by rw [if_neg (by simp [hn1]), if_neg (by simp [HL.out]), if_pos hp1])))
                  go_wp2_with fail
                  refine (N1.out _).mono ?_; rintro e w' ⟨rfl, rfl⟩
                  go_wp2_with fail
                  refine wp_region_quiet_all (fun w' => ∃ x : Lower _, w' = x.val) (by kernel_rfl) (by kernel_rfl) ⟨⟨_, (Below.refl _ _).drew⟩, rfl⟩ ?_
                  repeat (go_big_quiet_step (fail))
                  refine wpQuiet_nil ?_
                  intro w1 hx1
                  obtain ⟨x1, hx1⟩ := hx1
                  have hb1 := x1.prop
                  rw [← hx1] at hb1
                  clear hx1 x1
                  obtain ⟨hc1, hf1⟩ := bcell hb1
                  have hs1 := hb1.size
                  try simp at hs1
                  try have hz10 : w.heap.size < w1.heap.size := by omega
                  try have hz11 : w.heap.size + 1 < w1.heap.size := by omega
                  try have hz12 : w.heap.size + 1 + 1 < w1.heap.size := by omega
                  try have hz13 : w.heap.size + 1 + 1 + 1 < w1.heap.size := by omega
                  try have hz14 : w.heap.size + 1 + 1 + 1 + 1 < w1.heap.size := by omega
                  try have hz15 : w.heap.size + 1 + 1 + 1 + 1 + 1 < w1.heap.size := by omega
                  go_wp2_with fail
                  refine (P1.out _).mono ?_; rintro e w' ⟨rfl, rfl⟩
                  go_wp2_with fail
                  go_ret
                  exact ⟨ret_int' HX.out.symm, by ((repeat' (first | exact Below.refl _ _ | assumption | refine Below.setCell ?_ ?_ _ | refine bdrewN ?_ _ | refine Below.drew ?_ | refine Below.alloc ?_ ?_ _ | refine bbehind ?_ (by assumption) ?_)); all_goals first | (simp; done) | (simp; omega) | omega)⟩
              | true =>
                rw [hp1] at P1
                have HX := Lib.hid (HE.out.trans (ST.out.trans (by rw [if_neg (by simp [hn1]), if_neg (by simp [HL.out]), if_neg (by simp [hp1])])))
                go_wp2_with fail
                refine (N1.out _).mono ?_; rintro e w' ⟨rfl, rfl⟩
                go_wp2_with fail
                refine wp_region_quiet_all (fun w' => ∃ x : Lower _, w' = x.val) (by kernel_rfl) (by kernel_rfl) ⟨⟨_, (Below.refl _ _).drew⟩, rfl⟩ ?_
                repeat (go_big_quiet_step (fail))
                refine wpQuiet_nil ?_
                intro w1 hx1
                obtain ⟨x1, hx1⟩ := hx1
                have hb1 := x1.prop
                rw [← hx1] at hb1
                clear hx1 x1
                obtain ⟨hc1, hf1⟩ := bcell hb1
                have hs1 := hb1.size
                try simp at hs1
                try have hz10 : w.heap.size < w1.heap.size := by omega
                try have hz11 : w.heap.size + 1 < w1.heap.size := by omega
                try have hz12 : w.heap.size + 1 + 1 < w1.heap.size := by omega
                try have hz13 : w.heap.size + 1 + 1 + 1 < w1.heap.size := by omega
                try have hz14 : w.heap.size + 1 + 1 + 1 + 1 < w1.heap.size := by omega
                try have hz15 : w.heap.size + 1 + 1 + 1 + 1 + 1 < w1.heap.size := by omega
                go_wp2_with fail
                refine (P1.out _).mono ?_; rintro e w' ⟨rfl, rfl⟩
                go_wp2_with fail
                go_roundw
                case rel => exact ⟨j + 1, by go_num, by omega, HX.out, (by simp (maxDischargeDepth := 8) [go_sem, *]), (by first | assumption | (simp; done) | (simp; omega) | omega), by ((repeat' (first | exact Below.refl _ _ | assumption | refine Below.setCell ?_ ?_ _ | refine bdrewN ?_ _ | refine Below.drew ?_ | refine Below.alloc ?_ ?_ _ | refine bbehind ?_ (by assumption) ?_)); all_goals first | (simp; done) | (simp; omega) | omega)⟩
                case measure => simp [intOf]; omega
            · obtain ⟨i, rfl⟩ : ∃ i, j = i + 1 := ⟨j - 1, by omega⟩
              have c0 := (hbw.cell (p := ⟨b, off + i * 2, none⟩) hb).trans (HC.out i (by omega)).1
              have HP := Lib.hid (show prevName ats (i + 1) = (ats.getD i ([], [])).1 from rfl)
              have d0 : decide ((0 : Int) < ((i + 1 : Nat) : Int)) = true := by simp
              have i1 : i < ats.length := by omega
              clear hpos
              generalize hs0 : (ats.getD i ([], [])).1 = s0 at *
              clear hs0
              cases hle : leB s1 s0 with
              | true =>
                have HX := Lib.hid (HE.out.trans (ST.out.trans (by rw [if_neg (by simp [hn1]), if_pos (by rw [HP.out]; exact hle)])))
                have hle' : (Op.bytesLess s1 s0 || s1 == s0) = true := hle
                clear hle
                as_aux_lemma =>
                  go_wp2_with fail
                  refine (N1.out _).mono ?_; rintro e w' ⟨rfl, rfl⟩
                  go_wp2_with fail
                  refine wp_region_quiet_all (fun w' => ∃ x : Lower _, w' = x.val) (by kernel_rfl) (by kernel_rfl) ⟨⟨_, (Below.refl _ _).drew⟩, rfl⟩ ?_
                  repeat (go_big_quiet_step (fail))
                  refine wpQuiet_nil ?_
                  intro w1 hx1
                  obtain ⟨x1, hx1⟩ := hx1
                  have hb1 := x1.prop
                  rw [← hx1] at hb1
                  clear hx1 x1
                  obtain ⟨hc1, hf1⟩ := bcell hb1
                  have hs1 := hb1.size
                  try simp at hs1
                  try have hz10 : w.heap.size < w1.heap.size := by omega
                  try have hz11 : w.heap.size + 1 < w1.heap.size := by omega
                  try have hz12 : w.heap.size + 1 + 1 < w1.heap.size := by omega
                  try have hz13 : w.heap.size + 1 + 1 + 1 < w1.heap.size := by omega
                  try have hz14 : w.heap.size + 1 + 1 + 1 + 1 < w1.heap.size := by omega
                  try have hz15 : w.heap.size + 1 + 1 + 1 + 1 + 1 < w1.heap.size := by omega
                  go_wp2_with fail
                  go_ret
                  exact ⟨ret_int' HX.out.symm, by ((repeat' (first | exact Below.refl _ _ | assumption | refine Below.setCell ?_ ?_ _ | refine bdrewN ?_ _ | refine Below.drew ?_ | refine Below.alloc ?_ ?_ _ | refine bbehind ?_ (by assumption) ?_)); all_goals first | (simp; done) | (simp; omega) | omega)⟩
              | false =>
                have hle' : (Op.bytesLess s1 s0 || s1 == s0) = false := hle
                cases hp1 : printableB s2 12 with
                | false =>
                  as_aux_lemma =>
                    rw [hp1] at P1
                    have HX := Lib.hid (HE.out.trans (ST.out.trans (by rw [if_neg (by simp [hn1]), if_neg (by rw [HP.out]; simp [hle]), if_pos hp1])))
                    clear hle
                    go_wp2_with fail
                    refine (N1.out _).mono ?_; rintro e w' ⟨rfl, rfl⟩
                    go_wp2_with fail
                    refine wp_region_quiet_all (fun w' => ∃ x : Lower _, w' = x.val) (by kernel_rfl) (by kernel_rfl) ⟨⟨_, (Below.refl _ _).drew⟩, rfl⟩ ?_
                    repeat (go_big_quiet_step (fail))
                    refine wpQuiet_nil ?_
                    intro w1 hx1
                    obtain ⟨x1, hx1⟩ := hx1
                    have hb1 := x1.prop
                    rw [← hx1] at hb1
                    clear hx1 x1
                    obtain ⟨hc1, hf1⟩ := bcell hb1
                    have hs1 := hb1.size
                    try simp at hs1
                    try have hz10 : w.heap.size < w1.heap.size := by omega
                    try have hz11 : w.heap.size + 1 < w1.heap.size := by omega
                    try have hz12 : w.heap.size + 1 + 1 < w1.heap.size := by omega
                    try have hz13 : w.heap.size + 1 + 1 + 1 < w1.heap.size := by omega
                    try have hz14 : w.heap.size + 1 + 1 + 1 + 1 < w1.heap.size := by omega
                    try have hz15 : w.heap.size + 1 + 1 + 1 + 1 + 1 < w1.heap.size := by omega
                    go_wp2_with fail
                    refine (P1.out _).mono ?_; rintro e w' ⟨rfl, rfl⟩
                    go_wp2_with fail
                    go_ret
                    exact ⟨ret_int' HX.out.symm, by ((repeat' (first | exact Below.refl _ _ | assumption | refine Below.setCell ?_ ?_ _ | refine bdrewN ?_ _ | refine Below.drew ?_ | refine Below.alloc ?_ ?_ _ | refine bbehind ?_ (by assumption) ?_)); all_goals first | (simp; done) | (simp; omega) | omega)⟩
                | true =>
                  rw [hp1] at P1
                  have HX := Lib.hid (HE.out.trans (ST.out.trans (by rw [if_neg (by simp [hn1]), if_neg (by rw [HP.out]; simp [hle]), if_neg (by simp [hp1])])))
                  clear hle
                  go_wp2_with fail
                  refine (N1.out _).mono ?_; rintro e w' ⟨rfl, rfl⟩
                  go_wp2_with fail
                  refine wp_region_quiet_all (fun w' => ∃ x : Lower _, w' = x.val) (by kernel_rfl) (by kernel_rfl) ⟨⟨_, (Below.refl _ _).drew⟩, rfl⟩ ?_
                  repeat (go_big_quiet_step (fail))
                  refine wpQuiet_nil ?_
                  intro w1 hx1
                  obtain ⟨x1, hx1⟩ := hx1
                  have hb1 := x1.prop
                  rw [← hx1] at hb1
                  clear hx1 x1
                  obtain ⟨hc1, hf1⟩ := bcell hb1
                  have hs1 := hb1.size
                  try simp at hs1
                  try have hz10 : w.heap.size < w1.heap.size := by omega
                  try have hz11 : w.heap.size + 1 < w1.heap.size := by omega
                  try have hz12 : w.heap.size + 1 + 1 < w1.heap.size := by omega
                  try have hz13 : w.heap.size + 1 + 1 + 1 < w1.heap.size := by omega
                  try have hz14 : w.heap.size + 1 + 1 + 1 + 1 < w1.heap.size := by omega
                  try have hz15 : w.heap.size + 1 + 1 + 1 + 1 + 1 < w1.heap.size := by omega
                  go_wp2_with fail
                  refine (P1.out _).mono ?_; rintro e w' ⟨rfl, rfl⟩
                  go_wp2_with fail
                  go_roundw
                  case rel => exact ⟨i + 1 + 1, by go_num, by omega, HX.out, (by simp (maxDischargeDepth := 8) [go_sem, *]), (by first | assumption | (simp; done) | (simp; omega) | omega), by ((repeat' (first | exact Below.refl _ _ | assumption | refine Below.setCell ?_ ?_ _ | refine bdrewN ?_ _ | refine Below.drew ?_ | refine Below.alloc ?_ ?_ _ | refine bbehind ?_ (by assumption) ?_)); all_goals first | (simp; done) | (simp; omega) | omega)⟩
                  case measure => simp [intOf]; omega
        · have HX := Lib.hid (show attrsErr [] ats = 0 from HE.out.trans (by rw [List.drop_of_length_le (by omega)]; rfl))
          go_wp2_with fail
          go_ret
          exact ⟨ret_int' HX.out.symm, by ((repeat' (first | exact Below.refl _ _ | assumption | refine Below.setCell ?_ ?_ _ | refine bdrewN ?_ _ | refine Below.drew ?_ | refine Below.alloc ?_ ?_ _ | refine bbehind ?_ (by assumption) ?_)); all_goals first | (simp; done) | (simp; omega) | omega)⟩
end Go.Proofs.YtefongoinlcgaaaGreat

/- The errors of heads and forests, in the reference. -/
namespace Go.Proofs.YtefongoinlcgaaaGreat
open Go.RowKit

/-- all strings of a head are short enough to be looked at. -/
structure HdFit (h : Hd) : Prop where
  l : h.l.length ≤ 1000000
  x : h.x.length ≤ 1000000
  a : ∀ j, j < h.ats.length → (h.ats.getD j ([], [])).1.length ≤ 1000000 ∧ (h.ats.getD j ([], [])).2.length ≤ 1000000
theorem hdFit_of {h : Hd} (hg : greatHead h = false) : HdFit h ∧ h.ats.length ≤ 10 := by
  unfold greatHead at hg
  simp only [Bool.or_eq_false_iff, decide_eq_false_iff_not, List.any_eq_false, List.mem_range] at hg
  obtain ⟨g1, g2, g3⟩ := hg
  refine ⟨⟨by omega, by omega, fun j hj => ?_⟩, ?_⟩
  · have := g1 j hj
    unfold greatAt at this
    simp only [Bool.or_eq_true, decide_eq_true_eq] at this
    omega
  · by_cases h10 : h.ats.length ≤ 10
    · exact h10
    · have := g1 10 (by omega)
      simp [greatAt] at this

theorem qhead_any (h : Hd) (va : Value) (w : World) (ha : AttrsLie w va h.ats) (hf : HdFit h) :
    Calls Tryz.prog 18 #[.agg #[.int .i64 h.k, .string ⟨h.l.toArray⟩, va, .int .i64 h.n, .int .i64 h.d, .string ⟨h.x.toArray⟩]] w fun e w' => e = .returned (.int .i64 (headErr h)) ∧ Below w.heap.size w w' := by
  obtain ⟨k, l, ats, n, d, x⟩ := h
  obtain ⟨f1, f2, f3⟩ := hf
  simp only at ha f1 f2 f3 ⊢
  cases hs : strayB ⟨k, l, ats, n, d, x⟩ with
  | true => rw [headErr_stray hs]; exact qhead_stray k l ats n d x va w ha hs
  | false =>
    have he : headErr ⟨k, l, ats, n, d, x⟩ = if k = 1 then chk n d else if k = 2 then (if printableB x 24 = true then 0 else 3) else elemErr ⟨k, l, ats, n, d, x⟩ := by
      unfold headErr; rw [if_neg (by simp [hs])]
    rw [he]
    rcases plain_cases hs with ⟨rfl, rfl, rfl, rfl⟩ | ⟨rfl, rfl, rfl, rfl⟩ | ⟨rfl, rfl, rfl, rfl, rfl⟩
    · rw [if_neg (by decide), if_neg (by decide)]; exact qhead_elem l ats va w ha f1 f3
    · rw [if_pos rfl]
      obtain ⟨a0, cap0, rfl⟩ := attrs_form ha
      exact qhead_num n d a0 cap0 w
    · rw [if_neg (by decide), if_pos rfl]
      obtain ⟨a0, cap0, rfl⟩ := attrs_form ha
      exact qhead_text x a0 cap0 w f2

/-- all heads of a forest are. -/
def foFit : Fo → Prop
  | .nil => True
  | .cons h ks r => HdFit h ∧ foFit ks ∧ foFit r
theorem foFit_of : ∀ {f : Fo}, greatKids f = false → foFit f
  | .nil, _ => trivial
  | .cons h ks r, hg => by
    unfold greatKids at hg
    simp only [Bool.or_eq_false_iff] at hg
    exact ⟨(hdFit_of hg.1.1).1, foFit_of hg.1.2.2.2, foFit_of hg.2⟩
theorem foFit_drop : ∀ (i : Nat) {f : Fo}, foFit f → foFit (f.drop i)
  | 0, _, h => h
  | _ + 1, .nil, _ => trivial
  | i + 1, .cons _ _ _, h => foFit_drop i h.2.2

theorem headsErr_step {f : Fo} {k : Nat} {hd : Hd} {ks : Fo} (e : f.drop k = .cons hd ks (f.drop (k + 1))) :
    headsErr (f.drop k) = if headErr hd ≠ 0 then headErr hd else if hd.k ≠ 0 ∧ ks.len ≠ 0 then 1 else if headsErr ks ≠ 0 then headsErr ks else headsErr (f.drop (k + 1)) := by
  rw [e, headsErr]

set_option maxRecDepth 100000 in
set_option maxHeartbeats 4000000 in
theorem heads_any (m : Nat) : ∀ (f : Fo) (v : Value) (w : World), f.size ≤ m → Lies w v f → foFit f →
    Calls Tryz.prog 80 #[v] w fun e w' => e = .returned (.int .i64 (headsErr f)) ∧ Below w.heap.size w w' := by
  induction m using Nat.strongRecOn with
  | ind m ih =>
    intro f v w hm hl hf
    have HL := Lib.hid hl
    have HF := Lib.hid hf
    have IH := Lib.hid ih
    have hlen := lies_len hl
    obtain ⟨a, cap, rfl⟩ := lies_form hl
    clear hl ih hf
    go_enter Tryz.func80, Tryz.ntmps80
    go_wp2_with fail
    go_loopw [3] (fun i wr => ∃ k : Nat, i = .int .i64 k ∧ k ≤ f.len ∧ headsErr f = headsErr (f.drop k) ∧ Below w.heap.size w wr) (fun i _ => f.len - (intOf i).toNat)
    case atStart => exact ⟨0, rfl, Nat.zero_le _, rfl, Below.refl _ _⟩
    case round =>
      obtain ⟨k, rfl, hk, hg, hbw⟩ := hrel
      have HN := Lib.hid hg
      clear hg
      by_cases hlt : k < f.len
      · obtain ⟨b, o, cap', hs, hcap, -, hb, hrow⟩ := lies_row HL.out (by omega)
        simp only [Value.slice.injEq] at hs
        obtain ⟨rfl, -, rfl⟩ := hs
        obtain ⟨hd, ks, e, hh, vk, c6, hlk⟩ := row_get hrow hlt
        obtain ⟨hcw, hfw⟩ := bcell hbw
        have hbr := Nat.lt_of_lt_of_le hb hbw.size
        obtain ⟨c0, c1, ⟨va, c2, ha⟩, c3, c4, c5⟩ := hdAt_below hb hbw hh
        have c6' := (hcw b (o + k * 7 + 6) hb).trans c6
        have hfk : HdFit hd ∧ foFit ks := by have := foFit_drop k HF.out; rw [e] at this; exact ⟨this.1, this.2.1⟩
        have GH := Lib.hid (qhead_any hd va wr ha hfk.1)
        have hks := kid_size e
        have GK := Lib.hid (fun w1 (hb1 : Below wr.heap.size wr w1) => IH.out ks.size (by omega) ks vk w1 (Nat.le_refl _) (lies_below (lies_below hlk hbw) hb1) hfk.2)
        have ST := Lib.hid (headsErr_step e)
        have hsz := hbw.size
        obtain ⟨ak, ck, rfl⟩ := lies_form hlk
        clear e hrow hh c6 hlk hcw hfw ha hfk
        generalize hed : headErr hd = eh at *
        generalize hek : headsErr ks = ek at *
        generalize hkl : ks.len = nk at *
        generalize hkk : hd.k = kk at *
        clear hed hek hkl hkk
        by_cases h1 : eh = 0
        · have b1 : (eh != 0) = false := by simpa using h1
          by_cases h2 : kk ≠ 0 ∧ nk ≠ 0
          · have b2 : (kk != 0) = true := by simpa using h2.1
            have b3 : decide ((0 : Int) < (nk : Int)) = true := by simp; omega
            have b4 : decide (0 < nk) = true := by simp; omega
            have HX := Lib.hid (HN.out.trans (ST.out.trans (by rw [if_neg (by simpa using h1), if_pos h2])))
            clear h1 h2
            as_aux_lemma =>
              go_wp2_with fail
              refine (GH.out).mono ?_; rintro e w1 ⟨rfl, hb1⟩; obtain ⟨hc1, hf1⟩ := bcell hb1; have hs1 := hb1.size; (try simp at hs1); (try have hz10 : w.heap.size < w1.heap.size := by omega); (try have hz11 : w.heap.size + 1 < w1.heap.size := by omega); (try have hz12 : w.heap.size + 1 + 1 < w1.heap.size := by omega); (try have hz13 : w.heap.size + 1 + 1 + 1 < w1.heap.size := by omega); (try have hz14 : w.heap.size + 1 + 1 + 1 + 1 < w1.heap.size := by omega); (try have hz15 : w.heap.size + 1 + 1 + 1 + 1 + 1 < w1.heap.size := by omega)
              go_wp2_with fail
              go_ret
              exact ⟨ret_int' HX.out.symm, by ((repeat' (first | exact Below.refl _ _ | assumption | refine Below.setCell ?_ ?_ _ | refine bdrewN ?_ _ | refine Below.drew ?_ | refine Below.alloc ?_ ?_ _ | refine bbehind ?_ (by assumption) ?_)); all_goals first | (simp; done) | (simp; omega) | omega)⟩
          · have HX0 := Lib.hid (HN.out.trans (ST.out.trans (by rw [if_neg (by simpa using h1), if_neg h2])))
            rcases (show (kk != 0) = false ∨ ((kk != 0) = true ∧ nk = 0) by
              by_cases hk0 : kk = 0
              · exact .inl (by simpa using hk0)
              · exact .inr ⟨by simpa using hk0, by omega⟩) with b2 | ⟨b2, rfl⟩
            all_goals
              clear h1 h2
              by_cases h3 : ek = 0
              · have b5 : (ek != 0) = false := by simpa using h3
                have HX := Lib.hid (HX0.out.trans (if_neg (by simpa using h3)))
                clear h3
                as_aux_lemma =>
                  go_wp2_with fail
                  refine (GH.out).mono ?_; rintro e w1 ⟨rfl, hb1⟩; obtain ⟨hc1, hf1⟩ := bcell hb1; have hs1 := hb1.size; (try simp at hs1); (try have hz10 : w.heap.size < w1.heap.size := by omega); (try have hz11 : w.heap.size + 1 < w1.heap.size := by omega); (try have hz12 : w.heap.size + 1 + 1 < w1.heap.size := by omega); (try have hz13 : w.heap.size + 1 + 1 + 1 < w1.heap.size := by omega); (try have hz14 : w.heap.size + 1 + 1 + 1 + 1 < w1.heap.size := by omega); (try have hz15 : w.heap.size + 1 + 1 + 1 + 1 + 1 < w1.heap.size := by omega)
                  go_wp2_with fail
                  refine (GK.out _ hb1).mono ?_; rintro e w2 ⟨rfl, hb2⟩; obtain ⟨hc2, hf2⟩ := bcell hb2; have hs2 := hb2.size; (try simp at hs2); (try have hz20 : w.heap.size < w2.heap.size := by omega); (try have hz21 : w.heap.size + 1 < w2.heap.size := by omega); (try have hz22 : w.heap.size + 1 + 1 < w2.heap.size := by omega); (try have hz23 : w.heap.size + 1 + 1 + 1 < w2.heap.size := by omega); (try have hz24 : w.heap.size + 1 + 1 + 1 + 1 < w2.heap.size := by omega); (try have hz25 : w.heap.size + 1 + 1 + 1 + 1 + 1 < w2.heap.size := by omega); (try have hy1_2 : w1.heap.size < w2.heap.size := by omega)
                  go_wp2_with fail
                  go_roundw
                  case rel => exact ⟨k + 1, by go_num, by omega, HX.out, by ((repeat' (first | exact Below.refl _ _ | assumption | refine Below.setCell ?_ ?_ _ | refine bdrewN ?_ _ | refine Below.drew ?_ | refine Below.alloc ?_ ?_ _ | refine bbehind ?_ (by assumption) ?_)); all_goals first | (simp; done) | (simp; omega) | omega)⟩
                  case measure => simp [intOf]; omega
              · have b5 : (ek != 0) = true := by simpa using h3
                have HX := Lib.hid (HX0.out.trans (if_pos (by simpa using h3)))
                clear h3
                as_aux_lemma =>
                  go_wp2_with fail
                  refine (GH.out).mono ?_; rintro e w1 ⟨rfl, hb1⟩; obtain ⟨hc1, hf1⟩ := bcell hb1; have hs1 := hb1.size; (try simp at hs1); (try have hz10 : w.heap.size < w1.heap.size := by omega); (try have hz11 : w.heap.size + 1 < w1.heap.size := by omega); (try have hz12 : w.heap.size + 1 + 1 < w1.heap.size := by omega); (try have hz13 : w.heap.size + 1 + 1 + 1 < w1.heap.size := by omega); (try have hz14 : w.heap.size + 1 + 1 + 1 + 1 < w1.heap.size := by omega); (try have hz15 : w.heap.size + 1 + 1 + 1 + 1 + 1 < w1.heap.size := by omega)
                  go_wp2_with fail
                  refine (GK.out _ hb1).mono ?_; rintro e w2 ⟨rfl, hb2⟩; obtain ⟨hc2, hf2⟩ := bcell hb2; have hs2 := hb2.size; (try simp at hs2); (try have hz20 : w.heap.size < w2.heap.size := by omega); (try have hz21 : w.heap.size + 1 < w2.heap.size := by omega); (try have hz22 : w.heap.size + 1 + 1 < w2.heap.size := by omega); (try have hz23 : w.heap.size + 1 + 1 + 1 < w2.heap.size := by omega); (try have hz24 : w.heap.size + 1 + 1 + 1 + 1 < w2.heap.size := by omega); (try have hz25 : w.heap.size + 1 + 1 + 1 + 1 + 1 < w2.heap.size := by omega); (try have hy1_2 : w1.heap.size < w2.heap.size := by omega)
                  go_wp2_with fail
                  go_ret
                  exact ⟨ret_int' HX.out.symm, by ((repeat' (first | exact Below.refl _ _ | assumption | refine Below.setCell ?_ ?_ _ | refine bdrewN ?_ _ | refine Below.drew ?_ | refine Below.alloc ?_ ?_ _ | refine bbehind ?_ (by assumption) ?_)); all_goals first | (simp; done) | (simp; omega) | omega)⟩
        · have b1 : (eh != 0) = true := by simpa using h1
          have HX := Lib.hid (HN.out.trans (ST.out.trans (by rw [if_pos (by simpa using h1)])))
          clear h1
          as_aux_lemma =>
            go_wp2_with fail
            refine (GH.out).mono ?_; rintro e w1 ⟨rfl, hb1⟩; obtain ⟨hc1, hf1⟩ := bcell hb1; have hs1 := hb1.size; (try simp at hs1); (try have hz10 : w.heap.size < w1.heap.size := by omega); (try have hz11 : w.heap.size + 1 < w1.heap.size := by omega); (try have hz12 : w.heap.size + 1 + 1 < w1.heap.size := by omega); (try have hz13 : w.heap.size + 1 + 1 + 1 < w1.heap.size := by omega); (try have hz14 : w.heap.size + 1 + 1 + 1 + 1 < w1.heap.size := by omega); (try have hz15 : w.heap.size + 1 + 1 + 1 + 1 + 1 < w1.heap.size := by omega)
            go_wp2_with fail
            go_ret
            exact ⟨ret_int' HX.out.symm, by ((repeat' (first | exact Below.refl _ _ | assumption | refine Below.setCell ?_ ?_ _ | refine bdrewN ?_ _ | refine Below.drew ?_ | refine Below.alloc ?_ ?_ _ | refine bbehind ?_ (by assumption) ?_)); all_goals first | (simp; done) | (simp; omega) | omega)⟩
      · have HX := Lib.hid (show headsErr f = 0 from HN.out.trans (by rw [Fo.drop_ge k f (by omega)]; rfl))
        go_wp2_with fail
        go_ret
        exact ⟨ret_int' HX.out.symm, by ((repeat' (first | exact Below.refl _ _ | assumption | refine Below.setCell ?_ ?_ _ | refine bdrewN ?_ _ | refine Below.drew ?_ | refine Below.alloc ?_ ?_ _ | refine bbehind ?_ (by assumption) ?_)); all_goals first | (simp; done) | (simp; omega) | omega)⟩

/-- a forest that the statements look at. -/
structure Small (f : Fo) : Prop where
  size : f.size ≤ 100000
  deep : f.deep ≤ 100000
  dl : deepL 0 f = f.deep
  fit : foFit f
theorem small_lies {w : World} {v : Value} {f : Fo} (h : Lies w v f) (hg : great f = false) : Small f := by
  obtain ⟨h1, h2, h3⟩ := small_of (lies_len h) (bnd_lies h) hg
  refine ⟨by omega, by omega, h3, foFit_of ?_⟩
  unfold great at hg
  simp only [Bool.or_eq_false_iff] at hg
  exact hg.2.2

set_option maxRecDepth 100000 in
set_option maxHeartbeats 1000000 in
theorem qcheck_any (f : Fo) (v : Value) (w : World) (hl : Lies w v f) (hs : Small f) :
    Calls Tryz.prog 20 #[v] w fun e w' => e = .returned (.int .i64 (foErr f)) ∧ Below w.heap.size w w' := by
  obtain ⟨s1, s2, s3, s4⟩ := hs
  have S1 := Lib.hid (sizeOf_any _ f v w (Nat.le_refl _) hl)
  rw [wrap64_id (by omega) (by omega)] at S1
  have D1 := Lib.hid (deepOf_any _ f v w (Nat.le_refl _) hl)
  rw [s3] at D1
  have H1 := Lib.hid (heads_any _ f v w (Nat.le_refl _) hl s4)
  have HE := Lib.hid (show foErr f = if 400 < f.size then 4 else if 40 < f.deep then 8 else headsErr f from rfl)
  obtain ⟨a, cap, rfl⟩ := lies_form hl
  clear hl s3 s4
  by_cases h1 : 400 < f.size
  · have d1 : decide ((400 : Int) < (f.size : Int)) = true := by simp; omega
    go_enter Tryz.func20, Tryz.ntmps20
    go_wp2_with fail
    refine S1.out.mono ?_; rintro e w' ⟨rfl, rfl⟩
    go_wp2_with fail
    go_ret
    exact ⟨ret_int' (by rw [HE.out, if_pos h1]), Below.refl _ _⟩
  · have d1 : decide ((400 : Int) < (f.size : Int)) = false := by simp; omega
    by_cases h2 : 40 < f.deep
    · have d2 : decide ((40 : Int) < (f.deep : Int)) = true := by simp; omega
      go_enter Tryz.func20, Tryz.ntmps20
      go_wp2_with fail
      refine S1.out.mono ?_; rintro e w' ⟨rfl, rfl⟩
      go_wp2_with fail
      refine D1.out.mono ?_; rintro e w' ⟨rfl, rfl⟩
      go_wp2_with fail
      go_ret
      exact ⟨ret_int' (by rw [HE.out, if_neg h1, if_pos h2]), Below.refl _ _⟩
    · have d2 : decide ((40 : Int) < (f.deep : Int)) = false := by simp; omega
      go_enter Tryz.func20, Tryz.ntmps20
      go_wp2_with fail
      refine S1.out.mono ?_; rintro e w' ⟨rfl, rfl⟩
      go_wp2_with fail
      refine D1.out.mono ?_; rintro e w' ⟨rfl, rfl⟩
      go_wp2_with fail
      refine (H1.out).mono ?_; rintro e w1 ⟨rfl, hb1⟩; obtain ⟨hc1, hf1⟩ := bcell hb1; have hs1 := hb1.size; (try simp at hs1); (try have hz10 : w.heap.size < w1.heap.size := by omega); (try have hz11 : w.heap.size + 1 < w1.heap.size := by omega); (try have hz12 : w.heap.size + 1 + 1 < w1.heap.size := by omega); (try have hz13 : w.heap.size + 1 + 1 + 1 < w1.heap.size := by omega); (try have hz14 : w.heap.size + 1 + 1 + 1 + 1 < w1.heap.size := by omega); (try have hz15 : w.heap.size + 1 + 1 + 1 + 1 + 1 < w1.heap.size := by omega)
      go_wp2_with fail
      go_ret
      exact ⟨ret_int' (by rw [HE.out, if_neg h1, if_neg h2]), by ((repeat' (first | exact Below.refl _ _ | assumption | refine Below.setCell ?_ ?_ _ | refine bdrewN ?_ _ | refine Below.drew ?_ | refine Below.alloc ?_ ?_ _ | refine bbehind ?_ (by assumption) ?_)); all_goals first | (simp; done) | (simp; omega) | omega)⟩
end Go.Proofs.YtefongoinlcgaaaGreat

/- package tree: names, printable strings. -/
namespace Go.Proofs.YtefongoinlcgaaaGreat
open Go.RowKit

set_option maxHeartbeats 400000 in
theorem tletter_any (c : UInt8) (w : World) : Calls Tryz.prog 163 #[.int .u8 c.toNat] w fun e w' => e = .returned (.bool (letterB c)) ∧ w = w' := by
  by_cases h1 : 97 ≤ c.toNat
  · have d1 : decide ((97 : Int) ≤ (c.toNat : Int)) = true := by simp; omega
    go_enter Tryz.func163, Tryz.ntmps163
    go_wp2
    go_ret
    exact ⟨ret_bool (by unfold letterB; rw [decide_eq_decide]; omega), rfl⟩
  · have d1 : decide ((97 : Int) ≤ (c.toNat : Int)) = false := by simp; omega
    go_enter Tryz.func163, Tryz.ntmps163
    go_wp2
    go_ret
    exact ⟨ret_bool (by unfold letterB; simp; omega), rfl⟩
set_option maxHeartbeats 400000 in
theorem tdigit_any (c : UInt8) (w : World) : Calls Tryz.prog 164 #[.int .u8 c.toNat] w fun e w' => e = .returned (.bool (digitB c)) ∧ w = w' := by
  by_cases h1 : 48 ≤ c.toNat
  · have d1 : decide ((48 : Int) ≤ (c.toNat : Int)) = true := by simp; omega
    go_enter Tryz.func164, Tryz.ntmps164
    go_wp2
    go_ret
    exact ⟨ret_bool (by unfold digitB; rw [decide_eq_decide]; omega), rfl⟩
  · have d1 : decide ((48 : Int) ≤ (c.toNat : Int)) = false := by simp; omega
    go_enter Tryz.func164, Tryz.ntmps164
    go_wp2
    go_ret
    exact ⟨ret_bool (by unfold digitB; simp; omega), rfl⟩
set_option maxHeartbeats 400000 in
theorem tprint_any (c : UInt8) (w : World) : Calls Tryz.prog 121 #[.int .u8 c.toNat] w fun e w' => e = .returned (.bool (printB c)) ∧ w = w' := by
  by_cases h1 : 32 ≤ c.toNat
  · have d1 : decide ((32 : Int) ≤ (c.toNat : Int)) = true := by simp; omega
    go_enter Tryz.func121, Tryz.ntmps121
    go_wp2
    go_ret
    exact ⟨ret_bool (by unfold printB; rw [decide_eq_decide]; omega), rfl⟩
  · have d1 : decide ((32 : Int) ≤ (c.toNat : Int)) = false := by simp; omega
    go_enter Tryz.func121, Tryz.ntmps121
    go_wp2
    go_ret
    exact ⟨ret_bool (by unfold printB; simp; omega), rfl⟩

/-- how long the word at the front is. -/
def wordLen (l : List UInt8) : Nat := (List.range l.length).findIdx (fun i => !nameAt l i)
theorem wordLen_le (l : List UInt8) : wordLen l ≤ l.length := by
  have := List.findIdx_le_length (xs := List.range l.length) (p := fun i => !nameAt l i)
  simpa [wordLen] using this
theorem wordLen_at {l : List UInt8} {k : Nat} (h : ∀ j, j < k → nameAt l j = true) (hk : k ≤ l.length) (hs : k = l.length ∨ nameAt l k = false) : wordLen l = k := by
  have a1 : ¬ wordLen l < k := fun hlt => by
    have hw : List.findIdx (fun i => !nameAt l i) (List.range l.length) < (List.range l.length).length := by simp only [List.length_range]; unfold wordLen at hlt; omega
    have h1 := List.findIdx_getElem (w := hw)
    rw [List.getElem_range] at h1
    have h2 := h _ hlt
    unfold wordLen at h2
    simp [h2] at h1
  rcases hs with rfl | hs
  · have := wordLen_le l; omega
  · have a2 : ¬ k < wordLen l := fun hlt => by
      have h2 := List.not_of_lt_findIdx hlt
      simp only [List.getElem_range, Bool.not_eq_false'] at h2
      rw [hs] at h2; cases h2
    omega

set_option maxRecDepth 100000 in
set_option maxHeartbeats 1000000 in
theorem wordAtFront_any (l : List UInt8) (w : World) (hl : l.length ≤ 1000000) : Calls Tryz.prog 148 #[.string ⟨l.toArray⟩] w fun e w' => e = .returned (.string ⟨(l.take (wordLen l)).toArray⟩) ∧ w = w' := by
  have HW := Lib.hid (fun k => wordLen_at (l := l) (k := k))
  go_enter Tryz.func148, Tryz.ntmps148
  go_wp2_with fail
  go_loop [3] (fun i => ∃ k : Nat, k ≤ l.length ∧ i = .int .i64 k ∧ ∀ j, j < k → nameAt l j = true) (fun i => l.length - (intOf i).toNat)
  case atStart => exact ⟨0, Nat.zero_le _, rfl, fun j hj => absurd hj (by omega)⟩
  case round =>
    obtain ⟨k, hk, rfl, hj⟩ := hrel
    have HJ := Lib.hid hj; clear hj
    by_cases hlt : k < l.length
    · obtain ⟨c, hc⟩ : ∃ c, l[k] = c := ⟨_, rfl⟩
      have HX := Lib.hid (getD_at (d := 0) hlt hc)
      have HNA := Lib.hid (show nameAt l k = (letterB c || (decide (k ≠ 0) && digitB c)) by unfold nameAt; rw [HX.out])
      have L := Lib.hid (tletter_any c)
      have D := Lib.hid (tdigit_any c)
      have NX := Lib.hid (show nameAt l k = true → ∀ j, j < k + 1 → nameAt l j = true from fun h j hj => (Nat.lt_or_ge j k).elim (HJ.out j) fun h' => by rw [show j = k by omega]; exact h)
      cases h1 : letterB c with
      | true =>
        rw [h1] at L
        have HX := Lib.hid (NX.out (by rw [HNA.out, h1]; rfl))
        clear h1
        go_wp2_with fail
        refine (L.out _).mono ?_; rintro e w' ⟨rfl, rfl⟩
        go_wp2_with fail
        go_round
        case rel => exact ⟨k + 1, by omega, by go_num, HX.out⟩
        case measure => simp [intOf]; omega
      | false =>
        rw [h1] at L
        by_cases h0 : k = 0
        · have HX := Lib.hid (HW.out k HJ.out (by omega) (.inr (by rw [HNA.out, h1, h0]; rfl)))
          have b0 : decide (0 < k) = false := by simp [h0]
          clear h0 h1
          go_wp2_with fail
          refine (L.out _).mono ?_; rintro e w' ⟨rfl, rfl⟩
          go_wp2_with fail
          rw [HX.out]
          go_ret
          exact ⟨rfl, rfl⟩
        · have b0 : decide (0 < k) = true := by simp; omega
          cases h2 : digitB c with
          | true =>
            rw [h2] at D
            have HX := Lib.hid (NX.out (by rw [HNA.out, h1, h2]; simp [h0]))
            clear h1 h2 h0
            go_wp2_with fail
            refine (L.out _).mono ?_; rintro e w' ⟨rfl, rfl⟩
            go_wp2_with fail
            refine (D.out _).mono ?_; rintro e w' ⟨rfl, rfl⟩
            go_wp2_with fail
            go_round
            case rel => exact ⟨k + 1, by omega, by go_num, HX.out⟩
            case measure => simp [intOf]; omega
          | false =>
            rw [h2] at D
            have HX := Lib.hid (HW.out k HJ.out (by omega) (.inr (by rw [HNA.out, h1, h2]; simp)))
            clear h1 h2 h0
            go_wp2_with fail
            refine (L.out _).mono ?_; rintro e w' ⟨rfl, rfl⟩
            go_wp2_with fail
            refine (D.out _).mono ?_; rintro e w' ⟨rfl, rfl⟩
            go_wp2_with fail
            rw [HX.out]
            go_ret
            exact ⟨rfl, rfl⟩
    · have HX := Lib.hid (HW.out k HJ.out hk (.inl (by omega)))
      go_wp2_with fail
      rw [HX.out]
      go_ret
      exact ⟨rfl, rfl⟩

theorem take_word_eq {l : List UInt8} : l.take (wordLen l) = l ↔ ∀ j, j < l.length → nameAt l j = true := by
  constructor
  · intro h j hj
    have hw : wordLen l = l.length := by
      have := congrArg List.length h
      rw [List.length_take] at this
      have := wordLen_le l
      omega
    have h2 := List.not_of_lt_findIdx (xs := List.range l.length) (p := fun i => !nameAt l i) (i := j) (by show j < wordLen l; omega)
    simpa using h2
  · intro h
    rw [wordLen_at h (Nat.le_refl _) (.inl rfl), List.take_length]

set_option maxRecDepth 100000 in
set_option maxHeartbeats 1000000 in
theorem isName_any (l : List UInt8) (w : World) (hl : l.length ≤ 1000000) : Calls Tryz.prog 103 #[.string ⟨l.toArray⟩] w fun e w' => e = .returned (.bool (namedB l)) ∧ w = w' := by
  have W := Lib.hid (fun w => wordAtFront_any l w hl)
  by_cases h8 : l.length ≤ 8
  · have d8 : decide ((l.length : Int) ≤ 8) = true := by simp; omega
    by_cases he : l.take (wordLen l) = l
    · have HA := take_word_eq.1 he
      have e1 : (l.take (wordLen l) == l) = true := by simp [he]
      cases l with
      | nil =>
        have HX := Lib.hid (show namedB [] = false from rfl)
        clear HA he
        go_enter Tryz.func103, Tryz.ntmps103
        go_wp2_with fail
        refine (W.out _).mono ?_; rintro e w' ⟨rfl, rfl⟩
        go_wp2_with fail
        go_ret
        exact ⟨ret_bool HX.out.symm, rfl⟩
      | cons a t =>
        have HX := Lib.hid (show namedB (a :: t) = true by unfold namedB; rw [all_range_none HA]; simp at h8 ⊢; omega)
        have hb8 : (t.length : Int) + 1 ≤ 8 := by simp at h8; omega
        clear HA he
        generalize hlw : (a :: t).take (wordLen (a :: t)) = lw at *
        clear hlw
        go_enter Tryz.func103, Tryz.ntmps103
        go_wp2_with fail
        refine (W.out _).mono ?_; rintro e w' ⟨rfl, rfl⟩
        go_wp2_with fail
        go_ret
        exact ⟨ret_bool HX.out.symm, rfl⟩
    · have e1 : (l.take (wordLen l) == l) = false := by simpa using he
      have HX := Lib.hid (show namedB l = false by
        unfold namedB
        cases ha : (List.range l.length).all (nameAt l) with
        | false => rfl
        | true => exact absurd (take_word_eq.2 (by simpa using ha)) he)
      clear he
      generalize hlw : l.take (wordLen l) = lw at *
      clear hlw
      go_enter Tryz.func103, Tryz.ntmps103
      go_wp2_with fail
      refine (W.out _).mono ?_; rintro e w' ⟨rfl, rfl⟩
      go_wp2_with fail
      go_ret
      exact ⟨ret_bool HX.out.symm, rfl⟩
  · have d8 : decide ((l.length : Int) ≤ 8) = false := by simp; omega
    have HX := Lib.hid (show namedB l = false by unfold namedB; simp; omega)
    go_enter Tryz.func103, Tryz.ntmps103
    go_wp2_with fail
    go_ret
    exact ⟨ret_bool HX.out.symm, rfl⟩
end Go.Proofs.YtefongoinlcgaaaGreat

/- package tree: the errors of strings and heads. -/
namespace Go.Proofs.YtefongoinlcgaaaGreat
open Go.RowKit

/-- the error of a string in a head. -/
def strErr (l : List UInt8) (most : Int) : Int := if printableB l most = true then 0 else 3

set_option maxRecDepth 100000 in
set_option maxHeartbeats 1000000 in
theorem checkString_any (l : List UInt8) (most : Int) (w : World) (hl : l.length ≤ 1000000) : Calls Tryz.prog 74 #[.string ⟨l.toArray⟩, .int .i64 most] w fun e w' => e = .returned (.int .i64 (strErr l most)) ∧ Below w.heap.size w w' := by
  by_cases hm : most < (l.length : Int)
  · have dm : decide (most < (l.length : Int)) = true := by simpa using hm
    have HX := Lib.hid (show printableB l most = false by unfold printableB; simp; omega)
    go_enter Tryz.func74, Tryz.ntmps74
    go_wp2_with fail
    go_ret
    exact ⟨ret_int' (by unfold strErr; rw [HX.out]; rfl), Below.refl _ _⟩
  · have dm : decide (most < (l.length : Int)) = false := by simpa using hm
    have HB := Lib.hid (show ∀ j, j < l.length → printB (l.getD j 0) = false → printableB l most = false from fun j hj h => by unfold printableB; rw [all_not hj h]; rfl)
    have HN := Lib.hid (show (∀ j, j < l.length → printB (l.getD j 0) = true) → printableB l most = true from fun h => by
      unfold printableB; rw [all_get h, Bool.true_and]; simp; omega)
    obtain ⟨cap, w1, hcv, hb1, hz1, hcell⟩ := conv_bytes l w
    have HC := Lib.hid hcell; clear hcell
    have HB1 := Lib.hid hb1; clear hb1
    go_enter Tryz.func74, Tryz.ntmps74
    go_wp2_with fail
    go_loopw [14] (fun i wr => ∃ k : Nat, k ≤ l.length ∧ i = .int .i64 k ∧ (∀ j, j < k → printB (l.getD j 0) = true) ∧ wr = w1) (fun i _ => l.length - (intOf i).toNat)
    case atStart => exact ⟨0, Nat.zero_le _, rfl, fun j hj => absurd hj (by omega), rfl⟩
    case round =>
      obtain ⟨k, hk, rfl, hj, rfl⟩ := hrel
      have HJ := Lib.hid hj; clear hj
      by_cases hlt : k < l.length
      · have hce := HC.out k hlt
        obtain ⟨c, hc⟩ : ∃ c, l[k] = c := ⟨_, rfl⟩
        have HX := Lib.hid (getD_at (d := 0) hlt hc)
        rw [hc] at hce
        clear hc
        have NX := Lib.hid (show printB (l.getD k 0) = true → ∀ j, j < k + 1 → printB (l.getD j 0) = true from fun h j hj => (Nat.lt_or_ge j k).elim (HJ.out j) fun h' => by rw [show j = k by omega]; exact h)
        have P := Lib.hid (tprint_any c)
        cases h1 : printB c with
        | true =>
          rw [h1] at P
          have HY := Lib.hid (NX.out (by rw [HX.out]; exact h1))
          clear h1
          go_wp2_with fail
          refine (P.out _).mono ?_; rintro e w' ⟨rfl, rfl⟩
          go_wp2_with fail
          go_roundw
          case rel => exact ⟨k + 1, by omega, by go_num, HY.out, trivial⟩
          case measure => simp [intOf]; omega
        | false =>
          rw [h1] at P
          have HY := Lib.hid (HB.out k hlt (by rw [HX.out]; exact h1))
          clear h1
          go_wp2_with fail
          refine (P.out _).mono ?_; rintro e w' ⟨rfl, rfl⟩
          go_wp2_with fail
          go_ret
          exact ⟨ret_int' (by unfold strErr; rw [HY.out]; rfl), HB1.out⟩
      · have HY := Lib.hid (HN.out (fun j hj => HJ.out j (by omega)))
        go_wp2_with fail
        go_ret
        exact ⟨ret_int' (by unfold strErr; rw [HY.out]; rfl), HB1.out⟩

set_option maxRecDepth 100000 in
set_option maxHeartbeats 2000000 in
theorem stray_any (k : Int) (l : List UInt8) (ats : List (List UInt8 × List UInt8)) (n d : Int) (x : List UInt8) (va : Value) (w : World) (ha : AttrsLie w va ats) :
    Calls Tryz.prog 72 #[.agg #[.int .i64 k, .string ⟨l.toArray⟩, va, .int .i64 n, .int .i64 d, .string ⟨x.toArray⟩]] w fun e w' => e = .returned (.bool (strayB ⟨k, l, ats, n, d, x⟩)) ∧ Below w.heap.size w w' := by
  obtain ⟨a0, cap0, rfl⟩ := attrs_form ha
  clear ha
  cases hs : strayB ⟨k, l, ats, n, d, x⟩ with
  | true =>
    rcases stray_cases hs with ⟨k0, k1, k2⟩ | ⟨rfl, hh⟩ | ⟨rfl, hh⟩ | ⟨rfl, hh⟩
    · clear hs
      have k0' : (k == 0) = false := by simpa using k0
      have k1' : (k == 1) = false := by simpa using k1
      have k2' : (k == 2) = false := by simpa using k2
      clear k0 k1 k2
      go_enter Tryz.func72, Tryz.ntmps72
      go_wp2_with fail
      all_goals
        go_ret
        exact ⟨rfl, (Below.refl _ _).alloc (Nat.le_refl _) _⟩
    · clear hs
      rcases hh with hn | ⟨hn, hd⟩ | ⟨rfl, rfl, a, t, rfl⟩
      · have hn' : ¬ n = 0 := by simpa using hn
        clear hn
        go_enter Tryz.func72, Tryz.ntmps72
        go_wp2_with fail
        all_goals
          go_ret
          exact ⟨rfl, (Below.refl _ _).alloc (Nat.le_refl _) _⟩
      · have hn' : n = 0 := by simpa using hn
        have hd' : ¬ d = 0 := by simpa using hd
        clear hn hd
        subst hn'
        go_enter Tryz.func72, Tryz.ntmps72
        go_wp2_with fail
        all_goals
          go_ret
          exact ⟨rfl, (Below.refl _ _).alloc (Nat.le_refl _) _⟩
      · go_enter Tryz.func72, Tryz.ntmps72
        go_wp2_with fail
        all_goals
          go_ret
          exact ⟨rfl, (Below.refl _ _).alloc (Nat.le_refl _) _⟩
    · clear hs
      rcases hh with ⟨a, t, rfl⟩ | ⟨rfl, hl⟩ | ⟨rfl, rfl, a, t, rfl⟩
      · go_enter Tryz.func72, Tryz.ntmps72
        go_wp2_with fail
        all_goals
          go_ret
          exact ⟨rfl, (Below.refl _ _).alloc (Nat.le_refl _) _⟩
      · have d1 : decide ((0 : Int) < (ats.length : Int)) = true := by simp; omega
        go_enter Tryz.func72, Tryz.ntmps72
        go_wp2_with fail
        all_goals
          go_ret
          exact ⟨rfl, (Below.refl _ _).alloc (Nat.le_refl _) _⟩
      · go_enter Tryz.func72, Tryz.ntmps72
        go_wp2_with fail
        all_goals
          go_ret
          exact ⟨rfl, (Below.refl _ _).alloc (Nat.le_refl _) _⟩
    · clear hs
      rcases hh with ⟨a, t, rfl⟩ | ⟨rfl, hl⟩ | ⟨rfl, rfl, hn | ⟨hn, hd⟩⟩
      · go_enter Tryz.func72, Tryz.ntmps72
        go_wp2_with fail
        all_goals
          go_ret
          exact ⟨rfl, (Below.refl _ _).alloc (Nat.le_refl _) _⟩
      · have d1 : decide ((0 : Int) < (ats.length : Int)) = true := by simp; omega
        go_enter Tryz.func72, Tryz.ntmps72
        go_wp2_with fail
        all_goals
          go_ret
          exact ⟨rfl, (Below.refl _ _).alloc (Nat.le_refl _) _⟩
      · have hn' : ¬ n = 0 := by simpa using hn
        clear hn
        go_enter Tryz.func72, Tryz.ntmps72
        go_wp2_with fail
        all_goals
          go_ret
          exact ⟨rfl, (Below.refl _ _).alloc (Nat.le_refl _) _⟩
      · have hn' : n = 0 := by simpa using hn
        have hd' : ¬ d = 0 := by simpa using hd
        clear hn hd
        subst hn'
        go_enter Tryz.func72, Tryz.ntmps72
        go_wp2_with fail
        all_goals
          go_ret
          exact ⟨rfl, (Below.refl _ _).alloc (Nat.le_refl _) _⟩
  | false =>
    rcases plain_cases hs with ⟨rfl, rfl, rfl, rfl⟩ | ⟨rfl, rfl, rfl, rfl⟩ | ⟨rfl, rfl, rfl, rfl, rfl⟩
    all_goals
      clear hs
      go_enter Tryz.func72, Tryz.ntmps72
      go_wp2_with fail
      all_goals
        go_ret
        exact ⟨rfl, (Below.refl _ _).alloc (Nat.le_refl _) _⟩
end Go.Proofs.YtefongoinlcgaaaGreat

/- package tree: the errors of elements and heads. -/
namespace Go.Proofs.YtefongoinlcgaaaGreat
open Go.RowKit

theorem strErr_eq (l : List UInt8) (most : Int) : strErr l most = if printableB l most = true then 0 else 3 := rfl
theorem attrs_step' {ats : List (List UInt8 × List UInt8)} {j : Nat} (hj : j < ats.length) :
    attrsErr (prevName ats j) (ats.drop j) = if namedB (ats.getD j ([], [])).1 = false then 2 else if leB (ats.getD j ([], [])).1 (prevName ats j) = true then 7 else
      if strErr (ats.getD j ([], [])).2 12 ≠ 0 then strErr (ats.getD j ([], [])).2 12 else attrsErr (prevName ats (j + 1)) (ats.drop (j + 1)) := by
  rw [attrs_step hj, strErr_eq]
  cases printableB (ats.getD j ([], [])).2 12 <;> simp

set_option maxRecDepth 100000 in
set_option maxHeartbeats 4000000 in
theorem checkElement_any (l : List UInt8) (ats : List (List UInt8 × List UInt8)) (n d : Int) (x : List UInt8) (va : Value) (w : World) (ha : AttrsLie w va ats) (hl : l.length ≤ 1000000)
    (hs : ∀ j, j < ats.length → (ats.getD j ([], [])).1.length ≤ 1000000 ∧ (ats.getD j ([], [])).2.length ≤ 1000000) :
    Calls Tryz.prog 75 #[.agg #[.int .i64 0, .string ⟨l.toArray⟩, va, .int .i64 n, .int .i64 d, .string ⟨x.toArray⟩]] w fun e w' => e = .returned (.int .i64 (elemErr ⟨0, l, ats, n, d, x⟩)) ∧ Below w.heap.size w w' := by
  have N := Lib.hid (fun w => isName_any l w hl)
  have HEE := Lib.hid (show elemErr ⟨0, l, ats, n, d, x⟩ = if namedB l = false then 2 else if 3 < ats.length then 4 else attrsErr [] ats from rfl)
  obtain ⟨a0, cap0, rfl⟩ := attrs_form ha
  have HA := Lib.hid ha
  have HS := Lib.hid hs
  clear ha hs
  cases hn : namedB l with
  | false =>
    rw [hn] at N
    have HX := Lib.hid (HEE.out.trans (if_pos hn))
    clear hn
    go_enter Tryz.func75, Tryz.ntmps75
    go_wp2_with fail
    refine (N.out _).mono ?_; rintro e w' ⟨rfl, rfl⟩
    go_wp2_with fail
    go_ret
    exact ⟨ret_int' HX.out.symm, by ((repeat' (first | exact Below.refl _ _ | assumption | refine Below.setCell ?_ ?_ _ | refine bdrewN ?_ _ | refine Below.drew ?_ | refine Below.alloc ?_ ?_ _ | refine bbehind ?_ (by assumption) ?_)); all_goals first | (simp; done) | (simp; omega) | omega)⟩
  | true =>
    have HE2 := Lib.hid (HEE.out.trans (if_neg (by simp [hn])))
    rw [hn] at N
    by_cases h3 : 3 < ats.length
    · have d3 : decide ((3 : Int) < (ats.length : Int)) = true := by simp; omega
      have HX := Lib.hid (HE2.out.trans (if_pos h3))
      go_enter Tryz.func75, Tryz.ntmps75
      go_wp2_with fail
      refine (N.out _).mono ?_; rintro e w' ⟨rfl, rfl⟩
      go_wp2_with fail
      go_ret
      exact ⟨ret_int' HX.out.symm, by ((repeat' (first | exact Below.refl _ _ | assumption | refine Below.setCell ?_ ?_ _ | refine bdrewN ?_ _ | refine Below.drew ?_ | refine Below.alloc ?_ ?_ _ | refine bbehind ?_ (by assumption) ?_)); all_goals first | (simp; done) | (simp; omega) | omega)⟩
    · have d3 : decide ((3 : Int) < (ats.length : Int)) = false := by simp; omega
      have HE3 := Lib.hid (HE2.out.trans (if_neg h3))
      clear HEE HE2
      go_enter Tryz.func75, Tryz.ntmps75
      go_wp2_with fail
      refine (N.out _).mono ?_; rintro e w' ⟨rfl, rfl⟩
      go_wp2_with fail
      clear N d3
      have hsz : w.heap.size < w.heap.size + 1 := by omega
      go_loopw [3, 18] (fun b i wr => ∃ j : Nat, i = .int .i64 j ∧ b = .string ⟨(prevName ats j).toArray⟩ ∧ j ≤ ats.length ∧ attrsErr [] ats = attrsErr (prevName ats j) (ats.drop j) ∧ Below w.heap.size w wr) (fun _ i _ => ats.length - (intOf i).toNat)
      case atStart => exact ⟨0, rfl, rfl, Nat.zero_le _, rfl, by ((repeat' (first | exact Below.refl _ _ | assumption | refine Below.setCell ?_ ?_ _ | refine bdrewN ?_ _ | refine Below.drew ?_ | refine Below.alloc ?_ ?_ _ | refine bbehind ?_ (by assumption) ?_)); all_goals first | (simp; done) | (simp; omega) | omega)⟩
      case round =>
        obtain ⟨j, rfl, rfl, hj, he, hbw⟩ := hrel
        have HE := Lib.hid (HE3.out.trans he)
        have HE0 := Lib.hid he
        clear he
        by_cases hlt : j < ats.length
        · obtain ⟨b, off, cap, hs, hcap, hlim, hb, hc⟩ := attrs_row HA.out (by omega)
          simp only [Value.slice.injEq] at hs
          obtain ⟨rfl, -, rfl⟩ := hs
          obtain ⟨c1, c2⟩ := hc j hlt
          have c1 := (hbw.cell (p := ⟨b, off + j * 2, none⟩) hb).trans c1
          have c2 := (hbw.cell (p := ⟨b, off + j * 2 + 1, none⟩) hb).trans c2
          have hsz := hbw.size
          have hbr : b < wr.heap.size := by omega
          have ST := Lib.hid (attrs_step' hlt)
          have HPN := Lib.hid (show prevName ats (j + 1) = (ats.getD j ([], [])).1 by unfold prevName; rw [if_neg (by omega), Nat.add_sub_cancel])
          obtain ⟨l1, l2⟩ := HS.out j hlt
          have N1 := Lib.hid (fun w => isName_any (ats.getD j ([], [])).1 w l1)
          have P1 := Lib.hid (fun w => checkString_any (ats.getD j ([], [])).2 12 w l2)
          clear hc
          generalize hs1 : (ats.getD j ([], [])).1 = s1 at *
          generalize hs2 : (ats.getD j ([], [])).2 = s2 at *
          generalize hpp : prevName ats j = pp at *
          generalize hse : strErr s2 12 = se at *
          clear hs1 hs2 hpp hse
          cases hn1 : namedB s1 with
          | false =>
            as_aux_lemma =>
              rw [hn1] at N1
              have HX := Lib.hid (HE.out.trans (ST.out.trans (if_pos hn1)))
              clear hn1
              go_wp2_with fail
              refine (N1.out _).mono ?_; rintro e w' ⟨rfl, rfl⟩
              go_wp2_with fail
              go_ret
              exact ⟨ret_int' HX.out.symm, by ((repeat' (first | exact Below.refl _ _ | assumption | refine Below.setCell ?_ ?_ _ | refine bdrewN ?_ _ | refine Below.drew ?_ | refine Below.alloc ?_ ?_ _ | refine bbehind ?_ (by assumption) ?_)); all_goals first | (simp; done) | (simp; omega) | omega)⟩
          | true =>
            rw [hn1] at N1
            cases hle : leB s1 pp with
            | true =>
              as_aux_lemma =>
                have HX := Lib.hid (HE.out.trans (ST.out.trans (by rw [if_neg (by simp [hn1]), if_pos hle])))
                have hle' : (Op.bytesLess s1 pp || s1 == pp) = true := hle
                clear hle hn1
                go_wp2_with fail
                refine (N1.out _).mono ?_; rintro e w' ⟨rfl, rfl⟩
                go_wp2_with fail
                go_ret
                exact ⟨ret_int' HX.out.symm, by ((repeat' (first | exact Below.refl _ _ | assumption | refine Below.setCell ?_ ?_ _ | refine bdrewN ?_ _ | refine Below.drew ?_ | refine Below.alloc ?_ ?_ _ | refine bbehind ?_ (by assumption) ?_)); all_goals first | (simp; done) | (simp; omega) | omega)⟩
            | false =>
              have hle' : (Op.bytesLess s1 pp || s1 == pp) = false := hle
              by_cases h0 : se = 0
              · have b0 : (se != 0) = false := by simpa using h0
                have HX := Lib.hid (HE0.out.trans (ST.out.trans (by rw [if_neg (by simp [hn1]), if_neg (by simp [hle]), if_neg (by simpa using h0)])))
                clear hle hn1 h0
                as_aux_lemma =>
                  go_wp2_with fail
                  refine (N1.out _).mono ?_; rintro e w' ⟨rfl, rfl⟩
                  go_wp2_with fail
                  refine (P1.out _).mono ?_; rintro e w1 ⟨rfl, hb1⟩; obtain ⟨hc1, hf1⟩ := bcell hb1; have hs1 := hb1.size; (try simp at hs1); (try have hz10 : w.heap.size < w1.heap.size := by omega); (try have hz11 : w.heap.size + 1 < w1.heap.size := by omega); (try have hz12 : w.heap.size + 1 + 1 < w1.heap.size := by omega); (try have hz13 : w.heap.size + 1 + 1 + 1 < w1.heap.size := by omega); (try have hz14 : w.heap.size + 1 + 1 + 1 + 1 < w1.heap.size := by omega); (try have hz15 : w.heap.size + 1 + 1 + 1 + 1 + 1 < w1.heap.size := by omega)
                  go_wp2_with fail
                  go_roundw
                  case rel => exact ⟨j + 1, by go_num, by rw [HPN.out], by omega, HX.out, by ((repeat' (first | exact Below.refl _ _ | assumption | refine Below.setCell ?_ ?_ _ | refine bdrewN ?_ _ | refine Below.drew ?_ | refine Below.alloc ?_ ?_ _ | refine bbehind ?_ (by assumption) ?_)); all_goals first | (simp; done) | (simp; omega) | omega)⟩
                  case measure => simp [intOf]; omega
              · have b0 : (se != 0) = true := by simpa using h0
                have HX := Lib.hid (HE.out.trans (ST.out.trans (by rw [if_neg (by simp [hn1]), if_neg (by simp [hle]), if_pos (by simpa using h0)])))
                clear hle hn1 h0
                as_aux_lemma =>
                  go_wp2_with fail
                  refine (N1.out _).mono ?_; rintro e w' ⟨rfl, rfl⟩
                  go_wp2_with fail
                  refine (P1.out _).mono ?_; rintro e w1 ⟨rfl, hb1⟩; obtain ⟨hc1, hf1⟩ := bcell hb1; have hs1 := hb1.size; (try simp at hs1); (try have hz10 : w.heap.size < w1.heap.size := by omega); (try have hz11 : w.heap.size + 1 < w1.heap.size := by omega); (try have hz12 : w.heap.size + 1 + 1 < w1.heap.size := by omega); (try have hz13 : w.heap.size + 1 + 1 + 1 < w1.heap.size := by omega); (try have hz14 : w.heap.size + 1 + 1 + 1 + 1 < w1.heap.size := by omega); (try have hz15 : w.heap.size + 1 + 1 + 1 + 1 + 1 < w1.heap.size := by omega)
                  go_wp2_with fail
                  go_ret
                  exact ⟨ret_int' HX.out.symm, by ((repeat' (first | exact Below.refl _ _ | assumption | refine Below.setCell ?_ ?_ _ | refine bdrewN ?_ _ | refine Below.drew ?_ | refine Below.alloc ?_ ?_ _ | refine bbehind ?_ (by assumption) ?_)); all_goals first | (simp; done) | (simp; omega) | omega)⟩
        · have HX := Lib.hid (show elemErr ⟨0, l, ats, n, d, x⟩ = 0 from HE.out.trans (by rw [List.drop_of_length_le (by omega)]; rfl))
          go_wp2_with fail
          go_ret
          exact ⟨ret_int' HX.out.symm, by ((repeat' (first | exact Below.refl _ _ | assumption | refine Below.setCell ?_ ?_ _ | refine bdrewN ?_ _ | refine Below.drew ?_ | refine Below.alloc ?_ ?_ _ | refine bbehind ?_ (by assumption) ?_)); all_goals first | (simp; done) | (simp; omega) | omega)⟩

set_option maxRecDepth 100000 in
set_option maxHeartbeats 2000000 in
theorem thead_any (h : Hd) (va : Value) (w : World) (ha : AttrsLie w va h.ats) (hf : HdFit h) :
    Calls Tryz.prog 17 #[.agg #[.int .i64 h.k, .string ⟨h.l.toArray⟩, va, .int .i64 h.n, .int .i64 h.d, .string ⟨h.x.toArray⟩]] w fun e w' => e = .returned (.int .i64 (headErr h)) ∧ Below w.heap.size w w' := by
  obtain ⟨k, l, ats, n, d, x⟩ := h
  obtain ⟨f1, f2, f3⟩ := hf
  simp only at ha f1 f2 f3 ⊢
  have S := Lib.hid (fun w1 (hb : Below w.heap.size w w1) => stray_any k l ats n d x va w1 (attrs_below ha hb))
  cases hs : strayB ⟨k, l, ats, n, d, x⟩ with
  | true =>
    have HX := Lib.hid (headErr_stray hs)
    rw [hs] at S
    clear hs ha
    go_enter Tryz.func17, Tryz.ntmps17
    go_wp2_with fail
    refine (S.out _ ((Below.refl _ _).alloc (Nat.le_refl _) _)).mono ?_; rintro e w1 ⟨rfl, hb1⟩; obtain ⟨hc1, hf1⟩ := bcell hb1; have hs1 := hb1.size; (try simp at hs1); (try have hz10 : w.heap.size < w1.heap.size := by omega); (try have hz11 : w.heap.size + 1 < w1.heap.size := by omega); (try have hz12 : w.heap.size + 1 + 1 < w1.heap.size := by omega); (try have hz13 : w.heap.size + 1 + 1 + 1 < w1.heap.size := by omega); (try have hz14 : w.heap.size + 1 + 1 + 1 + 1 < w1.heap.size := by omega); (try have hz15 : w.heap.size + 1 + 1 + 1 + 1 + 1 < w1.heap.size := by omega)
    go_wp2_with fail
    go_ret
    exact ⟨ret_int' HX.out.symm, by ((repeat' (first | exact Below.refl _ _ | assumption | refine Below.setCell ?_ ?_ _ | refine bdrewN ?_ _ | refine Below.drew ?_ | refine Below.alloc ?_ ?_ _ | refine bbehind ?_ (by assumption) ?_)); all_goals first | (simp; done) | (simp; omega) | omega)⟩
  | false =>
    have he : headErr ⟨k, l, ats, n, d, x⟩ = if k = 1 then chk n d else if k = 2 then (if printableB x 24 = true then 0 else 3) else elemErr ⟨k, l, ats, n, d, x⟩ := by
      unfold headErr; rw [if_neg (by simp [hs])]
    rw [he]
    rw [hs] at S
    have E := Lib.hid (fun w1 (hb : Below w.heap.size w w1) (h0 : k = 0) => checkElement_any l ats n d x va w1 (attrs_below ha hb) f1 f3)
    have P := Lib.hid (fun w => checkString_any x 24 w f2)
    clear he
    rcases plain_cases hs with ⟨rfl, rfl, rfl, rfl⟩ | ⟨rfl, rfl, rfl, rfl⟩ | ⟨rfl, rfl, rfl, rfl, rfl⟩
    · rw [if_neg (by decide), if_neg (by decide)]
      clear hs ha P
      go_enter Tryz.func17, Tryz.ntmps17
      go_wp2_with fail
      refine (S.out _ ((Below.refl _ _).alloc (Nat.le_refl _) _)).mono ?_; rintro e w1 ⟨rfl, hb1⟩; obtain ⟨hc1, hf1⟩ := bcell hb1; have hs1 := hb1.size; (try simp at hs1); (try have hz10 : w.heap.size < w1.heap.size := by omega); (try have hz11 : w.heap.size + 1 < w1.heap.size := by omega); (try have hz12 : w.heap.size + 1 + 1 < w1.heap.size := by omega); (try have hz13 : w.heap.size + 1 + 1 + 1 < w1.heap.size := by omega); (try have hz14 : w.heap.size + 1 + 1 + 1 + 1 < w1.heap.size := by omega); (try have hz15 : w.heap.size + 1 + 1 + 1 + 1 + 1 < w1.heap.size := by omega)
      go_wp2_with fail
      refine (E.out _ (((Below.refl _ _).alloc (Nat.le_refl _) _).trans (hb1.mono (by simp))) trivial).mono ?_; rintro e w2 ⟨rfl, hb2⟩; obtain ⟨hc2, hf2⟩ := bcell hb2; have hs2 := hb2.size; (try simp at hs2); (try have hz20 : w.heap.size < w2.heap.size := by omega); (try have hz21 : w.heap.size + 1 < w2.heap.size := by omega); (try have hz22 : w.heap.size + 1 + 1 < w2.heap.size := by omega); (try have hz23 : w.heap.size + 1 + 1 + 1 < w2.heap.size := by omega); (try have hz24 : w.heap.size + 1 + 1 + 1 + 1 < w2.heap.size := by omega); (try have hz25 : w.heap.size + 1 + 1 + 1 + 1 + 1 < w2.heap.size := by omega); (try have hy1_2 : w1.heap.size < w2.heap.size := by omega)
      go_wp2_with fail
      go_ret
      exact ⟨rfl, by ((repeat' (first | exact Below.refl _ _ | assumption | refine Below.setCell ?_ ?_ _ | refine bdrewN ?_ _ | refine Below.drew ?_ | refine Below.alloc ?_ ?_ _ | refine bbehind ?_ (by assumption) ?_)); all_goals first | (simp; done) | (simp; omega) | omega)⟩
    · rw [if_pos rfl]
      clear hs ha P E
      go_enter Tryz.func17, Tryz.ntmps17
      go_wp2_with fail
      refine (S.out _ ((Below.refl _ _).alloc (Nat.le_refl _) _)).mono ?_; rintro e w1 ⟨rfl, hb1⟩; obtain ⟨hc1, hf1⟩ := bcell hb1; have hs1 := hb1.size; (try simp at hs1); (try have hz10 : w.heap.size < w1.heap.size := by omega); (try have hz11 : w.heap.size + 1 < w1.heap.size := by omega); (try have hz12 : w.heap.size + 1 + 1 < w1.heap.size := by omega); (try have hz13 : w.heap.size + 1 + 1 + 1 < w1.heap.size := by omega); (try have hz14 : w.heap.size + 1 + 1 + 1 + 1 < w1.heap.size := by omega); (try have hz15 : w.heap.size + 1 + 1 + 1 + 1 + 1 < w1.heap.size := by omega)
      go_wp2_with fail
      refine (check_any _ _ _).mono ?_; rintro e w2 ⟨rfl, hb2⟩; obtain ⟨hc2, hf2⟩ := bcell hb2; have hs2 := hb2.size; (try simp at hs2); (try have hz20 : w.heap.size < w2.heap.size := by omega); (try have hz21 : w.heap.size + 1 < w2.heap.size := by omega); (try have hz22 : w.heap.size + 1 + 1 < w2.heap.size := by omega); (try have hz23 : w.heap.size + 1 + 1 + 1 < w2.heap.size := by omega); (try have hz24 : w.heap.size + 1 + 1 + 1 + 1 < w2.heap.size := by omega); (try have hz25 : w.heap.size + 1 + 1 + 1 + 1 + 1 < w2.heap.size := by omega); (try have hy1_2 : w1.heap.size < w2.heap.size := by omega)
      go_wp2_with fail
      go_ret
      exact ⟨rfl, by ((repeat' (first | exact Below.refl _ _ | assumption | refine Below.setCell ?_ ?_ _ | refine bdrewN ?_ _ | refine Below.drew ?_ | refine Below.alloc ?_ ?_ _ | refine bbehind ?_ (by assumption) ?_)); all_goals first | (simp; done) | (simp; omega) | omega)⟩
    · rw [if_neg (by decide), if_pos rfl, ← strErr_eq]
      clear hs ha E
      go_enter Tryz.func17, Tryz.ntmps17
      go_wp2_with fail
      refine (S.out _ ((Below.refl _ _).alloc (Nat.le_refl _) _)).mono ?_; rintro e w1 ⟨rfl, hb1⟩; obtain ⟨hc1, hf1⟩ := bcell hb1; have hs1 := hb1.size; (try simp at hs1); (try have hz10 : w.heap.size < w1.heap.size := by omega); (try have hz11 : w.heap.size + 1 < w1.heap.size := by omega); (try have hz12 : w.heap.size + 1 + 1 < w1.heap.size := by omega); (try have hz13 : w.heap.size + 1 + 1 + 1 < w1.heap.size := by omega); (try have hz14 : w.heap.size + 1 + 1 + 1 + 1 < w1.heap.size := by omega); (try have hz15 : w.heap.size + 1 + 1 + 1 + 1 + 1 < w1.heap.size := by omega)
      go_wp2_with fail
      refine (P.out _).mono ?_; rintro e w2 ⟨rfl, hb2⟩; obtain ⟨hc2, hf2⟩ := bcell hb2; have hs2 := hb2.size; (try simp at hs2); (try have hz20 : w.heap.size < w2.heap.size := by omega); (try have hz21 : w.heap.size + 1 < w2.heap.size := by omega); (try have hz22 : w.heap.size + 1 + 1 < w2.heap.size := by omega); (try have hz23 : w.heap.size + 1 + 1 + 1 < w2.heap.size := by omega); (try have hz24 : w.heap.size + 1 + 1 + 1 + 1 < w2.heap.size := by omega); (try have hz25 : w.heap.size + 1 + 1 + 1 + 1 + 1 < w2.heap.size := by omega); (try have hy1_2 : w1.heap.size < w2.heap.size := by omega)
      go_wp2_with fail
      go_ret
      exact ⟨rfl, by ((repeat' (first | exact Below.refl _ _ | assumption | refine Below.setCell ?_ ?_ _ | refine bdrewN ?_ _ | refine Below.drew ?_ | refine Below.alloc ?_ ?_ _ | refine bbehind ?_ (by assumption) ?_)); all_goals first | (simp; done) | (simp; omega) | omega)⟩
end Go.Proofs.YtefongoinlcgaaaGreat

/- A range over a function whose iterator writes cells of its own between two rounds: which blocks are whose. No program is named here. -/
namespace Go.Proofs.YtefongoinlcgaaaGreat
open Go.RowKit

/-- the blocks of G are as they were; nothing is gone. -/
structure Spared (G : Nat → Prop) (W W' : World) : Prop where
  os : W'.os = W.os
  tape : W'.tape = W.tape
  output : W'.output = W.output
  size : W.heap.size ≤ W'.heap.size
  block : ∀ k, G k → W'.heap[k]? = W.heap[k]?
/-- what was there, but for G, is as it was. -/
structure But (G : Nat → Prop) (W W' : World) : Prop where
  size : W.heap.size ≤ W'.heap.size
  block : ∀ k, k < W.heap.size → ¬ G k → W'.heap[k]? = W.heap[k]?

theorem Spared.refl (G : Nat → Prop) (W : World) : Spared G W W := ⟨rfl, rfl, rfl, Nat.le_refl _, fun _ _ => rfl⟩
theorem Spared.trans {G : Nat → Prop} {A B C : World} (h : Spared G A B) (k : Spared G B C) : Spared G A C :=
  ⟨k.os.trans h.os, k.tape.trans h.tape, k.output.trans h.output, Nat.le_trans h.size k.size, fun i hi => (k.block i hi).trans (h.block i hi)⟩
theorem Spared.alloc {G : Nat → Prop} {W : World} (hG : ∀ k, G k → k < W.heap.size) (o : Obj) : Spared G W (W.alloc o) :=
  ⟨rfl, rfl, rfl, by simp, fun k hk => Below.heap_alloc _ _ _ (hG k hk)⟩
theorem Spared.setCell {G : Nat → Prop} (W : World) {p : Addr} (hp : ¬ G p.block) (u : Value) : Spared G W (W.setCell p u) :=
  ⟨rfl, rfl, rfl, by simp [World.setCell], fun k hk => Below.heap_setCell _ _ _ _ (fun e => hp (e ▸ hk))⟩
theorem Spared.grown {G : Nat → Prop} {W W' : World} {row : Option Nat} (hG : ∀ k, G k → k < W.heap.size) (hg : W.grownBy W' row) (hr : ∀ k, row = some k → ¬ G k) : Spared G W W' :=
  ⟨hg.os, hg.tape, hg.output, hg.size, fun k hk => hg.block k (hG k hk) (fun e => hr k e.symm hk)⟩
theorem Spared.putObj {G : Nat → Prop} (W : World) {l : Nat} (hl : ¬ G l) (o : Obj) : Spared G W (W.putObj l o) :=
  ⟨rfl, rfl, rfl, by simp, fun k hk => World.putObj_heap_other (fun e => hl (e ▸ hk))⟩
theorem Spared.drew (G : Nat → Prop) (W : World) : Spared G W W.drew := ⟨rfl, rfl, rfl, Nat.le_refl _, fun _ _ => rfl⟩

theorem But.refl (G : Nat → Prop) (W : World) : But G W W := ⟨Nat.le_refl _, fun _ _ _ => rfl⟩
theorem But.trans {G : Nat → Prop} {A B C : World} (h : But G A B) (k : But G B C) : But G A C :=
  ⟨Nat.le_trans h.size k.size, fun i hi hn => (k.block i (Nat.lt_of_lt_of_le hi h.size) hn).trans (h.block i hi hn)⟩
/-- G may have grown by what is new. -/
theorem But.trans' {G G' : Nat → Prop} {A B C : World} (h : But G A B) (hG : ∀ k, G' k → G k ∨ A.heap.size ≤ k) (k : But G' B C) : But G A C :=
  ⟨Nat.le_trans h.size k.size, fun i hi hn => (k.block i (Nat.lt_of_lt_of_le hi h.size) (fun hg => (hG i hg).elim hn (fun h => by omega))).trans (h.block i hi hn)⟩
theorem But.of_below {G : Nat → Prop} {W W' : World} (h : Below W.heap.size W W') : But G W W' := ⟨h.size, fun k hk _ => h.block k hk⟩
theorem But.putObj {G : Nat → Prop} (W : World) {l : Nat} (hl : G l) (o : Obj) : But G W (W.putObj l o) :=
  ⟨by simp, fun k _ hn => World.putObj_heap_other (fun e => hn (e ▸ hl))⟩
theorem But.mono {G G' : Nat → Prop} {W W' : World} (h : But G W W') (hG : ∀ k, G k → G' k) : But G' W W' := ⟨h.size, fun k hk hn => h.block k hk (fun hg => hn (hG k hg))⟩

/-- what an iterator promises that hands its elements to a yield function, whatever it writes of its own. -/
def SeqOwn {α : Type} (P : Program) (g : Nat) (lb : Array Value) (Enc : α → Array Value → World → Prop) (S Sp : List α → Prop) (n₀ : Nat) (St : World → Prop) : Prop :=
  ∀ (m l : Nat) (J : List α → (Nat → Prop) → World → Prop) (Jx : List α → World → Prop) (G : Nat → Prop) (W : World), St W →
    (∀ s G W W', J s G W → Spared G W W' → J s G W') → (∀ s G W, J s G W → ∀ k, G k → k < W.heap.size) →
    (∀ m s x args G W1, J s G W1 → Enc x args W1 → YieldAt Fence.wide m P l args W1 fun e W' =>
      (e = .returned (.bool true) ∧ ∃ G', (∀ k, G' k → G k ∨ W1.heap.size ≤ k) ∧ J (s ++ [x]) G' W' ∧ But G W1 W' ∧ Below n₀ W1 W') ∨ (e = .returned (.bool false) ∧ Jx (s ++ [x]) W')) →
    (∀ k, n₀ ≤ k → k < W.heap.size → ¬ G k → True) → J [] G W →
    CallsIn Fence.wide m P g (#[.func (.yield l) #[] #[]] ++ lb) W fun e W' => (∃ v, e = .returned v) ∧ ((∃ xs G', S xs ∧ J xs G' W') ∨ (∃ pre, Sp pre ∧ Jx pre W'))

/-- how the body of a round may be left. -/
def roundOwn {α : Type} (n₀ : Nat) (I : List α → (Nat → Prop) → World → Prop) (Ix : Code → List α → World → Prop) (xs : List α) (G : Nat → Prop) (W : World) : Exit → Act → World → Prop
  | .normal, _, W' => But G W W' ∧ Below n₀ W W' ∧ ∃ G', (∀ k, G' k → G k ∨ W.heap.size ≤ k) ∧ I xs G' W'
  | .ret, _, W' => But G W W' ∧ Ix .ret xs W'
  | .exit id, _, W' => But G W W' ∧ Ix (.exit id) xs W'
  | .goto t, _, W' => But G W W' ∧ Ix (.goto t) xs W'
  | .panic _, _, _ => False
  | .outgrown, _, _ => False

variable {P : Program}

theorem range_own {α : Type} {n : Nat} {g : Operand} {ps : Array Tmp} {assign body : Code} {Q : Exit → Act → World → Prop} {a : Act} {w : World}
    {gf : Nat} {lb : Array Value} (hg : a.eval g = .func (.func gf) #[] lb) (eg : ∀ args w, (callFunc gf args).run P w = .ok (.enter gf args) w)
    {Enc : α → Array Value → World → Prop} {S Sp : List α → Prop} {n₀ : Nat} {St : World → Prop} (hseq : SeqOwn P gf lb Enc S Sp n₀ St)
    (hn₀ : n₀ ≤ w.heap.size) (hSt : ∀ o, St ((w.alloc (.deferred (some []))).alloc o)) (hps : ∀ x args W, Enc x args W → args.size = ps.size)
    (I : List α → (Nat → Prop) → World → Prop) (Ix : Code → List α → World → Prop) (G0 : Nat → Prop)
    (hI : ∀ s G W W', I s G W → Spared G W W' → I s G W') (hIs : ∀ s G W, I s G W → ∀ k, G k → k < W.heap.size)
    (hIx : ∀ c s W l o o', w.heap.size ≤ l → W.heap[l]? = some o → o.isCells = false → Ix c s W → Ix c s (W.putObj l o'))
    (hG0 : ∀ k, G0 k → k < w.heap.size) (h0 : I [] G0 w)
    (Ax : α → Act → World → Prop) (hAx : ∀ x a' W l o o', W.heap[l]? = some o → o.isCells = false → Ax x a' W → Ax x a' (W.putObj l o'))
    (hassign : ∀ (n' l : Nat) (pre : List α) (x : α) (args : Array Value) (G : Nat → Prop) (W : World) (K : Act → World → Prop), I pre G W → Enc x args W → w.heap.size + 2 ≤ W.heap.size →
      (∀ a' W', But G W W' → Below n₀ W W' → I pre G W' → Ax x a' W' → K a' W') →
      assign.wpIn (Fence.wide.inRound l) n' P (Exit.then K (fun _ _ _ => False)) { tmps := (ps.zip args).foldl (fun t (p, v) => t.setIfInBounds p v) a.tmps, defers := [] } W)
    (hbody : ∀ (n' l : Nat) (pre : List α) (x : α) (a' : Act) (G : Nat → Prop) (W : World), I pre G W → Ax x a' W → w.heap.size + 2 ≤ W.heap.size → body.wpIn (Fence.wide.inRound l) n' P (roundOwn n₀ I Ix (pre ++ [x]) G W) a' W)
    (hdone : ∀ (D : Nat) (xs : List α) (G : Nat → Prop) (W : World), w.heap.size ≤ D → S xs → I xs G W → W.heap[D]? = some (.deferred (some [])) → Q .normal { a with defers := { target := .collected D, args := #[] } :: a.defers } W)
    (hstop : ∀ (D : Nat) (c : Code) (pre : List α) (W : World), w.heap.size ≤ D → Sp pre → Ix c pre W → W.heap[D]? = some (.deferred (some [])) → c.wpIn Fence.wide n P Q { a with defers := { target := .collected D, args := #[] } :: a.defers } W) :
    (Code.rangeFunc g ps assign body).wpIn Fence.wide n P Q a w := by
  refine wpIn_rangeFunc ?_
  intro fn hfn
  obtain ⟨rec, hrec⟩ : ∃ rec : LoopState → Option Code → Loop, rec = fun st pe => { state := st, pending := pe, fn, tmps := a.tmps, params := ps, assign, body, defers := w.heap.size } := ⟨_, rfl⟩
  obtain ⟨W1, hW1⟩ : ∃ W1, (w.alloc (.deferred (some []))).alloc (.loop (rec .ready none)) = W1 := ⟨_, rfl⟩
  have hz1 : W1.heap.size = w.heap.size + 1 + 1 := by rw [← hW1]; simp
  have hL1 : W1.heap[w.heap.size + 1]? = some (.loop (rec .ready none)) := by
    rw [← hW1]; have := World.alloc_heap_new (w.alloc (.deferred (some []))) (.loop (rec .ready none)); rwa [World.size_alloc] at this
  have hK1 : W1.heap[w.heap.size]? = some (.deferred (some [])) := by
    rw [← hW1]; exact (Below.heap_alloc _ _ _ (by simp)).trans (World.alloc_heap_new w _)
  have hI1 : I [] G0 W1 := by
    rw [← hW1]
    exact hI _ _ _ _ h0 ((Spared.alloc hG0 _).trans (Spared.alloc (fun k hk => by have := hG0 k hk; simp; omega) _))
  refine ⟨w.heap.size + 1, [{ target := .collected w.heap.size, args := #[] }], W1, { target := .fn (.func gf) lb, args := #[.func (.yield (w.heap.size + 1)) #[] #[]] }, W1, gf,
    #[.func (.yield (w.heap.size + 1)) #[] #[]] ++ lb, W1, ?_, ?_, ?_, ?_, (fun h => by cases h), ?_⟩
  · rw [← hW1, hrec]; exact run_enterLoop_outer _ _ _ _ _
  · simp only [resolve, hg]
    simp [go_sem]
  · intro f' _; trivial
  · simp [invoke, go_sem, eg]
  · -- whose blocks are whose: the caller's, and the two that the statement has laid
    let T : Nat → Prop := fun k => k = w.heap.size ∨ k = w.heap.size + 1
    have hnot : ∀ (A : Nat → Prop), (∀ k, A k → ¬ T k) → ¬ A (w.heap.size + 1) ∧ ¬ A w.heap.size := fun A h => ⟨fun h1 => h _ h1 (.inr rfl), fun h1 => h _ h1 (.inl rfl)⟩
    refine (hseq (n - 1) (w.heap.size + 1)
      (fun pre G W => ∃ A : Nat → Prop, (∀ k, G k ↔ (A k ∨ T k)) ∧ (∀ k, A k → ¬ T k) ∧ I pre A W ∧ W.heap[w.heap.size + 1]? = some (.loop (rec .ready none)) ∧ W.heap[w.heap.size]? = some (.deferred (some [])))
      (fun pre W => ∃ c, Ix c pre W ∧ W.heap[w.heap.size + 1]? = some (.loop (rec .done (some c))) ∧ W.heap[w.heap.size]? = some (.deferred (some [])))
      (fun k => G0 k ∨ T k) W1 (by rw [← hW1]; exact hSt _) ?_ ?_ ?_ (fun _ _ _ _ => trivial) ⟨G0, fun _ => Iff.rfl, fun k hk ht => by have := hG0 k hk; rcases ht with rfl | rfl <;> omega, hI1, hL1, hK1⟩).mono ?_
    · rintro s G A B ⟨X, hX, hT, hi, hl, hk⟩ sp
      exact ⟨X, hX, hT, hI _ _ _ _ hi ⟨sp.os, sp.tape, sp.output, sp.size, fun k hk => sp.block k ((hX k).2 (.inl hk))⟩, (sp.block _ ((hX _).2 (.inr (.inr rfl)))).trans hl, (sp.block _ ((hX _).2 (.inr (.inl rfl)))).trans hk⟩
    · rintro s G A ⟨X, hX, hT, hi, hl, hk⟩ k hgk
      rcases (hX k).1 hgk with h | rfl | rfl
      · exact hIs _ _ _ hi k h
      · exact (Array.getElem?_eq_some_iff.1 hk).1
      · exact (Array.getElem?_eq_some_iff.1 hl).1
    · -- one round
      rintro m pre x args G W ⟨A, hX, hT, hi, hl, hk⟩ hen
      obtain ⟨hA1, hA0⟩ := hnot A hT
      have hlt : w.heap.size + 1 < W.heap.size := (Array.getElem?_eq_some_iff.1 hl).1
      have hy := run_yield (P := P) (args := args) hl (by rw [hrec]; exact hps x args W hen)
      rw [hrec] at hy
      refine ⟨fn, _, assign, body, hy, roundIn_of_wpIn hfn (hassign m _ pre x args A W _ hi hen (by omega) ?_)⟩
      clear hy
      intro a' Wa hba hwa hia hax
      have hla : Wa.heap[w.heap.size + 1]? = some (.loop (rec .ready none)) := (hba.block _ hlt hA1).trans hl
      have hka : Wa.heap[w.heap.size]? = some (.deferred (some [])) := (hba.block _ (by omega) hA0).trans hk
      have hza := hba.size
      have hlta : w.heap.size + 1 < Wa.heap.size := by omega
      refine ⟨_, run_beginRound hla (by rw [hrec]), ?_⟩
      obtain ⟨Wb, hWb⟩ : ∃ Wb, Wa.putObj (w.heap.size + 1) (.loop { rec .ready none with state := .busy }) = Wb := ⟨_, rfl⟩
      have hzb : Wb.heap.size = Wa.heap.size := by rw [← hWb]; simp
      have hlb : Wb.heap[w.heap.size + 1]? = some (.loop { rec .ready none with state := .busy }) := by rw [← hWb]; exact World.putObj_heap_same hlta
      have hkb : Wb.heap[w.heap.size]? = some (.deferred (some [])) := by rw [← hWb]; exact (World.putObj_heap_other (by omega)).trans hka
      have hib : I pre A Wb := by rw [← hWb]; exact hI _ _ _ _ hia (Spared.putObj _ hA1 _)
      have hxb : Ax x a' Wb := by rw [← hWb]; exact hAx _ _ _ _ _ _ hla rfl hax
      have hbb : But (fun k => A k ∨ T k) W Wb := (hba.mono fun k h => .inl h).trans (by rw [← hWb]; exact But.putObj _ (.inr (.inr rfl)) _)
      have hwb : Below n₀ W Wb := hwa.trans (by
        rw [← hWb]
        exact ⟨rfl, rfl, rfl, by simp, fun k hk => World.putObj_heap_other (by omega)⟩)
      have hG : ∀ k, ¬ G k → ¬ (A k ∨ T k) := fun k hn h => hn ((hX k).2 h)
      rw [hWb]
      refine wpIn_mono (hbody m _ pre x a' A Wb hib hxb (by omega)) ?_
      have fin : ∀ (jump : Option Code) (W3 : World), But A Wb W3 →
          (Instr.endRound (w.heap.size + 1) jump).run P W3 = .ok (.bool jump.isNone) (W3.putObj (w.heap.size + 1) (.loop (rec (if jump.isNone then .ready else .done) jump))) ∧
          W3.heap[w.heap.size + 1]? = some (.loop { rec .ready none with state := .busy }) ∧
          (W3.putObj (w.heap.size + 1) (.loop (rec (if jump.isNone then .ready else .done) jump))).heap[w.heap.size + 1]? = some (.loop (rec (if jump.isNone then .ready else .done) jump)) ∧
          (W3.putObj (w.heap.size + 1) (.loop (rec (if jump.isNone then .ready else .done) jump))).heap[w.heap.size]? = some (.deferred (some [])) := fun jump W3 h3 => by
        have hl3 := (h3.block _ (by omega) hA1).trans hlb
        have hk3 := (h3.block _ (by omega) hA0).trans hkb
        have := run_endRound (P := P) jump hl3
        rw [hrec] at this ⊢
        exact ⟨this, by rw [hrec] at hl3; exact hl3, World.putObj_heap_same (Array.getElem?_eq_some_iff.1 hl3).1, (World.putObj_heap_other (by omega)).trans hk3⟩
      rintro e a3 W3 hp
      cases e with
      | normal =>
        obtain ⟨hb3, hw3, A', hA', hi3⟩ := hp
        obtain ⟨hr, hl3, hl4, hk4⟩ := fin none W3 hb3
        have hz3 := hb3.size
        have hT' : ∀ k, A' k → ¬ T k := fun k h ht => by
          rcases hA' k h with h' | h'
          · exact hT k h' ht
          · rcases ht with rfl | rfl <;> omega
        obtain ⟨hA1', _⟩ := hnot A' hT'
        refine ⟨_, _, hr, .inl ⟨rfl, fun k => A' k ∨ T k, ?_, ⟨A', fun _ => Iff.rfl, hT', hI _ _ _ _ hi3 (Spared.putObj _ hA1' _), hl4, hk4⟩, ?_, ?_⟩⟩
        · intro k hk'
          rcases hk' with h | h
          · rcases hA' k h with h' | h'
            · exact .inl ((hX k).2 (.inl h'))
            · exact .inr (by omega)
          · exact .inl ((hX k).2 (.inr h))
        · refine (((hbb.trans (hb3.mono fun k h => .inl h)).trans (But.putObj _ (.inr (.inr rfl)) _)).mono fun k h => (hX k).2 h)
        · refine (hwb.trans hw3).trans ⟨rfl, rfl, rfl, by simp, fun k hk => World.putObj_heap_other (by omega)⟩
      | ret =>
        obtain ⟨hb3, hi3⟩ := hp
        obtain ⟨hr, hl3, hl4, hk4⟩ := fin (some .ret) W3 hb3
        exact ⟨_, _, hr, .inr ⟨rfl, .ret, hIx _ _ _ _ _ _ (by omega) hl3 rfl hi3, hl4, hk4⟩⟩
      | exit id =>
        obtain ⟨hb3, hi3⟩ := hp
        obtain ⟨hr, hl3, hl4, hk4⟩ := fin (some (.exit id)) W3 hb3
        exact ⟨_, _, hr, .inr ⟨rfl, .exit id, hIx _ _ _ _ _ _ (by omega) hl3 rfl hi3, hl4, hk4⟩⟩
      | goto t =>
        obtain ⟨hb3, hi3⟩ := hp
        obtain ⟨hr, hl3, hl4, hk4⟩ := fin (some (.goto t)) W3 hb3
        exact ⟨_, _, hr, .inr ⟨rfl, .goto t, hIx _ _ _ _ _ _ (by omega) hl3 rfl hi3, hl4, hk4⟩⟩
      | panic ch => exact hp.elim
      | outgrown => exact hp.elim
    · -- behind the iterator
      rintro e W2 ⟨⟨v, rfl⟩, (⟨xs, G, hS, A, hX, hT, hi, hl, hk⟩ | ⟨pre, hSp, c, hi, hl, hk⟩)⟩
      · obtain ⟨hA1, hA0⟩ := hnot A hT
        exact ⟨none, _, by have := run_endLoop (P := P) hl (by rw [hrec]; simp); rw [hrec] at this; exact this, hdone _ xs A _ (Nat.le_refl _) hS (hI _ _ _ _ hi (Spared.putObj _ hA1 _)) ((World.putObj_heap_other (by omega)).trans hk)⟩
      · exact ⟨some c, _, by have := run_endLoop (P := P) hl (by rw [hrec]; simp); rw [hrec] at this; exact this, hstop _ c pre _ (Nat.le_refl _) hSp (hIx _ _ _ _ _ _ (by omega) hl rfl hi) ((World.putObj_heap_other (by omega)).trans hk)⟩
end Go.Proofs.YtefongoinlcgaaaGreat

/- Slices of integers: where they lie, one among the arguments, and how two are compared. -/
namespace Go.Proofs.YtefongoinlcgaaaGreat
open Go.ChangeShapes Go.WideShapes Go.ChangeAt Go.RowKit Go.BigFrame

/-- where a list of integers lies: an empty one wherever, another one in cells. -/
def IntsLie (w : World) (v : Value) (l : List Int) : Prop :=
  (∃ a cap, v = .slice a 0 cap ∧ l = []) ∨ ∃ b off cap, v = .slice (some ⟨b, off, none⟩) l.length cap ∧ l.length ≤ cap ∧ b < w.heap.size ∧ ∀ k, k < l.length → w.cell? ⟨b, off + k, none⟩ = some (.int .i64 (l.getD k 0))

theorem ints_below {w w' : World} {v : Value} {l : List Int} (h : IntsLie w v l) (k : Below w.heap.size w w') : IntsLie w' v l := by
  rcases h with h | ⟨b, off, cap, h1, h0, h2, h3⟩
  · exact .inl h
  · obtain ⟨hc, _⟩ := bcell k
    exact .inr ⟨b, off, cap, h1, h0, Nat.lt_of_lt_of_le h2 k.size, fun i hi => (hc _ _ h2).trans (h3 i hi)⟩
theorem ints_form {w : World} {v : Value} {l : List Int} (h : IntsLie w v l) : ∃ a cap, v = .slice a l.length cap := by
  rcases h with ⟨a, cap, rfl, rfl⟩ | ⟨b, off, cap, rfl, _⟩
  · exact ⟨a, cap, rfl⟩
  · exact ⟨_, cap, rfl⟩
theorem ints_cells {w : World} {v : Value} {l : List Int} (h : IntsLie w v l) (hl : ¬ l = []) : ∃ b off cap, v = .slice (some ⟨b, off, none⟩) l.length cap ∧ l.length ≤ cap ∧ b < w.heap.size ∧ ∀ k, k < l.length → w.cell? ⟨b, off + k, none⟩ = some (.int .i64 (l.getD k 0)) := by
  rcases h with ⟨a, cap, rfl, rfl⟩ | h
  · exact absurd rfl hl
  · exact h

theorem ilt_of_cell {w : World} {b o : Nat} {v : Value} (h : w.cell? ⟨b, o, none⟩ = some v) : b < w.heap.size := by
  by_cases hb : b < w.heap.size
  · exact hb
  · exfalso
    have : w.heap[b]? = none := Array.getElem?_eq_none (by omega)
    unfold World.cell? at h
    simp [this] at h

set_option maxRecDepth 100000 in
theorem ints_of {H : Type} {enc : TypeId × Value → H} {W : World} {base : Nat} {v : Value} {d : DataW H} {p : List MemPlace} (hv : Value.okWide Tryz.prog W .any base 41 v) (h : DataW.Trod enc Tryz.prog W 0 (fun _ => true) true 41 v d p) :
    ∃ a len cap, v = .slice a len cap ∧ ∃ l : List Int, l.length = len ∧ IntsLie W (.slice a len cap) l := by
  obtain ⟨a0, len, cap, rfl⟩ := okWide_slice Tryz.underlying41 hv
  obtain ⟨fuel, hf⟩ := h
  have hC : Tryz.prog.cellsOf 3 = 1 := by kernel_rfl
  rcases open_ints Tryz.underlying41 Tryz.underlying3 hC hf with ⟨hcs, hx⟩ | ⟨a, len', cap', zs, hcs, _, hle, hmax, hzs, hx, hcell, hwf⟩
  · simp [Value.cells] at hcs
    obtain ⟨rfl, rfl, rfl⟩ := hcs
    exact ⟨_, _, _, rfl, [], rfl, .inl ⟨_, _, rfl, rfl⟩⟩
  · simp [Value.cells] at hcs
    obtain ⟨rfl, rfl, rfl⟩ := hcs
    refine ⟨_, _, _, rfl, ?_⟩
    simp only [if_true] at hzs
    by_cases h0 : len = 0
    · subst h0; exact ⟨[], rfl, .inl ⟨_, _, rfl, rfl⟩⟩
    · obtain ⟨b, off, rfl, hc⟩ := ints_at hcell (by omega)
      refine ⟨zs.take len, by simp; omega, .inr ⟨b, off, cap, by simp; omega, by simp; omega, ilt_of_cell (hc 0 (by omega)), fun k hk => ?_⟩⟩
      have hk' : k < len := by simp at hk; omega
      rw [hc k (by omega)]
      congr 2
      rw [List.getD_eq_getElem?_getD, List.getD_eq_getElem?_getD, List.getElem?_take, if_pos hk']

def alikeB (l m : List Int) : Bool := decide (l = m)
theorem take_eq_next {l m : List Int} {k : Nat} (hl : k < l.length) (hm : k < m.length) (h : l.take k = m.take k) (e : l.getD k 0 = m.getD k 0) : l.take (k + 1) = m.take (k + 1) := by
  rw [List.take_succ_eq_append_getElem hl, List.take_succ_eq_append_getElem hm, h]
  rw [List.getD_eq_getElem?_getD, List.getD_eq_getElem?_getD, List.getElem?_eq_getElem hl, List.getElem?_eq_getElem hm] at e
  simp only [Option.getD_some] at e
  rw [e]

set_option maxRecDepth 100000 in
set_option maxHeartbeats 1000000 in
theorem alike_any (v u : Value) (l m : List Int) (w : World) (h1 : IntsLie w v l) (h2 : IntsLie w u m) (hl : l.length ≤ 1000000) (hm : m.length ≤ 1000000) :
    Calls Tryz.prog 43 #[v, u] w fun e w' => e = .returned (.bool (alikeB l m)) ∧ Below w.heap.size w w' := by
  by_cases hlen : l.length = m.length
  · by_cases h0 : l = []
    · subst h0
      obtain rfl : m = [] := by cases m with | nil => rfl | cons a t => simp at hlen
      obtain ⟨a1, c1, rfl⟩ := ints_form h1
      obtain ⟨a2, c2, rfl⟩ := ints_form h2
      clear h1 h2
      go_enter Tryz.func43, Tryz.ntmps43
      go_wp2
      go_loopw [5] (fun i wr => i = .int .i64 0 ∧ Below w.heap.size w wr) (fun i _ => 0)
      case atStart => exact ⟨rfl, Below.refl _ _⟩
      case round =>
        obtain ⟨rfl, hbw⟩ := hrel
        go_wp2
        go_ret
        exact ⟨rfl, hbw⟩
    · have h0' : ¬ m = [] := by rintro rfl; exact h0 (by cases l with | nil => rfl | cons a t => simp at hlen)
      obtain ⟨b, off, c1, rfl, _, hb, hc⟩ := ints_cells h1 h0
      obtain ⟨b', off', c2, rfl, _, hb', hc'⟩ := ints_cells h2 h0'
      have HC := Lib.hid hc; have HC' := Lib.hid hc'; clear hc hc' h1 h2
      have HL := Lib.hid hlen
      go_enter Tryz.func43, Tryz.ntmps43
      go_wp2
      go_loopw [5] (fun i wr => ∃ k : Nat, i = .int .i64 k ∧ k ≤ l.length ∧ l.take k = m.take k ∧ Below w.heap.size w wr) (fun i _ => l.length - (intOf i).toNat)
      case atStart => exact ⟨0, rfl, Nat.zero_le _, by simp, Below.refl _ _⟩
      case round =>
        obtain ⟨k, rfl, hk, ht, hbw⟩ := hrel
        have HT := Lib.hid ht; clear ht
        by_cases hlt : k < l.length
        · have hlt' : k < m.length := by have := HL.out; omega
          have d1 : wr.cell? ⟨b, off + k, none⟩ = some (.int .i64 (l.getD k 0)) := by rw [hbw.cell (p := ⟨b, _, none⟩) hb]; exact HC.out k hlt
          have d2 : wr.cell? ⟨b', off' + k, none⟩ = some (.int .i64 (m.getD k 0)) := by rw [hbw.cell (p := ⟨b', _, none⟩) hb']; exact HC'.out k hlt'
          have hsz := hbw.size
          have HN := Lib.hid (take_eq_next hlt hlt' HT.out)
          have HD := Lib.hid (show l = m → l.getD k 0 = m.getD k 0 from fun h => by rw [h])
          have k1 : b < wr.heap.size := by omega
          have k2 : b' < wr.heap.size := by omega
          generalize l.getD k 0 = x at *
          generalize m.getD k 0 = y at *
          by_cases hx : x = y
          · have HX := Lib.hid hx
            have hx' : (x != y) = false := by simp [hx]
            clear hx
            go_wp2
            refine wp_region_quiet_all (fun w' => ∃ x : Lower _, w' = x.val) (by kernel_rfl) (by kernel_rfl) ⟨⟨_, (Below.refl _ _).drew⟩, rfl⟩ ?_
            repeat (go_big_quiet_step (fail))
            refine wpQuiet_nil ?_
            intro w1 hx1
            obtain ⟨x1, hx1⟩ := hx1
            have hb1 := x1.prop
            rw [← hx1] at hb1
            clear hx1 x1
            obtain ⟨hc1, hf1⟩ := bcell hb1
            have hs1 := hb1.size
            try simp at hs1
            try have hz10 : w.heap.size < w1.heap.size := by omega
            try have hz11 : w.heap.size + 1 < w1.heap.size := by omega
            try have hz12 : w.heap.size + 1 + 1 < w1.heap.size := by omega
            try have hz13 : w.heap.size + 1 + 1 + 1 < w1.heap.size := by omega
            try have hz14 : w.heap.size + 1 + 1 + 1 + 1 < w1.heap.size := by omega
            try have hz15 : w.heap.size + 1 + 1 + 1 + 1 + 1 < w1.heap.size := by omega
            go_wp2
            go_roundw
            case rel => exact ⟨k + 1, by go_num, by omega, HN.out HX.out, by ((repeat' (first | exact Below.refl _ _ | assumption | refine Below.setCell ?_ ?_ _ | refine bdrewN ?_ _ | refine Below.drew ?_ | refine Below.alloc ?_ ?_ _ | refine bbehind ?_ (by assumption) ?_)); all_goals first | (simp; done) | (simp; omega) | omega)⟩
            case measure => simp [intOf]; omega
          · have HX := Lib.hid (show alikeB l m = false from decide_eq_false (fun h => hx (HD.out h)))
            have hx' : (x != y) = true := by simpa using hx
            clear hx
            go_wp2
            refine wp_region_quiet_all (fun w' => ∃ x : Lower _, w' = x.val) (by kernel_rfl) (by kernel_rfl) ⟨⟨_, (Below.refl _ _).drew⟩, rfl⟩ ?_
            repeat (go_big_quiet_step (fail))
            refine wpQuiet_nil ?_
            intro w1 hx1
            obtain ⟨x1, hx1⟩ := hx1
            have hb1 := x1.prop
            rw [← hx1] at hb1
            clear hx1 x1
            obtain ⟨hc1, hf1⟩ := bcell hb1
            have hs1 := hb1.size
            try simp at hs1
            try have hz10 : w.heap.size < w1.heap.size := by omega
            try have hz11 : w.heap.size + 1 < w1.heap.size := by omega
            try have hz12 : w.heap.size + 1 + 1 < w1.heap.size := by omega
            try have hz13 : w.heap.size + 1 + 1 + 1 < w1.heap.size := by omega
            try have hz14 : w.heap.size + 1 + 1 + 1 + 1 < w1.heap.size := by omega
            try have hz15 : w.heap.size + 1 + 1 + 1 + 1 + 1 < w1.heap.size := by omega
            go_wp2
            go_ret
            exact ⟨by rw [HX.out]; rfl, by ((repeat' (first | exact Below.refl _ _ | assumption | refine Below.setCell ?_ ?_ _ | refine bdrewN ?_ _ | refine Below.drew ?_ | refine Below.alloc ?_ ?_ _ | refine bbehind ?_ (by assumption) ?_)); all_goals first | (simp; done) | (simp; omega) | omega)⟩
        · have HE := Lib.hid (show alikeB l m = true from decide_eq_true (by
            have e := HT.out
            have := HL.out
            rw [List.take_of_length_le (by omega), List.take_of_length_le (by omega)] at e
            exact e))
          go_wp2
          go_ret
          exact ⟨by rw [HE.out]; rfl, hbw⟩
  · obtain ⟨a1, c1, rfl⟩ := ints_form h1
    obtain ⟨a2, c2, rfl⟩ := ints_form h2
    have HE := Lib.hid (show alikeB l m = false from decide_eq_false (fun h => hlen (by rw [h])))
    have hlen' : (((l.length : Int)) != (m.length : Int)) = true := by simp; omega
    clear h1 h2 hlen
    go_enter Tryz.func43, Tryz.ntmps43
    go_wp2
    go_ret
    exact ⟨by rw [HE.out]; rfl, Below.refl _ _⟩
end Go.Proofs.YtefongoinlcgaaaGreat
