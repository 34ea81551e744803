/- What the proof of PrfTreeTexts rests on, part 13 of 13. -/
import Derived.Deep.Slices
import Derived.Deep.SlicePairs
import Derived.ChangeArms
import Derived.SizedLaws
import Derived.Test.YtcgedpfolloinaaGreatPPrfTreeTexts12
namespace Go.Proofs.YtcgedpfolloinaaGreat
open Go.RowKit

theorem ints_three {W : World} {b : Nat} {T : TypeId} {x y z : Int} (h : W.heap[b]? = some (.cells #[.int .i64 x, .int .i64 y, .int .i64 z] T (0, 0))) (hb : b < W.heap.size) : IntsLie W (.slice (some ⟨b, 0, none⟩) 3 3) [x, y, z] := by
  refine .inr ⟨b, 0, 3, rfl, by simp, hb, fun k hk => ?_⟩
  match k, hk with
  | 0, _ => exact cell_of_block h rfl
  | 1, _ => exact cell_of_block h rfl
  | 2, _ => exact cell_of_block h rfl
theorem ex_small : Small exF := readP_small (l := exText) (by decide) read_ex
theorem ex_size : sizeT exF = (7, 0) := by decide +kernel
theorem ex_at : atErr exF [0, 1, 1] = 0 := by decide +kernel
theorem ex_place : placeF exF [0, 1, 1] = some (numHd (-2) 1, .nil) := by kernel_rfl
theorem ex_print : printF exF = (exText, 0) := by decide +kernel
theorem ex_next : nextF exF [0, 1, 1] = ([0, 2], true, 0) := by decide +kernel
theorem ex_alike : alikeB [0, 2] [0, 2] = true := by decide

set_option maxRecDepth 100000 in
set_option maxHeartbeats 8000000 in
theorem grown_any (w : World) : Calls Tryz.prog 16 #[] w fun e w' => e = .returned (.bool true) ∧ Below w.heap.size w w' := by
  have EX := Lib.hid (fun w => example_any w)
  have SZ := Lib.hid (fun v W (h : Lies W v exF) => tsize_any exF v W h ex_small)
  have AT := Lib.hid (fun v u W (h : Lies W v exF) (hp : IntsLie W u [0, 1, 1]) => at_any exF [0, 1, 1] v u W h ex_small hp (by decide))
  have PR := Lib.hid (fun v W (h : Lies W v exF) => print_tree exF v W h ex_small)
  have NX := Lib.hid (fun v u W (h : Lies W v exF) (hp : IntsLie W u [0, 1, 1]) => next_any exF [0, 1, 1] v u W h ex_small hp (by decide))
  have PA := Lib.hid (fun W => tparse_any exText W (by decide))
  have AL := Lib.hid (fun v u W (h1 : IntsLie W v [0, 2]) (h2 : IntsLie W u [0, 2]) => alike_any v u [0, 2] [0, 2] W h1 h2 (by decide) (by decide))
  have SR := Lib.hid (fun v u W (h1 : Lies W v exF) (h2 : Lies W u exF) => same_refl 100000 exF ex_small.size v u W h1 h2)
  rw [ex_size] at SZ
  rw [ex_print] at PR
  rw [ex_next] at NX
  rw [ex_alike] at AL
  simp only [parsed_ex] at PA
  have exT : exText = [100, 111, 99, 40, 108, 97, 110, 103, 61, 34, 101, 110, 34, 41, 123, 34, 104, 105, 34, 32, 98, 123, 51, 47, 52, 32, 45, 50, 125, 32, 98, 125, 32, 55] := rfl
  go_enter Tryz.func16, Tryz.ntmps16
  go_wp2_with fail
  refine (EX.out _).mono ?_
  rintro e w1 ⟨a, rfl, hl1, hb1⟩
  have B1 := Lib.hid hb1
  have L1 := Lib.hid hl1
  have hs1 := hb1.size
  clear hb1 hl1
  go_wp2_with fail
  refine (SZ.out _ _ L1.out).mono ?_
  rintro e w2 ⟨rfl, hb2⟩
  have L2 := Lib.hid (lies_below L1.out hb2)
  have B2 := Lib.hid (B1.out.trans (hb2.mono hs1))
  clear hb2
  go_wp2_with fail
  have I3 : IntsLie (w2.alloc (.cells #[.int .i64 0, .int .i64 1, .int .i64 1] 3)) (.slice (some ⟨w2.heap.size, 0, none⟩) 3 3) [0, 1, 1] := ints_three (World.alloc_heap_new _ _) (by simp)
  have L2' := lies_below L2.out ((Below.refl _ w2).alloc (Nat.le_refl _) (.cells #[.int .i64 0, .int .i64 1, .int .i64 1] 3))
  have B2' : Below w.heap.size w (w2.alloc (.cells #[.int .i64 0, .int .i64 1, .int .i64 1] 3)) := B2.out.alloc B2.out.size _
  generalize w2.alloc (.cells #[.int .i64 0, .int .i64 1, .int .i64 1] 3) = W3 at *
  generalize (Value.slice (some ⟨w2.heap.size, 0, none⟩) 3 3) = u3 at *
  refine (AT.out _ _ _ L2' I3).mono ?_
  rintro e w3 ⟨h, ks, aa, ca, ak, ck, rfl, _, _, hor, hb3⟩
  rw [ex_at, ex_place] at hor
  obtain ⟨rfl, rfl⟩ : h = numHd (-2) 1 ∧ ks = .nil := by
    rcases hor with ⟨_, h1⟩ | ⟨h1, _⟩
    · have := Prod.mk.inj (Option.some.inj h1); exact ⟨this.1.symm, this.2.symm⟩
    · exact absurd rfl h1
  have L3 := Lib.hid (lies_below L2' hb3)
  have B3 := Lib.hid (B2'.trans (hb3.mono B2'.size))
  rw [ex_at]
  clear hor hb3 L2' I3 B2' L2 B2
  unfold aggOf numHd
  go_wp2_with fail
  generalize hW4 : w3.alloc _ = W4
  have K4 := Lib.hid (show W4.heap[w3.heap.size]? = some (.cells #[.int .i64 1, .string ⟨#[]⟩, .slice aa 0 ca, .int .i64 (-2), .int .i64 1, .string ⟨#[]⟩, .slice ak 0 ck] 43 (0, 0)) by rw [← hW4]; exact World.alloc_heap_new _ _)
  have hb4 : Below w3.heap.size w3 W4 := by rw [← hW4]; exact (Below.refl _ w3).alloc (Nat.le_refl _) _
  have L4 := Lib.hid (lies_below L3.out hb4)
  have B4 := Lib.hid (B3.out.trans (hb4.mono B3.out.size))
  generalize w3.heap.size = T4 at *
  clear hb4 hW4
  refine (PR.out _ _ L4.out).mono ?_
  rintro e w5 ⟨rfl, hb5⟩
  have h4 := (Array.getElem?_eq_some_iff.1 K4.out).1
  have K5 := Lib.hid ((hb5.block _ h4).trans K4.out)
  have L5 := Lib.hid (lies_below L4.out hb5)
  have B5 := Lib.hid (B4.out.trans (hb5.mono B4.out.size))
  have hs5 := hb5.size
  clear hb5 K4 L4 B4
  go_wp2_with fail
  have I6 : IntsLie (w5.alloc (.cells #[.int .i64 0, .int .i64 1, .int .i64 1] 3)) (.slice (some ⟨w5.heap.size, 0, none⟩) 3 3) [0, 1, 1] := ints_three (World.alloc_heap_new _ _) (by simp)
  have hb6 : Below w5.heap.size w5 (w5.alloc (.cells #[.int .i64 0, .int .i64 1, .int .i64 1] 3)) := (Below.refl _ w5).alloc (Nat.le_refl _) _
  have L6 := lies_below L5.out hb6
  have B6 := B5.out.trans (hb6.mono B5.out.size)
  have K6 := (hb6.block T4 (by omega)).trans K5.out
  have hs6 := hb6.size
  generalize w5.alloc (.cells #[.int .i64 0, .int .i64 1, .int .i64 1] 3) = W6 at *
  generalize (Value.slice (some ⟨w5.heap.size, 0, none⟩) 3 3) = u6 at *
  refine (NX.out _ _ _ L6 I6).mono ?_
  rintro e w7 ⟨a7, c7, rfl, hi7, hb7⟩
  have I7 := Lib.hid hi7
  have K7 := Lib.hid ((hb7.block T4 (by omega)).trans K6)
  have L7 := Lib.hid (lies_below L6 hb7)
  have B7 := Lib.hid (B6.trans (hb7.mono B6.size))
  have hs7 := hb7.size
  clear hb7 hb6 K6 L6 B6 I6 hi7
  simp only
  go_wp2_with fail
  refine (PA.out _).mono ?_
  rintro e w8 ⟨v8, rfl, hv8, hb8⟩
  obtain ⟨a8, c8, rfl⟩ := liesF_form hv8
  have I8 := Lib.hid (intsF_keeps I7.out (Keeps.of_below hb8))
  have V8 := Lib.hid (liesF_lies hv8)
  have K8 := (hb8.block T4 (by omega)).trans K7.out
  have L8 := Lib.hid (lies_below L7.out hb8)
  have B8 := Lib.hid (B7.out.trans (hb8.mono B7.out.size))
  have hs8 := hb8.size
  have c3 : w8.cell? ⟨T4, 3, none⟩ = some (.int .i64 (-2)) := cell_of_block K8 rfl
  have c4 : w8.cell? ⟨T4, 4, none⟩ = some (.int .i64 1) := cell_of_block K8 rfl
  clear hb8 hv8 K8 I7 L7 K7 B7
  go_wp2_with fail
  have I9 : IntsLie (w8.alloc (.cells #[.int .i64 0, .int .i64 2] 3)) (.slice (some ⟨w8.heap.size, 0, none⟩) 2 2) [0, 2] := ints_pair (World.alloc_heap_new _ _) (by simp)
  have hb9 : Below w8.heap.size w8 (w8.alloc (.cells #[.int .i64 0, .int .i64 2] 3)) := (Below.refl _ w8).alloc (Nat.le_refl _) _
  have J9 := ints_below (intsF_lies I8.out) hb9
  have L9 := lies_below L8.out hb9
  have V9 := lies_below V8.out hb9
  have B9 := B8.out.trans (hb9.mono B8.out.size)
  generalize w8.alloc (.cells #[.int .i64 0, .int .i64 2] 3) = W9 at *
  generalize (Value.slice (some ⟨w8.heap.size, 0, none⟩) 2 2) = u9 at *
  refine (AL.out _ _ _ J9 I9).mono ?_
  rintro e w10 ⟨rfl, hb10⟩
  have L10 := Lib.hid (lies_below L9 hb10)
  have V10 := Lib.hid (lies_below V9 hb10)
  have B10 := Lib.hid (B9.trans (hb10.mono B9.size))
  clear hb10 hb9 J9 I9 L9 V9 B9
  go_wp2_with fail
  refine (SR.out _ _ _ L10.out V10.out).mono ?_
  rintro e w11 ⟨rfl, hb11⟩
  have B11 := Lib.hid (B10.out.trans (hb11.mono B10.out.size))
  clear hb11
  go_wp2_with fail
  go_ret
  exact ⟨rfl, B11.out⟩
end Go.Proofs.YtcgedpfolloinaaGreat

namespace Go.Proofs.YtcgedpfolloinaaGreat
open Go.RowKit

def hdText (h : Hd) : List UInt8 := if h.k = 1 then toldS h.n h.d else if h.k = 2 then quoQ h.x else h.l ++ attrsQ h.ats
structure HdOk (h : Hd) : Prop where
  fit : h.k = 1 → Fit h.n h.d
  l : h.l.length ≤ 1000
  x : h.x.length ≤ 1000
  n : h.ats.length ≤ 10
  a : ∀ q ∈ h.ats, q.1.length ≤ 1000 ∧ q.2.length ≤ 1000
theorem atsQ_le2 : ∀ (ats : List (List UInt8 × List UInt8)) (m : UInt8), (∀ q ∈ ats, q.1.length ≤ 1000 ∧ q.2.length ≤ 1000) → (atsQ m ats).length ≤ 3004 * ats.length
  | [], m, _ => by simp [atsQ]
  | q :: t, m, h => by
    have h1 := atsQ_le2 t 44 (fun q hq => h q (by simp [hq]))
    have h2 := h q (by simp)
    have h3 := quoQ_le q.2
    simp only [atsQ, List.length_cons, List.length_append]
    omega

set_option maxRecDepth 100000 in
set_option maxHeartbeats 4000000 in
theorem toldHead_any (h : Hd) (aa : Option Addr) (ca : Nat) (w : World) (ha : AttrsLie w (.slice aa h.ats.length ca) h.ats) (ok : HdOk h) :
    Calls Tryz.prog 128 #[hdVal h aa ca] w fun e w' => e = .returned (.string ⟨(hdText h).toArray⟩) ∧ Below w.heap.size w w' := by
  obtain ⟨o1, o2, o3, o4, o5⟩ := ok
  have HQ := Lib.hid (show hdText h = if h.k = 1 then toldS h.n h.d else if h.k = 2 then quoQ h.x else h.l ++ attrsQ h.ats from rfl)
  have HA := Lib.hid ha
  have HO5 := Lib.hid o5
  clear ha o5
  unfold hdVal
  by_cases h1 : h.k = 1
  · have TA := Lib.hid (fun w1 => told_any h.n h.d w1 (o1 h1))
    have HR := Lib.hid (HQ.out.trans (if_pos h1))
    have k1 : (h.k == 1) = true := by simpa using h1
    clear h1 o1
    go_enter Tryz.func128, Tryz.ntmps128
    go_wp2_with fail
    refine (TA.out _).mono ?_; rintro e w1 ⟨rfl, hb1⟩; obtain ⟨hc1, hf1⟩ := bcell hb1; have hs1 := hb1.size; (try simp at hs1); (try have hz10 : w.heap.size < w1.heap.size := by omega); (try have hz11 : w.heap.size + 1 < w1.heap.size := by omega); (try have hz12 : w.heap.size + 1 + 1 < w1.heap.size := by omega); (try have hz13 : w.heap.size + 1 + 1 + 1 < w1.heap.size := by omega); (try have hz14 : w.heap.size + 1 + 1 + 1 + 1 < w1.heap.size := by omega); (try have hz15 : w.heap.size + 1 + 1 + 1 + 1 + 1 < w1.heap.size := by omega)
    go_wp2_with fail
    go_ret
    exact ⟨by rw [HR.out]; rfl, by ((repeat' (first | exact Below.refl _ _ | assumption | refine Below.setCell ?_ ?_ _ | refine bdrewN ?_ _ | refine Below.drew ?_ | refine Below.alloc ?_ ?_ _ | refine bbehind ?_ (by assumption) ?_)); all_goals first | (simp; done) | (simp; omega) | omega)⟩
  · have k1 : (h.k == 1) = false := by simpa using h1
    by_cases h2 : h.k = 2
    · have HR := Lib.hid ((HQ.out.trans (if_neg h1)).trans (if_pos h2))
      have k2 : (h.k == 2) = true := by simpa using h2
      clear h1 h2 o1
      go_enter Tryz.func128, Tryz.ntmps128
      go_wp2_with fail
      refine (qquoted_any h.x _ (by omega)).mono ?_; rintro e w1 ⟨rfl, hb1⟩; obtain ⟨hc1, hf1⟩ := bcell hb1; have hs1 := hb1.size; (try simp at hs1); (try have hz10 : w.heap.size < w1.heap.size := by omega); (try have hz11 : w.heap.size + 1 < w1.heap.size := by omega); (try have hz12 : w.heap.size + 1 + 1 < w1.heap.size := by omega); (try have hz13 : w.heap.size + 1 + 1 + 1 < w1.heap.size := by omega); (try have hz14 : w.heap.size + 1 + 1 + 1 + 1 < w1.heap.size := by omega); (try have hz15 : w.heap.size + 1 + 1 + 1 + 1 + 1 < w1.heap.size := by omega)
      go_wp2_with fail
      go_ret
      exact ⟨by rw [HR.out]; rfl, by ((repeat' (first | exact Below.refl _ _ | assumption | refine Below.setCell ?_ ?_ _ | refine bdrewN ?_ _ | refine Below.drew ?_ | refine Below.alloc ?_ ?_ _ | refine bbehind ?_ (by assumption) ?_)); all_goals first | (simp; done) | (simp; omega) | omega)⟩
    · have HR := Lib.hid ((HQ.out.trans (if_neg h1)).trans (if_neg h2))
      have k2 : (h.k == 2) = false := by simpa using h2
      clear h1 h2 o1
      go_enter Tryz.func128, Tryz.ntmps128
      go_wp2_with fail
      go_loopw [3, 4] (fun s i wr => ∃ j : Nat, i = .int .i64 j ∧ j ≤ h.ats.length ∧ s = .string ⟨(h.l ++ atsQ 40 (h.ats.take j)).toArray⟩ ∧ wr.cell? ⟨w.heap.size, 2, none⟩ = some (.slice aa h.ats.length ca) ∧ w.heap.size < wr.heap.size ∧ Below w.heap.size w wr) (fun _ i _ => h.ats.length - (intOf i).toNat)
      case atStart => exact ⟨0, rfl, Nat.zero_le _, by simp [atsQ], by simp [go_sem], by simp, by ((repeat' (first | exact Below.refl _ _ | assumption | refine Below.setCell ?_ ?_ _ | refine bdrewN ?_ _ | refine Below.drew ?_ | refine Below.alloc ?_ ?_ _ | refine bbehind ?_ (by assumption) ?_)); all_goals first | (simp; done) | (simp; omega) | omega)⟩
      case round =>
        obtain ⟨j, rfl, hj, rfl, c2, hsz, hbw⟩ := hrel
        have hzz := hbw.size
        have hal := atsQ_le2 (h.ats.take j) 40 (fun q hq => HO5.out q (List.mem_of_mem_take hq))
        have hal2 : (h.ats.take j).length ≤ 10 := by simp; omega
        by_cases hlt : j < h.ats.length
        · have dj : decide (j < h.ats.length) = true := by simpa using hlt
          obtain ⟨ba, oa, capa, hs, -, -, hba, hca⟩ := attrs_row HA.out (by omega)
          simp only [Value.slice.injEq] at hs
          obtain ⟨rfl, -, rfl⟩ := hs
          obtain ⟨q1, q2⟩ := hca j hlt
          have q1 := (hbw.cell (p := ⟨ba, oa + j * 2, none⟩) hba).trans q1
          have q2 := (hbw.cell (p := ⟨ba, oa + j * 2 + 1, none⟩) hba).trans q2
          have hbar : ba < wr.heap.size := by omega
          have HT := Lib.hid (atsQ_take 40 hlt)
          have hlen := HO5.out (h.ats.getD j ([], [])) (by
            rw [List.getD_eq_getElem?_getD, List.getElem?_eq_getElem hlt, Option.getD_some]; exact List.getElem_mem _)
          generalize (h.ats.getD j ([], [])).1 = nm at *
          generalize (h.ats.getD j ([], [])).2 = vl at *
          have hq3 := quoQ_le vl
          have QQ := Lib.hid (fun (x : Lower wr) => calls_lower x (qquoted_any vl x.val (by omega)))
          obtain ⟨acc, hacc⟩ : ∃ acc, atsQ 40 (h.ats.take j) = acc := ⟨_, rfl⟩
          rw [hacc] at HT hal ⊢
          clear hca hacc
          by_cases hj0 : j = 0
          · have dj0 : ((j : Int) == 0) = true := by simpa using hj0
            have HE := Lib.hid (HT.out.trans (by rw [if_pos hj0]))
            clear hj0
            go_wp2_with fail
            refine wp_region_quiet_all (fun w' => ∃ x : Lower _, w' = x.val) (by kernel_rfl) (by kernel_rfl) ⟨⟨_, (Below.refl _ _).drew⟩, rfl⟩ ?_
            repeat (go_big_quiet_step ((go_at_call 158; exact QQ.out _)))
            refine wpQuiet_nil ?_
            intro w2 hx2
            obtain ⟨x2, hx2⟩ := hx2
            have hb2 := x2.prop
            rw [← hx2] at hb2
            clear hx2 x2
            obtain ⟨hc2, hf2⟩ := bcell hb2
            have hs2 := hb2.size
            try simp at hs2
            try have hz20 : w.heap.size < w2.heap.size := by omega
            try have hz21 : w.heap.size + 1 < w2.heap.size := by omega
            try have hz22 : w.heap.size + 1 + 1 < w2.heap.size := by omega
            try have hz23 : w.heap.size + 1 + 1 + 1 < w2.heap.size := by omega
            try have hz24 : w.heap.size + 1 + 1 + 1 + 1 < w2.heap.size := by omega
            try have hz25 : w.heap.size + 1 + 1 + 1 + 1 + 1 < w2.heap.size := by omega
            try have hy1_2 : w1.heap.size < w2.heap.size := by omega
            go_wp2_with fail
            go_roundw
            case rel => exact ⟨j + 1, by go_num, by omega, by rw [HE.out], by rw [hc2 _ _ hsz]; exact c2, by omega, hbw.trans (hb2.mono hbw.size)⟩
            case measure => simp [intOf]; omega
          · have dj0 : ((j : Int) == 0) = false := by simpa using hj0
            have HE := Lib.hid (HT.out.trans (by rw [if_neg hj0]))
            clear hj0
            go_wp2_with fail
            refine wp_region_quiet_all (fun w' => ∃ x : Lower _, w' = x.val) (by kernel_rfl) (by kernel_rfl) ⟨⟨_, (Below.refl _ _).drew⟩, rfl⟩ ?_
            repeat (go_big_quiet_step ((go_at_call 158; exact QQ.out _)))
            refine wpQuiet_nil ?_
            intro w2 hx2
            obtain ⟨x2, hx2⟩ := hx2
            have hb2 := x2.prop
            rw [← hx2] at hb2
            clear hx2 x2
            obtain ⟨hc2, hf2⟩ := bcell hb2
            have hs2 := hb2.size
            try simp at hs2
            try have hz20 : w.heap.size < w2.heap.size := by omega
            try have hz21 : w.heap.size + 1 < w2.heap.size := by omega
            try have hz22 : w.heap.size + 1 + 1 < w2.heap.size := by omega
            try have hz23 : w.heap.size + 1 + 1 + 1 < w2.heap.size := by omega
            try have hz24 : w.heap.size + 1 + 1 + 1 + 1 < w2.heap.size := by omega
            try have hz25 : w.heap.size + 1 + 1 + 1 + 1 + 1 < w2.heap.size := by omega
            try have hy1_2 : w1.heap.size < w2.heap.size := by omega
            go_wp2_with fail
            go_roundw
            case rel => exact ⟨j + 1, by go_num, by omega, by rw [HE.out], by rw [hc2 _ _ hsz]; exact c2, by omega, hbw.trans (hb2.mono hbw.size)⟩
            case measure => simp [intOf]; omega
        · have dj : decide (j < h.ats.length) = false := by simpa using hlt
          obtain rfl : j = h.ats.length := by omega
          have e : h.ats.take h.ats.length = h.ats := List.take_length
          rw [e] at hal ⊢
          clear e
          by_cases hn0 : h.ats.length = 0
          · have hnd : decide (0 < h.ats.length) = false := decide_eq_false (by omega)
            have HE := Lib.hid (show h.l ++ atsQ 40 h.ats = hdText h by
              rw [HR.out]; unfold attrsQ; rw [if_pos hn0, List.eq_nil_of_length_eq_zero hn0]; rfl)
            clear hn0
            go_wp2_with fail
            go_ret
            exact ⟨ret_str HE.out, hbw⟩
          · have hnd : decide (0 < h.ats.length) = true := decide_eq_true (by omega)
            have HE := Lib.hid (show h.l ++ (atsQ 40 h.ats ++ [41]) = hdText h by
              rw [HR.out]; unfold attrsQ; rw [if_neg hn0])
            clear hn0
            generalize atsQ 40 h.ats = acc at *
            go_wp2_with fail
            go_ret
            exact ⟨ret_str HE.out, hbw⟩
end Go.Proofs.YtcgedpfolloinaaGreat

namespace Go.Proofs.YtcgedpfolloinaaGreat
open Go.RowKit

def foOk : Fo → Prop
  | .nil => True
  | .cons h ks r => HdOk h ∧ ((h.k = 1 → chk h.n h.d = 0) ∧ (h.k ≠ 0 → ks.len = 0)) ∧ foOk ks ∧ foOk r
theorem treeQ_eq {h : Hd} {ks : Fo} (h1 : h.k = 1 → chk h.n h.d = 0) (h2 : h.k ≠ 0 → ks.len = 0) : treeQ h ks = hdText h ++ (if ks.len = 0 then [] else 123 :: (foQ true ks ++ [125])) := by
  unfold treeQ hdText elemQ
  by_cases k1 : h.k = 1
  · rw [if_pos k1, if_pos k1, if_pos (h2 (by omega))]
    unfold printE
    rw [if_pos (h1 k1), List.append_nil]
  · rw [if_neg k1, if_neg k1]
    by_cases k2 : h.k = 2
    · rw [if_pos k2, if_pos k2, if_pos (h2 (by omega)), List.append_nil]
    · rw [if_neg k2, if_neg k2, List.append_assoc]
theorem foOk_drop : ∀ {f : Fo} {k : Nat} {h : Hd} {ks r : Fo}, foOk f → f.drop k = .cons h ks r → HdOk h ∧ ((h.k = 1 → chk h.n h.d = 0) ∧ (h.k ≠ 0 → ks.len = 0)) ∧ foOk ks
  | .nil, k, _, _, _, _, e => by rw [Fo.drop_nil] at e; cases e
  | .cons h0 k0 r0, 0, h, ks, r, ha, e => by
    simp only [Fo.drop, Fo.cons.injEq] at e
    obtain ⟨rfl, rfl, rfl⟩ := e
    exact ⟨ha.1, ha.2.1, ha.2.2.1⟩
  | .cons h0 k0 r0, k + 1, h, ks, r, ha, e => foOk_drop ha.2.2.2 e

set_option maxRecDepth 100000 in
set_option maxHeartbeats 4000000 in
theorem told_of (f : Fo) (v : Value) (w : World) (hl : Lies w v f) (ok : foOk f) (hlen : (foQ true f).length ≤ 100000)
    (HK : ∀ k h ks, k < f.len → f.drop k = .cons h ks (f.drop (k + 1)) → ∀ v w, Lies w v ks → (foQ true ks).length ≤ 100000 → Calls Tryz.prog 84 #[v] w fun e w' => e = .returned (.string ⟨(foQ true ks).toArray⟩) ∧ Below w.heap.size w w') :
    Calls Tryz.prog 84 #[v] w fun e w' => e = .returned (.string ⟨(foQ true f).toArray⟩) ∧ Below w.heap.size w w' := by
  have HL := Lib.hid hl
  have HK' := Lib.hid HK
  have OK := Lib.hid ok
  have hfl := lies_len hl
  obtain ⟨a, cap, rfl⟩ := lies_form hl
  clear hl HK ok
  go_enter Tryz.func84, Tryz.ntmps84
  go_wp2_with fail
  go_loopw [3, 4] (fun s i wr => ∃ k : Nat, i = .int .i64 k ∧ k ≤ f.len ∧ s = .string ⟨(foQ true (f.take k)).toArray⟩ ∧ Below w.heap.size w wr) (fun _ i _ => f.len - (intOf i).toNat)
  case atStart => exact ⟨0, rfl, Nat.zero_le _, by simp [Fo.take, foQ], Below.refl _ _⟩
  case round =>
    obtain ⟨k, rfl, hk, rfl, hbw⟩ := hrel
    have hsz := hbw.size
    by_cases hlt : k < f.len
    · have dk : decide (k < f.len) = true := by simpa using hlt
      obtain ⟨bf, of, cp, hs, -, -, hbf, hrow⟩ := lies_row HL.out (by omega)
      simp only [Value.slice.injEq] at hs
      obtain ⟨rfl, -, rfl⟩ := hs
      obtain ⟨hd, ks, e, ⟨q0, q1, ⟨va, q2, ha'⟩, q3, q4, q5⟩, vk, q6, hlk⟩ := row_get hrow hlt
      obtain ⟨aa, ca, rfl⟩ := attrs_form ha'
      obtain ⟨ak, ck, rfl⟩ := lies_form hlk
      obtain ⟨hok1, hok2, hok3⟩ := foOk_drop OK.out e
      have r0 := (hbw.cell (p := ⟨bf, of + k * 7, none⟩) hbf).trans q0
      have r1 := (hbw.cell (p := ⟨bf, of + k * 7 + 1, none⟩) hbf).trans q1
      have r2 := (hbw.cell (p := ⟨bf, of + k * 7 + 2, none⟩) hbf).trans q2
      have r3 := (hbw.cell (p := ⟨bf, of + k * 7 + 3, none⟩) hbf).trans q3
      have r4 := (hbw.cell (p := ⟨bf, of + k * 7 + 4, none⟩) hbf).trans q4
      have r5 := (hbw.cell (p := ⟨bf, of + k * 7 + 5, none⟩) hbf).trans q5
      have r6 := (hbw.cell (p := ⟨bf, of + k * 7 + 6, none⟩) hbf).trans q6
      have hbfr : bf < wr.heap.size := by omega
      have HTK := Lib.hid (foQ_take true e)
      have HTE := Lib.hid (treeQ_eq hok2.1 hok2.2)
      have hll := congrArg List.length HTK.out
      have hll2 := foQ_len f (k + 1) true
      have hll3 := congrArg List.length HTE.out
      simp only [List.length_append] at hll hll3
      have TH := Lib.hid (fun w1 (hw : Below w.heap.size w w1) => toldHead_any hd aa ca w1 (attrs_below ha' hw) hok1)
      have HKK := Lib.hid (fun w1 (hw : Below w.heap.size w w1) => HK'.out k hd ks hlt e _ w1 (lies_below hlk hw))
      unfold hdVal at TH
      obtain ⟨acc, hacc⟩ : ∃ acc, foQ true (f.take k) = acc := ⟨_, rfl⟩
      rw [hacc] at HTK hll ⊢
      clear q0 q1 q2 q3 q4 q5 q6 ha' hlk e hrow hok1 hok2 hok3 hacc
      by_cases hj0 : k = 0
      · have dj0 : decide (0 < k) = false := decide_eq_false (by omega)
        rw [if_pos (show (if k = 0 then true else false) = true by rw [if_pos hj0])] at HTK
        clear hj0
        by_cases hk0 : ks.len = 0
        · have hkd : decide (0 < ks.len) = false := decide_eq_false (by omega)
          have HF := Lib.hid (HTK.out.trans (by rw [HTE.out, if_pos hk0]))
          clear hk0
          go_wp2_with fail
          refine (TH.out _ hbw).mono ?_; rintro e w1 ⟨rfl, hb1⟩; obtain ⟨hc1, hf1⟩ := bcell hb1; have hs1 := hb1.size; (try simp at hs1); (try have hz10 : w.heap.size < w1.heap.size := by omega); (try have hz11 : w.heap.size + 1 < w1.heap.size := by omega); (try have hz12 : w.heap.size + 1 + 1 < w1.heap.size := by omega); (try have hz13 : w.heap.size + 1 + 1 + 1 < w1.heap.size := by omega); (try have hz14 : w.heap.size + 1 + 1 + 1 + 1 < w1.heap.size := by omega); (try have hz15 : w.heap.size + 1 + 1 + 1 + 1 + 1 < w1.heap.size := by omega)
          have g6 := (hc1 bf (of + k * 7 + 6) hbfr).trans r6
          have hbf1 : bf < w1.heap.size := by omega
          go_wp2_with fail
          go_roundw
          case rel => exact ⟨k + 1, by go_num, by omega, by rw [HF.out]; simp, hbw.trans (hb1.mono hbw.size)⟩
          case measure => simp [intOf]; omega
        · have hkd : decide (0 < ks.len) = true := decide_eq_true (by omega)
          have HF := Lib.hid (HTK.out.trans (by rw [HTE.out, if_neg hk0]))
          have hlf := congrArg List.length (HTE.out.trans (by rw [if_neg hk0]))
          simp only [List.length_append, List.length_cons, List.length_nil] at hlf
          clear hk0
          go_wp2_with fail
          refine (TH.out _ hbw).mono ?_; rintro e w1 ⟨rfl, hb1⟩; obtain ⟨hc1, hf1⟩ := bcell hb1; have hs1 := hb1.size; (try simp at hs1); (try have hz10 : w.heap.size < w1.heap.size := by omega); (try have hz11 : w.heap.size + 1 < w1.heap.size := by omega); (try have hz12 : w.heap.size + 1 + 1 < w1.heap.size := by omega); (try have hz13 : w.heap.size + 1 + 1 + 1 < w1.heap.size := by omega); (try have hz14 : w.heap.size + 1 + 1 + 1 + 1 < w1.heap.size := by omega); (try have hz15 : w.heap.size + 1 + 1 + 1 + 1 + 1 < w1.heap.size := by omega)
          have g6 := (hc1 bf (of + k * 7 + 6) hbfr).trans r6
          have hbf1 : bf < w1.heap.size := by omega
          go_wp2_with fail
          refine (HKK.out w1 (hbw.trans (hb1.mono hbw.size)) (by omega)).mono ?_; rintro e w2 ⟨rfl, hb2⟩; obtain ⟨hc2, hf2⟩ := bcell hb2; have hs2 := hb2.size; (try simp at hs2); (try have hz20 : w.heap.size < w2.heap.size := by omega); (try have hz21 : w.heap.size + 1 < w2.heap.size := by omega); (try have hz22 : w.heap.size + 1 + 1 < w2.heap.size := by omega); (try have hz23 : w.heap.size + 1 + 1 + 1 < w2.heap.size := by omega); (try have hz24 : w.heap.size + 1 + 1 + 1 + 1 < w2.heap.size := by omega); (try have hz25 : w.heap.size + 1 + 1 + 1 + 1 + 1 < w2.heap.size := by omega); (try have hy1_2 : w1.heap.size < w2.heap.size := by omega)
          go_wp2_with fail
          go_roundw
          case rel => exact ⟨k + 1, by go_num, by omega, by rw [HF.out]; simp, (hbw.trans (hb1.mono hbw.size)).trans (hb2.mono (Nat.le_trans hbw.size hb1.size))⟩
          case measure => simp [intOf]; omega
      · have dj0 : decide (0 < k) = true := decide_eq_true (by omega)
        have hng : ¬ (if k = 0 then true else false) = true := by rw [if_neg hj0]; decide
        rw [if_neg hng] at HTK hll
        simp only [List.length_cons, List.length_nil] at hll
        clear hj0 hng
        by_cases hk0 : ks.len = 0
        · have hkd : decide (0 < ks.len) = false := decide_eq_false (by omega)
          have HF := Lib.hid (HTK.out.trans (by rw [HTE.out, if_pos hk0]))
          clear hk0
          go_wp2_with fail
          refine (TH.out _ hbw).mono ?_; rintro e w1 ⟨rfl, hb1⟩; obtain ⟨hc1, hf1⟩ := bcell hb1; have hs1 := hb1.size; (try simp at hs1); (try have hz10 : w.heap.size < w1.heap.size := by omega); (try have hz11 : w.heap.size + 1 < w1.heap.size := by omega); (try have hz12 : w.heap.size + 1 + 1 < w1.heap.size := by omega); (try have hz13 : w.heap.size + 1 + 1 + 1 < w1.heap.size := by omega); (try have hz14 : w.heap.size + 1 + 1 + 1 + 1 < w1.heap.size := by omega); (try have hz15 : w.heap.size + 1 + 1 + 1 + 1 + 1 < w1.heap.size := by omega)
          have g6 := (hc1 bf (of + k * 7 + 6) hbfr).trans r6
          have hbf1 : bf < w1.heap.size := by omega
          go_wp2_with fail
          go_roundw
          case rel => exact ⟨k + 1, by go_num, by omega, by rw [HF.out]; simp, hbw.trans (hb1.mono hbw.size)⟩
          case measure => simp [intOf]; omega
        · have hkd : decide (0 < ks.len) = true := decide_eq_true (by omega)
          have HF := Lib.hid (HTK.out.trans (by rw [HTE.out, if_neg hk0]))
          have hlf := congrArg List.length (HTE.out.trans (by rw [if_neg hk0]))
          simp only [List.length_append, List.length_cons, List.length_nil] at hlf
          clear hk0
          go_wp2_with fail
          refine (TH.out _ hbw).mono ?_; rintro e w1 ⟨rfl, hb1⟩; obtain ⟨hc1, hf1⟩ := bcell hb1; have hs1 := hb1.size; (try simp at hs1); (try have hz10 : w.heap.size < w1.heap.size := by omega); (try have hz11 : w.heap.size + 1 < w1.heap.size := by omega); (try have hz12 : w.heap.size + 1 + 1 < w1.heap.size := by omega); (try have hz13 : w.heap.size + 1 + 1 + 1 < w1.heap.size := by omega); (try have hz14 : w.heap.size + 1 + 1 + 1 + 1 < w1.heap.size := by omega); (try have hz15 : w.heap.size + 1 + 1 + 1 + 1 + 1 < w1.heap.size := by omega)
          have g6 := (hc1 bf (of + k * 7 + 6) hbfr).trans r6
          have hbf1 : bf < w1.heap.size := by omega
          go_wp2_with fail
          refine (HKK.out w1 (hbw.trans (hb1.mono hbw.size)) (by omega)).mono ?_; rintro e w2 ⟨rfl, hb2⟩; obtain ⟨hc2, hf2⟩ := bcell hb2; have hs2 := hb2.size; (try simp at hs2); (try have hz20 : w.heap.size < w2.heap.size := by omega); (try have hz21 : w.heap.size + 1 < w2.heap.size := by omega); (try have hz22 : w.heap.size + 1 + 1 < w2.heap.size := by omega); (try have hz23 : w.heap.size + 1 + 1 + 1 < w2.heap.size := by omega); (try have hz24 : w.heap.size + 1 + 1 + 1 + 1 < w2.heap.size := by omega); (try have hz25 : w.heap.size + 1 + 1 + 1 + 1 + 1 < w2.heap.size := by omega); (try have hy1_2 : w1.heap.size < w2.heap.size := by omega)
          go_wp2_with fail
          go_roundw
          case rel => exact ⟨k + 1, by go_num, by omega, by rw [HF.out]; simp, (hbw.trans (hb1.mono hbw.size)).trans (hb2.mono (Nat.le_trans hbw.size hb1.size))⟩
          case measure => simp [intOf]; omega
    · have dk : decide (k < f.len) = false := by simpa using hlt
      obtain rfl : k = f.len := by omega
      have e : f.take f.len = f := Fo.take_len f
      rw [e]
      go_wp2_with fail
      go_ret
      exact ⟨rfl, hbw⟩
theorem told_all : ∀ (N : Nat) (f : Fo), f.size ≤ N → foOk f → ∀ (v : Value) (w : World), Lies w v f → (foQ true f).length ≤ 100000 → Calls Tryz.prog 84 #[v] w fun e w' => e = .returned (.string ⟨(foQ true f).toArray⟩) ∧ Below w.heap.size w w' := by
  intro N
  induction N with
  | zero =>
    intro f hf ok v w hl hlen
    exact told_of f v w hl ok hlen (fun k h ks hk => by have := Fo.len_le_size f; omega)
  | succ N ih =>
    intro f hf ok v w hl hlen
    refine told_of f v w hl ok hlen (fun k h ks hk e v w hl hlen => ih ks ?_ (foOk_drop ok e).2.2 v w hl hlen)
    have := Fo.size_app (f.take k) (f.drop k)
    rw [Fo.take_app_drop, e] at this
    simp only [Fo.size] at this
    omega
end Go.Proofs.YtcgedpfolloinaaGreat

namespace Go.Proofs.YtcgedpfolloinaaGreat
open Go.RowKit

theorem hd_ok {h : Hd} (e : headErr h = 0) : HdOk h ∧ (h.k = 1 → chk h.n h.d = 0) := by
  unfold headErr at e
  by_cases h0 : strayB h = true
  · rw [if_pos h0] at e; cases e
  rw [if_neg h0] at e
  unfold strayB at h0
  by_cases h1 : h.k = 1
  · rw [if_pos h1] at e
    simp [h1] at h0
    exact ⟨⟨fun _ => fit_of_chk e, by rw [h0.2.1]; simp, by rw [h0.1]; simp, by rw [h0.2.2]; simp, by rw [h0.2.2]; simp⟩, fun _ => e⟩
  · rw [if_neg h1] at e
    by_cases h2 : h.k = 2
    · rw [if_pos h2] at e
      simp [h2] at h0
      have hp : printableB h.x 24 = true := by
        by_cases hp : printableB h.x 24 = true
        · exact hp
        · rw [if_neg hp] at e; cases e
      have := printable_ok hp
      exact ⟨⟨fun k => absurd k h1, by rw [h0.2.1]; simp, by omega, by rw [h0.2.2]; simp, by rw [h0.2.2]; simp⟩, fun k => absurd k h1⟩
    · rw [if_neg h2] at e
      by_cases h3 : h.k = 0
      · simp [h3] at h0
        unfold elemErr at e
        by_cases g1 : namedB h.l = false
        · rw [if_pos g1] at e; cases e
        rw [if_neg g1] at e
        by_cases g2 : 3 < h.ats.length
        · rw [if_pos g2] at e; cases e
        rw [if_neg g2] at e
        have ha := attrs_ok _ _ e
        have hl := named_ok (by simpa using g1 : namedB h.l = true)
        exact ⟨⟨fun k => absurd k h1, by omega, by rw [h0.2]; simp, by omega, fun q hq => ⟨by have := (ha q hq).1; omega, by have := (ha q hq).2.1; omega⟩⟩, fun k => absurd k h1⟩
      · simp [h1, h2, h3] at h0
theorem headsok_rx : ∀ f : Fo, headsErr f = 0 → foOk f
  | .nil, _ => trivial
  | .cons h ks r, e => by
    unfold headsErr at e
    by_cases h1 : headErr h ≠ 0
    · rw [if_pos h1] at e; exact absurd e h1
    rw [if_neg h1] at e
    by_cases h2 : h.k ≠ 0 ∧ ks.len ≠ 0
    · rw [if_pos h2] at e; cases e
    rw [if_neg h2] at e
    by_cases h3 : headsErr ks ≠ 0
    · rw [if_pos h3] at e; exact absurd e h3
    rw [if_neg h3] at e
    have hh := hd_ok (h := h) (by simpa using h1)
    exact ⟨hh.1, ⟨hh.2, fun hk => by
      by_cases hl : ks.len = 0
      · exact hl
      · exact absurd ⟨hk, hl⟩ h2⟩, headsok_rx ks (by simpa using h3), headsok_rx r e⟩
theorem valid_fo {f : Fo} (h : foErr f = 0) : foOk f ∧ (foQ true f).length ≤ 48000 := by
  refine ⟨headsok_rx f ?_, (valid_ok h).2⟩
  unfold foErr at h
  by_cases h1 : 400 < f.size
  · rw [if_pos h1] at h; cases h
  rw [if_neg h1] at h
  by_cases h2 : 40 < f.deep
  · rw [if_pos h2] at h; cases h
  rw [if_neg h2] at h
  exact h

set_option maxRecDepth 100000 in
set_option maxHeartbeats 2000000 in
theorem qprint_any (f : Fo) (v : Value) (w : World) (hl : Lies w v f) (hs : Small f) :
    Calls Tryz.prog 57 #[v] w fun e w' => e = .returned (.tuple #[.string ⟨(printF f).1.toArray⟩, .int .i64 (printF f).2]) ∧ Below w.heap.size w w' := by
  have CH := Lib.hid (qcheck_any f v w hl hs)
  have HV := Lib.hid (fun h => valid_fo (f := f) h)
  have WR := Lib.hid (fun w1 (hw : Below w.heap.size w w1) (ha : foOk f ∧ (foQ true f).length ≤ 48000) => told_all f.size f (Nat.le_refl _) ha.1 v w1 (lies_below hl hw) (by omega))
  obtain ⟨a, cap, rfl⟩ := lies_form hl
  have HP := Lib.hid (show printF f = if foErr f ≠ 0 then ([], foErr f) else if (foQ true f).length ≤ 20000 then (foQ true f, 0) else ([], 8) from rfl)
  clear hl hs
  generalize foErr f = er at *
  by_cases he : er = 0
  · have b0 : (er != 0) = false := by simpa using he
    have HA2 := Lib.hid (HV.out he)
    have HQ := Lib.hid (HP.out.trans (if_neg (by simpa using he)))
    clear he
    generalize foQ true f = q at *
    go_enter Tryz.func57, Tryz.ntmps57
    go_wp2_with fail
    refine CH.out.mono ?_
    rintro e w1 ⟨rfl, hb1⟩
    go_wp2_with fail
    refine (WR.out w1 hb1 HA2.out).mono ?_
    rintro e w2 ⟨rfl, hb2⟩
    have hB := hb1.trans (hb2.mono hb1.size)
    by_cases hq : q.length ≤ 20000
    · have dq : decide ((20000 : Int) < (q.length : Int)) = false := decide_eq_false (by omega)
      have HR := Lib.hid (HQ.out.trans (if_pos hq))
      clear hq
      go_wp2_with fail
      go_ret2
      rw [HR.out]
      exact ⟨rfl, hB⟩
    · have dq : decide ((20000 : Int) < (q.length : Int)) = true := decide_eq_true (by omega)
      have HR := Lib.hid (HQ.out.trans (if_neg hq))
      clear hq
      go_wp2_with fail
      go_ret2
      rw [HR.out]
      exact ⟨rfl, hB⟩
  · have b0 : (er != 0) = true := by simpa using he
    have HQ := Lib.hid (HP.out.trans (if_pos (by simpa using he)))
    clear he
    go_enter Tryz.func57, Tryz.ntmps57
    go_wp2_with fail
    refine CH.out.mono ?_
    rintro e w1 ⟨rfl, hb1⟩
    go_wp2_with fail
    go_ret2
    rw [HQ.out]
    exact ⟨rfl, hb1⟩
end Go.Proofs.YtcgedpfolloinaaGreat

namespace Go.Proofs.YtcgedpfolloinaaGreat
open Go.RowKit

theorem rforest_any (l : List UInt8) (hl : l.length ≤ 89000) : ∀ (n k : Nat) (w : World), k ≤ l.length → (l.drop k).length ≤ n →
    Calls Tryz.prog 115 #[.string ⟨l.toArray⟩, .int .i64 k] w (FoRes w l (forestP (n + 1) (l.drop k)))
  | 0, k, w, hk, hn => by
    simp at hn
    exact rforest_step (forestP 0) _ l k w hk hl (forestP_len 0) (forestP_text 0) (fun k' W h1 h2 => by omega) (forestP_eq 0 _)
  | n + 1, k, w, hk, hn => by
    simp at hn
    exact rforest_step (forestP (n + 1)) _ l k w hk hl (forestP_len (n + 1)) (forestP_text (n + 1)) (fun k' W h1 h2 => rforest_any l hl n k' W h2 (by simp; omega)) (forestP_eq (n + 1) _)

set_option maxRecDepth 100000 in
set_option maxHeartbeats 2000000 in
theorem bounded_any (f : Fo) (v : Value) (w : World) (hl : Lies w v f) (hs : Small f) :
    Calls Tryz.prog 107 #[v] w fun e w' => e = .returned (.tuple #[if foErr f = 0 then v else .slice none 0 0, .int .i64 (foErr f)]) ∧ Below w.heap.size w w' := by
  have C := Lib.hid (qcheck_any f v w hl hs)
  obtain ⟨a, cap, rfl⟩ := lies_form hl
  clear hl hs
  by_cases h0 : foErr f = 0
  · rw [if_pos h0]
    rw [h0] at C ⊢
    clear h0
    go_enter Tryz.func107, Tryz.ntmps107
    go_wp2_with fail
    refine C.out.mono ?_
    rintro e w1 ⟨rfl, hb1⟩
    go_wp2_with fail
    go_ret2
    exact ⟨rfl, hb1⟩
  · rw [if_neg h0]
    generalize foErr f = ef at *
    have b0 : (ef != 0) = true := by simpa using h0
    clear h0
    go_enter Tryz.func107, Tryz.ntmps107
    go_wp2_with fail
    refine C.out.mono ?_
    rintro e w1 ⟨rfl, hb1⟩
    go_wp2_with fail
    go_ret2
    exact ⟨rfl, hb1⟩

set_option maxRecDepth 100000 in
set_option maxHeartbeats 4000000 in
theorem qparse_any (l : List UInt8) (w : World) (hl : l.length ≤ 89000) :
    Calls Tryz.prog 59 #[.string ⟨l.toArray⟩] w fun e w' => ∃ v, e = .returned (.tuple #[v, .int .i64 (parsed l).2]) ∧ LiesF w.heap.size w' v (parsed l).1 ∧ Below w.heap.size w w' := by
  obtain ⟨p, hp⟩ : ∃ p, parsed l = p := ⟨_, rfl⟩
  rw [hp]
  have HP := Lib.hid hp.symm
  by_cases h2 : 20000 < l.length
  · have d : decide ((20000 : Int) < (l.length : Int)) = true := by simp; omega
    have HX := HP.out.trans (if_pos h2)
    subst HX
    clear h2 hp HP
    go_enter Tryz.func59, Tryz.ntmps59
    go_wp2_with fail
    go_ret2
    exact ⟨_, rfl, .inl ⟨_, _, rfl, rfl⟩, Below.refl _ _⟩
  have d : decide ((20000 : Int) < (l.length : Int)) = false := by simp; omega
  have HX := Lib.hid (HP.out.trans (if_neg h2))
  by_cases hn : l = []
  · subst hn
    have HY := HX.out.trans (show _ = (Fo.nil, 0) from rfl)
    subst HY
    clear h2 hp HP HX
    go_enter Tryz.func59, Tryz.ntmps59
    go_wp2_with fail
    go_ret2
    exact ⟨_, rfl, .inl ⟨_, _, rfl, rfl⟩, Below.refl _ _⟩
  have bn : ((⟨l.toArray⟩ : ByteArray) == ⟨#[]⟩) = false := by rw [str_eq]; simpa using hn
  have RF := Lib.hid (show Calls Tryz.prog 115 #[.string ⟨l.toArray⟩, .int .i64 0] w (FoRes w l (forestP (l.length + 1) (l.drop 0))) from rforest_any l hl l.length 0 w (Nat.zero_le _) (by simp))
  have bn2 : (l == []) = false := by simpa using hn
  have SM := Lib.hid (fun f => readP_small (f := f) (show l.length ≤ 100000 by omega))
  have hrd : readP l = match forestP (l.length + 1) (l.drop 0) with
    | some (f, []) => some f
    | _ => none := by
    cases l with
    | nil => exact absurd rfl hn
    | cons c t => rfl
  have HRD := Lib.hid hrd
  clear hrd h2 hp HP
  go_enter Tryz.func59, Tryz.ntmps59
  go_wp2_with fail
  refine RF.out.mono ?_
  rintro e w1 ⟨v, q, g, rfl, hg, hv, hb1⟩
  obtain ⟨av, cv, rfl⟩ := liesF_form hv
  have HV := Lib.hid hv
  have hs1 := hb1.size
  cases ho : forestP (l.length + 1) (l.drop 0) with
  | none =>
    have HZ := HX.out.trans (by rw [HRD.out, ho])
    subst HZ
    clear ho hg hv
    go_wp2_with fail
    go_ret2
    exact ⟨_, rfl, .inl ⟨_, _, rfl, rfl⟩, hb1⟩
  | some x =>
    obtain ⟨f, r⟩ := x
    obtain ⟨rfl, hq⟩ := hg _ _ ho
    cases r with
    | cons c t =>
      have HZ := HX.out.trans (by rw [HRD.out, ho])
      subst HZ
      have htl := forestP_len _ _ _ _ ho
      have bq : (q != (l.length : Int)) = true := by
        simp only [List.drop_zero, List.length_cons] at htl hq
        rw [hq]; simp; omega
      clear ho hg hv hq htl
      go_wp2_with fail
      go_ret2
      exact ⟨_, rfl, .inl ⟨_, _, rfl, rfl⟩, hb1⟩
    | nil =>
      have hr : readP l = some g := by rw [HRD.out, ho]
      have SF := SM.out g hr
      have C := Lib.hid (bounded_any g _ w1 (liesF_lies hv) SF)
      have bq : (q != (l.length : Int)) = false := by
        rw [hq]; simp
      clear ho hg hv hq
      by_cases h0 : foErr g = 0
      · have HZ := HX.out.trans (show _ = (g, 0) by rw [hr]; exact if_pos h0)
        subst HZ
        rw [h0, if_pos rfl] at C
        clear hr h0 HX HRD SM SF
        go_wp2_with fail
        refine C.out.mono ?_
        rintro e w2 ⟨rfl, hb2⟩
        have HK := Lib.hid (liesF_keeps HV.out ((Keeps.of_below hb2 : Keeps w.heap.size w1 w2)))
        have HB2 := Lib.hid (hb1.trans (hb2.mono hs1))
        clear hb1 hb2
        go_wp2_with fail
        go_ret2
        exact ⟨_, rfl, HK.out, HB2.out⟩
      · have HZ := HX.out.trans (show _ = (Fo.nil, foErr g) by rw [hr]; exact if_neg h0)
        subst HZ
        rw [if_neg h0] at C
        clear hr h0 HX HRD SM SF
        go_wp2_with fail
        refine C.out.mono ?_
        rintro e w2 ⟨rfl, hb2⟩
        have HB2 := Lib.hid (hb1.trans (hb2.mono hs1))
        clear hb1 hb2
        go_wp2_with fail
        go_ret2
        exact ⟨.slice none 0 0, rfl, .inl ⟨_, _, rfl, rfl⟩, HB2.out⟩

set_option maxRecDepth 100000 in
set_option maxHeartbeats 8000000 in
theorem texts_any (f : Fo) (v : Value) (l : List UInt8) (w : World) (hl : Lies w v f) (_ : (⟨l.toArray⟩ : ByteArray).size ≤ maxLen) :
    Calls Tryz.prog 7 #[v, .string ⟨l.toArray⟩] w fun e w' => e = .returned (.bool true) ∧ Below w.heap.size w w' := by
  have GR := Lib.hid (fun w => grown_any w)
  have GF := Lib.hid (great_any f.size f v w (Nat.le_refl _) hl)
  obtain ⟨a, cap, rfl⟩ := lies_form hl
  cases hgf : great f with
  | true =>
    rw [hgf] at GF
    clear hl hgf
    go_enter Tryz.func7, Tryz.ntmps7
    go_wp2_with fail
    refine GF.out.mono ?_
    rintro e w1 ⟨rfl, hb1⟩
    have hs1 := hb1.size
    go_wp2_with fail
    refine (GR.out _).mono ?_
    rintro e w2 ⟨rfl, hb2⟩
    go_wp2_with fail
    go_ret
    exact ⟨rfl, hb1.trans (hb2.mono hs1)⟩
  | false =>
    rw [hgf] at GF
    by_cases h3 : 3000 < l.length
    · have d3 : decide ((3000 : Int) < (l.length : Int)) = true := by simp; omega
      clear hl hgf
      go_enter Tryz.func7, Tryz.ntmps7
      go_wp2_with fail
      refine GF.out.mono ?_
      rintro e w1 ⟨rfl, hb1⟩
      have hs1 := hb1.size
      go_wp2_with fail
      refine (GR.out _).mono ?_
      rintro e w2 ⟨rfl, hb2⟩
      go_wp2_with fail
      go_ret
      exact ⟨rfl, hb1.trans (hb2.mono hs1)⟩
    · have d3 : decide ((3000 : Int) < (l.length : Int)) = false := by simp; omega
      have SM := small_lies hl hgf
      have TP := Lib.hid (fun w1 (hw : Below w.heap.size w w1) => print_tree f _ w1 (lies_below hl hw) SM)
      have QP := Lib.hid (fun w1 (hw : Below w.heap.size w w1) => qprint_any f _ w1 (lies_below hl hw) SM)
      have TS := Lib.hid (fun w1 => tparse_any l w1 (by omega))
      have QS := Lib.hid (fun w1 => qparse_any l w1 (by omega))
      generalize printF f = P at *
      obtain ⟨s, ep⟩ := P
      simp only at TP QP
      have hself : ((⟨s.toArray⟩ : ByteArray) == ⟨s.toArray⟩) = true := by rw [str_eq]; simp
      have SA := Lib.hid (fun v u w1 => same_refl (parsed l).1.size (parsed l).1 (Nat.le_refl _) v u w1)
      generalize parsed l = R at *
      obtain ⟨g, er⟩ := R
      simp only at TS QS SA
      clear hl hgf h3 SM
      go_enter Tryz.func7, Tryz.ntmps7
      go_wp2_with fail
      refine GF.out.mono ?_
      rintro e w1 ⟨rfl, hb1⟩
      have B1 := hb1
      clear hb1
      go_wp2_with fail
      refine (TP.out _ B1).mono ?_
      rintro e w2 ⟨rfl, hb2⟩
      have B2 : Below w.heap.size w w2 := B1.trans (hb2.mono B1.size)
      clear hb2
      go_wp2_with fail
      refine (QP.out _ B2).mono ?_
      rintro e w3 ⟨rfl, hb3⟩
      have B3 : Below w.heap.size w w3 := B2.trans (hb3.mono B2.size)
      clear hb3
      go_wp2_with fail
      refine (TS.out _).mono ?_
      rintro e w4 ⟨x, rfl, hx4, hb4⟩
      obtain ⟨ax, cx, rfl⟩ := liesF_form hx4
      have HX := Lib.hid (liesF_lies hx4)
      have B4 : Below w.heap.size w w4 := B3.trans (hb4.mono B3.size)
      clear hb4 hx4
      go_wp2_with fail
      refine (QS.out _).mono ?_
      rintro e w5 ⟨y, rfl, hy5, hb5⟩
      obtain ⟨ay, cy, rfl⟩ := liesF_form hy5
      have HX5 := Lib.hid (lies_below HX.out hb5)
      have HY5 := Lib.hid (liesF_lies hy5)
      have B5 : Below w.heap.size w w5 := B4.trans (hb5.mono B4.size)
      clear hb5 hy5
      go_wp2_with fail
      refine (SA.out _ _ _ HX5.out HY5.out).mono ?_
      rintro e w6 ⟨rfl, hb6⟩
      have B6 : Below w.heap.size w w6 := B5.trans (hb6.mono B5.size)
      clear hb6
      go_wp2_with fail
      refine (GR.out _).mono ?_
      rintro e w7 ⟨rfl, hb7⟩
      go_wp2_with fail
      go_ret
      exact ⟨rfl, B6.trans (hb7.mono B6.size)⟩
end Go.Proofs.YtcgedpfolloinaaGreat

namespace Go.Proofs.YtcgedpfolloinaaGreat
open Go.ChangeShapes Go.WideShapes Go.ChangeAt Go.RowKit Go.Deep

theorem mem_all {H : Type} {P : Program} {e : TypeId} : ∀ {ds : List (DataW H)} {d : DataW H}, d ∈ ds → ∀ n ∈ d.weights P e, n ∈ DataW.weightsAll P e ds
  | d' :: r, d, hd, n, hn => by
    simp only [DataW.weightsAll, List.mem_append]
    rcases List.mem_cons.1 hd with rfl | hd
    · exact .inl hn
    · exact .inr (mem_all hd n hn)
theorem bytesAttr : Tryz.prog.bytesOf 81 = 32 := by kernel_rfl
theorem bytesTree : Tryz.prog.bytesOf 43 = 104 := by kernel_rfl
theorem cellsAttr : Tryz.prog.cellsOf 81 = 2 := by kernel_rfl
theorem cellsHead : Tryz.prog.cellsOf 27 = 6 := by kernel_rfl
theorem cellsTree : Tryz.prog.cellsOf 43 = 7 := by kernel_rfl
theorem cellsNumT : Tryz.prog.cellsOf 25 = 2 := by kernel_rfl
theorem cellsKind : Tryz.prog.cellsOf 22 = 1 := by kernel_rfl
theorem cellsStr : Tryz.prog.cellsOf 9 = 1 := by kernel_rfl
theorem cellsAttrs : Tryz.prog.cellsOf 23 = 1 := by kernel_rfl
theorem cellsTrees : Tryz.prog.cellsOf 28 = 1 := by kernel_rfl
theorem cellsInt : Tryz.prog.cellsOf 3 = 1 := by kernel_rfl
/-- no string, no slice of a datum is larger than memory. -/
def Fits {H : Type} (t : TypeId) (d : DataW H) : Prop := ∀ n ∈ d.weights Tryz.prog t, n ≤ reachBytes
theorem str_list (s : ByteArray) : ∃ l : List UInt8, s = ⟨l.toArray⟩ := ⟨s.data.toList, by cases s; simp⟩
theorem lt_of_cell' {w : World} {b o : Nat} {v : Value} (h : w.cell? ⟨b, o, none⟩ = some v) : b < w.heap.size := by
  by_cases hb : b < w.heap.size
  · exact hb
  · exfalso
    have : w.heap[b]? = none := Array.getElem?_eq_none (by omega)
    unfold World.cell? at h
    simp [this] at h

theorem tfields : ∃ a b, Tryz.prog.underlying 43 = some (.struct #[a, b]) ∧ a.type = 27 ∧ a.offset = 0 ∧ b.type = 28 ∧ b.offset = 6 := ⟨_, _, Tryz.underlying43, rfl, rfl, rfl, rfl⟩
theorem hfields : ∃ a b c d e, Tryz.prog.underlying 27 = some (.struct #[a, b, c, d, e]) ∧ (a.type = 22 ∧ a.offset = 0) ∧ (b.type = 9 ∧ b.offset = 1) ∧ (c.type = 23 ∧ c.offset = 2) ∧ (d.type = 25 ∧ d.offset = 3) ∧ (e.type = 9 ∧ e.offset = 5) :=
  ⟨_, _, _, _, _, Tryz.underlying27, ⟨rfl, rfl⟩, ⟨rfl, rfl⟩, ⟨rfl, rfl⟩, ⟨rfl, rfl⟩, ⟨rfl, rfl⟩⟩
theorem nfields : ∃ a b, Tryz.prog.underlying 25 = some (.struct #[a, b]) ∧ a.type = 3 ∧ a.offset = 0 ∧ b.type = 3 ∧ b.offset = 1 := ⟨_, _, Tryz.underlying25, rfl, rfl, rfl, rfl⟩
theorem afields : ∃ a b, Tryz.prog.underlying 81 = some (.struct #[a, b]) ∧ a.type = 9 ∧ a.offset = 0 ∧ b.type = 9 ∧ b.offset = 1 := ⟨_, _, Tryz.underlying81, rfl, rfl, rfl, rfl⟩

section
variable {H : Type} {enc : TypeId × Value → H} {W : World} {held : Bool}

set_option maxRecDepth 100000 in
theorem attrs_open {fuel : Nat} {v : Value} {x : DataW H × List MemPlace} (h : DataW.trod enc Tryz.prog W 0 (fun _ => true) held fuel 23 [v] = some x) (hf : Fits 23 x.1) : ∃ ats, AttrsLie W v ats := by
  obtain ⟨fa, fb, hu, ta, oa, tb, ob⟩ := afields
  rcases open_slice_pairs Tryz.underlying23 hu cellsAttr oa ob (by rw [ta]; exact cellsStr) (by rw [tb]; exact cellsStr) h with ⟨hcs, hx⟩ | ⟨a, len, cap, m, n, V0, V1, D0, D1, P0, P1, hcs, _, hle, hmax, hm, hx, hi⟩
  · simp at hcs
    subst hcs
    exact ⟨[], .inl ⟨_, _, rfl, rfl⟩⟩
  · simp at hcs
    subst hcs
    simp only [if_true] at hm
    by_cases h0 : len = 0
    · subst h0; exact ⟨[], .inl ⟨_, _, rfl, rfl⟩⟩
    · have hw : (len + (m - len)) * 32 ≤ reachBytes := by
        have := hf ((len + (m - len)) * Tryz.prog.bytesOf 81) (by
          subst hx
          simp only [DataW.weights, Tryz.underlying23]
          simp)
        rwa [bytesAttr] at this
      have hi' : ∀ i, i < len → ∃ x y : List UInt8, W.cell? (a.add (i * 2)) = some (.string ⟨x.toArray⟩) ∧ W.cell? (a.add (i * 2 + 1)) = some (.string ⟨y.toArray⟩) := by
        intro i hl
        obtain ⟨h1, h2, h3, h4⟩ := hi i (by omega)
        rw [ta] at h3
        rw [tb] at h4
        obtain ⟨x, e1, _, _⟩ := DataW.trod_string Tryz.underlying9 h3
        obtain ⟨y, e2, _, _⟩ := DataW.trod_string Tryz.underlying9 h4
        simp only [List.cons.injEq, and_true] at e1 e2
        obtain ⟨x, rfl⟩ := str_list x
        obtain ⟨y, rfl⟩ := str_list y
        exact ⟨x, y, by rw [h1, e1], by rw [h2, e2]⟩
      obtain ⟨b, off, spot⟩ := a
      obtain ⟨x0, y0, c0, _⟩ := hi' 0 (by omega)
      have hspot : spot = none := by simpa [Addr.add] using World.cell?_spot c0
      subst hspot
      have hb : b < W.heap.size := by
        rw [Go.WideShapes.add_plain] at c0
        exact lt_of_cell' c0
      have e : ∀ i, i < len → ∃ q : List UInt8 × List UInt8, W.cell? ⟨b, off + i * 2, none⟩ = some (.string ⟨q.1.toArray⟩) ∧ W.cell? ⟨b, off + i * 2 + 1, none⟩ = some (.string ⟨q.2.toArray⟩) := by
        intro i hl
        obtain ⟨x, y, h1, h2⟩ := hi' i hl
        rw [Go.WideShapes.add_plain] at h1 h2
        exact ⟨(x, y), h1, by rw [Nat.add_assoc]; exact h2⟩
      obtain ⟨q, hq⟩ := choose_lt e
      have hl : ((List.range len).map q).length = len := by simp
      refine ⟨(List.range len).map q, .inr ⟨b, off, cap, by rw [hl], by rw [hl]; exact hle, by rw [hl]; unfold reachBytes at hw; omega, hb, fun k hk => ?_⟩⟩
      have hk' : k < len := by rwa [hl] at hk
      have g : ((List.range len).map q).getD k ([], []) = q k := by
        rw [List.getD_eq_getElem?_getD]; simp [hk']
      rw [g]
      exact hq k hk'

set_option maxRecDepth 100000 in
theorem head_open {fuel : Nat} {cs : List Value} {x : DataW H × List MemPlace} (h : DataW.trod enc Tryz.prog W 0 (fun _ => true) held fuel 27 cs = some x) (hf : Fits 27 x.1) :
    ∃ (hd : Hd) (va : Value), cs = [.int .i64 hd.k, .string ⟨hd.l.toArray⟩, va, .int .i64 hd.n, .int .i64 hd.d, .string ⟨hd.x.toArray⟩] ∧ AttrsLie W va hd.ats := by
  obtain ⟨fa, fb, fc, fd, fe, hu, ⟨ta, oa⟩, ⟨tb, ob⟩, ⟨tc, oc⟩, ⟨td, od⟩, te, oe⟩ := hfields
  obtain ⟨xs, n, _, hx, hlen, hxl, hi⟩ := DataW.trod_struct hu h
  rw [cellsHead] at hlen
  obtain ⟨c0, c1, c2, c3, c4, c5, rfl⟩ : ∃ c0 c1 c2 c3 c4 c5, cs = [c0, c1, c2, c3, c4, c5] := by
    match cs, hlen with
    | [c0, c1, c2, c3, c4, c5], _ => exact ⟨c0, c1, c2, c3, c4, c5, rfl⟩
  obtain ⟨x0, x1, x2, x3, x4, rfl⟩ : ∃ x0 x1 x2 x3 x4, xs = [x0, x1, x2, x3, x4] := by
    match xs, hxl with
    | [x0, x1, x2, x3, x4], _ => exact ⟨x0, x1, x2, x3, x4, rfl⟩
  have i0 := hi 0 fa rfl
  have i1 := hi 1 fb rfl
  have i2 := hi 2 fc rfl
  have i3 := hi 3 fd rfl
  have i4 := hi 4 fe rfl
  rw [ta, oa, cellsKind] at i0
  rw [tb, ob, cellsStr] at i1
  rw [tc, oc, cellsAttrs] at i2
  rw [td, od, cellsNumT] at i3
  rw [te, oe, cellsStr] at i4
  simp at i0 i1 i2 i3 i4
  obtain ⟨k, e0, _, _⟩ := DataW.trod_int Tryz.underlying22 i0
  obtain ⟨l, e1, _, _⟩ := DataW.trod_string Tryz.underlying9 i1
  obtain ⟨t, e4, _, _⟩ := DataW.trod_string Tryz.underlying9 i4
  obtain ⟨ats, ha⟩ := attrs_open i2 (fun m hm => hf m (by
    subst hx
    simp only [DataW.weights, hu]
    refine DataW.weights_mem_each (j := 2) (t := 23) (d := x2.1) (by simp [tc]) (by simp) m hm))
  obtain ⟨na, nb, hun, tna, ona, tnb, onb⟩ := nfields
  obtain ⟨ys, n2, _, _, _, hyl, hj⟩ := DataW.trod_struct hun i3
  obtain ⟨y0, y1, rfl⟩ : ∃ y0 y1, ys = [y0, y1] := by
    match ys, hyl with
    | [y0, y1], _ => exact ⟨y0, y1, rfl⟩
  have j0 := hj 0 na rfl
  have j1 := hj 1 nb rfl
  rw [tna, ona, cellsInt] at j0
  rw [tnb, onb, cellsInt] at j1
  simp at j0 j1
  obtain ⟨n', g0, _, _⟩ := DataW.trod_int Tryz.underlying3 j0
  obtain ⟨d', g1, _, _⟩ := DataW.trod_int Tryz.underlying3 j1
  simp only [List.cons.injEq, and_true] at e0 e1 e4 g0 g1
  obtain ⟨l, rfl⟩ := str_list l
  obtain ⟨t, rfl⟩ := str_list t
  exact ⟨⟨k, l, ats, n', d', t⟩, c2, by rw [e0, e1, e4, g0, g1], ha⟩

def foOf : List (Hd × Fo) → Fo
  | [] => .nil
  | x :: r => .cons x.1 x.2 (foOf r)
theorem foOf_len : ∀ l : List (Hd × Fo), (foOf l).len = l.length
  | [] => rfl
  | x :: r => by simp only [foOf, Fo.len, List.length_cons, foOf_len r]
theorem foOf_row {b : Nat} : ∀ (l : List (Hd × Fo)) (o : Nat), (∀ k (hk : k < l.length), HdAt W (l[k]).1 b (o + k * 7) ∧ ∃ v, W.cell? ⟨b, o + k * 7 + 6, none⟩ = some v ∧ Lies W v (l[k]).2) → RowAt W (foOf l) b o
  | [], _, _ => trivial
  | x :: r, o, hk => by
    have h0 := hk 0 (by simp)
    simp only [Nat.zero_mul, Nat.add_zero, List.getElem_cons_zero] at h0
    refine rowAt_cons.2 ⟨h0.1, h0.2, foOf_row r (o + 7) fun k h => ?_⟩
    have := hk (k + 1) (by simpa using h)
    simp only [List.getElem_cons_succ] at this
    rw [show o + (k + 1) * 7 = o + 7 + k * 7 by omega] at this
    exact this
instance : Inhabited (Hd × Fo) := ⟨(⟨0, [], [], 0, 0, []⟩, .nil)⟩

set_option maxRecDepth 100000 in
theorem trees_open : ∀ (fuel : Nat) {v : Value} {x : DataW H × List MemPlace}, DataW.trod enc Tryz.prog W 0 (fun _ => true) held fuel 28 [v] = some x → Fits 28 x.1 → ∃ f, Lies W v f
  | 0, v, x, h, _ => by simp [DataW.trod] at h
  | 1, v, x, h, hf => by
    rcases DataW.trod_slice Tryz.underlying28 h with ⟨hcs, _⟩ | ⟨a, len, cap, elems, rest, n, hn, hcs, hx, _, hle, hmax, hlen, hel, hsp, _⟩
    · simp at hcs; subst hcs; exact ⟨.nil, .inl ⟨_, _, rfl, rfl⟩⟩
    · simp at hcs
      subst hcs
      obtain rfl : n = 0 := by omega
      cases len with
      | zero => exact ⟨.nil, .inl ⟨_, _, rfl, rfl⟩⟩
      | succ len =>
        have h0 := hel 0 (by omega)
        rw [List.getElem?_eq_getElem (by omega)] at h0
        obtain ⟨cs', _, h2⟩ := Option.bind_eq_some_iff.1 h0
        simp [DataW.trod] at h2
  | fuel + 2, v, x, h, hf => by
    rcases DataW.trod_slice Tryz.underlying28 h with ⟨hcs, _⟩ | ⟨a, len, cap, elems, rest, n, hn, hcs, hx, _, hle, hmax, hlen, hel, hsp, _⟩
    · simp at hcs; subst hcs; exact ⟨.nil, .inl ⟨_, _, rfl, rfl⟩⟩
    · simp at hcs
      subst hcs
      obtain rfl : n = fuel + 1 := by omega
      by_cases h0 : len = 0
      · subst h0; exact ⟨.nil, .inl ⟨_, _, rfl, rfl⟩⟩
      · have hw : (elems.length + rest.length) * 104 ≤ reachBytes := by
          have := hf ((elems.length + rest.length) * Tryz.prog.bytesOf 43) (by
            subst hx
            simp only [DataW.weights, Tryz.underlying28]
            simp)
          rwa [bytesTree] at this
        have hi' : ∀ i, i < len → ∃ q : Hd × Fo, (∃ va, W.cell? (a.add (i * 7)) = some (.int .i64 q.1.k) ∧ W.cell? (a.add (i * 7 + 1)) = some (.string ⟨q.1.l.toArray⟩) ∧ W.cell? (a.add (i * 7 + 2)) = some va ∧ AttrsLie W va q.1.ats ∧
            W.cell? (a.add (i * 7 + 3)) = some (.int .i64 q.1.n) ∧ W.cell? (a.add (i * 7 + 4)) = some (.int .i64 q.1.d) ∧ W.cell? (a.add (i * 7 + 5)) = some (.string ⟨q.1.x.toArray⟩)) ∧ ∃ vk, W.cell? (a.add (i * 7 + 6)) = some vk ∧ Lies W vk q.2 := by
          intro i hl
          have hi := hel i hl
          rw [cellsTree, List.getElem?_eq_getElem (by omega)] at hi
          obtain ⟨cs', hc, ht⟩ := Option.bind_eq_some_iff.1 hi
          obtain ⟨_, hcl, hcc⟩ := World.cells?_some hc
          obtain ⟨fa, fb, hu, ta, oa, tb, ob⟩ := tfields
          obtain ⟨xs, m, hm, hxx, _, hxl, hj⟩ := DataW.trod_struct hu ht
          obtain rfl : m = fuel := by omega
          obtain ⟨x0, x1, rfl⟩ : ∃ x0 x1, xs = [x0, x1] := by
            match xs, hxl with
            | [x0, x1], _ => exact ⟨x0, x1, rfl⟩
          obtain ⟨c0, c1, c2, c3, c4, c5, c6, rfl⟩ : ∃ c0 c1 c2 c3 c4 c5 c6, cs' = [c0, c1, c2, c3, c4, c5, c6] := by
            match cs', hcl with
            | [c0, c1, c2, c3, c4, c5, c6], _ => exact ⟨c0, c1, c2, c3, c4, c5, c6, rfl⟩
          have j0 := hj 0 fa rfl
          have j1 := hj 1 fb rfl
          rw [ta, oa, cellsHead] at j0
          rw [tb, ob, cellsTrees] at j1
          simp at j0 j1
          have hfit : Fits 43 (elems[i]).1 := fun n hn => hf n (by
            subst hx
            simp only [DataW.weights, Tryz.underlying28, List.mem_cons, List.mem_append]
            exact .inr (.inl (mem_all (by simp; exact ⟨_, List.getElem_mem _⟩) n hn)))
          rw [hxx] at hfit
          have hf0 : Fits 27 x0.1 := fun n hn => hfit n (by
            simp only [DataW.weights, hu]
            exact DataW.weights_mem_each (j := 0) (t := 27) (d := x0.1) (by simp [ta]) (by simp) n hn)
          have hf1 : Fits 28 x1.1 := fun n hn => hfit n (by
            simp only [DataW.weights, hu]
            exact DataW.weights_mem_each (j := 1) (t := 28) (d := x1.1) (by simp [tb]) (by simp) n hn)
          obtain ⟨hd, va, e, ha⟩ := head_open j0 hf0
          obtain ⟨ks, hk⟩ := trees_open m j1 hf1
          have g : ∀ k (hk : k < 7) u, [c0, c1, c2, c3, c4, c5, c6][k]? = some u → W.cell? (a.add (i * 7 + k)) = some u := fun k hk u hu => by
            rw [← Go.Deep.add_add]; exact (hcc k hk).trans hu
          simp only [List.cons.injEq, and_true] at e
          obtain ⟨rfl, rfl, rfl, rfl, rfl, rfl⟩ := e
          exact ⟨(hd, ks), ⟨c2, g 0 (by omega) _ rfl, g 1 (by omega) _ rfl, g 2 (by omega) _ rfl, ha, g 3 (by omega) _ rfl, g 4 (by omega) _ rfl, g 5 (by omega) _ rfl⟩, c6, g 6 (by omega) _ rfl, hk⟩
        obtain ⟨b, off, spot⟩ := a
        have hspot : spot = none := by
          obtain ⟨q, ⟨va, c0, _⟩, _⟩ := hi' 0 (by omega)
          simpa [Addr.add] using World.cell?_spot c0
        subst hspot
        obtain ⟨q, hq⟩ := choose_lt hi'
        have hb : b < W.heap.size := by
          obtain ⟨⟨va, c0, _⟩, _⟩ := hq 0 (by omega)
          rw [Go.WideShapes.add_plain] at c0
          exact lt_of_cell' c0
        have hl : (foOf ((List.range len).map q)).len = len := by rw [foOf_len]; simp
        refine ⟨foOf ((List.range len).map q), .inr ⟨b, off, cap, by rw [hl], by rw [hl]; exact hle, by rw [hl]; unfold reachBytes at hw; omega, hb, foOf_row _ off fun k hk => ?_⟩⟩
        have hk' : k < len := by simpa using hk
        obtain ⟨⟨va, c0, c1, c2, ha, c3, c4, c5⟩, vk, c6, hk6⟩ := hq k hk'
        rw [Go.WideShapes.add_plain] at c0 c1 c2 c3 c4 c5 c6
        simp only [List.getElem_map, List.getElem_range]
        exact ⟨⟨c0, by rw [Nat.add_assoc]; exact c1, ⟨va, by rw [Nat.add_assoc]; exact c2, ha⟩, by rw [Nat.add_assoc]; exact c3, by rw [Nat.add_assoc]; exact c4, by rw [Nat.add_assoc]; exact c5⟩, vk, by rw [Nat.add_assoc]; exact c6, hk6⟩
end
end Go.Proofs.YtcgedpfolloinaaGreat
