/- What the proof of PrfTreeCuts rests on, part 2 of 12. -/
import Derived.Test.YtcgedpfolloinaaGreatPPrfTreeCuts1
namespace Go.Proofs.YtcgedpfolloinaaGreat
open Go.RowKit Go.BigFrame

theorem below_only {B b : Nat} {w w1 w2 : World} (h : Below B w w1) (k : Only b w1 w2) (hB : B ≤ b) (hw : B ≤ w1.heap.size) : Below B w w2 := h.trans (only_below k hB hw)

/-- the text of a number. -/
def toldS (n d : Int) : List UInt8 := signText n (numText (n.natAbs : Int) 1 (if d = 1 then [] else 47 :: numText d 1 []))

theorem numText1 (n : Int) (l : List UInt8) : numText n 1 l = digs n.toNat ++ l := by unfold numText; rw [show (1 : Int).toNat = 1 from rfl, padS_one]
theorem numText1_len {n : Int} (l : List UInt8) (h : n ≤ 1000000000) : (numText n 1 l).length ≤ 10 + l.length := by
  rw [numText1, List.length_append]
  have := digs_len 9 n.toNat (by omega)
  omega
theorem signText_len (n : Int) (l : List UInt8) : (signText n l).length ≤ 1 + l.length := by unfold signText; split <;> simp <;> omega

set_option maxHeartbeats 2000000 in
theorem printed_any (n d : Int) (w : World) (f : Fit n d) :
    Calls Tryz.prog 182 #[.agg #[.int .i64 n, .int .i64 d]] w fun e w' => e = .returned (.string ⟨(toldS n d).toArray⟩) ∧ Below w.heap.size w w' := by
  obtain ⟨n1, n2, d1, d2⟩ := f
  unfold toldS
  by_cases hd : d = 1
  · subst hd
    rw [if_pos rfl]
    have l1 := numText1_len [] (n := (n.natAbs : Int)) (by omega)
    have l2 := signText_len n (numText (n.natAbs : Int) 1 [])
    simp only [List.length_nil] at l1
    generalize hL : signText n (numText (n.natAbs : Int) 1 []) = L at *
    have HL := Lib.hid hL; clear hL
    go_enter Tryz.func182, Tryz.ntmps182
    go_wp2_with fail
    refine (newWriter_any _).mono ?_
    rintro e w0 ⟨rfl, hb0, hw0⟩
    obtain ⟨hc0, hf0⟩ := bcell hb0
    have hs0 := hb0.size
    simp at hs0 hw0
    have hz0 : w.heap.size < w0.heap.size := by omega
    have c00 : w0.cell? ⟨w.heap.size, 0, none⟩ = some (.int .i64 n) := (hc0 _ _ (by simp)).trans (by simp [go_sem])
    have c01 : w0.cell? ⟨w.heap.size, 1, none⟩ = some (.int .i64 1) := (hc0 _ _ (by simp)).trans (by simp [go_sem])
    clear hc0 hf0
    have HW0 := Lib.hid hw0; clear hw0
    have hb00 : Below w.heap.size w w0 := bbehind ((Below.refl _ _).alloc (Nat.le_refl _) _) hb0 (by simp)
    have HB0 := Lib.hid hb00; clear hb00 hb0
    go_wp2_with fail
    refine (abs_any _ _ (by omega) (by omega)).mono ?_
    rintro e w' ⟨rfl, rfl⟩
    go_wp2_with fail
    refine (number_any _ _ _ _ _ HW0.out (by omega) (by omega) (by omega) (by omega) (by omega)).mono ?_
    rintro e w1 ⟨rfl, ho, hw⟩
    have hz1 : w.heap.size < w1.heap.size := by have := ho.size; omega
    have hb : Below w.heap.size w w1 := below_only HB0.out ho (by omega) (by omega)
    have c10 : w1.cell? ⟨w.heap.size, 0, none⟩ = some (.int .i64 n) := (only_cell ho (by omega) (by omega)).trans c00
    have c11 : w1.cell? ⟨w.heap.size, 1, none⟩ = some (.int .i64 1) := (only_cell ho (by omega) (by omega)).trans c01
    clear ho
    have HB1 := Lib.hid hb; clear hb
    have HW1 := Lib.hid hw; clear hw
    go_wp2_with fail
    refine (sign_any _ _ _ _ HW1.out (by omega)).mono ?_
    rintro e w2 ⟨rfl, ho, hw⟩
    have hz2 : w.heap.size < w2.heap.size := by have := ho.size; omega
    have hb : Below w.heap.size w w2 := below_only HB1.out ho (by omega) (by omega)
    clear ho
    have HB2 := Lib.hid hb; clear hb
    have HW2 := Lib.hid hw; clear hw
    go_wp2_with fail
    refine (text_any _ _ _ HW2.out).mono ?_
    rintro e wl ⟨rfl, hl⟩
    go_wp2
    go_ret
    exact ⟨by first | rfl | (rw [HL.out]; rfl), bbehind HB2.out hl (by omega)⟩
  · have hd' : (d != 1) = true := by simpa using hd
    rw [if_neg hd]
    clear hd
    have l0 := numText1_len [] (n := d) (by omega)
    have l1 := numText1_len (47 :: numText d 1 []) (n := (n.natAbs : Int)) (by omega)
    have l2 := signText_len n (numText (n.natAbs : Int) 1 (47 :: numText d 1 []))
    simp only [List.length_nil, List.length_cons] at l0 l1
    generalize hL : signText n (numText (n.natAbs : Int) 1 (47 :: numText d 1 [])) = L at *
    have HL := Lib.hid hL; clear hL
    go_enter Tryz.func182, Tryz.ntmps182
    go_wp2_with fail
    refine (newWriter_any _).mono ?_
    rintro e w0 ⟨rfl, hb0, hw0⟩
    obtain ⟨hc0, hf0⟩ := bcell hb0
    have hs0 := hb0.size
    simp at hs0 hw0
    have hz0 : w.heap.size < w0.heap.size := by omega
    have c00 : w0.cell? ⟨w.heap.size, 0, none⟩ = some (.int .i64 n) := (hc0 _ _ (by simp)).trans (by simp [go_sem])
    have c01 : w0.cell? ⟨w.heap.size, 1, none⟩ = some (.int .i64 d) := (hc0 _ _ (by simp)).trans (by simp [go_sem])
    clear hc0 hf0
    have HW0 := Lib.hid hw0; clear hw0
    have hb00 : Below w.heap.size w w0 := bbehind ((Below.refl _ _).alloc (Nat.le_refl _) _) hb0 (by simp)
    have HB0 := Lib.hid hb00; clear hb00 hb0
    go_wp2_with fail
    refine (number_any _ _ _ _ _ HW0.out (by omega) (by omega) (by omega) (by omega) (by omega)).mono ?_
    rintro e w1 ⟨rfl, ho, hw⟩
    have hz1 : w.heap.size < w1.heap.size := by have := ho.size; omega
    have hb : Below w.heap.size w w1 := below_only HB0.out ho (by omega) (by omega)
    have c10 : w1.cell? ⟨w.heap.size, 0, none⟩ = some (.int .i64 n) := (only_cell ho (by omega) (by omega)).trans c00
    have c11 : w1.cell? ⟨w.heap.size, 1, none⟩ = some (.int .i64 d) := (only_cell ho (by omega) (by omega)).trans c01
    clear ho
    have HB1 := Lib.hid hb; clear hb
    have HW1 := Lib.hid hw; clear hw
    go_wp2_with fail
    refine (put_int _ _ 47 47 _ rfl HW1.out (by omega)).mono ?_
    rintro e w2 ⟨rfl, ho, hw⟩
    have hz2 : w.heap.size < w2.heap.size := by have := ho.size; omega
    have hb : Below w.heap.size w w2 := below_only HB1.out ho (by omega) (by omega)
    have c20 : w2.cell? ⟨w.heap.size, 0, none⟩ = some (.int .i64 n) := (only_cell ho (by omega) (by omega)).trans c10
    have c21 : w2.cell? ⟨w.heap.size, 1, none⟩ = some (.int .i64 d) := (only_cell ho (by omega) (by omega)).trans c11
    clear ho
    have HB2 := Lib.hid hb; clear hb
    have HW2 := Lib.hid hw; clear hw
    go_wp2_with fail
    refine (abs_any _ _ (by omega) (by omega)).mono ?_
    rintro e w' ⟨rfl, rfl⟩
    go_wp2_with fail
    refine (number_any _ _ _ _ _ HW2.out (by omega) (by omega) (by omega) (by omega) (by first | omega | (simp only [List.length_cons]; omega))).mono ?_
    rintro e w3 ⟨rfl, ho, hw⟩
    have hz3 : w.heap.size < w3.heap.size := by have := ho.size; omega
    have hb : Below w.heap.size w w3 := below_only HB2.out ho (by omega) (by omega)
    have c30 : w3.cell? ⟨w.heap.size, 0, none⟩ = some (.int .i64 n) := (only_cell ho (by omega) (by omega)).trans c20
    have c31 : w3.cell? ⟨w.heap.size, 1, none⟩ = some (.int .i64 d) := (only_cell ho (by omega) (by omega)).trans c21
    clear ho
    have HB3 := Lib.hid hb; clear hb
    have HW3 := Lib.hid hw; clear hw
    go_wp2_with fail
    refine (sign_any _ _ _ _ HW3.out (by omega)).mono ?_
    rintro e w4 ⟨rfl, ho, hw⟩
    have hz4 : w.heap.size < w4.heap.size := by have := ho.size; omega
    have hb : Below w.heap.size w w4 := below_only HB3.out ho (by omega) (by omega)
    clear ho
    have HB4 := Lib.hid hb; clear hb
    have HW4 := Lib.hid hw; clear hw
    go_wp2_with fail
    refine (text_any _ _ _ HW4.out).mono ?_
    rintro e wl ⟨rfl, hl⟩
    go_wp2
    go_ret
    exact ⟨by first | rfl | (rw [HL.out]; rfl), bbehind HB4.out hl (by omega)⟩

def printE (n d : Int) : List UInt8 := if chk n d = 0 then toldS n d else []

set_option maxHeartbeats 1000000 in
theorem print_any (n d : Int) (w : World) :
    Calls Tryz.prog 171 #[.agg #[.int .i64 n, .int .i64 d]] w fun e w' => e = .returned (.tuple #[.string ⟨(printE n d).toArray⟩, .int .i64 (chk n d)]) ∧ Below w.heap.size w w' := by
  unfold printE
  by_cases hA : chk n d = 0
  · have hf := fit_of_chk hA
    rw [if_pos hA]
    have HA := Lib.hid hA
    go_enter Tryz.func171, Tryz.ntmps171
    go_wp2_with (first | (go_at_call 73; refine (check_any _ _ _).mono ?_; rintro e w1 ⟨rfl, hb1⟩; obtain ⟨hc1, hf1⟩ := bcell hb1; have hs1 := hb1.size; (try simp at hs1); (try have hz0 : w.heap.size < w1.heap.size := by omega); (try have hz1 : w.heap.size + 1 < w1.heap.size := by omega); (try have hz2 : w.heap.size + 1 + 1 < w1.heap.size := by omega); (try have hz3 : w.heap.size + 1 + 1 + 1 < w1.heap.size := by omega); (try have hz4 : w.heap.size + 1 + 1 + 1 + 1 < w1.heap.size := by omega); (try have hz5 : w.heap.size + 1 + 1 + 1 + 1 + 1 < w1.heap.size := by omega)) | (go_at_call 182; refine (printed_any _ _ _ hf).mono ?_; rintro e w1 ⟨rfl, hb1⟩; obtain ⟨hc1, hf1⟩ := bcell hb1; have hs1 := hb1.size; (try simp at hs1); (try have hz0 : w.heap.size < w1.heap.size := by omega); (try have hz1 : w.heap.size + 1 < w1.heap.size := by omega); (try have hz2 : w.heap.size + 1 + 1 < w1.heap.size := by omega); (try have hz3 : w.heap.size + 1 + 1 + 1 < w1.heap.size := by omega); (try have hz4 : w.heap.size + 1 + 1 + 1 + 1 < w1.heap.size := by omega); (try have hz5 : w.heap.size + 1 + 1 + 1 + 1 + 1 < w1.heap.size := by omega)))
    go_ret2
    exact ⟨by rw [HA.out]; rfl, by ((repeat' (first | exact Below.refl _ _ | assumption | refine Below.setCell ?_ ?_ _ | refine bdrewN ?_ _ | refine Below.drew ?_ | refine Below.alloc ?_ ?_ _ | refine bbehind ?_ (by assumption) ?_)); all_goals first | (simp; done) | (simp; omega) | omega)⟩
  · have hA' : (chk n d != 0) = true := by simpa using hA
    rw [if_neg hA]
    clear hA
    go_enter Tryz.func171, Tryz.ntmps171
    go_wp2_with (go_at_call 73; refine (check_any _ _ _).mono ?_; rintro e w1 ⟨rfl, hb1⟩; obtain ⟨hc1, hf1⟩ := bcell hb1; have hs1 := hb1.size; (try simp at hs1); (try have hz0 : w.heap.size < w1.heap.size := by omega); (try have hz1 : w.heap.size + 1 < w1.heap.size := by omega); (try have hz2 : w.heap.size + 1 + 1 < w1.heap.size := by omega); (try have hz3 : w.heap.size + 1 + 1 + 1 < w1.heap.size := by omega); (try have hz4 : w.heap.size + 1 + 1 + 1 + 1 < w1.heap.size := by omega); (try have hz5 : w.heap.size + 1 + 1 + 1 + 1 + 1 < w1.heap.size := by omega))
    go_ret2
    exact ⟨rfl, by ((repeat' (first | exact Below.refl _ _ | assumption | refine Below.setCell ?_ ?_ _ | refine bdrewN ?_ _ | refine Below.drew ?_ | refine Below.alloc ?_ ?_ _ | refine bbehind ?_ (by assumption) ?_)); all_goals first | (simp; done) | (simp; omega) | omega)⟩
end Go.Proofs.YtcgedpfolloinaaGreat

namespace Go.Proofs.YtcgedpfolloinaaGreat

/-- a decimal digit. -/
def isDig (c : UInt8) : Bool := decide (48 ≤ c.toNat) && decide (c.toNat ≤ 57)
/-- what digits say. -/
def valN (l : List UInt8) : Nat := l.foldl (fun a c => 10 * a + (c.toNat - 48)) 0
theorem valN_snoc (l : List UInt8) (c : UInt8) : valN (l ++ [c]) = 10 * valN l + (c.toNat - 48) := by unfold valN; rw [List.foldl_append]; rfl
theorem foldl_digits_lt (l : List UInt8) : ∀ a : Nat, l.all isDig = true → l.foldl (fun a c => 10 * a + (c.toNat - 48)) a < (a + 1) * 10 ^ l.length := by
  induction l with
  | nil => intro a _; simp
  | cons c l ih =>
    intro a h
    rw [List.all_cons, Bool.and_eq_true] at h
    have h2 : c.toNat ≤ 57 := by
      have := h.1
      simp [isDig] at this
      exact this.2
    have h3 := ih (10 * a + (c.toNat - 48)) h.2
    rw [List.foldl_cons, List.length_cons, Nat.pow_succ]
    have h4 : (10 * a + (c.toNat - 48) + 1) * 10 ^ l.length ≤ ((a + 1) * 10) * 10 ^ l.length := Nat.mul_le_mul_right _ (by omega)
    have e : (a + 1) * (10 ^ l.length * 10) = ((a + 1) * 10) * 10 ^ l.length := by rw [Nat.mul_assoc, Nat.mul_comm 10]
    omega
theorem valN_lt (l : List UInt8) (h : l.all isDig = true) : valN l < 10 ^ l.length := by
  have := foldl_digits_lt l 0 h
  unfold valN; omega
end Go.Proofs.YtcgedpfolloinaaGreat

namespace Go.Proofs.YtcgedpfolloinaaGreat
open Go.RowKit Go.BigFrame

@[go_sem] theorem ext_front (l : List UInt8) (k : Nat) : (⟨l.toArray⟩ : ByteArray).extract 0 k = ⟨(l.take k).toArray⟩ := by
  apply ByteArray.ext; rw [ByteArray.data_extract]; simp
@[go_sem] theorem ext_rest (l : List UInt8) (k : Nat) : (⟨l.toArray⟩ : ByteArray).extract k l.length = ⟨(l.drop k).toArray⟩ := by
  apply ByteArray.ext; rw [ByteArray.data_extract]; simp; rw [List.take_of_length_le (by simp)]
@[go_sem] theorem str_at (l : List UInt8) (k : Nat) (h : k < (⟨l.toArray⟩ : ByteArray).size) : (⟨l.toArray⟩ : ByteArray)[k] = l[k]'h := rfl

/-- a slash or a point. -/
def isMark (c : UInt8) : Bool := c == 47 || c == 46
/-- where the first one is. -/
def markAt (l : List UInt8) : Nat := l.findIdx isMark
def cutF (l : List UInt8) : List UInt8 := l.take (markAt l)
def cutM (l : List UInt8) : UInt8 := l.getD (markAt l) 0
def cutB (l : List UInt8) : List UInt8 := l.drop (markAt l + 1)

theorem markAt_le (l : List UInt8) : markAt l ≤ l.length := List.findIdx_le_length
theorem markAt_here {l : List UInt8} {k : Nat} (h : k < l.length) (hk : k ≤ markAt l) (hm : isMark l[k] = true) : markAt l = k := by
  have : ¬ k < markAt l := fun h1 => by
    have := List.not_of_lt_findIdx h1
    simp [hm] at this
  omega
theorem markAt_next {l : List UInt8} {k : Nat} (h : k < l.length) (hk : k ≤ markAt l) (hm : isMark l[k] = false) : k + 1 ≤ markAt l := by
  have : k ≠ markAt l := fun h1 => by
    have h2 : markAt l < l.length := by omega
    have := List.findIdx_getElem (w := h2)
    unfold markAt at h1
    simp only [← h1] at this
    rw [hm] at this; cases this
  omega
theorem u8_eq (c : UInt8) (n : Nat) (hn : n < 256) : (((c.toNat : Int) == (n : Int)) : Bool) = (c == UInt8.ofNat n) := by
  rw [Bool.eq_iff_iff]
  simp only [beq_iff_eq]
  constructor
  · intro h; apply UInt8.toNat.inj; rw [UInt8.toNat_ofNat']; omega
  · intro h; subst h; rw [UInt8.toNat_ofNat']; omega

set_option maxHeartbeats 800000 in
theorem cut_any (l : List UInt8) (w : World) (hl : l.length ≤ 100000) :
    Calls Tryz.prog 208 #[.string ⟨l.toArray⟩] w fun e w' => e = .returned (.tuple #[.string ⟨(cutF l).toArray⟩, .int .u8 (cutM l).toNat, .string ⟨(cutB l).toArray⟩]) ∧ Below w.heap.size w w' := by
  have HM := Lib.hid (markAt_le l)
  go_enter Tryz.func208, Tryz.ntmps208
  go_wp2
  go_step3
  go_wp2
  go_step3
  go_wp2
  go_loopw [5, 15] (fun a _ wr => ∃ k : Nat, a = .int .i64 k ∧ k ≤ l.length ∧ k ≤ markAt l ∧ Below w.heap.size w wr) (fun a _ _ => l.length - (intOf a).toNat)
  case atStart => exact ⟨0, rfl, Nat.zero_le _, Nat.zero_le _, Below.refl _ _⟩
  case round =>
    obtain ⟨k, rfl, hk, hf, hb⟩ := hrel
    by_cases hlt : k < l.length
    · have hsz := hb.size
      have HB := Lib.hid hb; clear hb
      have HF := Lib.hid hf; clear hf
      obtain ⟨c, hc⟩ : ∃ c, l[k] = c := ⟨_, rfl⟩
      have HC := Lib.hid hc
      have e0 : ((k : Int) == (l.length : Int)) = false := by simp; omega
      have e1 : (((c.toNat : Int) == 47) : Bool) = (c == 47) := u8_eq c 47 (by omega)
      have e2 : (((c.toNat : Int) == 46) : Bool) = (c == 46) := u8_eq c 46 (by omega)
      have KF := Lib.hid (fun hm : isMark c = true => by
        have hk := markAt_here hlt HF.out (by rw [HC.out]; exact hm)
        show (l.take k, c, l.drop (k + 1)) = (cutF l, cutM l, cutB l)
        unfold cutF cutM cutB
        rw [hk, List.getD_eq_getElem?_getD, List.getElem?_eq_getElem hlt, HC.out]
        rfl)
      cases h47 : c == 47 with
      | true =>
        have e3 := e1.trans h47
        have Hm := Lib.hid (KF.out (by unfold isMark; rw [h47]; rfl))
        clear e1 e2 h47
        go_wp2
        refine wp_region_quiet_all (fun w' => ∃ x : Lower _, w' = x.val) (by kernel_rfl) (by kernel_rfl) ⟨⟨_, (Below.refl _ _).drew⟩, rfl⟩ ?_
        repeat (go_big_quiet_step (fail))
        refine wpQuiet_nil ?_
        intro w1 hx1
        obtain ⟨x1, hx1⟩ := hx1
        have hb1 := x1.prop
        rw [← hx1] at hb1
        clear hx1 x1
        obtain ⟨hc1, hf1⟩ := bcell hb1
        have hs1 := hb1.size
        try simp at hs1
        try have hz0 : w.heap.size < w1.heap.size := by omega
        try have hz1 : w.heap.size + 1 < w1.heap.size := by omega
        try have hz2 : w.heap.size + 1 + 1 < w1.heap.size := by omega
        try have hz3 : w.heap.size + 1 + 1 + 1 < w1.heap.size := by omega
        try have hz4 : w.heap.size + 1 + 1 + 1 + 1 < w1.heap.size := by omega
        try have hz5 : w.heap.size + 1 + 1 + 1 + 1 + 1 < w1.heap.size := by omega
        go_wp2
        rw [Exit.noGoto_ret]
        go_ret3
        have Hm1 := Hm.out
        simp only [Prod.mk.injEq] at Hm1
        exact ⟨by rw [← Hm1.1, ← Hm1.2.1, ← Hm1.2.2]; rfl, bbehind HB.out hb1 hsz⟩
      | false =>
        have e3 := e1.trans h47
        cases h46 : c == 46 with
        | true =>
          have e4 := e2.trans h46
          have Hm := Lib.hid (KF.out (by unfold isMark; rw [h47, h46]; rfl))
          clear e1 e2 h46 h47
          go_wp2
          refine wp_region_quiet_all (fun w' => ∃ x : Lower _, w' = x.val) (by kernel_rfl) (by kernel_rfl) ⟨⟨_, (Below.refl _ _).drew⟩, rfl⟩ ?_
          repeat (go_big_quiet_step (fail))
          refine wpQuiet_nil ?_
          intro w1 hx1
          obtain ⟨x1, hx1⟩ := hx1
          have hb1 := x1.prop
          rw [← hx1] at hb1
          clear hx1 x1
          obtain ⟨hc1, hf1⟩ := bcell hb1
          have hs1 := hb1.size
          try simp at hs1
          try have hz0 : w.heap.size < w1.heap.size := by omega
          try have hz1 : w.heap.size + 1 < w1.heap.size := by omega
          try have hz2 : w.heap.size + 1 + 1 < w1.heap.size := by omega
          try have hz3 : w.heap.size + 1 + 1 + 1 < w1.heap.size := by omega
          try have hz4 : w.heap.size + 1 + 1 + 1 + 1 < w1.heap.size := by omega
          try have hz5 : w.heap.size + 1 + 1 + 1 + 1 + 1 < w1.heap.size := by omega
          go_wp2
          rw [Exit.noGoto_ret]
          go_ret3
          have Hm1 := Hm.out
          simp only [Prod.mk.injEq] at Hm1
          exact ⟨by rw [← Hm1.1, ← Hm1.2.1, ← Hm1.2.2]; rfl, bbehind HB.out hb1 hsz⟩
        | false =>
          have e4 := e2.trans h46
          have Hm := Lib.hid (show isMark c = false by unfold isMark; rw [h47, h46]; rfl)
          clear e1 e2 h46 h47
          go_wp2
          go_roundw
          case rel => exact ⟨k + 1, by go_num, by omega, markAt_next hlt HF.out (by rw [HC.out]; exact Hm.out), HB.out⟩
          case measure => simp [intOf]; omega
    · have hke : k = l.length := by omega
      subst hke
      have Hme := Lib.hid (show markAt l = l.length by have := HM.out; omega)
      go_wp2
      rw [Exit.noGoto_ret]
      go_ret3
      exact ⟨by unfold cutF cutM cutB; rw [Hme.out]; simp, hb⟩

/-- a text as a slice of bytes: new memory. -/
theorem conv_bytes (l : List UInt8) (w : World) : ∃ cap w1, (convert 9 92 (.string ⟨l.toArray⟩)).run Tryz.prog w = .ok (.slice (some ⟨w.heap.size, 0, none⟩) l.length cap) w1 ∧
    Below w.heap.size w w1 ∧ w.heap.size < w1.heap.size ∧ ∀ i (h : i < l.length), w1.cell? ⟨w.heap.size, i, none⟩ = some (.int .u8 (l[i].toNat : Int)) := by
  refine ⟨_, _, run_bytes_of_string w 9 92 5 ⟨l.toArray⟩ (by kernel_rfl) (by kernel_rfl) (by kernel_rfl), ?_, ?_, ?_⟩
  · exact ((Below.refl _ _).drew).alloc (Nat.le_refl _) _
  · simp
  · intro i h
    generalize grownCap w (⟨l.toArray⟩ : ByteArray).size 0 5 = cap
    exact (World.cell?_alloc_mark w.drew _ _ _ i).trans (by rw [bytesRow_at _ _ _ (by simpa using h)]; simp)

/-- a text of 1 to so many digits: what it says. -/
def digR (l : List UInt8) (most : Int) : Int × Bool := if (1 ≤ l.length ∧ (l.length : Int) ≤ most) ∧ l.all isDig = true then ((valN l : Int), true) else (0, false)
theorem digR_no {l : List UInt8} {most : Int} (h : ¬ ((1 ≤ l.length ∧ (l.length : Int) ≤ most) ∧ l.all isDig = true)) : digR l most = (0, false) := if_neg h
theorem digR_yes {l : List UInt8} {most : Int} (h : (1 ≤ l.length ∧ (l.length : Int) ≤ most) ∧ l.all isDig = true) : digR l most = ((valN l : Int), true) := if_pos h

theorem take_next (l : List UInt8) (k : Nat) (h : k < l.length) : l.take (k + 1) = l.take k ++ [l[k]] := by rw [List.take_succ_eq_append_getElem h]
theorem valN_bd {l : List UInt8} (h : l.all isDig = true) (h10 : l.length ≤ 10) : valN l ≤ 10000000000 := by
  have h1 := valN_lt l h
  have h2 : (10 : Nat) ^ l.length ≤ 10 ^ 10 := Nat.pow_le_pow_right (by omega) h10
  omega

set_option maxRecDepth 100000 in
set_option maxHeartbeats 800000 in
theorem digits_any (l : List UInt8) (most : Int) (w : World) (hl : l.length ≤ 100000) (hm : most ≤ 10) :
    Calls Tryz.prog 210 #[.string ⟨l.toArray⟩, .int .i64 most] w fun e w' => e = .returned (.tuple #[.int .i64 (digR l most).1, .bool (digR l most).2]) ∧ Below w.heap.size w w' := by
  by_cases h1 : l.length < 1
  · rw [digR_no (by omega)]
    have h1' : (l.length : Int) < 1 := by omega
    clear h1
    go_enter Tryz.func210, Tryz.ntmps210
    go_wp2
    go_ret2
    exact ⟨rfl, Below.refl _ _⟩
  · have h1' : ¬ (l.length : Int) < 1 := by omega
    by_cases h2 : most < l.length
    · rw [digR_no (by omega)]
      clear h1
      go_enter Tryz.func210, Tryz.ntmps210
      go_wp2
      go_ret2
      exact ⟨rfl, Below.refl _ _⟩
    · obtain ⟨cap, w1, hcv, hb1, hz1, hcell⟩ := conv_bytes l w
      have HC := Lib.hid hcell; clear hcell
      have HB1 := Lib.hid hb1; clear hb1
      go_enter Tryz.func210, Tryz.ntmps210
      go_wp2
      go_loopw [4, 20] (fun n i wr => ∃ k : Nat, k ≤ l.length ∧ i = .int .i64 k ∧ n = .int .i64 (valN (l.take k) : Int) ∧ (l.take k).all isDig = true ∧ wr = w1) (fun _ i _ => l.length - (intOf i).toNat)
      case atStart => exact ⟨0, Nat.zero_le _, rfl, rfl, by simp, rfl⟩
      case round =>
        obtain ⟨k, hk, rfl, rfl, ha, rfl⟩ := hrel
        by_cases hlt : k < l.length
        · have hce := HC.out k hlt
          have b1 := valN_bd ha (by simp; omega)
          have b2 := valN_lt (l.take k) ha
          have HT := Lib.hid (take_next l k hlt)
          have HA := Lib.hid ha; clear ha
          obtain ⟨c, hc⟩ : ∃ c, l[k] = c := ⟨_, rfl⟩
          have HX := Lib.hid hc
          rw [hc] at hce
          clear hc
          have cb : c.toNat < 256 := c.toNat_lt
          by_cases hc1 : c.toNat < 48
          · have Hno := Lib.hid (digR_no (l := l) (most := most) (fun h => by
              have := List.all_eq_true.1 h.2 l[k] (List.getElem_mem _)
              rw [HX.out] at this
              simp [isDig] at this
              omega))
            have hc1' : (c.toNat : Int) < 48 := by omega
            clear hc1
            go_wp2
            go_ret2
            exact ⟨by rw [Hno.out]; rfl, HB1.out⟩
          · by_cases hc2 : 57 < c.toNat
            · have Hno := Lib.hid (digR_no (l := l) (most := most) (fun h => by
                have := List.all_eq_true.1 h.2 l[k] (List.getElem_mem _)
                rw [HX.out] at this
                simp [isDig] at this
                omega))
              have hc1' : ¬ (c.toNat : Int) < 48 := by omega
              have hc2' : (57 : Int) < (c.toNat : Int) := by omega
              clear hc1 hc2
              go_wp2
              go_ret2
              exact ⟨by rw [Hno.out]; rfl, HB1.out⟩
            · have hc1' : ¬ (c.toNat : Int) < 48 := by omega
              have hc2' : ¬ (57 : Int) < (c.toNat : Int) := by omega
              have Hval := Lib.hid (show ((valN (l.take (k + 1)) : Nat) : Int) = 10 * (valN (l.take k) : Int) + ((c.toNat : Int) - 48) by
                rw [HT.out, valN_snoc, HX.out]; omega)
              have Hall := Lib.hid (show (l.take (k + 1)).all isDig = true by
                rw [HT.out, List.all_append, HA.out, HX.out]; simp [isDig]; omega)
              clear hc1 hc2
              go_wp2
              go_roundw
              case rel => exact ⟨k + 1, by omega, by go_num, by rw [Hval.out], Hall.out, trivial⟩
              case measure => simp [intOf]; omega
        · have Hke := Lib.hid (show k = l.length by omega)
          have Hyes := Lib.hid (digR_yes (l := l) (most := most) ⟨⟨by omega, by omega⟩, by have := ha; rw [Hke.out, List.take_length] at this; exact this⟩)
          have Hv := Lib.hid (show valN (l.take k) = valN l by rw [Hke.out, List.take_length])
          clear ha
          go_wp2
          go_ret2
          exact ⟨by rw [Hyes.out, ← Hv.out]; rfl, HB1.out⟩
end Go.Proofs.YtcgedpfolloinaaGreat

namespace Go.Proofs.YtcgedpfolloinaaGreat
open Go.RowKit

set_option maxHeartbeats 400000 in
theorem letter_any (c : UInt8) (w : World) : Calls Tryz.prog 116 #[.int .u8 c.toNat] w fun e w' => e = .returned (.bool (letterB c)) ∧ w = w' := by
  by_cases h1 : 97 ≤ c.toNat
  · have d1 : decide ((97 : Int) ≤ (c.toNat : Int)) = true := by simp; omega
    go_enter Tryz.func116, Tryz.ntmps116
    go_wp2
    go_ret
    exact ⟨ret_bool (by unfold letterB; rw [decide_eq_decide]; omega), rfl⟩
  · have d1 : decide ((97 : Int) ≤ (c.toNat : Int)) = false := by simp; omega
    go_enter Tryz.func116, Tryz.ntmps116
    go_wp2
    go_ret
    exact ⟨ret_bool (by unfold letterB; simp; omega), rfl⟩
set_option maxHeartbeats 400000 in
theorem qdigit_any (c : UInt8) (w : World) : Calls Tryz.prog 117 #[.int .u8 c.toNat] w fun e w' => e = .returned (.bool (digitB c)) ∧ w = w' := by
  by_cases h1 : 48 ≤ c.toNat
  · have d1 : decide ((48 : Int) ≤ (c.toNat : Int)) = true := by simp; omega
    go_enter Tryz.func117, Tryz.ntmps117
    go_wp2
    go_ret
    exact ⟨ret_bool (by unfold digitB; rw [decide_eq_decide]; omega), rfl⟩
  · have d1 : decide ((48 : Int) ≤ (c.toNat : Int)) = false := by simp; omega
    go_enter Tryz.func117, Tryz.ntmps117
    go_wp2
    go_ret
    exact ⟨ret_bool (by unfold digitB; simp; omega), rfl⟩

theorem all_range_hit {p : Nat → Bool} {n k : Nat} (hk : k < n) (h : p k = false) : (List.range n).all p = false := by
  simp only [List.all_eq_false, List.mem_range]; exact ⟨k, hk, by simp [h]⟩
theorem all_range_none {p : Nat → Bool} {n : Nat} (h : ∀ j, j < n → p j = true) : (List.range n).all p = true := by
  simp only [List.all_eq_true, List.mem_range]; intro j hj; exact h j hj
theorem getD_at {α : Type} {l : List α} {k : Nat} {d c : α} (h : k < l.length) (e : l[k] = c) : l.getD k d = c := by
  rw [List.getD_eq_getElem?_getD, List.getElem?_eq_getElem h, Option.getD_some, e]

set_option maxRecDepth 100000 in
set_option maxHeartbeats 1000000 in
theorem named_any (l : List UInt8) (w : World) (hl : l.length ≤ 1000000) : Calls Tryz.prog 65 #[.string ⟨l.toArray⟩] w fun e w' => e = .returned (.bool (namedB l)) ∧ w = w' := by
  have HB := Lib.hid (show ∀ j, j < l.length → nameAt l j = false → namedB l = false from fun j hj h => by unfold namedB; rw [all_range_hit hj h]; rfl)
  have HN := Lib.hid (show (∀ j, j < l.length → nameAt l j = true) → namedB l = inB (l.length : Int) 1 8 from fun h => by
    unfold namedB inB; rw [all_range_none h, Bool.true_and, decide_eq_decide]; omega)
  go_enter Tryz.func65, Tryz.ntmps65
  go_wp2_with fail
  go_loop [3] (fun i => ∃ k : Nat, k ≤ l.length ∧ i = .int .i64 k ∧ ∀ j, j < k → nameAt l j = true) (fun i => l.length - (intOf i).toNat)
  case atStart => exact ⟨0, Nat.zero_le _, rfl, fun j hj => absurd hj (by omega)⟩
  case round =>
    obtain ⟨k, hk, rfl, hj⟩ := hrel
    have HJ := Lib.hid hj; clear hj
    by_cases hlt : k < l.length
    · obtain ⟨c, hc⟩ : ∃ c, l[k] = c := ⟨_, rfl⟩
      have HX := Lib.hid (getD_at (d := 0) hlt hc)
      have HNA := Lib.hid (show nameAt l k = (letterB c || (decide (k ≠ 0) && digitB c)) by unfold nameAt; rw [HX.out])
      have L := Lib.hid (letter_any c)
      have D := Lib.hid (qdigit_any c)
      have next : nameAt l k = true → ∀ j, j < k + 1 → nameAt l j = true := fun h j hj => (Nat.lt_or_ge j k).elim (HJ.out j) fun h' => by rw [show j = k by omega]; exact h
      have NX := Lib.hid next
      clear next
      cases h1 : letterB c with
      | true =>
        rw [h1] at L
        have HX := Lib.hid (NX.out (by rw [HNA.out, h1]; rfl))
        clear h1
        go_wp2_with fail
        refine (L.out _).mono ?_; rintro e w' ⟨rfl, rfl⟩
        go_wp2_with fail
        go_round
        case rel => exact ⟨k + 1, by omega, by go_num, HX.out⟩
        case measure => simp [intOf]; omega
      | false =>
        rw [h1] at L
        by_cases h0 : k = 0
        · have HX := Lib.hid (HB.out k hlt (by rw [HNA.out, h1, h0]; rfl))
          have b0 : ((k : Int) == 0) = true := by simp [h0]
          clear h0 h1
          go_wp2_with fail
          refine (L.out _).mono ?_; rintro e w' ⟨rfl, rfl⟩
          go_wp2_with fail
          go_ret
          exact ⟨ret_bool HX.out.symm, rfl⟩
        · have b0 : ((k : Int) == 0) = false := by simp [h0]
          cases h2 : digitB c with
          | true =>
            rw [h2] at D
            have HX := Lib.hid (NX.out (by rw [HNA.out, h1, h2]; simp [h0]))
            clear h1 h2 h0
            go_wp2_with fail
            refine (L.out _).mono ?_; rintro e w' ⟨rfl, rfl⟩
            go_wp2_with fail
            refine (D.out _).mono ?_; rintro e w' ⟨rfl, rfl⟩
            go_wp2_with fail
            go_round
            case rel => exact ⟨k + 1, by omega, by go_num, HX.out⟩
            case measure => simp [intOf]; omega
          | false =>
            rw [h2] at D
            have HX := Lib.hid (HB.out k hlt (by rw [HNA.out, h1, h2]; simp))
            clear h1 h2 h0
            go_wp2_with fail
            refine (L.out _).mono ?_; rintro e w' ⟨rfl, rfl⟩
            go_wp2_with fail
            refine (D.out _).mono ?_; rintro e w' ⟨rfl, rfl⟩
            go_wp2_with fail
            go_ret
            exact ⟨ret_bool HX.out.symm, rfl⟩
    · have HX := Lib.hid (HN.out (fun j hj => HJ.out j (by omega)))
      go_wp2_with fail
      refine (in_any _ _ _ _).mono ?_; rintro e w' ⟨rfl, rfl⟩
      go_wp2_with fail
      go_ret
      exact ⟨ret_bool HX.out.symm, rfl⟩

theorem all_get {l : List UInt8} {p : UInt8 → Bool} (h : ∀ j, j < l.length → p (l.getD j 0) = true) : l.all p = true := by
  rw [List.all_eq_true]
  intro x hx
  obtain ⟨i, hi, rfl⟩ := List.getElem_of_mem hx
  have := h i hi
  rwa [getD_at hi rfl] at this
theorem all_not {l : List UInt8} {p : UInt8 → Bool} {j : Nat} (hj : j < l.length) (h : p (l.getD j 0) = false) : l.all p = false := by
  rw [List.all_eq_false]
  rw [getD_at hj rfl] at h
  exact ⟨l[j], List.getElem_mem _, by simp [h]⟩

set_option maxRecDepth 100000 in
set_option maxHeartbeats 1000000 in
theorem printable_any (l : List UInt8) (most : Int) (w : World) (hl : l.length ≤ 1000000) : Calls Tryz.prog 77 #[.string ⟨l.toArray⟩, .int .i64 most] w fun e w' => e = .returned (.bool (printableB l most)) ∧ w = w' := by
  have HB := Lib.hid (show ∀ j, j < l.length → printB (l.getD j 0) = false → printableB l most = false from fun j hj h => by unfold printableB; rw [all_not hj h]; rfl)
  have HN := Lib.hid (show (∀ j, j < l.length → printB (l.getD j 0) = true) → printableB l most = decide ((l.length : Int) ≤ most) from fun h => by
    unfold printableB; rw [all_get h, Bool.true_and])
  go_enter Tryz.func77, Tryz.ntmps77
  go_wp2_with fail
  go_loop [5] (fun i => ∃ k : Nat, k ≤ l.length ∧ i = .int .i64 k ∧ ∀ j, j < k → printB (l.getD j 0) = true) (fun i => l.length - (intOf i).toNat)
  case atStart => exact ⟨0, Nat.zero_le _, rfl, fun j hj => absurd hj (by omega)⟩
  case round =>
    obtain ⟨k, hk, rfl, hj⟩ := hrel
    have HJ := Lib.hid hj; clear hj
    by_cases hlt : k < l.length
    · obtain ⟨c, hc⟩ : ∃ c, l[k] = c := ⟨_, rfl⟩
      have HX := Lib.hid (getD_at (d := 0) hlt hc)
      have NX := Lib.hid (show printB (l.getD k 0) = true → ∀ j, j < k + 1 → printB (l.getD j 0) = true from fun h j hj => (Nat.lt_or_ge j k).elim (HJ.out j) fun h' => by rw [show j = k by omega]; exact h)
      by_cases h1 : c.toNat < 32
      · have HX := Lib.hid (HB.out k hlt (by rw [HX.out]; unfold printB; simp; omega))
        have d1 : decide ((c.toNat : Int) < 32) = true := by simp; omega
        go_wp2_with fail
        go_ret
        exact ⟨ret_bool HX.out.symm, rfl⟩
      · have d1 : decide ((c.toNat : Int) < 32) = false := by simp; omega
        by_cases h2 : 126 < c.toNat
        · have HX := Lib.hid (HB.out k hlt (by rw [HX.out]; unfold printB; simp; omega))
          have d2 : decide ((126 : Int) < c.toNat) = true := by simp; omega
          go_wp2_with fail
          go_ret
          exact ⟨ret_bool HX.out.symm, rfl⟩
        · have HX := Lib.hid (NX.out (by rw [HX.out]; unfold printB; simp; omega))
          have d2 : decide ((126 : Int) < c.toNat) = false := by simp; omega
          go_wp2_with fail
          go_round
          case rel => exact ⟨k + 1, by omega, by go_num, HX.out⟩
          case measure => simp [intOf]; omega
    · have HX := Lib.hid (HN.out (fun j hj => HJ.out j (by omega)))
      go_wp2_with fail
      go_ret
      exact ⟨ret_bool HX.out.symm, rfl⟩
end Go.Proofs.YtcgedpfolloinaaGreat

namespace Go.Proofs.YtcgedpfolloinaaGreat
open Go.RowKit

theorem stray_cases {k : Int} {l : List UInt8} {ats : List (List UInt8 × List UInt8)} {n d : Int} {x : List UInt8} (hs : strayB ⟨k, l, ats, n, d, x⟩ = true) :
    ((k != 0) = true ∧ (k != 1) = true ∧ (k != 2) = true) ∨
    (k = 0 ∧ ((n != 0) = true ∨ ((n != 0) = false ∧ (d != 0) = true) ∨ (n = 0 ∧ d = 0 ∧ ∃ a t, x = a :: t))) ∨
    (k = 1 ∧ ((∃ a t, l = a :: t) ∨ (l = [] ∧ 0 < ats.length) ∨ (l = [] ∧ ats = [] ∧ ∃ a t, x = a :: t))) ∨
    (k = 2 ∧ ((∃ a t, l = a :: t) ∨ (l = [] ∧ 0 < ats.length) ∨ (l = [] ∧ ats = [] ∧ ((n != 0) = true ∨ ((n != 0) = false ∧ (d != 0) = true))))) := by
  have hc : ∀ y : List UInt8, y = [] ∨ ∃ a t, y = a :: t := fun y => by cases y with | nil => exact .inl rfl | cons a t => exact .inr ⟨a, t, rfl⟩
  have ha : ats = [] ∨ 0 < ats.length := by cases ats with | nil => exact .inl rfl | cons a t => exact .inr (by simp)
  unfold strayB at hs
  by_cases k0 : k = 0
  · refine .inr (.inl ⟨k0, ?_⟩)
    by_cases hn : n = 0
    · by_cases hd : d = 0
      · rcases hc x with rfl | h
        · simp [k0, hn, hd] at hs
        · exact .inr (.inr ⟨hn, hd, h⟩)
      · exact .inr (.inl ⟨by simp [hn], by simpa using hd⟩)
    · exact .inl (by simpa using hn)
  · by_cases k1 : k = 1
    · refine .inr (.inr (.inl ⟨k1, ?_⟩))
      rcases hc l with rfl | h
      · rcases ha with rfl | h
        · rcases hc x with rfl | h
          · simp [k1] at hs
          · exact .inr (.inr ⟨rfl, rfl, h⟩)
        · exact .inr (.inl ⟨rfl, h⟩)
      · exact .inl h
    · by_cases k2 : k = 2
      · refine .inr (.inr (.inr ⟨k2, ?_⟩))
        rcases hc l with rfl | h
        · rcases ha with rfl | h
          · refine .inr (.inr ⟨rfl, rfl, ?_⟩)
            by_cases hn : n = 0
            · by_cases hd : d = 0
              · simp [k2, hn, hd] at hs
              · exact .inr ⟨by simp [hn], by simpa using hd⟩
            · exact .inl (by simpa using hn)
          · exact .inr (.inl ⟨rfl, h⟩)
        · exact .inl h
      · exact .inl ⟨by simpa using k0, by simpa using k1, by simpa using k2⟩

theorem headErr_stray {h : Hd} (hs : strayB h = true) : headErr h = 1 := if_pos hs

set_option maxRecDepth 100000 in
set_option maxHeartbeats 2000000 in
theorem qhead_stray (k : Int) (l : List UInt8) (ats : List (List UInt8 × List UInt8)) (n d : Int) (x : List UInt8) (va : Value) (w : World) (ha : AttrsLie w va ats) (hs : strayB ⟨k, l, ats, n, d, x⟩ = true) :
    Calls Tryz.prog 18 #[.agg #[.int .i64 k, .string ⟨l.toArray⟩, va, .int .i64 n, .int .i64 d, .string ⟨x.toArray⟩]] w fun e w' => e = .returned (.int .i64 1) ∧ Below w.heap.size w w' := by
  obtain ⟨a0, cap0, rfl⟩ := attrs_form ha
  clear ha
  rcases stray_cases hs with ⟨k0, k1, k2⟩ | ⟨rfl, hh⟩ | ⟨rfl, hh⟩ | ⟨rfl, hh⟩
  · clear hs
    go_enter Tryz.func18, Tryz.ntmps18
    go_wp2_with fail
    go_ret
    exact ⟨rfl, (Below.refl _ _).alloc (Nat.le_refl _) _⟩
  · clear hs
    rcases hh with hn | ⟨hn, hd⟩ | ⟨rfl, rfl, a, t, rfl⟩
    all_goals
      go_enter Tryz.func18, Tryz.ntmps18
      go_wp2_with fail
      go_ret
      exact ⟨rfl, (Below.refl _ _).alloc (Nat.le_refl _) _⟩
  · clear hs
    rcases hh with ⟨a, t, rfl⟩ | ⟨rfl, hl⟩ | ⟨rfl, rfl, a, t, rfl⟩
    · go_enter Tryz.func18, Tryz.ntmps18
      go_wp2_with fail
      go_ret
      exact ⟨rfl, (Below.refl _ _).alloc (Nat.le_refl _) _⟩
    · have d1 : decide ((0 : Int) < (ats.length : Int)) = true := by simp; omega
      go_enter Tryz.func18, Tryz.ntmps18
      go_wp2_with fail
      go_ret
      exact ⟨rfl, (Below.refl _ _).alloc (Nat.le_refl _) _⟩
    · go_enter Tryz.func18, Tryz.ntmps18
      go_wp2_with fail
      go_ret
      exact ⟨rfl, (Below.refl _ _).alloc (Nat.le_refl _) _⟩
  · clear hs
    rcases hh with ⟨a, t, rfl⟩ | ⟨rfl, hl⟩ | ⟨rfl, rfl, hn | ⟨hn, hd⟩⟩
    · go_enter Tryz.func18, Tryz.ntmps18
      go_wp2_with fail
      go_ret
      exact ⟨rfl, (Below.refl _ _).alloc (Nat.le_refl _) _⟩
    · have d1 : decide ((0 : Int) < (ats.length : Int)) = true := by simp; omega
      go_enter Tryz.func18, Tryz.ntmps18
      go_wp2_with fail
      go_ret
      exact ⟨rfl, (Below.refl _ _).alloc (Nat.le_refl _) _⟩
    all_goals
      go_enter Tryz.func18, Tryz.ntmps18
      go_wp2_with fail
      go_ret
      exact ⟨rfl, (Below.refl _ _).alloc (Nat.le_refl _) _⟩
end Go.Proofs.YtcgedpfolloinaaGreat

namespace Go.Proofs.YtcgedpfolloinaaGreat
open Go.RowKit

theorem plain_cases {k : Int} {l : List UInt8} {ats : List (List UInt8 × List UInt8)} {n d : Int} {x : List UInt8} (hs : strayB ⟨k, l, ats, n, d, x⟩ = false) :
    (k = 0 ∧ n = 0 ∧ d = 0 ∧ x = []) ∨ (k = 1 ∧ l = [] ∧ ats = [] ∧ x = []) ∨ (k = 2 ∧ l = [] ∧ ats = [] ∧ n = 0 ∧ d = 0) := by
  unfold strayB at hs
  by_cases k0 : k = 0
  · left; simp [k0] at hs; exact ⟨k0, hs.1.1, hs.1.2, hs.2⟩
  · by_cases k1 : k = 1
    · right; left; simp [k1] at hs; exact ⟨k1, hs.2.1, hs.2.2, hs.1⟩
    · by_cases k2 : k = 2
      · right; right; simp [k2] at hs; exact ⟨k2, hs.2.1, hs.2.2, hs.1.1, hs.1.2⟩
      · simp [k0, k1, k2] at hs

def prevName (ats : List (List UInt8 × List UInt8)) (j : Nat) : List UInt8 := if j = 0 then [] else (ats.getD (j - 1) ([], [])).1
theorem leB_nil {n : List UInt8} (h : namedB n = true) : leB n [] = false := by
  cases n with
  | nil => simp [namedB] at h
  | cons a t => simp [leB, Op.bytesLess]
theorem attrs_step {ats : List (List UInt8 × List UInt8)} {j : Nat} (hj : j < ats.length) :
    attrsErr (prevName ats j) (ats.drop j) = if namedB (ats.getD j ([], [])).1 = false then 2 else if leB (ats.getD j ([], [])).1 (prevName ats j) = true then 7 else
      if printableB (ats.getD j ([], [])).2 12 = false then 3 else attrsErr (prevName ats (j + 1)) (ats.drop (j + 1)) := by
  rw [List.drop_eq_getElem_cons hj]
  have e : ats.getD j ([], []) = ats[j] := by rw [List.getD_eq_getElem?_getD, List.getElem?_eq_getElem hj, Option.getD_some]
  have e2 : prevName ats (j + 1) = ats[j].1 := by unfold prevName; rw [if_neg (by omega), Nat.add_sub_cancel, e]
  rw [e, e2]
  rfl

set_option maxRecDepth 100000 in
set_option maxHeartbeats 2000000 in
theorem qhead_num (n d : Int) (a0 : Option Addr) (cap0 : Nat) (w : World) :
    Calls Tryz.prog 18 #[.agg #[.int .i64 1, .string ⟨#[]⟩, .slice a0 0 cap0, .int .i64 n, .int .i64 d, .string ⟨#[]⟩]] w fun e w' => e = .returned (.int .i64 (chk n d)) ∧ Below w.heap.size w w' := by
  go_enter Tryz.func18, Tryz.ntmps18
  go_wp2_with fail
  refine (rcheck_any _ _ _).mono ?_; rintro e w1 ⟨rfl, hb1⟩; obtain ⟨hc1, hf1⟩ := bcell hb1; have hs1 := hb1.size; (try simp at hs1); (try have hz10 : w.heap.size < w1.heap.size := by omega); (try have hz11 : w.heap.size + 1 < w1.heap.size := by omega); (try have hz12 : w.heap.size + 1 + 1 < w1.heap.size := by omega); (try have hz13 : w.heap.size + 1 + 1 + 1 < w1.heap.size := by omega); (try have hz14 : w.heap.size + 1 + 1 + 1 + 1 < w1.heap.size := by omega); (try have hz15 : w.heap.size + 1 + 1 + 1 + 1 + 1 < w1.heap.size := by omega)
  go_wp2_with fail
  go_ret
  exact ⟨rfl, by ((repeat' (first | exact Below.refl _ _ | assumption | refine Below.setCell ?_ ?_ _ | refine bdrewN ?_ _ | refine Below.drew ?_ | refine Below.alloc ?_ ?_ _ | refine bbehind ?_ (by assumption) ?_)); all_goals first | (simp; done) | (simp; omega) | omega)⟩
set_option maxRecDepth 100000 in
set_option maxHeartbeats 2000000 in
theorem qhead_text (x : List UInt8) (a0 : Option Addr) (cap0 : Nat) (w : World) (hx : x.length ≤ 1000000) :
    Calls Tryz.prog 18 #[.agg #[.int .i64 2, .string ⟨#[]⟩, .slice a0 0 cap0, .int .i64 0, .int .i64 0, .string ⟨x.toArray⟩]] w fun e w' => e = .returned (.int .i64 (if printableB x 24 = true then 0 else 3)) ∧ Below w.heap.size w w' := by
  have P := Lib.hid (fun w => printable_any x 24 w hx)
  cases hp : printableB x 24 with
  | true =>
    rw [hp] at P
    go_enter Tryz.func18, Tryz.ntmps18
    go_wp2_with fail
    refine (P.out _).mono ?_; rintro e w' ⟨rfl, rfl⟩
    go_wp2_with fail
    go_ret
    exact ⟨rfl, by ((repeat' (first | exact Below.refl _ _ | assumption | refine Below.setCell ?_ ?_ _ | refine bdrewN ?_ _ | refine Below.drew ?_ | refine Below.alloc ?_ ?_ _ | refine bbehind ?_ (by assumption) ?_)); all_goals first | (simp; done) | (simp; omega) | omega)⟩
  | false =>
    rw [hp] at P
    go_enter Tryz.func18, Tryz.ntmps18
    go_wp2_with fail
    refine (P.out _).mono ?_; rintro e w' ⟨rfl, rfl⟩
    go_wp2_with fail
    go_ret
    exact ⟨rfl, by ((repeat' (first | exact Below.refl _ _ | assumption | refine Below.setCell ?_ ?_ _ | refine bdrewN ?_ _ | refine Below.drew ?_ | refine Below.alloc ?_ ?_ _ | refine bbehind ?_ (by assumption) ?_)); all_goals first | (simp; done) | (simp; omega) | omega)⟩

set_option maxRecDepth 100000 in
set_option maxHeartbeats 4000000 in
theorem qhead_elem (l : List UInt8) (ats : List (List UInt8 × List UInt8)) (va : Value) (w : World) (ha : AttrsLie w va ats) (hl : l.length ≤ 1000000)
    (hs : ∀ j, j < ats.length → (ats.getD j ([], [])).1.length ≤ 1000000 ∧ (ats.getD j ([], [])).2.length ≤ 1000000) :
    Calls Tryz.prog 18 #[.agg #[.int .i64 0, .string ⟨l.toArray⟩, va, .int .i64 0, .int .i64 0, .string ⟨#[]⟩]] w fun e w' => e = .returned (.int .i64 (if namedB l = false then 2 else if 3 < ats.length then 4 else attrsErr [] ats)) ∧ Below w.heap.size w w' := by
  have N := Lib.hid (fun w => named_any l w hl)
  obtain ⟨a0, cap0, rfl⟩ := attrs_form ha
  have HA := Lib.hid ha
  have HS := Lib.hid hs
  clear ha hs
  cases hn : namedB l with
  | false =>
    rw [hn] at N
    go_enter Tryz.func18, Tryz.ntmps18
    go_wp2_with fail
    refine (N.out _).mono ?_; rintro e w' ⟨rfl, rfl⟩
    go_wp2_with fail
    go_ret
    exact ⟨rfl, by ((repeat' (first | exact Below.refl _ _ | assumption | refine Below.setCell ?_ ?_ _ | refine bdrewN ?_ _ | refine Below.drew ?_ | refine Below.alloc ?_ ?_ _ | refine bbehind ?_ (by assumption) ?_)); all_goals first | (simp; done) | (simp; omega) | omega)⟩
  | true =>
    rw [if_neg (by simp)]
    rw [hn] at N
    by_cases h3 : 3 < ats.length
    · rw [if_pos h3]
      have d3 : decide ((3 : Int) < (ats.length : Int)) = true := by simp; omega
      go_enter Tryz.func18, Tryz.ntmps18
      go_wp2_with fail
      refine (N.out _).mono ?_; rintro e w' ⟨rfl, rfl⟩
      go_wp2_with fail
      go_ret
      exact ⟨rfl, by ((repeat' (first | exact Below.refl _ _ | assumption | refine Below.setCell ?_ ?_ _ | refine bdrewN ?_ _ | refine Below.drew ?_ | refine Below.alloc ?_ ?_ _ | refine bbehind ?_ (by assumption) ?_)); all_goals first | (simp; done) | (simp; omega) | omega)⟩
    · rw [if_neg h3]
      have d3 : decide ((3 : Int) < (ats.length : Int)) = false := by simp; omega
      go_enter Tryz.func18, Tryz.ntmps18
      go_wp2_with fail
      refine (N.out _).mono ?_; rintro e w' ⟨rfl, rfl⟩
      go_wp2_with fail
      clear N d3
      have hsz : w.heap.size < w.heap.size + 1 := by omega
      go_loopw [3] (fun i wr => ∃ j : Nat, i = .int .i64 j ∧ j ≤ ats.length ∧ attrsErr [] ats = attrsErr (prevName ats j) (ats.drop j) ∧ wr.cell? ⟨w.heap.size, 2, none⟩ = some (.slice a0 ats.length cap0) ∧ w.heap.size < wr.heap.size ∧ Below w.heap.size w wr) (fun i _ => ats.length - (intOf i).toNat)
      case atStart => exact ⟨0, rfl, Nat.zero_le _, rfl, (by simp (maxDischargeDepth := 8) [go_sem, *]), (by first | assumption | (simp; done) | (simp; omega) | omega), by ((repeat' (first | exact Below.refl _ _ | assumption | refine Below.setCell ?_ ?_ _ | refine bdrewN ?_ _ | refine Below.drew ?_ | refine Below.alloc ?_ ?_ _ | refine bbehind ?_ (by assumption) ?_)); all_goals first | (simp; done) | (simp; omega) | omega)⟩
      case round =>
        obtain ⟨j, rfl, hj, he, cb, sb, hbw⟩ := hrel
        have HE := Lib.hid he
        clear he
        by_cases hlt : j < ats.length
        · obtain ⟨b, off, cap, hs, hcap, hlim, hb, hc⟩ := attrs_row HA.out (by omega)
          simp only [Value.slice.injEq] at hs
          obtain ⟨rfl, -, rfl⟩ := hs
          obtain ⟨c1, c2⟩ := hc j hlt
          have c1 := (hbw.cell (p := ⟨b, off + j * 2, none⟩) hb).trans c1
          have c2 := (hbw.cell (p := ⟨b, off + j * 2 + 1, none⟩) hb).trans c2
          have hbr : b < wr.heap.size := by omega
          have ST := Lib.hid (attrs_step hlt)
          obtain ⟨l1, l2⟩ := HS.out j hlt
          have N1 := Lib.hid (fun w => named_any (ats.getD j ([], [])).1 w l1)
          have P1 := Lib.hid (fun w => printable_any (ats.getD j ([], [])).2 12 w l2)
          have HC := Lib.hid hc
          clear hc
          generalize hs1 : (ats.getD j ([], [])).1 = s1 at *
          generalize hs2 : (ats.getD j ([], [])).2 = s2 at *
          clear hs1 hs2
          cases hn1 : namedB s1 with
          | false =>
            as_aux_lemma =>
              rw [hn1] at N1
              have HX := Lib.hid (HE.out.trans (ST.out.trans (if_pos hn1)))
              go_wp2_with fail
              refine (N1.out _).mono ?_; rintro e w' ⟨rfl, rfl⟩
              go_wp2_with fail
              go_ret
              exact ⟨ret_int' HX.out.symm, by ((repeat' (first | exact Below.refl _ _ | assumption | refine Below.setCell ?_ ?_ _ | refine bdrewN ?_ _ | refine Below.drew ?_ | refine Below.alloc ?_ ?_ _ | refine bbehind ?_ (by assumption) ?_)); all_goals first | (simp; done) | (simp; omega) | omega)⟩
          | true =>
            rw [hn1] at N1
            by_cases hpos : ¬ 0 < j
            · have d0 : decide (0 < j) = false := by simpa using hpos
              have HL := Lib.hid (show leB s1 (prevName ats j) = false from by rw [show j = 0 by omega]; exact leB_nil hn1)
              clear hpos
              cases hp1 : printableB s2 12 with
              | false =>
                as_aux_lemma =>
                  rw [hp1] at P1
                  have HX := Lib.hid (HE.out.trans (ST.out.trans (by rw [if_neg (by simp [hn1]), if_neg (by simp [HL.out]), if_pos hp1])))
                  go_wp2_with fail
                  refine (N1.out _).mono ?_; rintro e w' ⟨rfl, rfl⟩
                  go_wp2_with fail
                  refine wp_region_quiet_all (fun w' => ∃ x : Lower _, w' = x.val) (by kernel_rfl) (by kernel_rfl) ⟨⟨_, (Below.refl _ _).drew⟩, rfl⟩ ?_
                  repeat (go_big_quiet_step (fail))
                  refine wpQuiet_nil ?_
                  intro w1 hx1
                  obtain ⟨x1, hx1⟩ := hx1
                  have hb1 := x1.prop
                  rw [← hx1] at hb1
                  clear hx1 x1
                  obtain ⟨hc1, hf1⟩ := bcell hb1
                  have hs1 := hb1.size
                  try simp at hs1
                  try have hz10 : w.heap.size < w1.heap.size := by omega
                  try have hz11 : w.heap.size + 1 < w1.heap.size := by omega
                  try have hz12 : w.heap.size + 1 + 1 < w1.heap.size := by omega
                  try have hz13 : w.heap.size + 1 + 1 + 1 < w1.heap.size := by omega
                  try have hz14 : w.heap.size + 1 + 1 + 1 + 1 < w1.heap.size := by omega
                  try have hz15 : w.heap.size + 1 + 1 + 1 + 1 + 1 < w1.heap.size := by omega
                  go_wp2_with fail
                  refine (P1.out _).mono ?_; rintro e w' ⟨rfl, rfl⟩
                  go_wp2_with fail
                  go_ret
                  exact ⟨ret_int' HX.out.symm, by ((repeat' (first | exact Below.refl _ _ | assumption | refine Below.setCell ?_ ?_ _ | refine bdrewN ?_ _ | refine Below.drew ?_ | refine Below.alloc ?_ ?_ _ | refine bbehind ?_ (by assumption) ?_)); all_goals first | (simp; done) | (simp; omega) | omega)⟩
              | true =>
                rw [hp1] at P1
                have HX := Lib.hid (HE.out.trans (ST.out.trans (by rw [if_neg (by simp [hn1]), if_neg (by simp [HL.out]), if_neg (by simp [hp1])])))
                go_wp2_with fail
                refine (N1.out _).mono ?_; rintro e w' ⟨rfl, rfl⟩
                go_wp2_with fail
                refine wp_region_quiet_all (fun w' => ∃ x : Lower _, w' = x.val) (by kernel_rfl) (by kernel_rfl) ⟨⟨_, (Below.refl _ _).drew⟩, rfl⟩ ?_
                repeat (go_big_quiet_step (fail))
                refine wpQuiet_nil ?_
                intro w1 hx1
                obtain ⟨x1, hx1⟩ := hx1
                have hb1 := x1.prop
                rw [← hx1] at hb1
                clear hx1 x1
                obtain ⟨hc1, hf1⟩ := bcell hb1
                have hs1 := hb1.size
                try simp at hs1
                try have hz10 : w.heap.size < w1.heap.size := by omega
                try have hz11 : w.heap.size + 1 < w1.heap.size := by omega
                try have hz12 : w.heap.size + 1 + 1 < w1.heap.size := by omega
                try have hz13 : w.heap.size + 1 + 1 + 1 < w1.heap.size := by omega
                try have hz14 : w.heap.size + 1 + 1 + 1 + 1 < w1.heap.size := by omega
                try have hz15 : w.heap.size + 1 + 1 + 1 + 1 + 1 < w1.heap.size := by omega
                go_wp2_with fail
                refine (P1.out _).mono ?_; rintro e w' ⟨rfl, rfl⟩
                go_wp2_with fail
                go_roundw
                case rel => exact ⟨j + 1, by go_num, by omega, HX.out, (by simp (maxDischargeDepth := 8) [go_sem, *]), (by first | assumption | (simp; done) | (simp; omega) | omega), by ((repeat' (first | exact Below.refl _ _ | assumption | refine Below.setCell ?_ ?_ _ | refine bdrewN ?_ _ | refine Below.drew ?_ | refine Below.alloc ?_ ?_ _ | refine bbehind ?_ (by assumption) ?_)); all_goals first | (simp; done) | (simp; omega) | omega)⟩
                case measure => simp [intOf]; omega
            · obtain ⟨i, rfl⟩ : ∃ i, j = i + 1 := ⟨j - 1, by omega⟩
              have c0 := (hbw.cell (p := ⟨b, off + i * 2, none⟩) hb).trans (HC.out i (by omega)).1
              have HP := Lib.hid (show prevName ats (i + 1) = (ats.getD i ([], [])).1 from rfl)
              have d0 : decide ((0 : Int) < ((i + 1 : Nat) : Int)) = true := by simp
              have i1 : i < ats.length := by omega
              clear hpos
              generalize hs0 : (ats.getD i ([], [])).1 = s0 at *
              clear hs0
              cases hle : leB s1 s0 with
              | true =>
                have HX := Lib.hid (HE.out.trans (ST.out.trans (by rw [if_neg (by simp [hn1]), if_pos (by rw [HP.out]; exact hle)])))
                have hle' : (Op.bytesLess s1 s0 || s1 == s0) = true := hle
                clear hle
                as_aux_lemma =>
                  go_wp2_with fail
                  refine (N1.out _).mono ?_; rintro e w' ⟨rfl, rfl⟩
                  go_wp2_with fail
                  refine wp_region_quiet_all (fun w' => ∃ x : Lower _, w' = x.val) (by kernel_rfl) (by kernel_rfl) ⟨⟨_, (Below.refl _ _).drew⟩, rfl⟩ ?_
                  repeat (go_big_quiet_step (fail))
                  refine wpQuiet_nil ?_
                  intro w1 hx1
                  obtain ⟨x1, hx1⟩ := hx1
                  have hb1 := x1.prop
                  rw [← hx1] at hb1
                  clear hx1 x1
                  obtain ⟨hc1, hf1⟩ := bcell hb1
                  have hs1 := hb1.size
                  try simp at hs1
                  try have hz10 : w.heap.size < w1.heap.size := by omega
                  try have hz11 : w.heap.size + 1 < w1.heap.size := by omega
                  try have hz12 : w.heap.size + 1 + 1 < w1.heap.size := by omega
                  try have hz13 : w.heap.size + 1 + 1 + 1 < w1.heap.size := by omega
                  try have hz14 : w.heap.size + 1 + 1 + 1 + 1 < w1.heap.size := by omega
                  try have hz15 : w.heap.size + 1 + 1 + 1 + 1 + 1 < w1.heap.size := by omega
                  go_wp2_with fail
                  go_ret
                  exact ⟨ret_int' HX.out.symm, by ((repeat' (first | exact Below.refl _ _ | assumption | refine Below.setCell ?_ ?_ _ | refine bdrewN ?_ _ | refine Below.drew ?_ | refine Below.alloc ?_ ?_ _ | refine bbehind ?_ (by assumption) ?_)); all_goals first | (simp; done) | (simp; omega) | omega)⟩
              | false =>
                have hle' : (Op.bytesLess s1 s0 || s1 == s0) = false := hle
                cases hp1 : printableB s2 12 with
                | false =>
                  as_aux_lemma =>
                    rw [hp1] at P1
                    have HX := Lib.hid (HE.out.trans (ST.out.trans (by rw [if_neg (by simp [hn1]), if_neg (by rw [HP.out]; simp [hle]), if_pos hp1])))
                    clear hle
                    go_wp2_with fail
                    refine (N1.out _).mono ?_; rintro e w' ⟨rfl, rfl⟩
                    go_wp2_with fail
                    refine wp_region_quiet_all (fun w' => ∃ x : Lower _, w' = x.val) (by kernel_rfl) (by kernel_rfl) ⟨⟨_, (Below.refl _ _).drew⟩, rfl⟩ ?_
                    repeat (go_big_quiet_step (fail))
                    refine wpQuiet_nil ?_
                    intro w1 hx1
                    obtain ⟨x1, hx1⟩ := hx1
                    have hb1 := x1.prop
                    rw [← hx1] at hb1
                    clear hx1 x1
                    obtain ⟨hc1, hf1⟩ := bcell hb1
                    have hs1 := hb1.size
                    try simp at hs1
                    try have hz10 : w.heap.size < w1.heap.size := by omega
                    try have hz11 : w.heap.size + 1 < w1.heap.size := by omega
                    try have hz12 : w.heap.size + 1 + 1 < w1.heap.size := by omega
                    try have hz13 : w.heap.size + 1 + 1 + 1 < w1.heap.size := by omega
                    try have hz14 : w.heap.size + 1 + 1 + 1 + 1 < w1.heap.size := by omega
                    try have hz15 : w.heap.size + 1 + 1 + 1 + 1 + 1 < w1.heap.size := by omega
                    go_wp2_with fail
                    refine (P1.out _).mono ?_; rintro e w' ⟨rfl, rfl⟩
                    go_wp2_with fail
                    go_ret
                    exact ⟨ret_int' HX.out.symm, by ((repeat' (first | exact Below.refl _ _ | assumption | refine Below.setCell ?_ ?_ _ | refine bdrewN ?_ _ | refine Below.drew ?_ | refine Below.alloc ?_ ?_ _ | refine bbehind ?_ (by assumption) ?_)); all_goals first | (simp; done) | (simp; omega) | omega)⟩
                | true =>
                  rw [hp1] at P1
                  have HX := Lib.hid (HE.out.trans (ST.out.trans (by rw [if_neg (by simp [hn1]), if_neg (by rw [HP.out]; simp [hle]), if_neg (by simp [hp1])])))
                  clear hle
                  go_wp2_with fail
                  refine (N1.out _).mono ?_; rintro e w' ⟨rfl, rfl⟩
                  go_wp2_with fail
                  refine wp_region_quiet_all (fun w' => ∃ x : Lower _, w' = x.val) (by kernel_rfl) (by kernel_rfl) ⟨⟨_, (Below.refl _ _).drew⟩, rfl⟩ ?_
                  repeat (go_big_quiet_step (fail))
                  refine wpQuiet_nil ?_
                  intro w1 hx1
                  obtain ⟨x1, hx1⟩ := hx1
                  have hb1 := x1.prop
                  rw [← hx1] at hb1
                  clear hx1 x1
                  obtain ⟨hc1, hf1⟩ := bcell hb1
                  have hs1 := hb1.size
                  try simp at hs1
                  try have hz10 : w.heap.size < w1.heap.size := by omega
                  try have hz11 : w.heap.size + 1 < w1.heap.size := by omega
                  try have hz12 : w.heap.size + 1 + 1 < w1.heap.size := by omega
                  try have hz13 : w.heap.size + 1 + 1 + 1 < w1.heap.size := by omega
                  try have hz14 : w.heap.size + 1 + 1 + 1 + 1 < w1.heap.size := by omega
                  try have hz15 : w.heap.size + 1 + 1 + 1 + 1 + 1 < w1.heap.size := by omega
                  go_wp2_with fail
                  refine (P1.out _).mono ?_; rintro e w' ⟨rfl, rfl⟩
                  go_wp2_with fail
                  go_roundw
                  case rel => exact ⟨i + 1 + 1, by go_num, by omega, HX.out, (by simp (maxDischargeDepth := 8) [go_sem, *]), (by first | assumption | (simp; done) | (simp; omega) | omega), by ((repeat' (first | exact Below.refl _ _ | assumption | refine Below.setCell ?_ ?_ _ | refine bdrewN ?_ _ | refine Below.drew ?_ | refine Below.alloc ?_ ?_ _ | refine bbehind ?_ (by assumption) ?_)); all_goals first | (simp; done) | (simp; omega) | omega)⟩
                  case measure => simp [intOf]; omega
        · have HX := Lib.hid (show attrsErr [] ats = 0 from HE.out.trans (by rw [List.drop_of_length_le (by omega)]; rfl))
          go_wp2_with fail
          go_ret
          exact ⟨ret_int' HX.out.symm, by ((repeat' (first | exact Below.refl _ _ | assumption | refine Below.setCell ?_ ?_ _ | refine bdrewN ?_ _ | refine Below.drew ?_ | refine Below.alloc ?_ ?_ _ | refine bbehind ?_ (by assumption) ?_)); all_goals first | (simp; done) | (simp; omega) | omega)⟩
end Go.Proofs.YtcgedpfolloinaaGreat

namespace Go.Proofs.YtcgedpfolloinaaGreat
open Go.RowKit

/-- all strings of a head are short enough to be looked at. -/
structure HdFit (h : Hd) : Prop where
  l : h.l.length ≤ 1000000
  x : h.x.length ≤ 1000000
  a : ∀ j, j < h.ats.length → (h.ats.getD j ([], [])).1.length ≤ 1000000 ∧ (h.ats.getD j ([], [])).2.length ≤ 1000000
theorem hdFit_of {h : Hd} (hg : greatHead h = false) : HdFit h ∧ h.ats.length ≤ 10 := by
  unfold greatHead at hg
  simp only [Bool.or_eq_false_iff, decide_eq_false_iff_not, List.any_eq_false, List.mem_range] at hg
  obtain ⟨g1, g2, g3⟩ := hg
  refine ⟨⟨by omega, by omega, fun j hj => ?_⟩, ?_⟩
  · have := g1 j hj
    unfold greatAt at this
    simp only [Bool.or_eq_true, decide_eq_true_eq] at this
    omega
  · by_cases h10 : h.ats.length ≤ 10
    · exact h10
    · have := g1 10 (by omega)
      simp [greatAt] at this

theorem qhead_any (h : Hd) (va : Value) (w : World) (ha : AttrsLie w va h.ats) (hf : HdFit h) :
    Calls Tryz.prog 18 #[.agg #[.int .i64 h.k, .string ⟨h.l.toArray⟩, va, .int .i64 h.n, .int .i64 h.d, .string ⟨h.x.toArray⟩]] w fun e w' => e = .returned (.int .i64 (headErr h)) ∧ Below w.heap.size w w' := by
  obtain ⟨k, l, ats, n, d, x⟩ := h
  obtain ⟨f1, f2, f3⟩ := hf
  simp only at ha f1 f2 f3 ⊢
  cases hs : strayB ⟨k, l, ats, n, d, x⟩ with
  | true => rw [headErr_stray hs]; exact qhead_stray k l ats n d x va w ha hs
  | false =>
    have he : headErr ⟨k, l, ats, n, d, x⟩ = if k = 1 then chk n d else if k = 2 then (if printableB x 24 = true then 0 else 3) else elemErr ⟨k, l, ats, n, d, x⟩ := by
      unfold headErr; rw [if_neg (by simp [hs])]
    rw [he]
    rcases plain_cases hs with ⟨rfl, rfl, rfl, rfl⟩ | ⟨rfl, rfl, rfl, rfl⟩ | ⟨rfl, rfl, rfl, rfl, rfl⟩
    · rw [if_neg (by decide), if_neg (by decide)]; exact qhead_elem l ats va w ha f1 f3
    · rw [if_pos rfl]
      obtain ⟨a0, cap0, rfl⟩ := attrs_form ha
      exact qhead_num n d a0 cap0 w
    · rw [if_neg (by decide), if_pos rfl]
      obtain ⟨a0, cap0, rfl⟩ := attrs_form ha
      exact qhead_text x a0 cap0 w f2

/-- all heads of a forest are. -/
def foFit : Fo → Prop
  | .nil => True
  | .cons h ks r => HdFit h ∧ foFit ks ∧ foFit r
theorem foFit_of : ∀ {f : Fo}, greatKids f = false → foFit f
  | .nil, _ => trivial
  | .cons h ks r, hg => by
    unfold greatKids at hg
    simp only [Bool.or_eq_false_iff] at hg
    exact ⟨(hdFit_of hg.1.1).1, foFit_of hg.1.2.2.2, foFit_of hg.2⟩
theorem foFit_drop : ∀ (i : Nat) {f : Fo}, foFit f → foFit (f.drop i)
  | 0, _, h => h
  | _ + 1, .nil, _ => trivial
  | i + 1, .cons _ _ _, h => foFit_drop i h.2.2

theorem headsErr_step {f : Fo} {k : Nat} {hd : Hd} {ks : Fo} (e : f.drop k = .cons hd ks (f.drop (k + 1))) :
    headsErr (f.drop k) = if headErr hd ≠ 0 then headErr hd else if hd.k ≠ 0 ∧ ks.len ≠ 0 then 1 else if headsErr ks ≠ 0 then headsErr ks else headsErr (f.drop (k + 1)) := by
  rw [e, headsErr]

set_option maxRecDepth 100000 in
set_option maxHeartbeats 4000000 in
theorem heads_any (m : Nat) : ∀ (f : Fo) (v : Value) (w : World), f.size ≤ m → Lies w v f → foFit f →
    Calls Tryz.prog 80 #[v] w fun e w' => e = .returned (.int .i64 (headsErr f)) ∧ Below w.heap.size w w' := by
  induction m using Nat.strongRecOn with
  | ind m ih =>
    intro f v w hm hl hf
    have HL := Lib.hid hl
    have HF := Lib.hid hf
    have IH := Lib.hid ih
    have hlen := lies_len hl
    obtain ⟨a, cap, rfl⟩ := lies_form hl
    clear hl ih hf
    go_enter Tryz.func80, Tryz.ntmps80
    go_wp2_with fail
    go_loopw [3] (fun i wr => ∃ k : Nat, i = .int .i64 k ∧ k ≤ f.len ∧ headsErr f = headsErr (f.drop k) ∧ Below w.heap.size w wr) (fun i _ => f.len - (intOf i).toNat)
    case atStart => exact ⟨0, rfl, Nat.zero_le _, rfl, Below.refl _ _⟩
    case round =>
      obtain ⟨k, rfl, hk, hg, hbw⟩ := hrel
      have HN := Lib.hid hg
      clear hg
      by_cases hlt : k < f.len
      · obtain ⟨b, o, cap', hs, hcap, -, hb, hrow⟩ := lies_row HL.out (by omega)
        simp only [Value.slice.injEq] at hs
        obtain ⟨rfl, -, rfl⟩ := hs
        obtain ⟨hd, ks, e, hh, vk, c6, hlk⟩ := row_get hrow hlt
        obtain ⟨hcw, hfw⟩ := bcell hbw
        have hbr := Nat.lt_of_lt_of_le hb hbw.size
        obtain ⟨c0, c1, ⟨va, c2, ha⟩, c3, c4, c5⟩ := hdAt_below hb hbw hh
        have c6' := (hcw b (o + k * 7 + 6) hb).trans c6
        have hfk : HdFit hd ∧ foFit ks := by have := foFit_drop k HF.out; rw [e] at this; exact ⟨this.1, this.2.1⟩
        have GH := Lib.hid (qhead_any hd va wr ha hfk.1)
        have hks := kid_size e
        have GK := Lib.hid (fun w1 (hb1 : Below wr.heap.size wr w1) => IH.out ks.size (by omega) ks vk w1 (Nat.le_refl _) (lies_below (lies_below hlk hbw) hb1) hfk.2)
        have ST := Lib.hid (headsErr_step e)
        have hsz := hbw.size
        obtain ⟨ak, ck, rfl⟩ := lies_form hlk
        clear e hrow hh c6 hlk hcw hfw ha hfk
        generalize hed : headErr hd = eh at *
        generalize hek : headsErr ks = ek at *
        generalize hkl : ks.len = nk at *
        generalize hkk : hd.k = kk at *
        clear hed hek hkl hkk
        by_cases h1 : eh = 0
        · have b1 : (eh != 0) = false := by simpa using h1
          by_cases h2 : kk ≠ 0 ∧ nk ≠ 0
          · have b2 : (kk != 0) = true := by simpa using h2.1
            have b3 : decide ((0 : Int) < (nk : Int)) = true := by simp; omega
            have b4 : decide (0 < nk) = true := by simp; omega
            have HX := Lib.hid (HN.out.trans (ST.out.trans (by rw [if_neg (by simpa using h1), if_pos h2])))
            clear h1 h2
            as_aux_lemma =>
              go_wp2_with fail
              refine (GH.out).mono ?_; rintro e w1 ⟨rfl, hb1⟩; obtain ⟨hc1, hf1⟩ := bcell hb1; have hs1 := hb1.size; (try simp at hs1); (try have hz10 : w.heap.size < w1.heap.size := by omega); (try have hz11 : w.heap.size + 1 < w1.heap.size := by omega); (try have hz12 : w.heap.size + 1 + 1 < w1.heap.size := by omega); (try have hz13 : w.heap.size + 1 + 1 + 1 < w1.heap.size := by omega); (try have hz14 : w.heap.size + 1 + 1 + 1 + 1 < w1.heap.size := by omega); (try have hz15 : w.heap.size + 1 + 1 + 1 + 1 + 1 < w1.heap.size := by omega)
              go_wp2_with fail
              go_ret
              exact ⟨ret_int' HX.out.symm, by ((repeat' (first | exact Below.refl _ _ | assumption | refine Below.setCell ?_ ?_ _ | refine bdrewN ?_ _ | refine Below.drew ?_ | refine Below.alloc ?_ ?_ _ | refine bbehind ?_ (by assumption) ?_)); all_goals first | (simp; done) | (simp; omega) | omega)⟩
          · have HX0 := Lib.hid (HN.out.trans (ST.out.trans (by rw [if_neg (by simpa using h1), if_neg h2])))
            rcases (show (kk != 0) = false ∨ ((kk != 0) = true ∧ nk = 0) by
              by_cases hk0 : kk = 0
              · exact .inl (by simpa using hk0)
              · exact .inr ⟨by simpa using hk0, by omega⟩) with b2 | ⟨b2, rfl⟩
            all_goals
              clear h1 h2
              by_cases h3 : ek = 0
              · have b5 : (ek != 0) = false := by simpa using h3
                have HX := Lib.hid (HX0.out.trans (if_neg (by simpa using h3)))
                clear h3
                as_aux_lemma =>
                  go_wp2_with fail
                  refine (GH.out).mono ?_; rintro e w1 ⟨rfl, hb1⟩; obtain ⟨hc1, hf1⟩ := bcell hb1; have hs1 := hb1.size; (try simp at hs1); (try have hz10 : w.heap.size < w1.heap.size := by omega); (try have hz11 : w.heap.size + 1 < w1.heap.size := by omega); (try have hz12 : w.heap.size + 1 + 1 < w1.heap.size := by omega); (try have hz13 : w.heap.size + 1 + 1 + 1 < w1.heap.size := by omega); (try have hz14 : w.heap.size + 1 + 1 + 1 + 1 < w1.heap.size := by omega); (try have hz15 : w.heap.size + 1 + 1 + 1 + 1 + 1 < w1.heap.size := by omega)
                  go_wp2_with fail
                  refine (GK.out _ hb1).mono ?_; rintro e w2 ⟨rfl, hb2⟩; obtain ⟨hc2, hf2⟩ := bcell hb2; have hs2 := hb2.size; (try simp at hs2); (try have hz20 : w.heap.size < w2.heap.size := by omega); (try have hz21 : w.heap.size + 1 < w2.heap.size := by omega); (try have hz22 : w.heap.size + 1 + 1 < w2.heap.size := by omega); (try have hz23 : w.heap.size + 1 + 1 + 1 < w2.heap.size := by omega); (try have hz24 : w.heap.size + 1 + 1 + 1 + 1 < w2.heap.size := by omega); (try have hz25 : w.heap.size + 1 + 1 + 1 + 1 + 1 < w2.heap.size := by omega); (try have hy1_2 : w1.heap.size < w2.heap.size := by omega)
                  go_wp2_with fail
                  go_roundw
                  case rel => exact ⟨k + 1, by go_num, by omega, HX.out, by ((repeat' (first | exact Below.refl _ _ | assumption | refine Below.setCell ?_ ?_ _ | refine bdrewN ?_ _ | refine Below.drew ?_ | refine Below.alloc ?_ ?_ _ | refine bbehind ?_ (by assumption) ?_)); all_goals first | (simp; done) | (simp; omega) | omega)⟩
                  case measure => simp [intOf]; omega
              · have b5 : (ek != 0) = true := by simpa using h3
                have HX := Lib.hid (HX0.out.trans (if_pos (by simpa using h3)))
                clear h3
                as_aux_lemma =>
                  go_wp2_with fail
                  refine (GH.out).mono ?_; rintro e w1 ⟨rfl, hb1⟩; obtain ⟨hc1, hf1⟩ := bcell hb1; have hs1 := hb1.size; (try simp at hs1); (try have hz10 : w.heap.size < w1.heap.size := by omega); (try have hz11 : w.heap.size + 1 < w1.heap.size := by omega); (try have hz12 : w.heap.size + 1 + 1 < w1.heap.size := by omega); (try have hz13 : w.heap.size + 1 + 1 + 1 < w1.heap.size := by omega); (try have hz14 : w.heap.size + 1 + 1 + 1 + 1 < w1.heap.size := by omega); (try have hz15 : w.heap.size + 1 + 1 + 1 + 1 + 1 < w1.heap.size := by omega)
                  go_wp2_with fail
                  refine (GK.out _ hb1).mono ?_; rintro e w2 ⟨rfl, hb2⟩; obtain ⟨hc2, hf2⟩ := bcell hb2; have hs2 := hb2.size; (try simp at hs2); (try have hz20 : w.heap.size < w2.heap.size := by omega); (try have hz21 : w.heap.size + 1 < w2.heap.size := by omega); (try have hz22 : w.heap.size + 1 + 1 < w2.heap.size := by omega); (try have hz23 : w.heap.size + 1 + 1 + 1 < w2.heap.size := by omega); (try have hz24 : w.heap.size + 1 + 1 + 1 + 1 < w2.heap.size := by omega); (try have hz25 : w.heap.size + 1 + 1 + 1 + 1 + 1 < w2.heap.size := by omega); (try have hy1_2 : w1.heap.size < w2.heap.size := by omega)
                  go_wp2_with fail
                  go_ret
                  exact ⟨ret_int' HX.out.symm, by ((repeat' (first | exact Below.refl _ _ | assumption | refine Below.setCell ?_ ?_ _ | refine bdrewN ?_ _ | refine Below.drew ?_ | refine Below.alloc ?_ ?_ _ | refine bbehind ?_ (by assumption) ?_)); all_goals first | (simp; done) | (simp; omega) | omega)⟩
        · have b1 : (eh != 0) = true := by simpa using h1
          have HX := Lib.hid (HN.out.trans (ST.out.trans (by rw [if_pos (by simpa using h1)])))
          clear h1
          as_aux_lemma =>
            go_wp2_with fail
            refine (GH.out).mono ?_; rintro e w1 ⟨rfl, hb1⟩; obtain ⟨hc1, hf1⟩ := bcell hb1; have hs1 := hb1.size; (try simp at hs1); (try have hz10 : w.heap.size < w1.heap.size := by omega); (try have hz11 : w.heap.size + 1 < w1.heap.size := by omega); (try have hz12 : w.heap.size + 1 + 1 < w1.heap.size := by omega); (try have hz13 : w.heap.size + 1 + 1 + 1 < w1.heap.size := by omega); (try have hz14 : w.heap.size + 1 + 1 + 1 + 1 < w1.heap.size := by omega); (try have hz15 : w.heap.size + 1 + 1 + 1 + 1 + 1 < w1.heap.size := by omega)
            go_wp2_with fail
            go_ret
            exact ⟨ret_int' HX.out.symm, by ((repeat' (first | exact Below.refl _ _ | assumption | refine Below.setCell ?_ ?_ _ | refine bdrewN ?_ _ | refine Below.drew ?_ | refine Below.alloc ?_ ?_ _ | refine bbehind ?_ (by assumption) ?_)); all_goals first | (simp; done) | (simp; omega) | omega)⟩
      · have HX := Lib.hid (show headsErr f = 0 from HN.out.trans (by rw [Fo.drop_ge k f (by omega)]; rfl))
        go_wp2_with fail
        go_ret
        exact ⟨ret_int' HX.out.symm, by ((repeat' (first | exact Below.refl _ _ | assumption | refine Below.setCell ?_ ?_ _ | refine bdrewN ?_ _ | refine Below.drew ?_ | refine Below.alloc ?_ ?_ _ | refine bbehind ?_ (by assumption) ?_)); all_goals first | (simp; done) | (simp; omega) | omega)⟩

/-- a forest that the statements look at. -/
structure Small (f : Fo) : Prop where
  size : f.size ≤ 100000
  deep : f.deep ≤ 100000
  dl : deepL 0 f = f.deep
  fit : foFit f
theorem small_lies {w : World} {v : Value} {f : Fo} (h : Lies w v f) (hg : great f = false) : Small f := by
  obtain ⟨h1, h2, h3⟩ := small_of (lies_len h) (bnd_lies h) hg
  refine ⟨by omega, by omega, h3, foFit_of ?_⟩
  unfold great at hg
  simp only [Bool.or_eq_false_iff] at hg
  exact hg.2.2

set_option maxRecDepth 100000 in
set_option maxHeartbeats 1000000 in
theorem qcheck_any (f : Fo) (v : Value) (w : World) (hl : Lies w v f) (hs : Small f) :
    Calls Tryz.prog 20 #[v] w fun e w' => e = .returned (.int .i64 (foErr f)) ∧ Below w.heap.size w w' := by
  obtain ⟨s1, s2, s3, s4⟩ := hs
  have S1 := Lib.hid (sizeOf_any _ f v w (Nat.le_refl _) hl)
  rw [wrap64_id (by omega) (by omega)] at S1
  have D1 := Lib.hid (deepOf_any _ f v w (Nat.le_refl _) hl)
  rw [s3] at D1
  have H1 := Lib.hid (heads_any _ f v w (Nat.le_refl _) hl s4)
  have HE := Lib.hid (show foErr f = if 400 < f.size then 4 else if 40 < f.deep then 8 else headsErr f from rfl)
  obtain ⟨a, cap, rfl⟩ := lies_form hl
  clear hl s3 s4
  by_cases h1 : 400 < f.size
  · have d1 : decide ((400 : Int) < (f.size : Int)) = true := by simp; omega
    go_enter Tryz.func20, Tryz.ntmps20
    go_wp2_with fail
    refine S1.out.mono ?_; rintro e w' ⟨rfl, rfl⟩
    go_wp2_with fail
    go_ret
    exact ⟨ret_int' (by rw [HE.out, if_pos h1]), Below.refl _ _⟩
  · have d1 : decide ((400 : Int) < (f.size : Int)) = false := by simp; omega
    by_cases h2 : 40 < f.deep
    · have d2 : decide ((40 : Int) < (f.deep : Int)) = true := by simp; omega
      go_enter Tryz.func20, Tryz.ntmps20
      go_wp2_with fail
      refine S1.out.mono ?_; rintro e w' ⟨rfl, rfl⟩
      go_wp2_with fail
      refine D1.out.mono ?_; rintro e w' ⟨rfl, rfl⟩
      go_wp2_with fail
      go_ret
      exact ⟨ret_int' (by rw [HE.out, if_neg h1, if_pos h2]), Below.refl _ _⟩
    · have d2 : decide ((40 : Int) < (f.deep : Int)) = false := by simp; omega
      go_enter Tryz.func20, Tryz.ntmps20
      go_wp2_with fail
      refine S1.out.mono ?_; rintro e w' ⟨rfl, rfl⟩
      go_wp2_with fail
      refine D1.out.mono ?_; rintro e w' ⟨rfl, rfl⟩
      go_wp2_with fail
      refine (H1.out).mono ?_; rintro e w1 ⟨rfl, hb1⟩; obtain ⟨hc1, hf1⟩ := bcell hb1; have hs1 := hb1.size; (try simp at hs1); (try have hz10 : w.heap.size < w1.heap.size := by omega); (try have hz11 : w.heap.size + 1 < w1.heap.size := by omega); (try have hz12 : w.heap.size + 1 + 1 < w1.heap.size := by omega); (try have hz13 : w.heap.size + 1 + 1 + 1 < w1.heap.size := by omega); (try have hz14 : w.heap.size + 1 + 1 + 1 + 1 < w1.heap.size := by omega); (try have hz15 : w.heap.size + 1 + 1 + 1 + 1 + 1 < w1.heap.size := by omega)
      go_wp2_with fail
      go_ret
      exact ⟨ret_int' (by rw [HE.out, if_neg h1, if_neg h2]), by ((repeat' (first | exact Below.refl _ _ | assumption | refine Below.setCell ?_ ?_ _ | refine bdrewN ?_ _ | refine Below.drew ?_ | refine Below.alloc ?_ ?_ _ | refine bbehind ?_ (by assumption) ?_)); all_goals first | (simp; done) | (simp; omega) | omega)⟩
end Go.Proofs.YtcgedpfolloinaaGreat

namespace Go.Proofs.YtcgedpfolloinaaGreat
open Go.RowKit

set_option maxHeartbeats 400000 in
theorem tletter_any (c : UInt8) (w : World) : Calls Tryz.prog 163 #[.int .u8 c.toNat] w fun e w' => e = .returned (.bool (letterB c)) ∧ w = w' := by
  by_cases h1 : 97 ≤ c.toNat
  · have d1 : decide ((97 : Int) ≤ (c.toNat : Int)) = true := by simp; omega
    go_enter Tryz.func163, Tryz.ntmps163
    go_wp2
    go_ret
    exact ⟨ret_bool (by unfold letterB; rw [decide_eq_decide]; omega), rfl⟩
  · have d1 : decide ((97 : Int) ≤ (c.toNat : Int)) = false := by simp; omega
    go_enter Tryz.func163, Tryz.ntmps163
    go_wp2
    go_ret
    exact ⟨ret_bool (by unfold letterB; simp; omega), rfl⟩
set_option maxHeartbeats 400000 in
theorem tdigit_any (c : UInt8) (w : World) : Calls Tryz.prog 164 #[.int .u8 c.toNat] w fun e w' => e = .returned (.bool (digitB c)) ∧ w = w' := by
  by_cases h1 : 48 ≤ c.toNat
  · have d1 : decide ((48 : Int) ≤ (c.toNat : Int)) = true := by simp; omega
    go_enter Tryz.func164, Tryz.ntmps164
    go_wp2
    go_ret
    exact ⟨ret_bool (by unfold digitB; rw [decide_eq_decide]; omega), rfl⟩
  · have d1 : decide ((48 : Int) ≤ (c.toNat : Int)) = false := by simp; omega
    go_enter Tryz.func164, Tryz.ntmps164
    go_wp2
    go_ret
    exact ⟨ret_bool (by unfold digitB; simp; omega), rfl⟩
set_option maxHeartbeats 400000 in
theorem tprint_any (c : UInt8) (w : World) : Calls Tryz.prog 121 #[.int .u8 c.toNat] w fun e w' => e = .returned (.bool (printB c)) ∧ w = w' := by
  by_cases h1 : 32 ≤ c.toNat
  · have d1 : decide ((32 : Int) ≤ (c.toNat : Int)) = true := by simp; omega
    go_enter Tryz.func121, Tryz.ntmps121
    go_wp2
    go_ret
    exact ⟨ret_bool (by unfold printB; rw [decide_eq_decide]; omega), rfl⟩
  · have d1 : decide ((32 : Int) ≤ (c.toNat : Int)) = false := by simp; omega
    go_enter Tryz.func121, Tryz.ntmps121
    go_wp2
    go_ret
    exact ⟨ret_bool (by unfold printB; simp; omega), rfl⟩

/-- how long the word at the front is. -/
def wordLen (l : List UInt8) : Nat := (List.range l.length).findIdx (fun i => !nameAt l i)
theorem wordLen_le (l : List UInt8) : wordLen l ≤ l.length := by
  have := List.findIdx_le_length (xs := List.range l.length) (p := fun i => !nameAt l i)
  simpa [wordLen] using this
theorem wordLen_at {l : List UInt8} {k : Nat} (h : ∀ j, j < k → nameAt l j = true) (hk : k ≤ l.length) (hs : k = l.length ∨ nameAt l k = false) : wordLen l = k := by
  have a1 : ¬ wordLen l < k := fun hlt => by
    have hw : List.findIdx (fun i => !nameAt l i) (List.range l.length) < (List.range l.length).length := by simp only [List.length_range]; unfold wordLen at hlt; omega
    have h1 := List.findIdx_getElem (w := hw)
    rw [List.getElem_range] at h1
    have h2 := h _ hlt
    unfold wordLen at h2
    simp [h2] at h1
  rcases hs with rfl | hs
  · have := wordLen_le l; omega
  · have a2 : ¬ k < wordLen l := fun hlt => by
      have h2 := List.not_of_lt_findIdx hlt
      simp only [List.getElem_range, Bool.not_eq_false'] at h2
      rw [hs] at h2; cases h2
    omega

set_option maxRecDepth 100000 in
set_option maxHeartbeats 1000000 in
theorem wordAtFront_any (l : List UInt8) (w : World) (hl : l.length ≤ 1000000) : Calls Tryz.prog 148 #[.string ⟨l.toArray⟩] w fun e w' => e = .returned (.string ⟨(l.take (wordLen l)).toArray⟩) ∧ w = w' := by
  have HW := Lib.hid (fun k => wordLen_at (l := l) (k := k))
  go_enter Tryz.func148, Tryz.ntmps148
  go_wp2_with fail
  go_loop [3] (fun i => ∃ k : Nat, k ≤ l.length ∧ i = .int .i64 k ∧ ∀ j, j < k → nameAt l j = true) (fun i => l.length - (intOf i).toNat)
  case atStart => exact ⟨0, Nat.zero_le _, rfl, fun j hj => absurd hj (by omega)⟩
  case round =>
    obtain ⟨k, hk, rfl, hj⟩ := hrel
    have HJ := Lib.hid hj; clear hj
    by_cases hlt : k < l.length
    · obtain ⟨c, hc⟩ : ∃ c, l[k] = c := ⟨_, rfl⟩
      have HX := Lib.hid (getD_at (d := 0) hlt hc)
      have HNA := Lib.hid (show nameAt l k = (letterB c || (decide (k ≠ 0) && digitB c)) by unfold nameAt; rw [HX.out])
      have L := Lib.hid (tletter_any c)
      have D := Lib.hid (tdigit_any c)
      have NX := Lib.hid (show nameAt l k = true → ∀ j, j < k + 1 → nameAt l j = true from fun h j hj => (Nat.lt_or_ge j k).elim (HJ.out j) fun h' => by rw [show j = k by omega]; exact h)
      cases h1 : letterB c with
      | true =>
        rw [h1] at L
        have HX := Lib.hid (NX.out (by rw [HNA.out, h1]; rfl))
        clear h1
        go_wp2_with fail
        refine (L.out _).mono ?_; rintro e w' ⟨rfl, rfl⟩
        go_wp2_with fail
        go_round
        case rel => exact ⟨k + 1, by omega, by go_num, HX.out⟩
        case measure => simp [intOf]; omega
      | false =>
        rw [h1] at L
        by_cases h0 : k = 0
        · have HX := Lib.hid (HW.out k HJ.out (by omega) (.inr (by rw [HNA.out, h1, h0]; rfl)))
          have b0 : decide (0 < k) = false := by simp [h0]
          clear h0 h1
          go_wp2_with fail
          refine (L.out _).mono ?_; rintro e w' ⟨rfl, rfl⟩
          go_wp2_with fail
          rw [HX.out]
          go_ret
          exact ⟨rfl, rfl⟩
        · have b0 : decide (0 < k) = true := by simp; omega
          cases h2 : digitB c with
          | true =>
            rw [h2] at D
            have HX := Lib.hid (NX.out (by rw [HNA.out, h1, h2]; simp [h0]))
            clear h1 h2 h0
            go_wp2_with fail
            refine (L.out _).mono ?_; rintro e w' ⟨rfl, rfl⟩
            go_wp2_with fail
            refine (D.out _).mono ?_; rintro e w' ⟨rfl, rfl⟩
            go_wp2_with fail
            go_round
            case rel => exact ⟨k + 1, by omega, by go_num, HX.out⟩
            case measure => simp [intOf]; omega
          | false =>
            rw [h2] at D
            have HX := Lib.hid (HW.out k HJ.out (by omega) (.inr (by rw [HNA.out, h1, h2]; simp)))
            clear h1 h2 h0
            go_wp2_with fail
            refine (L.out _).mono ?_; rintro e w' ⟨rfl, rfl⟩
            go_wp2_with fail
            refine (D.out _).mono ?_; rintro e w' ⟨rfl, rfl⟩
            go_wp2_with fail
            rw [HX.out]
            go_ret
            exact ⟨rfl, rfl⟩
    · have HX := Lib.hid (HW.out k HJ.out hk (.inl (by omega)))
      go_wp2_with fail
      rw [HX.out]
      go_ret
      exact ⟨rfl, rfl⟩

theorem take_word_eq {l : List UInt8} : l.take (wordLen l) = l ↔ ∀ j, j < l.length → nameAt l j = true := by
  constructor
  · intro h j hj
    have hw : wordLen l = l.length := by
      have := congrArg List.length h
      rw [List.length_take] at this
      have := wordLen_le l
      omega
    have h2 := List.not_of_lt_findIdx (xs := List.range l.length) (p := fun i => !nameAt l i) (i := j) (by show j < wordLen l; omega)
    simpa using h2
  · intro h
    rw [wordLen_at h (Nat.le_refl _) (.inl rfl), List.take_length]

set_option maxRecDepth 100000 in
set_option maxHeartbeats 1000000 in
theorem isName_any (l : List UInt8) (w : World) (hl : l.length ≤ 1000000) : Calls Tryz.prog 103 #[.string ⟨l.toArray⟩] w fun e w' => e = .returned (.bool (namedB l)) ∧ w = w' := by
  have W := Lib.hid (fun w => wordAtFront_any l w hl)
  by_cases h8 : l.length ≤ 8
  · have d8 : decide ((l.length : Int) ≤ 8) = true := by simp; omega
    by_cases he : l.take (wordLen l) = l
    · have HA := take_word_eq.1 he
      have e1 : (l.take (wordLen l) == l) = true := by simp [he]
      cases l with
      | nil =>
        have HX := Lib.hid (show namedB [] = false from rfl)
        clear HA he
        go_enter Tryz.func103, Tryz.ntmps103
        go_wp2_with fail
        refine (W.out _).mono ?_; rintro e w' ⟨rfl, rfl⟩
        go_wp2_with fail
        go_ret
        exact ⟨ret_bool HX.out.symm, rfl⟩
      | cons a t =>
        have HX := Lib.hid (show namedB (a :: t) = true by unfold namedB; rw [all_range_none HA]; simp at h8 ⊢; omega)
        have hb8 : (t.length : Int) + 1 ≤ 8 := by simp at h8; omega
        clear HA he
        generalize hlw : (a :: t).take (wordLen (a :: t)) = lw at *
        clear hlw
        go_enter Tryz.func103, Tryz.ntmps103
        go_wp2_with fail
        refine (W.out _).mono ?_; rintro e w' ⟨rfl, rfl⟩
        go_wp2_with fail
        go_ret
        exact ⟨ret_bool HX.out.symm, rfl⟩
    · have e1 : (l.take (wordLen l) == l) = false := by simpa using he
      have HX := Lib.hid (show namedB l = false by
        unfold namedB
        cases ha : (List.range l.length).all (nameAt l) with
        | false => rfl
        | true => exact absurd (take_word_eq.2 (by simpa using ha)) he)
      clear he
      generalize hlw : l.take (wordLen l) = lw at *
      clear hlw
      go_enter Tryz.func103, Tryz.ntmps103
      go_wp2_with fail
      refine (W.out _).mono ?_; rintro e w' ⟨rfl, rfl⟩
      go_wp2_with fail
      go_ret
      exact ⟨ret_bool HX.out.symm, rfl⟩
  · have d8 : decide ((l.length : Int) ≤ 8) = false := by simp; omega
    have HX := Lib.hid (show namedB l = false by unfold namedB; simp; omega)
    go_enter Tryz.func103, Tryz.ntmps103
    go_wp2_with fail
    go_ret
    exact ⟨ret_bool HX.out.symm, rfl⟩
end Go.Proofs.YtcgedpfolloinaaGreat

namespace Go.Proofs.YtcgedpfolloinaaGreat
open Go.RowKit

/-- the error of a string in a head. -/
def strErr (l : List UInt8) (most : Int) : Int := if printableB l most = true then 0 else 3

set_option maxRecDepth 100000 in
set_option maxHeartbeats 1000000 in
theorem checkString_any (l : List UInt8) (most : Int) (w : World) (hl : l.length ≤ 1000000) : Calls Tryz.prog 74 #[.string ⟨l.toArray⟩, .int .i64 most] w fun e w' => e = .returned (.int .i64 (strErr l most)) ∧ Below w.heap.size w w' := by
  by_cases hm : most < (l.length : Int)
  · have dm : decide (most < (l.length : Int)) = true := by simpa using hm
    have HX := Lib.hid (show printableB l most = false by unfold printableB; simp; omega)
    go_enter Tryz.func74, Tryz.ntmps74
    go_wp2_with fail
    go_ret
    exact ⟨ret_int' (by unfold strErr; rw [HX.out]; rfl), Below.refl _ _⟩
  · have dm : decide (most < (l.length : Int)) = false := by simpa using hm
    have HB := Lib.hid (show ∀ j, j < l.length → printB (l.getD j 0) = false → printableB l most = false from fun j hj h => by unfold printableB; rw [all_not hj h]; rfl)
    have HN := Lib.hid (show (∀ j, j < l.length → printB (l.getD j 0) = true) → printableB l most = true from fun h => by
      unfold printableB; rw [all_get h, Bool.true_and]; simp; omega)
    obtain ⟨cap, w1, hcv, hb1, hz1, hcell⟩ := conv_bytes l w
    have HC := Lib.hid hcell; clear hcell
    have HB1 := Lib.hid hb1; clear hb1
    go_enter Tryz.func74, Tryz.ntmps74
    go_wp2_with fail
    go_loopw [14] (fun i wr => ∃ k : Nat, k ≤ l.length ∧ i = .int .i64 k ∧ (∀ j, j < k → printB (l.getD j 0) = true) ∧ wr = w1) (fun i _ => l.length - (intOf i).toNat)
    case atStart => exact ⟨0, Nat.zero_le _, rfl, fun j hj => absurd hj (by omega), rfl⟩
    case round =>
      obtain ⟨k, hk, rfl, hj, rfl⟩ := hrel
      have HJ := Lib.hid hj; clear hj
      by_cases hlt : k < l.length
      · have hce := HC.out k hlt
        obtain ⟨c, hc⟩ : ∃ c, l[k] = c := ⟨_, rfl⟩
        have HX := Lib.hid (getD_at (d := 0) hlt hc)
        rw [hc] at hce
        clear hc
        have NX := Lib.hid (show printB (l.getD k 0) = true → ∀ j, j < k + 1 → printB (l.getD j 0) = true from fun h j hj => (Nat.lt_or_ge j k).elim (HJ.out j) fun h' => by rw [show j = k by omega]; exact h)
        have P := Lib.hid (tprint_any c)
        cases h1 : printB c with
        | true =>
          rw [h1] at P
          have HY := Lib.hid (NX.out (by rw [HX.out]; exact h1))
          clear h1
          go_wp2_with fail
          refine (P.out _).mono ?_; rintro e w' ⟨rfl, rfl⟩
          go_wp2_with fail
          go_roundw
          case rel => exact ⟨k + 1, by omega, by go_num, HY.out, trivial⟩
          case measure => simp [intOf]; omega
        | false =>
          rw [h1] at P
          have HY := Lib.hid (HB.out k hlt (by rw [HX.out]; exact h1))
          clear h1
          go_wp2_with fail
          refine (P.out _).mono ?_; rintro e w' ⟨rfl, rfl⟩
          go_wp2_with fail
          go_ret
          exact ⟨ret_int' (by unfold strErr; rw [HY.out]; rfl), HB1.out⟩
      · have HY := Lib.hid (HN.out (fun j hj => HJ.out j (by omega)))
        go_wp2_with fail
        go_ret
        exact ⟨ret_int' (by unfold strErr; rw [HY.out]; rfl), HB1.out⟩

set_option maxRecDepth 100000 in
set_option maxHeartbeats 2000000 in
theorem stray_any (k : Int) (l : List UInt8) (ats : List (List UInt8 × List UInt8)) (n d : Int) (x : List UInt8) (va : Value) (w : World) (ha : AttrsLie w va ats) :
    Calls Tryz.prog 72 #[.agg #[.int .i64 k, .string ⟨l.toArray⟩, va, .int .i64 n, .int .i64 d, .string ⟨x.toArray⟩]] w fun e w' => e = .returned (.bool (strayB ⟨k, l, ats, n, d, x⟩)) ∧ Below w.heap.size w w' := by
  obtain ⟨a0, cap0, rfl⟩ := attrs_form ha
  clear ha
  cases hs : strayB ⟨k, l, ats, n, d, x⟩ with
  | true =>
    rcases stray_cases hs with ⟨k0, k1, k2⟩ | ⟨rfl, hh⟩ | ⟨rfl, hh⟩ | ⟨rfl, hh⟩
    · clear hs
      have k0' : (k == 0) = false := by simpa using k0
      have k1' : (k == 1) = false := by simpa using k1
      have k2' : (k == 2) = false := by simpa using k2
      clear k0 k1 k2
      go_enter Tryz.func72, Tryz.ntmps72
      go_wp2_with fail
      all_goals
        go_ret
        exact ⟨rfl, (Below.refl _ _).alloc (Nat.le_refl _) _⟩
    · clear hs
      rcases hh with hn | ⟨hn, hd⟩ | ⟨rfl, rfl, a, t, rfl⟩
      · have hn' : ¬ n = 0 := by simpa using hn
        clear hn
        go_enter Tryz.func72, Tryz.ntmps72
        go_wp2_with fail
        all_goals
          go_ret
          exact ⟨rfl, (Below.refl _ _).alloc (Nat.le_refl _) _⟩
      · have hn' : n = 0 := by simpa using hn
        have hd' : ¬ d = 0 := by simpa using hd
        clear hn hd
        subst hn'
        go_enter Tryz.func72, Tryz.ntmps72
        go_wp2_with fail
        all_goals
          go_ret
          exact ⟨rfl, (Below.refl _ _).alloc (Nat.le_refl _) _⟩
      · go_enter Tryz.func72, Tryz.ntmps72
        go_wp2_with fail
        all_goals
          go_ret
          exact ⟨rfl, (Below.refl _ _).alloc (Nat.le_refl _) _⟩
    · clear hs
      rcases hh with ⟨a, t, rfl⟩ | ⟨rfl, hl⟩ | ⟨rfl, rfl, a, t, rfl⟩
      · go_enter Tryz.func72, Tryz.ntmps72
        go_wp2_with fail
        all_goals
          go_ret
          exact ⟨rfl, (Below.refl _ _).alloc (Nat.le_refl _) _⟩
      · have d1 : decide ((0 : Int) < (ats.length : Int)) = true := by simp; omega
        go_enter Tryz.func72, Tryz.ntmps72
        go_wp2_with fail
        all_goals
          go_ret
          exact ⟨rfl, (Below.refl _ _).alloc (Nat.le_refl _) _⟩
      · go_enter Tryz.func72, Tryz.ntmps72
        go_wp2_with fail
        all_goals
          go_ret
          exact ⟨rfl, (Below.refl _ _).alloc (Nat.le_refl _) _⟩
    · clear hs
      rcases hh with ⟨a, t, rfl⟩ | ⟨rfl, hl⟩ | ⟨rfl, rfl, hn | ⟨hn, hd⟩⟩
      · go_enter Tryz.func72, Tryz.ntmps72
        go_wp2_with fail
        all_goals
          go_ret
          exact ⟨rfl, (Below.refl _ _).alloc (Nat.le_refl _) _⟩
      · have d1 : decide ((0 : Int) < (ats.length : Int)) = true := by simp; omega
        go_enter Tryz.func72, Tryz.ntmps72
        go_wp2_with fail
        all_goals
          go_ret
          exact ⟨rfl, (Below.refl _ _).alloc (Nat.le_refl _) _⟩
      · have hn' : ¬ n = 0 := by simpa using hn
        clear hn
        go_enter Tryz.func72, Tryz.ntmps72
        go_wp2_with fail
        all_goals
          go_ret
          exact ⟨rfl, (Below.refl _ _).alloc (Nat.le_refl _) _⟩
      · have hn' : n = 0 := by simpa using hn
        have hd' : ¬ d = 0 := by simpa using hd
        clear hn hd
        subst hn'
        go_enter Tryz.func72, Tryz.ntmps72
        go_wp2_with fail
        all_goals
          go_ret
          exact ⟨rfl, (Below.refl _ _).alloc (Nat.le_refl _) _⟩
  | false =>
    rcases plain_cases hs with ⟨rfl, rfl, rfl, rfl⟩ | ⟨rfl, rfl, rfl, rfl⟩ | ⟨rfl, rfl, rfl, rfl, rfl⟩
    all_goals
      clear hs
      go_enter Tryz.func72, Tryz.ntmps72
      go_wp2_with fail
      all_goals
        go_ret
        exact ⟨rfl, (Below.refl _ _).alloc (Nat.le_refl _) _⟩
end Go.Proofs.YtcgedpfolloinaaGreat

namespace Go.Proofs.YtcgedpfolloinaaGreat
open Go.RowKit

theorem strErr_eq (l : List UInt8) (most : Int) : strErr l most = if printableB l most = true then 0 else 3 := rfl
theorem attrs_step' {ats : List (List UInt8 × List UInt8)} {j : Nat} (hj : j < ats.length) :
    attrsErr (prevName ats j) (ats.drop j) = if namedB (ats.getD j ([], [])).1 = false then 2 else if leB (ats.getD j ([], [])).1 (prevName ats j) = true then 7 else
      if strErr (ats.getD j ([], [])).2 12 ≠ 0 then strErr (ats.getD j ([], [])).2 12 else attrsErr (prevName ats (j + 1)) (ats.drop (j + 1)) := by
  rw [attrs_step hj, strErr_eq]
  cases printableB (ats.getD j ([], [])).2 12 <;> simp

set_option maxRecDepth 100000 in
set_option maxHeartbeats 4000000 in
theorem checkElement_any (l : List UInt8) (ats : List (List UInt8 × List UInt8)) (n d : Int) (x : List UInt8) (va : Value) (w : World) (ha : AttrsLie w va ats) (hl : l.length ≤ 1000000)
    (hs : ∀ j, j < ats.length → (ats.getD j ([], [])).1.length ≤ 1000000 ∧ (ats.getD j ([], [])).2.length ≤ 1000000) :
    Calls Tryz.prog 75 #[.agg #[.int .i64 0, .string ⟨l.toArray⟩, va, .int .i64 n, .int .i64 d, .string ⟨x.toArray⟩]] w fun e w' => e = .returned (.int .i64 (elemErr ⟨0, l, ats, n, d, x⟩)) ∧ Below w.heap.size w w' := by
  have N := Lib.hid (fun w => isName_any l w hl)
  have HEE := Lib.hid (show elemErr ⟨0, l, ats, n, d, x⟩ = if namedB l = false then 2 else if 3 < ats.length then 4 else attrsErr [] ats from rfl)
  obtain ⟨a0, cap0, rfl⟩ := attrs_form ha
  have HA := Lib.hid ha
  have HS := Lib.hid hs
  clear ha hs
  cases hn : namedB l with
  | false =>
    rw [hn] at N
    have HX := Lib.hid (HEE.out.trans (if_pos hn))
    clear hn
    go_enter Tryz.func75, Tryz.ntmps75
    go_wp2_with fail
    refine (N.out _).mono ?_; rintro e w' ⟨rfl, rfl⟩
    go_wp2_with fail
    go_ret
    exact ⟨ret_int' HX.out.symm, by ((repeat' (first | exact Below.refl _ _ | assumption | refine Below.setCell ?_ ?_ _ | refine bdrewN ?_ _ | refine Below.drew ?_ | refine Below.alloc ?_ ?_ _ | refine bbehind ?_ (by assumption) ?_)); all_goals first | (simp; done) | (simp; omega) | omega)⟩
  | true =>
    have HE2 := Lib.hid (HEE.out.trans (if_neg (by simp [hn])))
    rw [hn] at N
    by_cases h3 : 3 < ats.length
    · have d3 : decide ((3 : Int) < (ats.length : Int)) = true := by simp; omega
      have HX := Lib.hid (HE2.out.trans (if_pos h3))
      go_enter Tryz.func75, Tryz.ntmps75
      go_wp2_with fail
      refine (N.out _).mono ?_; rintro e w' ⟨rfl, rfl⟩
      go_wp2_with fail
      go_ret
      exact ⟨ret_int' HX.out.symm, by ((repeat' (first | exact Below.refl _ _ | assumption | refine Below.setCell ?_ ?_ _ | refine bdrewN ?_ _ | refine Below.drew ?_ | refine Below.alloc ?_ ?_ _ | refine bbehind ?_ (by assumption) ?_)); all_goals first | (simp; done) | (simp; omega) | omega)⟩
    · have d3 : decide ((3 : Int) < (ats.length : Int)) = false := by simp; omega
      have HE3 := Lib.hid (HE2.out.trans (if_neg h3))
      clear HEE HE2
      go_enter Tryz.func75, Tryz.ntmps75
      go_wp2_with fail
      refine (N.out _).mono ?_; rintro e w' ⟨rfl, rfl⟩
      go_wp2_with fail
      clear N d3
      have hsz : w.heap.size < w.heap.size + 1 := by omega
      go_loopw [3, 18] (fun b i wr => ∃ j : Nat, i = .int .i64 j ∧ b = .string ⟨(prevName ats j).toArray⟩ ∧ j ≤ ats.length ∧ attrsErr [] ats = attrsErr (prevName ats j) (ats.drop j) ∧ Below w.heap.size w wr) (fun _ i _ => ats.length - (intOf i).toNat)
      case atStart => exact ⟨0, rfl, rfl, Nat.zero_le _, rfl, by ((repeat' (first | exact Below.refl _ _ | assumption | refine Below.setCell ?_ ?_ _ | refine bdrewN ?_ _ | refine Below.drew ?_ | refine Below.alloc ?_ ?_ _ | refine bbehind ?_ (by assumption) ?_)); all_goals first | (simp; done) | (simp; omega) | omega)⟩
      case round =>
        obtain ⟨j, rfl, rfl, hj, he, hbw⟩ := hrel
        have HE := Lib.hid (HE3.out.trans he)
        have HE0 := Lib.hid he
        clear he
        by_cases hlt : j < ats.length
        · obtain ⟨b, off, cap, hs, hcap, hlim, hb, hc⟩ := attrs_row HA.out (by omega)
          simp only [Value.slice.injEq] at hs
          obtain ⟨rfl, -, rfl⟩ := hs
          obtain ⟨c1, c2⟩ := hc j hlt
          have c1 := (hbw.cell (p := ⟨b, off + j * 2, none⟩) hb).trans c1
          have c2 := (hbw.cell (p := ⟨b, off + j * 2 + 1, none⟩) hb).trans c2
          have hsz := hbw.size
          have hbr : b < wr.heap.size := by omega
          have ST := Lib.hid (attrs_step' hlt)
          have HPN := Lib.hid (show prevName ats (j + 1) = (ats.getD j ([], [])).1 by unfold prevName; rw [if_neg (by omega), Nat.add_sub_cancel])
          obtain ⟨l1, l2⟩ := HS.out j hlt
          have N1 := Lib.hid (fun w => isName_any (ats.getD j ([], [])).1 w l1)
          have P1 := Lib.hid (fun w => checkString_any (ats.getD j ([], [])).2 12 w l2)
          clear hc
          generalize hs1 : (ats.getD j ([], [])).1 = s1 at *
          generalize hs2 : (ats.getD j ([], [])).2 = s2 at *
          generalize hpp : prevName ats j = pp at *
          generalize hse : strErr s2 12 = se at *
          clear hs1 hs2 hpp hse
          cases hn1 : namedB s1 with
          | false =>
            as_aux_lemma =>
              rw [hn1] at N1
              have HX := Lib.hid (HE.out.trans (ST.out.trans (if_pos hn1)))
              clear hn1
              go_wp2_with fail
              refine (N1.out _).mono ?_; rintro e w' ⟨rfl, rfl⟩
              go_wp2_with fail
              go_ret
              exact ⟨ret_int' HX.out.symm, by ((repeat' (first | exact Below.refl _ _ | assumption | refine Below.setCell ?_ ?_ _ | refine bdrewN ?_ _ | refine Below.drew ?_ | refine Below.alloc ?_ ?_ _ | refine bbehind ?_ (by assumption) ?_)); all_goals first | (simp; done) | (simp; omega) | omega)⟩
          | true =>
            rw [hn1] at N1
            cases hle : leB s1 pp with
            | true =>
              as_aux_lemma =>
                have HX := Lib.hid (HE.out.trans (ST.out.trans (by rw [if_neg (by simp [hn1]), if_pos hle])))
                have hle' : (Op.bytesLess s1 pp || s1 == pp) = true := hle
                clear hle hn1
                go_wp2_with fail
                refine (N1.out _).mono ?_; rintro e w' ⟨rfl, rfl⟩
                go_wp2_with fail
                go_ret
                exact ⟨ret_int' HX.out.symm, by ((repeat' (first | exact Below.refl _ _ | assumption | refine Below.setCell ?_ ?_ _ | refine bdrewN ?_ _ | refine Below.drew ?_ | refine Below.alloc ?_ ?_ _ | refine bbehind ?_ (by assumption) ?_)); all_goals first | (simp; done) | (simp; omega) | omega)⟩
            | false =>
              have hle' : (Op.bytesLess s1 pp || s1 == pp) = false := hle
              by_cases h0 : se = 0
              · have b0 : (se != 0) = false := by simpa using h0
                have HX := Lib.hid (HE0.out.trans (ST.out.trans (by rw [if_neg (by simp [hn1]), if_neg (by simp [hle]), if_neg (by simpa using h0)])))
                clear hle hn1 h0
                as_aux_lemma =>
                  go_wp2_with fail
                  refine (N1.out _).mono ?_; rintro e w' ⟨rfl, rfl⟩
                  go_wp2_with fail
                  refine (P1.out _).mono ?_; rintro e w1 ⟨rfl, hb1⟩; obtain ⟨hc1, hf1⟩ := bcell hb1; have hs1 := hb1.size; (try simp at hs1); (try have hz10 : w.heap.size < w1.heap.size := by omega); (try have hz11 : w.heap.size + 1 < w1.heap.size := by omega); (try have hz12 : w.heap.size + 1 + 1 < w1.heap.size := by omega); (try have hz13 : w.heap.size + 1 + 1 + 1 < w1.heap.size := by omega); (try have hz14 : w.heap.size + 1 + 1 + 1 + 1 < w1.heap.size := by omega); (try have hz15 : w.heap.size + 1 + 1 + 1 + 1 + 1 < w1.heap.size := by omega)
                  go_wp2_with fail
                  go_roundw
                  case rel => exact ⟨j + 1, by go_num, by rw [HPN.out], by omega, HX.out, by ((repeat' (first | exact Below.refl _ _ | assumption | refine Below.setCell ?_ ?_ _ | refine bdrewN ?_ _ | refine Below.drew ?_ | refine Below.alloc ?_ ?_ _ | refine bbehind ?_ (by assumption) ?_)); all_goals first | (simp; done) | (simp; omega) | omega)⟩
                  case measure => simp [intOf]; omega
              · have b0 : (se != 0) = true := by simpa using h0
                have HX := Lib.hid (HE.out.trans (ST.out.trans (by rw [if_neg (by simp [hn1]), if_neg (by simp [hle]), if_pos (by simpa using h0)])))
                clear hle hn1 h0
                as_aux_lemma =>
                  go_wp2_with fail
                  refine (N1.out _).mono ?_; rintro e w' ⟨rfl, rfl⟩
                  go_wp2_with fail
                  refine (P1.out _).mono ?_; rintro e w1 ⟨rfl, hb1⟩; obtain ⟨hc1, hf1⟩ := bcell hb1; have hs1 := hb1.size; (try simp at hs1); (try have hz10 : w.heap.size < w1.heap.size := by omega); (try have hz11 : w.heap.size + 1 < w1.heap.size := by omega); (try have hz12 : w.heap.size + 1 + 1 < w1.heap.size := by omega); (try have hz13 : w.heap.size + 1 + 1 + 1 < w1.heap.size := by omega); (try have hz14 : w.heap.size + 1 + 1 + 1 + 1 < w1.heap.size := by omega); (try have hz15 : w.heap.size + 1 + 1 + 1 + 1 + 1 < w1.heap.size := by omega)
                  go_wp2_with fail
                  go_ret
                  exact ⟨ret_int' HX.out.symm, by ((repeat' (first | exact Below.refl _ _ | assumption | refine Below.setCell ?_ ?_ _ | refine bdrewN ?_ _ | refine Below.drew ?_ | refine Below.alloc ?_ ?_ _ | refine bbehind ?_ (by assumption) ?_)); all_goals first | (simp; done) | (simp; omega) | omega)⟩
        · have HX := Lib.hid (show elemErr ⟨0, l, ats, n, d, x⟩ = 0 from HE.out.trans (by rw [List.drop_of_length_le (by omega)]; rfl))
          go_wp2_with fail
          go_ret
          exact ⟨ret_int' HX.out.symm, by ((repeat' (first | exact Below.refl _ _ | assumption | refine Below.setCell ?_ ?_ _ | refine bdrewN ?_ _ | refine Below.drew ?_ | refine Below.alloc ?_ ?_ _ | refine bbehind ?_ (by assumption) ?_)); all_goals first | (simp; done) | (simp; omega) | omega)⟩

set_option maxRecDepth 100000 in
set_option maxHeartbeats 2000000 in
theorem thead_any (h : Hd) (va : Value) (w : World) (ha : AttrsLie w va h.ats) (hf : HdFit h) :
    Calls Tryz.prog 17 #[.agg #[.int .i64 h.k, .string ⟨h.l.toArray⟩, va, .int .i64 h.n, .int .i64 h.d, .string ⟨h.x.toArray⟩]] w fun e w' => e = .returned (.int .i64 (headErr h)) ∧ Below w.heap.size w w' := by
  obtain ⟨k, l, ats, n, d, x⟩ := h
  obtain ⟨f1, f2, f3⟩ := hf
  simp only at ha f1 f2 f3 ⊢
  have S := Lib.hid (fun w1 (hb : Below w.heap.size w w1) => stray_any k l ats n d x va w1 (attrs_below ha hb))
  cases hs : strayB ⟨k, l, ats, n, d, x⟩ with
  | true =>
    have HX := Lib.hid (headErr_stray hs)
    rw [hs] at S
    clear hs ha
    go_enter Tryz.func17, Tryz.ntmps17
    go_wp2_with fail
    refine (S.out _ ((Below.refl _ _).alloc (Nat.le_refl _) _)).mono ?_; rintro e w1 ⟨rfl, hb1⟩; obtain ⟨hc1, hf1⟩ := bcell hb1; have hs1 := hb1.size; (try simp at hs1); (try have hz10 : w.heap.size < w1.heap.size := by omega); (try have hz11 : w.heap.size + 1 < w1.heap.size := by omega); (try have hz12 : w.heap.size + 1 + 1 < w1.heap.size := by omega); (try have hz13 : w.heap.size + 1 + 1 + 1 < w1.heap.size := by omega); (try have hz14 : w.heap.size + 1 + 1 + 1 + 1 < w1.heap.size := by omega); (try have hz15 : w.heap.size + 1 + 1 + 1 + 1 + 1 < w1.heap.size := by omega)
    go_wp2_with fail
    go_ret
    exact ⟨ret_int' HX.out.symm, by ((repeat' (first | exact Below.refl _ _ | assumption | refine Below.setCell ?_ ?_ _ | refine bdrewN ?_ _ | refine Below.drew ?_ | refine Below.alloc ?_ ?_ _ | refine bbehind ?_ (by assumption) ?_)); all_goals first | (simp; done) | (simp; omega) | omega)⟩
  | false =>
    have he : headErr ⟨k, l, ats, n, d, x⟩ = if k = 1 then chk n d else if k = 2 then (if printableB x 24 = true then 0 else 3) else elemErr ⟨k, l, ats, n, d, x⟩ := by
      unfold headErr; rw [if_neg (by simp [hs])]
    rw [he]
    rw [hs] at S
    have E := Lib.hid (fun w1 (hb : Below w.heap.size w w1) (h0 : k = 0) => checkElement_any l ats n d x va w1 (attrs_below ha hb) f1 f3)
    have P := Lib.hid (fun w => checkString_any x 24 w f2)
    clear he
    rcases plain_cases hs with ⟨rfl, rfl, rfl, rfl⟩ | ⟨rfl, rfl, rfl, rfl⟩ | ⟨rfl, rfl, rfl, rfl, rfl⟩
    · rw [if_neg (by decide), if_neg (by decide)]
      clear hs ha P
      go_enter Tryz.func17, Tryz.ntmps17
      go_wp2_with fail
      refine (S.out _ ((Below.refl _ _).alloc (Nat.le_refl _) _)).mono ?_; rintro e w1 ⟨rfl, hb1⟩; obtain ⟨hc1, hf1⟩ := bcell hb1; have hs1 := hb1.size; (try simp at hs1); (try have hz10 : w.heap.size < w1.heap.size := by omega); (try have hz11 : w.heap.size + 1 < w1.heap.size := by omega); (try have hz12 : w.heap.size + 1 + 1 < w1.heap.size := by omega); (try have hz13 : w.heap.size + 1 + 1 + 1 < w1.heap.size := by omega); (try have hz14 : w.heap.size + 1 + 1 + 1 + 1 < w1.heap.size := by omega); (try have hz15 : w.heap.size + 1 + 1 + 1 + 1 + 1 < w1.heap.size := by omega)
      go_wp2_with fail
      refine (E.out _ (((Below.refl _ _).alloc (Nat.le_refl _) _).trans (hb1.mono (by simp))) trivial).mono ?_; rintro e w2 ⟨rfl, hb2⟩; obtain ⟨hc2, hf2⟩ := bcell hb2; have hs2 := hb2.size; (try simp at hs2); (try have hz20 : w.heap.size < w2.heap.size := by omega); (try have hz21 : w.heap.size + 1 < w2.heap.size := by omega); (try have hz22 : w.heap.size + 1 + 1 < w2.heap.size := by omega); (try have hz23 : w.heap.size + 1 + 1 + 1 < w2.heap.size := by omega); (try have hz24 : w.heap.size + 1 + 1 + 1 + 1 < w2.heap.size := by omega); (try have hz25 : w.heap.size + 1 + 1 + 1 + 1 + 1 < w2.heap.size := by omega); (try have hy1_2 : w1.heap.size < w2.heap.size := by omega)
      go_wp2_with fail
      go_ret
      exact ⟨rfl, by ((repeat' (first | exact Below.refl _ _ | assumption | refine Below.setCell ?_ ?_ _ | refine bdrewN ?_ _ | refine Below.drew ?_ | refine Below.alloc ?_ ?_ _ | refine bbehind ?_ (by assumption) ?_)); all_goals first | (simp; done) | (simp; omega) | omega)⟩
    · rw [if_pos rfl]
      clear hs ha P E
      go_enter Tryz.func17, Tryz.ntmps17
      go_wp2_with fail
      refine (S.out _ ((Below.refl _ _).alloc (Nat.le_refl _) _)).mono ?_; rintro e w1 ⟨rfl, hb1⟩; obtain ⟨hc1, hf1⟩ := bcell hb1; have hs1 := hb1.size; (try simp at hs1); (try have hz10 : w.heap.size < w1.heap.size := by omega); (try have hz11 : w.heap.size + 1 < w1.heap.size := by omega); (try have hz12 : w.heap.size + 1 + 1 < w1.heap.size := by omega); (try have hz13 : w.heap.size + 1 + 1 + 1 < w1.heap.size := by omega); (try have hz14 : w.heap.size + 1 + 1 + 1 + 1 < w1.heap.size := by omega); (try have hz15 : w.heap.size + 1 + 1 + 1 + 1 + 1 < w1.heap.size := by omega)
      go_wp2_with fail
      refine (check_any _ _ _).mono ?_; rintro e w2 ⟨rfl, hb2⟩; obtain ⟨hc2, hf2⟩ := bcell hb2; have hs2 := hb2.size; (try simp at hs2); (try have hz20 : w.heap.size < w2.heap.size := by omega); (try have hz21 : w.heap.size + 1 < w2.heap.size := by omega); (try have hz22 : w.heap.size + 1 + 1 < w2.heap.size := by omega); (try have hz23 : w.heap.size + 1 + 1 + 1 < w2.heap.size := by omega); (try have hz24 : w.heap.size + 1 + 1 + 1 + 1 < w2.heap.size := by omega); (try have hz25 : w.heap.size + 1 + 1 + 1 + 1 + 1 < w2.heap.size := by omega); (try have hy1_2 : w1.heap.size < w2.heap.size := by omega)
      go_wp2_with fail
      go_ret
      exact ⟨rfl, by ((repeat' (first | exact Below.refl _ _ | assumption | refine Below.setCell ?_ ?_ _ | refine bdrewN ?_ _ | refine Below.drew ?_ | refine Below.alloc ?_ ?_ _ | refine bbehind ?_ (by assumption) ?_)); all_goals first | (simp; done) | (simp; omega) | omega)⟩
    · rw [if_neg (by decide), if_pos rfl, ← strErr_eq]
      clear hs ha E
      go_enter Tryz.func17, Tryz.ntmps17
      go_wp2_with fail
      refine (S.out _ ((Below.refl _ _).alloc (Nat.le_refl _) _)).mono ?_; rintro e w1 ⟨rfl, hb1⟩; obtain ⟨hc1, hf1⟩ := bcell hb1; have hs1 := hb1.size; (try simp at hs1); (try have hz10 : w.heap.size < w1.heap.size := by omega); (try have hz11 : w.heap.size + 1 < w1.heap.size := by omega); (try have hz12 : w.heap.size + 1 + 1 < w1.heap.size := by omega); (try have hz13 : w.heap.size + 1 + 1 + 1 < w1.heap.size := by omega); (try have hz14 : w.heap.size + 1 + 1 + 1 + 1 < w1.heap.size := by omega); (try have hz15 : w.heap.size + 1 + 1 + 1 + 1 + 1 < w1.heap.size := by omega)
      go_wp2_with fail
      refine (P.out _).mono ?_; rintro e w2 ⟨rfl, hb2⟩; obtain ⟨hc2, hf2⟩ := bcell hb2; have hs2 := hb2.size; (try simp at hs2); (try have hz20 : w.heap.size < w2.heap.size := by omega); (try have hz21 : w.heap.size + 1 < w2.heap.size := by omega); (try have hz22 : w.heap.size + 1 + 1 < w2.heap.size := by omega); (try have hz23 : w.heap.size + 1 + 1 + 1 < w2.heap.size := by omega); (try have hz24 : w.heap.size + 1 + 1 + 1 + 1 < w2.heap.size := by omega); (try have hz25 : w.heap.size + 1 + 1 + 1 + 1 + 1 < w2.heap.size := by omega); (try have hy1_2 : w1.heap.size < w2.heap.size := by omega)
      go_wp2_with fail
      go_ret
      exact ⟨rfl, by ((repeat' (first | exact Below.refl _ _ | assumption | refine Below.setCell ?_ ?_ _ | refine bdrewN ?_ _ | refine Below.drew ?_ | refine Below.alloc ?_ ?_ _ | refine bbehind ?_ (by assumption) ?_)); all_goals first | (simp; done) | (simp; omega) | omega)⟩
end Go.Proofs.YtcgedpfolloinaaGreat
