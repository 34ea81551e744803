/- What the proof of PrfTreeTexts rests on, part 9 of 13. -/
import Derived.IntWalk
import Derived.Deep.DeepCutAuto
import Derived.Test.YtcgedpfolloinaaGreatPPrfTreeTexts8
namespace Go.Proofs.YtcgedpfolloinaaGreat
open Go.RowKit Go.BigFrame

/-- a whole number's text. -/
def tellS (n : Int) : List UInt8 := signText n (digs n.natAbs)

theorem tell_neg1 {n : Int} (h : n < 0) (k : -10 < n) : tellS n = 45 :: tellS (-n) := by
  unfold tellS signText
  rw [if_pos h, if_neg (by omega), Int.natAbs_neg]
theorem tdiv_abs (n : Int) : (n.tdiv 10).natAbs = n.natAbs / 10 := by rw [Int.natAbs_tdiv]; rfl
theorem tmod_abs (n : Int) : (n.tmod 10).natAbs = n.natAbs % 10 := by rw [Int.natAbs_tmod]; rfl
theorem tdiv_neg' {n : Int} (h : n ≤ 0) : n.tdiv 10 ≤ 0 := by
  have : (-n).tdiv 10 = -(n.tdiv 10) := Int.neg_tdiv ..
  have := Int.tdiv_nonneg (a := -n) (b := 10) (by omega) (by omega)
  omega
theorem tmod_neg' {n : Int} (h : n ≤ 0) : n.tmod 10 ≤ 0 := by
  have : (-n).tmod 10 = -(n.tmod 10) := Int.neg_tmod ..
  have := Int.tmod_nonneg (a := -n) 10 (by omega)
  omega
theorem tell_neg {n : Int} (h : n ≤ -10) : tellS n = tellS (n.tdiv 10) ++ tellS (-(n.tmod 10)) := by
  have h1 := tdiv_abs n
  have h2 := tmod_abs n
  have h3 := tdiv_neg' (n := n) (by omega)
  have h4 := tmod_neg' (n := n) (by omega)
  unfold tellS signText
  rw [if_pos (by omega), if_pos (by omega), if_neg (by omega), Int.natAbs_neg, h1, h2, digs_ge (by omega)]
  show 45 :: (digs (n.natAbs / 10) ++ [dig n.natAbs]) = (45 :: digs (n.natAbs / 10)) ++ digs (n.natAbs % 10)
  rw [digs_lt (n := n.natAbs % 10) (by omega)]
  have e : dig n.natAbs = dig (n.natAbs % 10) := by unfold dig; congr 2; omega
  rw [e]; rfl
theorem tell_one {n : Int} (h : 0 ≤ n) (k : n < 10) : ∃ u : UInt8, tellS n = [u] ∧ 48 + n = (u.toNat : Int) := by
  refine ⟨dig n.natAbs, ?_, by rw [dig_nat]; omega⟩
  unfold tellS signText
  rw [if_neg (by omega), digs_lt (by omega)]
theorem tell_len {n : Int} (h1 : -1000000000000000000 ≤ n) (h2 : n ≤ 1000000000000000000) : (tellS n).length ≤ 20 := by
  have := digs_len 18 n.natAbs (by omega)
  have := signText_len n (digs n.natAbs)
  unfold tellS; omega
theorem tell_pos {n : Int} (h : 10 ≤ n) : tellS n = tellS (n / 10) ++ tellS (n % 10) := by
  unfold tellS signText
  rw [if_neg (by omega), if_neg (by omega), if_neg (by omega), digs_ge (by omega), digs_lt (n := (n % 10).natAbs) (by omega)]
  have e1 : (n / 10).natAbs = n.natAbs / 10 := by omega
  have e2 : dig n.natAbs = dig (n % 10).natAbs := by unfold dig; congr 1; omega
  rw [e1, e2]

@[go_sem] theorem str_app (a b : List UInt8) : (⟨a.toArray⟩ ++ ⟨b.toArray⟩ : ByteArray) = ⟨(a ++ b).toArray⟩ := by
  apply ByteArray.ext; rw [ByteArray.data_append]; simp
theorem ret_str {a b : List UInt8} (h : a = b) : Ending.returned (.string ⟨a.toArray⟩) = .returned (.string ⟨b.toArray⟩) := by rw [h]

set_option maxRecDepth 100000 in
set_option maxHeartbeats 1000000 in
theorem tell_any (f : Nat) : ∀ (n : Int) (w : World), 4 * (n.natAbs : Int) - n < f → -1000000000000000000 ≤ n → n ≤ 1000000000000000000 →
    Calls Tryz.prog 175 #[.int .i64 n] w fun e w' => e = .returned (.string ⟨(tellS n).toArray⟩) ∧ Below w.heap.size w w' := by
  induction f with
  | zero => intro n w h; simp at h; omega
  | succ f ih =>
    intro n w hf h1 h2
    have IH := Lib.hid ih; clear ih
    by_cases h0 : n < 0
    · by_cases h10 : -10 < n
      · have T := Lib.hid (tell_neg1 h0 h10)
        have l1 := tell_len (n := -n) (by omega) (by omega)
        go_enter Tryz.func175, Tryz.ntmps175
        go_wp2_with fail
        refine (IH.out (-n) _ (by omega) (by omega) (by omega)).mono ?_; rintro e w1 ⟨rfl, hb1⟩; obtain ⟨hc1, hf1⟩ := bcell hb1; have hs1 := hb1.size; (try simp at hs1); (try have hz10 : w.heap.size < w1.heap.size := by omega); (try have hz11 : w.heap.size + 1 < w1.heap.size := by omega); (try have hz12 : w.heap.size + 1 + 1 < w1.heap.size := by omega); (try have hz13 : w.heap.size + 1 + 1 + 1 < w1.heap.size := by omega); (try have hz14 : w.heap.size + 1 + 1 + 1 + 1 < w1.heap.size := by omega); (try have hz15 : w.heap.size + 1 + 1 + 1 + 1 + 1 < w1.heap.size := by omega)
        go_wp2
        go_ret
        exact ⟨by rw [T.out]; rfl, by ((repeat' (first | exact Below.refl _ _ | assumption | refine Below.setCell ?_ ?_ _ | refine bdrewN ?_ _ | refine Below.drew ?_ | refine Below.alloc ?_ ?_ _ | refine bbehind ?_ (by assumption) ?_)); all_goals first | (simp; done) | (simp; omega) | omega)⟩
      · have T := Lib.hid (tell_neg (n := n) (by omega))
        have q1 := tdiv_abs n
        have q2 := tmod_abs n
        have q3 := tdiv_neg' (n := n) (by omega)
        have q4 := tmod_neg' (n := n) (by omega)
        have b1 : -1000000000000000000 ≤ n.tdiv 10 := by omega
        have b2 : -10 < n.tmod 10 := by omega
        have l1 := tell_len (n := n.tdiv 10) (by omega) (by omega)
        have l2 := tell_len (n := -(n.tmod 10)) (by omega) (by omega)
        have q5 := Lib.hid q1; clear q1
        have q6 := Lib.hid q2; clear q2
        go_enter Tryz.func175, Tryz.ntmps175
        go_wp2_with fail
        refine (IH.out (n.tdiv 10) _ (by have := q5.out; omega) (by omega) (by omega)).mono ?_; rintro e w1 ⟨rfl, hb1⟩; obtain ⟨hc1, hf1⟩ := bcell hb1; have hs1 := hb1.size; (try simp at hs1); (try have hz10 : w.heap.size < w1.heap.size := by omega); (try have hz11 : w.heap.size + 1 < w1.heap.size := by omega); (try have hz12 : w.heap.size + 1 + 1 < w1.heap.size := by omega); (try have hz13 : w.heap.size + 1 + 1 + 1 < w1.heap.size := by omega); (try have hz14 : w.heap.size + 1 + 1 + 1 + 1 < w1.heap.size := by omega); (try have hz15 : w.heap.size + 1 + 1 + 1 + 1 + 1 < w1.heap.size := by omega)
        go_wp2_with fail
        refine (IH.out (-(n.tmod 10)) _ (by have := q6.out; omega) (by omega) (by omega)).mono ?_; rintro e w2 ⟨rfl, hb2⟩; obtain ⟨hc2, hf2⟩ := bcell hb2; have hs2 := hb2.size; (try simp at hs2); (try have hz20 : w.heap.size < w2.heap.size := by omega); (try have hz21 : w.heap.size + 1 < w2.heap.size := by omega); (try have hz22 : w.heap.size + 1 + 1 < w2.heap.size := by omega); (try have hz23 : w.heap.size + 1 + 1 + 1 < w2.heap.size := by omega); (try have hz24 : w.heap.size + 1 + 1 + 1 + 1 < w2.heap.size := by omega); (try have hz25 : w.heap.size + 1 + 1 + 1 + 1 + 1 < w2.heap.size := by omega); (try have hy1_2 : w1.heap.size < w2.heap.size := by omega)
        go_wp2
        go_ret
        exact ⟨by rw [T.out]; rfl, by ((repeat' (first | exact Below.refl _ _ | assumption | refine Below.setCell ?_ ?_ _ | refine bdrewN ?_ _ | refine Below.drew ?_ | refine Below.alloc ?_ ?_ _ | refine bbehind ?_ (by assumption) ?_)); all_goals first | (simp; done) | (simp; omega) | omega)⟩
    · by_cases h10 : n < 10
      · obtain ⟨u, hT, hu⟩ := tell_one (by omega) h10
        have T := Lib.hid hT; clear hT
        have hcv : (convert 92 9 (.slice (some ⟨w.heap.size, 0, none⟩) 1 1)).run Tryz.prog (w.alloc (.cells #[.int .u8 (48 + n)] 5)) = .ok (.string ⟨[u].toArray⟩) (w.alloc (.cells #[.int .u8 (48 + n)] 5)) := by
          refine run_convert_bytes_back _ _ _ 5 _ _ [u] (by kernel_rfl) (by kernel_rfl) (by kernel_rfl) fun j hj => ?_
          have : j = 0 := by simpa using hj
          subst this
          show World.cell? _ ⟨w.heap.size, 0, none⟩ = _
          rw [World.cell?_alloc_at (hn := rfl), hu]; rfl
        clear hu
        go_enter Tryz.func175, Tryz.ntmps175
        go_wp2
        go_ret
        exact ⟨by rw [T.out]; rfl, by ((repeat' (first | exact Below.refl _ _ | assumption | refine Below.setCell ?_ ?_ _ | refine bdrewN ?_ _ | refine Below.drew ?_ | refine Below.alloc ?_ ?_ _ | refine bbehind ?_ (by assumption) ?_)); all_goals first | (simp; done) | (simp; omega) | omega)⟩
      · have T := Lib.hid (tell_pos (n := n) (by omega))
        have b1 : 0 ≤ n / 10 := by omega
        have b2 : 0 ≤ n % 10 := by omega
        have b3 : n / 10 ≤ n := by omega
        have b4 : n % 10 < 10 := by omega
        have l1 := tell_len (n := n / 10) (by omega) (by omega)
        have l2 := tell_len (n := n % 10) (by omega) (by omega)
        go_enter Tryz.func175, Tryz.ntmps175
        go_wp2_with fail
        refine (IH.out (n / 10) _ (by omega) (by omega) (by omega)).mono ?_; rintro e w1 ⟨rfl, hb1⟩; obtain ⟨hc1, hf1⟩ := bcell hb1; have hs1 := hb1.size; (try simp at hs1); (try have hz10 : w.heap.size < w1.heap.size := by omega); (try have hz11 : w.heap.size + 1 < w1.heap.size := by omega); (try have hz12 : w.heap.size + 1 + 1 < w1.heap.size := by omega); (try have hz13 : w.heap.size + 1 + 1 + 1 < w1.heap.size := by omega); (try have hz14 : w.heap.size + 1 + 1 + 1 + 1 < w1.heap.size := by omega); (try have hz15 : w.heap.size + 1 + 1 + 1 + 1 + 1 < w1.heap.size := by omega)
        go_wp2_with fail
        refine (IH.out (n % 10) _ (by omega) (by omega) (by omega)).mono ?_; rintro e w2 ⟨rfl, hb2⟩; obtain ⟨hc2, hf2⟩ := bcell hb2; have hs2 := hb2.size; (try simp at hs2); (try have hz20 : w.heap.size < w2.heap.size := by omega); (try have hz21 : w.heap.size + 1 < w2.heap.size := by omega); (try have hz22 : w.heap.size + 1 + 1 < w2.heap.size := by omega); (try have hz23 : w.heap.size + 1 + 1 + 1 < w2.heap.size := by omega); (try have hz24 : w.heap.size + 1 + 1 + 1 + 1 < w2.heap.size := by omega); (try have hz25 : w.heap.size + 1 + 1 + 1 + 1 + 1 < w2.heap.size := by omega); (try have hy1_2 : w1.heap.size < w2.heap.size := by omega)
        go_wp2
        go_ret
        exact ⟨by rw [T.out]; rfl, by ((repeat' (first | exact Below.refl _ _ | assumption | refine Below.setCell ?_ ?_ _ | refine bdrewN ?_ _ | refine Below.drew ?_ | refine Below.alloc ?_ ?_ _ | refine bbehind ?_ (by assumption) ?_)); all_goals first | (simp; done) | (simp; omega) | omega)⟩
end Go.Proofs.YtcgedpfolloinaaGreat

namespace Go.Proofs.YtcgedpfolloinaaGreat
open Go.RowKit

theorem ext_one {l : List UInt8} {k : Nat} (h : k < l.length) : (⟨l.toArray⟩ : ByteArray).extract k (k + 1) = ⟨[l[k]].toArray⟩ := by
  apply ByteArray.ext
  rw [ByteArray.data_extract]
  show l.toArray.extract k (k + 1) = [l[k]].toArray
  rw [List.extract_toArray, List.extract_eq_take_drop, List.drop_eq_getElem_cons h, show k + 1 - k = 1 by omega, List.take_succ_cons, List.take_zero]

set_option maxRecDepth 100000 in
set_option maxHeartbeats 2000000 in
theorem qquoted_any (s : List UInt8) (w : World) (hl : s.length ≤ 100000) :
    Calls Tryz.prog 158 #[.string ⟨s.toArray⟩] w fun e w' => e = .returned (.string ⟨(quoQ s).toArray⟩) ∧ Below w.heap.size w w' := by
  go_enter Tryz.func158, Tryz.ntmps158
  go_wp2_with fail
  go_loopw [3, 4] (fun o i wr => ∃ k : Nat, k ≤ s.length ∧ i = .int .i64 k ∧ o = .string ⟨(34 :: escQ (s.take k)).toArray⟩ ∧ Below w.heap.size w wr) (fun _ i _ => s.length - (intOf i).toNat)
  case atStart => exact ⟨0, Nat.zero_le _, rfl, rfl, Below.refl _ _⟩
  case round =>
    obtain ⟨k, hk, rfl, rfl, hbw⟩ := hrel
    have hel := escQ_len (s.take k)
    have hel2 : (s.take k).length ≤ s.length := by simp; omega
    by_cases hlt : k < s.length
    · have dk : decide (k < s.length) = true := by simpa using hlt
      have HT := Lib.hid (escQ_take hlt)
      have HX := Lib.hid (ext_one hlt)
      obtain ⟨c, hc⟩ : ∃ c, s[k] = c := ⟨_, rfl⟩
      rw [hc] at HT HX
      have hx := HX.out
      generalize escQ (s.take k) = acc at *
      by_cases h1 : c.toNat = 34
      · have HE := Lib.hid (HT.out.trans (by rw [if_pos (.inl h1)]))
        have b1 : ((c.toNat : Int) == 34) = true := by rw [beq_iff_eq]; omega
        have b1' : (c.toNat == 34) = true := by simpa using h1
        clear h1
        go_wp2_with fail
        go_roundw
        case rel => exact ⟨k + 1, by omega, by go_num, by rw [HE.out], hbw⟩
        case measure => simp [intOf]; omega
      · have b1 : ((c.toNat : Int) == 34) = false := by rw [beq_eq_false_iff_ne]; omega
        have b1' : (c.toNat == 34) = false := by simpa using h1
        by_cases h2 : c.toNat = 92
        · have HE := Lib.hid (HT.out.trans (by rw [if_pos (.inr h2)]))
          have b2 : ((c.toNat : Int) == 92) = true := by rw [beq_iff_eq]; omega
          have b2' : (c.toNat == 92) = true := by simpa using h2
          clear h1 h2
          go_wp2_with fail
          go_roundw
          case rel => exact ⟨k + 1, by omega, by go_num, by rw [HE.out], hbw⟩
          case measure => simp [intOf]; omega
        · have HE := Lib.hid (HT.out.trans (by rw [if_neg (by omega)]))
          have b2 : ((c.toNat : Int) == 92) = false := by rw [beq_eq_false_iff_ne]; omega
          have b2' : (c.toNat == 92) = false := by simpa using h2
          clear h1 h2
          go_wp2_with fail
          go_roundw
          case rel => exact ⟨k + 1, by omega, by go_num, by rw [HE.out], hbw⟩
          case measure => simp [intOf]; omega
    · have dk : decide (k < s.length) = false := by simpa using hlt
      obtain rfl : k = s.length := by omega
      have HQ := Lib.hid (show quoQ s = 34 :: (escQ s ++ [34]) from rfl)
      rw [List.take_length] at *
      generalize escQ s = acc at *
      go_wp2_with fail
      go_ret
      exact ⟨by rw [HQ.out]; rfl, hbw⟩
end Go.Proofs.YtcgedpfolloinaaGreat

namespace Go.Proofs.YtcgedpfolloinaaGreat
open Go.RowKit

theorem drop_getD (l : List UInt8) (k n : Nat) : (l.drop k).getD n 0 = l.getD (k + n) 0 := by
  rw [List.getD_eq_getElem?_getD, List.getD_eq_getElem?_getD, List.getElem?_drop]

set_option maxRecDepth 100000 in
set_option maxHeartbeats 2000000 in
theorem qword_any (l : List UInt8) (k : Nat) (w : World) (hk : k ≤ l.length) (hl : l.length ≤ 1000000) :
    Calls Tryz.prog 169 #[.string ⟨l.toArray⟩, .int .i64 k] w fun e w' => e = .returned (.int .i64 (wordLen (l.drop k))) ∧ w = w' := by
  have HW := Lib.hid (fun n => wordLen_at (l := l.drop k) (k := n))
  go_enter Tryz.func169, Tryz.ntmps169
  go_wp2_with fail
  go_loop [5] (fun i => ∃ n : Nat, k + n ≤ l.length ∧ i = .int .i64 n ∧ ∀ j, j < n → nameAt (l.drop k) j = true) (fun i => l.length - (intOf i).toNat)
  case atStart => exact ⟨0, by omega, rfl, fun j hj => absurd hj (by omega)⟩
  case round =>
    obtain ⟨n, hn, rfl, hj⟩ := hrel
    have HJ := Lib.hid hj; clear hj
    by_cases hlt : k + n < l.length
    · have dk : decide ((k : Int) + (n : Int) < (l.length : Int)) = true := by simp; omega
      obtain ⟨c, hc⟩ : ∃ c, l[k + n] = c := ⟨_, rfl⟩
      have HX := Lib.hid (getD_at (d := 0) hlt hc)
      have HNA := Lib.hid (show nameAt (l.drop k) n = (letterB c || (decide (n ≠ 0) && digitB c)) by unfold nameAt; rw [drop_getD, HX.out])
      have L := Lib.hid (letter_any c)
      have D := Lib.hid (qdigit_any c)
      have NX := Lib.hid (show nameAt (l.drop k) n = true → ∀ j, j < n + 1 → nameAt (l.drop k) j = true from fun h j hj => (Nat.lt_or_ge j n).elim (HJ.out j) fun h' => by rw [show j = n by omega]; exact h)
      cases h1 : letterB c with
      | true =>
        rw [h1] at L
        have HX := Lib.hid (NX.out (by rw [HNA.out, h1]; rfl))
        clear h1
        go_wp2_with fail
        refine (L.out _).mono ?_; rintro e w' ⟨rfl, rfl⟩
        go_wp2_with fail
        go_round
        case rel => exact ⟨n + 1, by omega, by go_num, HX.out⟩
        case measure => simp [intOf]; omega
      | false =>
        rw [h1] at L
        by_cases h0 : n = 0
        · have HX := Lib.hid (HW.out n HJ.out (by simp; omega) (.inr (by rw [HNA.out, h1, h0]; rfl)))
          have b0 : decide (0 < n) = false := by simp [h0]
          clear h0 h1
          go_wp2_with fail
          refine (L.out _).mono ?_; rintro e w' ⟨rfl, rfl⟩
          go_wp2_with fail
          rw [HX.out]
          go_ret
          exact ⟨rfl, rfl⟩
        · have b0 : decide (0 < n) = true := by simp; omega
          cases h2 : digitB c with
          | true =>
            rw [h2] at D
            have HX := Lib.hid (NX.out (by rw [HNA.out, h1, h2]; simp [h0]))
            clear h1 h2 h0
            go_wp2_with fail
            refine (L.out _).mono ?_; rintro e w' ⟨rfl, rfl⟩
            go_wp2_with fail
            refine (D.out _).mono ?_; rintro e w' ⟨rfl, rfl⟩
            go_wp2_with fail
            go_round
            case rel => exact ⟨n + 1, by omega, by go_num, HX.out⟩
            case measure => simp [intOf]; omega
          | false =>
            rw [h2] at D
            have HX := Lib.hid (HW.out n HJ.out (by simp; omega) (.inr (by rw [HNA.out, h1, h2]; simp)))
            clear h1 h2 h0
            go_wp2_with fail
            refine (L.out _).mono ?_; rintro e w' ⟨rfl, rfl⟩
            go_wp2_with fail
            refine (D.out _).mono ?_; rintro e w' ⟨rfl, rfl⟩
            go_wp2_with fail
            rw [HX.out]
            go_ret
            exact ⟨rfl, rfl⟩
    · have HX := Lib.hid (HW.out n HJ.out (by simp; omega) (.inl (by simp; omega)))
      have dk : decide ((k : Int) + (n : Int) < (l.length : Int)) = false := by simp; omega
      go_wp2_with fail
      rw [HX.out]
      go_ret
      exact ⟨rfl, rfl⟩

/-- what Unquoted gives. -/
def unqV (l : List UInt8) (o : Option (List UInt8 × List UInt8)) : Value :=
  match o with
  | some (t, r) => .tuple #[.string ⟨t.toArray⟩, .int .i64 ((l.length - r.length : Nat) : Int), .bool true]
  | none => .tuple #[.string ⟨#[]⟩, .int .i64 0, .bool false]
theorem drop_at {l : List UInt8} {k : Nat} (h : k < l.length) {c : UInt8} (hc : l[k] = c) : l.drop k = c :: l.drop (k + 1) := by
  rw [List.drop_eq_getElem_cons h, hc]

set_option maxRecDepth 100000 in
set_option maxHeartbeats 8000000 in
theorem unquoted_in (l : List UInt8) (k : Nat) (o : Option (List UInt8 × List UInt8)) (w : World) (hk : k < l.length) (hl : l.length ≤ 1000000) (h34 : l[k] = 34) (ho : qbP (l.drop (k + 1)) = o) :
    Calls Tryz.prog 167 #[.string ⟨l.toArray⟩, .int .i64 k] w fun e w' => e = .returned (unqV l o) ∧ Below w.heap.size w w' := by
  have HO := Lib.hid ho
  have HX0 := getD_at (d := 0) hk h34
  have d0 : decide ((l.length : Int) ≤ (k : Int)) = false := by simp; omega
  clear ho
  go_enter Tryz.func167, Tryz.ntmps167
  go_wp2_with fail
  go_loopw [7, 8] (fun ov i wr => ∃ (n : Nat) (a : List UInt8), n ≤ l.length ∧ k < n ∧ i = .int .i64 n ∧ ov = .string ⟨a.toArray⟩ ∧ a.length ≤ n ∧ o = (qbP (l.drop n)).map (fun x => (a ++ x.1, x.2)) ∧ Below w.heap.size w wr) (fun _ i _ => l.length - (intOf i).toNat)
  case atStart => exact ⟨k + 1, [], by omega, by omega, by go_num, rfl, Nat.zero_le _, by rw [map_nil]; exact HO.out.symm, Below.refl _ _⟩
  case round =>
    obtain ⟨n, a, hn, hkn, rfl, rfl, hal, hq, hbw⟩ := hrel
    have HQ := Lib.hid hq
    have HB := Lib.hid hbw
    clear hq hbw
    by_cases hlt : n < l.length
    · have dn : decide (n < l.length) = true := by simpa using hlt
      obtain ⟨c, hc⟩ : ∃ c, l[n] = c := ⟨_, rfl⟩
      have HD := Lib.hid (drop_at hlt hc)
      have HX := Lib.hid (ext_one hlt)
      rw [hc] at HX
      by_cases e1 : c.toNat = 34
      · have HY := Lib.hid (HQ.out.trans (show _ = some (a, l.drop (n + 1)) by rw [HD.out, qbP_end e1]; simp))
        have b1 : ((c.toNat : Int) == 34) = true := by rw [beq_iff_eq]; omega
        have b1' : (c.toNat == 34) = true := by simpa using e1
        have hlen : l.length - (l.drop (n + 1)).length = n + 1 := by simp; omega
        have HV := Lib.hid (show unqV l o = .tuple #[.string ⟨a.toArray⟩, .int .i64 ((n : Int) + 1), .bool true] by
          rw [HY.out]; unfold unqV; simp only; rw [hlen]; rfl)
        clear e1
        go_wp2_with fail
        go_ret3
        exact ⟨by rw [HV.out] <;> rfl, HB.out⟩
      have b1 : ((c.toNat : Int) == 34) = false := by rw [beq_eq_false_iff_ne]; omega
      have b1' : (c.toNat == 34) = false := by simpa using e1
      by_cases e2 : c.toNat = 92
      · have b2 : ((c.toNat : Int) == 92) = true := by rw [beq_iff_eq]; omega
        have b2' : (c.toNat == 92) = true := by simpa using e2
        by_cases hlt2 : n + 1 < l.length
        · obtain ⟨d, hd⟩ : ∃ d, l[n + 1] = d := ⟨_, rfl⟩
          have HD2 := Lib.hid (drop_at hlt2 hd)
          have HX2 := Lib.hid (ext_one hlt2)
          rw [hd] at HX2
          have hx2 := HX2.out
          have HXA2 := getD_at (d := 0) hlt2 hd
          have dn2 : decide ((l.length : Int) ≤ (n : Int) + 1) = false := by simp; omega
          by_cases e3 : d.toNat = 34 ∨ d.toNat = 92
          · have HY := Lib.hid (HQ.out.trans (show _ = (qbP (l.drop (n + 1 + 1))).map (fun x => ((a ++ [d]) ++ x.1, x.2)) by rw [HD.out, HD2.out, qbP_esc e2 e3, map_pre]))
            have g1 : decide ((d.toNat : Int) < 32) = false := by simp; omega
            have g2 : decide ((126 : Int) < (d.toNat : Int)) = false := by simp; omega
            by_cases e4 : d.toNat = 34
            · have b3 : ((d.toNat : Int) != 34) = false := by simp; omega
              clear e1 e2 e3
              go_wp2_with fail
              go_roundw
              case rel => exact ⟨n + 1 + 1, a ++ [d], by omega, by omega, by go_num, by simp, by simp; omega, HY.out, HB.out⟩
              case measure => simp [intOf]; omega
            · have b3 : ((d.toNat : Int) != 34) = true := by simp; omega
              have b4 : ((d.toNat : Int) != 92) = false := by simp; omega
              clear e1 e2 e3
              go_wp2_with fail
              go_roundw
              case rel => exact ⟨n + 1 + 1, a ++ [d], by omega, by omega, by go_num, by simp, by simp; omega, HY.out, HB.out⟩
              case measure => simp [intOf]; omega
          · have HY := Lib.hid (HQ.out.trans (show _ = none by rw [HD.out, HD2.out, qbP_esc_no e2 e3]; rfl))
            have b3 : ((d.toNat : Int) != 34) = true := by simp; omega
            have b4 : ((d.toNat : Int) != 92) = true := by simp; omega
            clear e1 e2 e3
            go_wp2_with fail
            go_ret3
            exact ⟨by rw [HY.out] <;> rfl, HB.out⟩
        · have HD3 := Lib.hid (show l.drop (n + 1) = [] by rw [List.drop_eq_nil_iff]; omega)
          have HY := Lib.hid (HQ.out.trans (show _ = none by rw [HD.out, HD3.out, qbP_esc_nil e2]; rfl))
          have dn2 : decide ((l.length : Int) ≤ (n : Int) + 1) = true := by simp; omega
          clear e1 e2
          go_wp2_with fail
          go_ret3
          exact ⟨by rw [HY.out] <;> rfl, HB.out⟩
      · have b2 : ((c.toNat : Int) == 92) = false := by rw [beq_eq_false_iff_ne]; omega
        have b2' : (c.toNat == 92) = false := by simpa using e2
        have hx := HX.out
        cases hp : printB c with
        | true =>
          have HY := Lib.hid (HQ.out.trans (show _ = (qbP (l.drop (n + 1))).map (fun x => ((a ++ [c]) ++ x.1, x.2)) by rw [HD.out, qbP_put e1 e2 hp, map_pre]))
          simp only [printB, decide_eq_true_eq] at hp
          have g1 : decide ((c.toNat : Int) < 32) = false := by simp; omega
          have g2 : decide ((126 : Int) < (c.toNat : Int)) = false := by simp; omega
          clear e1 e2 hp
          go_wp2_with fail
          go_roundw
          case rel => exact ⟨n + 1, a ++ [c], by omega, by omega, by go_num, by simp, by simp; omega, HY.out, HB.out⟩
          case measure => simp [intOf]; omega
        | false =>
          have HY := Lib.hid (HQ.out.trans (show _ = none by rw [HD.out, qbP_no e1 e2 hp]; rfl))
          simp only [printB, decide_eq_false_iff_not] at hp
          by_cases e3 : c.toNat < 32
          · have g1 : decide ((c.toNat : Int) < 32) = true := by simp; omega
            clear e1 e2 hp e3
            go_wp2_with fail
            go_ret3
            exact ⟨by rw [HY.out] <;> rfl, HB.out⟩
          · have g1 : decide ((c.toNat : Int) < 32) = false := by simp; omega
            have g2 : decide ((126 : Int) < (c.toNat : Int)) = true := by simp; omega
            clear e1 e2 hp e3
            go_wp2_with fail
            go_ret3
            exact ⟨by rw [HY.out] <;> rfl, HB.out⟩
    · have dn : decide (n < l.length) = false := by simpa using hlt
      have HY := Lib.hid (HQ.out.trans (show _ = none by rw [show l.drop n = [] by rw [List.drop_eq_nil_iff]; omega]; rfl))
      go_wp2_with fail
      go_ret3
      exact ⟨by rw [HY.out] <;> rfl, HB.out⟩
set_option maxRecDepth 100000 in
set_option maxHeartbeats 2000000 in
theorem unquoted_any (l : List UInt8) (k : Nat) (w : World) (hk : k ≤ l.length) (hl : l.length ≤ 1000000) :
    Calls Tryz.prog 167 #[.string ⟨l.toArray⟩, .int .i64 k] w fun e w' => e = .returned (unqV l (quoP (l.drop k))) ∧ Below w.heap.size w w' := by
  by_cases hlt : k < l.length
  · obtain ⟨c, hc⟩ : ∃ c, l[k] = c := ⟨_, rfl⟩
    have HD := drop_at hlt hc
    by_cases h34 : c.toNat = 34
    · obtain rfl : c = 34 := UInt8.toNat_inj.1 (by rw [h34]; rfl)
      rw [HD, quoP_yes rfl]
      exact unquoted_in l k _ w hlt hl hc rfl
    · rw [HD, quoP_no h34]
      have b1 : ((c.toNat : Int) != 34) = true := by simp; omega
      have d0 : decide ((l.length : Int) ≤ (k : Int)) = false := by simp; omega
      have HX0 := getD_at (d := 0) hlt hc
      clear h34 HD
      go_enter Tryz.func167, Tryz.ntmps167
      go_wp2_with fail
      go_ret3
      exact ⟨rfl, Below.refl _ _⟩
  · rw [show l.drop k = [] by rw [List.drop_eq_nil_iff]; omega]
    have d0 : decide ((l.length : Int) ≤ (k : Int)) = true := by simp; omega
    go_enter Tryz.func167, Tryz.ntmps167
    go_wp2_with fail
    go_ret3
    exact ⟨rfl, Below.refl _ _⟩
end Go.Proofs.YtcgedpfolloinaaGreat

namespace Go.Proofs.YtcgedpfolloinaaGreat

/-- where a byte is first. -/
def findAt (c : UInt8) (l : List UInt8) : Nat := l.findIdx (· == c)
theorem findAt_le (c : UInt8) (l : List UInt8) : findAt c l ≤ l.length := List.findIdx_le_length

/-- a whole number without a sign, and without a zero ahead of others. -/
def countR (l : List UInt8) (most : Int) : Int × Bool :=
  if ((1 ≤ l.length ∧ (l.length : Int) ≤ most) ∧ ¬ (1 < l.length ∧ l.getD 0 0 = 48)) ∧ l.all isDig = true then ((valN l : Int), true) else (0, false)
theorem countR_yes {l : List UInt8} {most : Int} (h : ((1 ≤ l.length ∧ (l.length : Int) ≤ most) ∧ ¬ (1 < l.length ∧ l.getD 0 0 = 48)) ∧ l.all isDig = true) : countR l most = ((valN l : Int), true) := if_pos h
theorem countR_no {l : List UInt8} {most : Int} (h : ¬ (((1 ≤ l.length ∧ (l.length : Int) ≤ most) ∧ ¬ (1 < l.length ∧ l.getD 0 0 = 48)) ∧ l.all isDig = true)) : countR l most = (0, false) := if_neg h
theorem countR_true {l : List UInt8} {most : Int} (h : (countR l most).2 = true) : ((1 ≤ l.length ∧ (l.length : Int) ≤ most) ∧ ¬ (1 < l.length ∧ l.getD 0 0 = 48)) ∧ l.all isDig = true := by
  unfold countR at h; split at h
  · assumption
  · cases h
theorem count_dig {l : List UInt8} {most : Int} (h : (countR l most).2 = true) : digR l most = countR l most := by
  have k := countR_true h
  rw [countR_yes k, digR_yes ⟨k.1.1, k.2⟩]
theorem dig_count {l : List UInt8} {most : Int} (h : (digR l most).2 = true) (k : ¬ (1 < l.length ∧ l.getD 0 0 = 48)) : countR l most = digR l most := by
  have j := digR_true h
  rw [countR_yes ⟨⟨j.1, k⟩, j.2⟩, digR_yes j]

/-- a decimal. -/
def rdecR (f b : List UInt8) (s : Int) : Int × Int × Int :=
  if (countR f 9).2 = true ∧ (digR b 9).2 = true then lowT (s * ((valN f : Int) * p10 b.length + (valN b : Int))) (p10 b.length) else (0, 0, 1)
theorem rdecR_eq (f b : List UInt8) (s : Int) : rdecR f b s = decR f b s := by
  unfold rdecR
  by_cases h : (countR f 9).2 = true ∧ (digR b 9).2 = true
  · rw [if_pos h, decR_yes]
    have k := countR_true h.1
    exact ⟨⟨by rw [count_dig h.1]; exact h.1, h.2⟩, k.1.2⟩
  · rw [if_neg h, decR_no]
    intro k
    exact h ⟨by rw [dig_count k.1.1 k.2]; exact k.1.1, k.1.2⟩

/-- a fraction: the front, and what is behind the slash, if there is one. -/
def rfracR (l f b : List UInt8) (v : Int) : Int × Int × Int :=
  if ((countR f 10).2 = true ∧ (countR b 10).2 = true) ∧ chk v (valN b : Int) = 0 ∧ toldS v (valN b : Int) = l then (v, (valN b : Int), 0) else (0, 0, 1)
theorem rfracR_yes {l f b : List UInt8} {v : Int} (h : ((countR f 10).2 = true ∧ (countR b 10).2 = true) ∧ chk v (valN b : Int) = 0 ∧ toldS v (valN b : Int) = l) : rfracR l f b v = (v, (valN b : Int), 0) := if_pos h
theorem rfracR_no {l f b : List UInt8} {v : Int} (h : ¬ (((countR f 10).2 = true ∧ (countR b 10).2 = true) ∧ chk v (valN b : Int) = 0 ∧ toldS v (valN b : Int) = l)) : rfracR l f b v = (0, 0, 1) := if_neg h

def rparseT (l : List UInt8) : Int × Int × Int :=
  if findAt 46 (bodyOf l) < (bodyOf l).length then rdecR ((bodyOf l).take (findAt 46 (bodyOf l))) ((bodyOf l).drop (findAt 46 (bodyOf l) + 1)) (factorOf l)
  else rfracR l ((bodyOf l).take (findAt 47 (bodyOf l))) (if findAt 47 (bodyOf l) < (bodyOf l).length then (bodyOf l).drop (findAt 47 (bodyOf l) + 1) else [49]) (signed (isNeg l) (valN ((bodyOf l).take (findAt 47 (bodyOf l)))))

theorem digs_zero (k : Nat) : ¬ (1 < (digs k).length ∧ (digs k).getD 0 0 = 48) := by
  induction k using Nat.strongRecOn with
  | _ n ih =>
    by_cases h : n < 10
    · rw [digs_lt h]; simp
    · rw [digs_ge h]
      rintro ⟨-, h2⟩
      have h3 := digs_len_pos (n / 10)
      have e : (digs (n / 10) ++ [dig n]).getD 0 0 = (digs (n / 10)).getD 0 0 := by
        cases hd : digs (n / 10) with
        | nil => rw [hd] at h3; simp at h3
        | cons c t => rfl
      rw [e] at h2
      by_cases h4 : 1 < (digs (n / 10)).length
      · exact ih (n / 10) (by omega) ⟨h4, h2⟩
      · have h5 : n / 10 < 10 := by
          by_cases h6 : n / 10 < 10
          · exact h6
          · rw [digs_ge h6] at h4
            have := digs_len_pos (n / 10 / 10)
            rw [List.length_append] at h4
            simp only [List.length_cons, List.length_nil] at h4
            omega
        rw [digs_lt h5] at h2
        have h6 : (dig (n / 10)).toNat = 48 := by
          have : dig (n / 10) = 48 := h2
          rw [this]; rfl
        rw [dig_nat] at h6
        omega

theorem findAt_get {c : UInt8} {l : List UInt8} (h : findAt c l < l.length) : l[findAt c l] = c := by
  have := List.findIdx_getElem (w := h)
  exact LawfulBEq.eq_of_beq this
theorem mark_get {l : List UInt8} (h : markAt l < l.length) : isMark l[markAt l] = true := List.findIdx_getElem (w := h)
theorem mark_slash {c : UInt8} (h : isMark c = true) (n : (c == 46) = false) : c = 47 := by
  unfold isMark at h
  rw [n, Bool.or_false] at h
  exact LawfulBEq.eq_of_beq h

/-- told, the front is that of the number. -/
theorem told_front {v : Int} {b l : List UInt8} (h : toldS v (valN b : Int) = l) : cutF (bodyOf l) = digs v.natAbs ∧ (cutM (bodyOf l) = 0 ∨ cutB (bodyOf l) = digs (valN b)) := by
  subst h
  rw [told_rest, body_told, cutF_digs (digs_all _) (rest_mark _), cutM_digs (digs_all _) (rest_mark _), cutB_digs (digs_all _) (rest_mark _)]
  refine ⟨rfl, ?_⟩
  unfold restS
  split
  · exact .inl rfl
  · exact .inr (by simp)

theorem rparse_eq (l : List UInt8) : rparseT l = parseT l := by
  unfold rparseT parseT
  by_cases hp : findAt 46 (bodyOf l) < (bodyOf l).length
  · rw [if_pos hp, rdecR_eq]
    have hat' := findAt_get hp
    by_cases hs : markAt (bodyOf l) < findAt 46 (bodyOf l)
    · -- a slash is ahead of the point
      have hlt : markAt (bodyOf l) < (bodyOf l).length := by omega
      have hn : ((bodyOf l)[markAt (bodyOf l)] == 46) = false := by
        have := List.not_of_lt_findIdx hs
        simpa using this
      have h47 := mark_slash (mark_get hlt) hn
      have hc : cutM (bodyOf l) = 47 := by
        unfold cutM
        rw [List.getD_eq_getElem?_getD, List.getElem?_eq_getElem hlt, Option.getD_some, h47]
      rw [if_neg (by rw [hc]; decide), if_neg (by rw [hc]; decide)]
      rw [decR_no, fracR_no]
      · rintro ⟨⟨-, h2⟩, -⟩
        have h3 := (digR_true h2).2
        have h4 : (46 : UInt8) ∈ cutB (bodyOf l) := by
          unfold cutB
          rw [List.mem_drop_iff_getElem]
          exact ⟨findAt 46 (bodyOf l) - (markAt (bodyOf l) + 1), by omega, by simp only [show markAt (bodyOf l) + 1 + (findAt 46 (bodyOf l) - (markAt (bodyOf l) + 1)) = findAt 46 (bodyOf l) from by omega]; exact hat'⟩
        exact absurd (List.all_eq_true.1 h3 _ h4) (by decide)
      · rintro ⟨⟨h2, -⟩, -⟩
        have h3 := (digR_true h2).2
        have h4 : (47 : UInt8) ∈ (bodyOf l).take (findAt 46 (bodyOf l)) := by
          rw [List.mem_take_iff_getElem]
          exact ⟨markAt (bodyOf l), by omega, h47⟩
        exact absurd (List.all_eq_true.1 h3 _ h4) (by decide)
    · have he : markAt (bodyOf l) = findAt 46 (bodyOf l) := by
        have := markAt_here (k := findAt 46 (bodyOf l)) hp (by omega) (by rw [hat']; rfl)
        exact this
      have hc : cutM (bodyOf l) = 46 := by
        unfold cutM
        rw [he, List.getD_eq_getElem?_getD, List.getElem?_eq_getElem hp, Option.getD_some, hat']
      rw [if_pos hc]
      unfold cutF cutB
      rw [he]
  · rw [if_neg hp]
    have hno : ∀ c ∈ bodyOf l, (c == 46) = false := by
      intro c hc
      have h1 : findAt 46 (bodyOf l) = (bodyOf l).length := by have := findAt_le 46 (bodyOf l); omega
      have := List.findIdx_eq_length.1 h1 c hc
      simpa using this
    have he : findAt 47 (bodyOf l) = markAt (bodyOf l) := by
      unfold findAt markAt
      clear hp
      generalize bodyOf l = B at *
      induction B with
      | nil => rfl
      | cons c t ih =>
        have h1 := hno c (by simp)
        have h2 := ih (fun c hc => hno c (by simp [hc]))
        simp only [List.findIdx_cons, h2, isMark, h1, Bool.or_false]
    have hm : (cutM (bodyOf l) = 47 ∧ markAt (bodyOf l) < (bodyOf l).length) ∨ (cutM (bodyOf l) = 0 ∧ ¬ markAt (bodyOf l) < (bodyOf l).length) := by
      by_cases h : markAt (bodyOf l) < (bodyOf l).length
      · have h2 := hno _ (List.getElem_mem h)
        refine .inl ⟨?_, h⟩
        unfold cutM
        rw [List.getD_eq_getElem?_getD, List.getElem?_eq_getElem h, Option.getD_some]
        exact mark_slash (mark_get h) h2
      · refine .inr ⟨?_, h⟩
        unfold cutM
        rw [List.getD_eq_getElem?_getD, List.getElem?_eq_none (by omega)]; rfl
    rw [he]
    have hB : (if markAt (bodyOf l) < (bodyOf l).length then (bodyOf l).drop (markAt (bodyOf l) + 1) else [49]) = (if cutM (bodyOf l) = 0 then [49] else cutB (bodyOf l)) := by
      rcases hm with ⟨h1, h2⟩ | ⟨h1, h2⟩
      · rw [if_pos h2, if_neg (by rw [h1]; decide)]; rfl
      · rw [if_neg h2, if_pos h1]
    have hne : ¬ cutM (bodyOf l) = 46 := by rcases hm with ⟨h1, _⟩ | ⟨h1, _⟩ <;> rw [h1] <;> decide
    rw [hB, if_neg hne]
    show rfracR l (cutF (bodyOf l)) _ (signed (isNeg l) (valN (cutF (bodyOf l)))) = _
    by_cases h : ((digR (cutF (bodyOf l)) 10).2 = true ∧ (digR (if cutM (bodyOf l) = 0 then [49] else cutB (bodyOf l)) 10).2 = true) ∧ chk (signed (isNeg l) (valN (cutF (bodyOf l)))) (valN (if cutM (bodyOf l) = 0 then [49] else cutB (bodyOf l)) : Int) = 0 ∧ toldS (signed (isNeg l) (valN (cutF (bodyOf l)))) (valN (if cutM (bodyOf l) = 0 then [49] else cutB (bodyOf l)) : Int) = l
    · rw [fracR_yes h, rfracR_yes]
      obtain ⟨⟨h1, h2⟩, h3, h4⟩ := h
      obtain ⟨t1, t2⟩ := told_front h4
      refine ⟨⟨?_, ?_⟩, h3, h4⟩
      · rw [dig_count h1 (by rw [t1]; exact digs_zero _)]; exact h1
      · rw [dig_count h2 ?_]
        · exact h2
        · rcases t2 with t2 | t2
          · rw [if_pos t2]; decide
          · by_cases hz : cutM (bodyOf l) = 0
            · rw [if_pos hz]; decide
            · rw [if_neg hz, t2]; exact digs_zero _
    · rw [fracR_no h, rfracR_no]
      rintro ⟨⟨h1, h2⟩, h3, h4⟩
      exact h ⟨⟨by rw [count_dig h1]; exact h1, by rw [count_dig h2]; exact h2⟩, h3, h4⟩
end Go.Proofs.YtcgedpfolloinaaGreat

namespace Go.Proofs.YtcgedpfolloinaaGreat
open Go.RowKit Go.BigFrame

set_option maxHeartbeats 400000 in
theorem digit_any (c : UInt8) (w : World) : Calls Tryz.prog 117 #[.int .u8 (c.toNat : Int)] w fun e w' => e = .returned (.bool (isDig c)) ∧ w = w' := by
  have cb : c.toNat < 256 := c.toNat_lt
  by_cases h1 : c.toNat < 48
  · have h1' : (c.toNat : Int) < 48 := by omega
    have H := Lib.hid (show isDig c = false by unfold isDig; first | (simp; done) | (simp; omega))
    clear h1
    go_enter Tryz.func117, Tryz.ntmps117
    go_wp2
    go_ret
    exact ⟨ret_bool (by rw [H.out] <;> (first | rfl | (simp; omega))), rfl⟩
  · have h1' : ¬ (c.toNat : Int) < 48 := by omega
    by_cases h2 : 57 < c.toNat
    · have h2' : (57 : Int) < (c.toNat : Int) := by omega
      have H := Lib.hid (show isDig c = false by unfold isDig; first | (simp; done) | (simp; omega))
      clear h1 h2
      go_enter Tryz.func117, Tryz.ntmps117
      go_wp2
      go_ret
      exact ⟨ret_bool (by rw [H.out] <;> (first | rfl | (simp; omega))), rfl⟩
    · have h2' : (c.toNat : Int) ≤ 57 := by omega
      have H := Lib.hid (show isDig c = true by unfold isDig; first | (simp; done) | (simp; omega))
      clear h1 h2
      go_enter Tryz.func117, Tryz.ntmps117
      go_wp2
      go_ret
      exact ⟨ret_bool (by rw [H.out] <;> (first | rfl | (simp; omega))), rfl⟩

theorem findAt_here {d : UInt8} {l : List UInt8} {k : Nat} (h : k < l.length) (hk : k ≤ findAt d l) (hm : (l[k] == d) = true) : findAt d l = k := by
  have : ¬ k < findAt d l := fun h1 => by
    have := List.not_of_lt_findIdx h1
    simp [hm] at this
  omega
theorem findAt_next {d : UInt8} {l : List UInt8} {k : Nat} (h : k < l.length) (hk : k ≤ findAt d l) (hm : (l[k] == d) = false) : k + 1 ≤ findAt d l := by
  have : k ≠ findAt d l := fun h1 => by
    have h2 : findAt d l < l.length := by omega
    have := List.findIdx_getElem (w := h2)
    unfold findAt at h1
    simp only [← h1] at this
    rw [hm] at this; cases this
  omega

set_option maxHeartbeats 800000 in
theorem find_any (l : List UInt8) (d : UInt8) (c : Int) (w : World) (hc : c = (d.toNat : Int)) (hl : l.length ≤ 100000) :
    Calls Tryz.prog 189 #[.string ⟨l.toArray⟩, .int .u8 c] w fun e w' => e = .returned (.int .i64 (findAt d l : Int)) ∧ w = w' := by
  have HM := Lib.hid (findAt_le d l)
  have HC := Lib.hid hc; clear hc
  go_enter Tryz.func189, Tryz.ntmps189
  go_wp2
  go_loop [5] (fun a => ∃ k : Nat, a = .int .i64 k ∧ k ≤ l.length ∧ k ≤ findAt d l) (fun a => l.length - (intOf a).toNat)
  case atStart => exact ⟨0, rfl, Nat.zero_le _, Nat.zero_le _⟩
  case round =>
    obtain ⟨k, rfl, hk, hf⟩ := hrel
    by_cases hlt : k < l.length
    · have HF := Lib.hid hf; clear hf
      have e1 : (((l[k].toNat : Int) == c) : Bool) = (l[k] == d) := by
        rw [HC.out, u8_eq (l[k]) d.toNat d.toNat_lt]
        simp
      cases he : l[k] == d with
      | true =>
        have e3 := e1.trans he
        have Hm := Lib.hid (findAt_here hlt HF.out he)
        clear e1 he
        go_wp2
        go_ret
        exact ⟨ret_int (by rw [Hm.out]), rfl⟩
      | false =>
        have e3 := e1.trans he
        have Hm := Lib.hid (findAt_next hlt HF.out he)
        clear e1 he
        go_wp2
        go_round
        case rel => exact ⟨k + 1, by go_num, by omega, Hm.out⟩
        case measure => simp [intOf]; omega
    · go_wp2
      go_ret
      exact ⟨ret_int (by have := HM.out; omega), rfl⟩

set_option maxRecDepth 100000 in
set_option maxHeartbeats 1600000 in
theorem count_any (l : List UInt8) (most : Int) (w : World) (hl : l.length ≤ 100000) (hm : most ≤ 10) :
    Calls Tryz.prog 191 #[.string ⟨l.toArray⟩, .int .i64 most] w fun e w' => e = .returned (.tuple #[.int .i64 (countR l most).1, .bool (countR l most).2]) ∧ w = w' := by
  by_cases hin : 1 ≤ l.length ∧ (l.length : Int) ≤ most
  · have hinb : inB (l.length : Int) 1 most = true := inB_yes (by omega)
    have hlen : 0 < l.length := hin.1
    obtain ⟨z, hz⟩ : ∃ z, l[0] = z := ⟨_, rfl⟩
    have e1 : (((z.toNat : Int) == 48) : Bool) = (z == 48) := u8_eq z 48 (by omega)
    have HZ := Lib.hid hz
    have hg : l.getD 0 0 = z := by rw [List.getD_eq_getElem?_getD, List.getElem?_eq_getElem hlen, Option.getD_some, hz]
    by_cases hzero : 1 < l.length ∧ l.getD 0 0 = 48
    · have e2 : ((z.toNat : Int) == 48) = true := by rw [e1]; rw [← hg, hzero.2]; rfl
      have hlt : (1 : Int) < (l.length : Int) := by omega
      rw [countR_no (fun h => h.1.2 hzero)]
      have HI := Lib.hid hin
      clear hzero hin hg e1
      go_enter Tryz.func191, Tryz.ntmps191
      go_wp2_with (go_at_call 66; refine (in_any _ _ _ _).mono ?_; rintro e w1 ⟨rfl, rfl⟩)
      go_ret2
      exact ⟨rfl, rfl⟩
    · have tail : ∀ (_hq : ((1 : Int) < (l.length : Int) ∧ ((z.toNat : Int) == 48) = false) ∨ ¬ (1 : Int) < (l.length : Int)),
          Calls Tryz.prog 191 #[.string ⟨l.toArray⟩, .int .i64 most] w fun e w' => e = .returned (.tuple #[.int .i64 (countR l most).1, .bool (countR l most).2]) ∧ w = w' := by
        intro hq
        have HZR := Lib.hid hzero
        have HI := Lib.hid hin
        clear hzero hin hg e1
        rcases hq with ⟨hq1, hq2⟩ | hq1
        all_goals
          go_enter Tryz.func191, Tryz.ntmps191
          go_wp2_with (go_at_call 66; refine (in_any _ _ _ _).mono ?_; rintro e w1 ⟨rfl, rfl⟩)
          go_loop [6, 7] (fun n i => ∃ k : Nat, k ≤ l.length ∧ i = .int .i64 k ∧ n = .int .i64 (valN (l.take k) : Int) ∧ (l.take k).all isDig = true) (fun _ i => l.length - (intOf i).toNat)
          case atStart => exact ⟨0, Nat.zero_le _, rfl, rfl, by simp⟩
          case round =>
            obtain ⟨k, hk, rfl, rfl, ha⟩ := hrel
            by_cases hlt : k < l.length
            · have b1 := valN_bd ha (by have := HI.out; simp; omega)
              have HT := Lib.hid (take_next l k hlt)
              have HA := Lib.hid ha; clear ha
              obtain ⟨c, hc⟩ : ∃ c, l[k] = c := ⟨_, rfl⟩
              have HX := Lib.hid hc
              have cb : c.toNat < 256 := c.toNat_lt
              cases hd : isDig c with
              | false =>
                have Hno := Lib.hid (countR_no (l := l) (most := most) (fun h => by
                  have := List.all_eq_true.1 h.2 l[k] (List.getElem_mem _)
                  rw [HX.out, hd] at this
                  cases this))
                go_wp2_with (go_at_call 117; refine (digit_any _ _).mono ?_; rintro e w1 ⟨rfl, rfl⟩)
                go_ret2
                exact ⟨by rw [Hno.out]; rfl, rfl⟩
              | true =>
                have hr : 48 ≤ c.toNat ∧ c.toNat ≤ 57 := by unfold isDig at hd; simpa using hd
                have hr1 : (48 : Int) ≤ (c.toNat : Int) := by omega
                have Hval := Lib.hid (show ((valN (l.take (k + 1)) : Nat) : Int) = (valN (l.take k) : Int) * 10 + ((c.toNat : Int) - 48) by
                  rw [HT.out, valN_snoc, HX.out]; omega)
                have Hall := Lib.hid (show (l.take (k + 1)).all isDig = true by
                  rw [HT.out, List.all_append, HA.out, HX.out]; simp [hd])
                go_wp2_with (go_at_call 117; refine (digit_any _ _).mono ?_; rintro e w1 ⟨rfl, rfl⟩)
                go_round
                case rel => exact ⟨k + 1, by omega, by go_num, by rw [Hval.out], Hall.out⟩
                case measure => simp [intOf]; omega
            · have Hke := Lib.hid (show k = l.length by omega)
              have Hyes := Lib.hid (countR_yes (l := l) (most := most) ⟨⟨HI.out, HZR.out⟩, by have := ha; rw [Hke.out, List.take_length] at this; exact this⟩)
              have Hv := Lib.hid (show valN (l.take k) = valN l by rw [Hke.out, List.take_length])
              clear ha
              go_wp2
              go_ret2
              exact ⟨by rw [Hyes.out, ← Hv.out]; rfl, rfl⟩
      by_cases hl1 : 1 < l.length
      · refine tail (.inl ⟨by omega, ?_⟩)
        rw [e1]
        cases h : z == 48 with
        | false => rfl
        | true => exact absurd ⟨hl1, by rw [hg]; simpa using h⟩ hzero
      · exact tail (.inr (by omega))
  · have hinb : inB (l.length : Int) 1 most = false := inB_no (by omega)
    rw [countR_no (fun h => hin h.1.1)]
    clear hin
    go_enter Tryz.func191, Tryz.ntmps191
    go_wp2_with (go_at_call 66; refine (in_any _ _ _ _).mono ?_; rintro e w1 ⟨rfl, rfl⟩)
    go_ret2
    exact ⟨rfl, rfl⟩
end Go.Proofs.YtcgedpfolloinaaGreat

namespace Go.Proofs.YtcgedpfolloinaaGreat
open Go.RowKit Go.BigFrame

theorem told_one {n : Int} : toldS n 1 = tellS n := by
  unfold toldS tellS
  rw [if_pos rfl, numText1]
  have e : ((n.natAbs : Int)).toNat = n.natAbs := by omega
  rw [e]; simp
theorem told_two {n d : Int} (hd : ¬ d = 1) (h : 0 ≤ d) : toldS n d = tellS n ++ 47 :: tellS d := by
  unfold toldS tellS
  rw [if_neg hd, numText1, numText1]
  have e : ((n.natAbs : Int)).toNat = n.natAbs := by omega
  have e2 : d.toNat = d.natAbs := by omega
  rw [e, e2]
  unfold signText
  rw [if_neg (show ¬ d < 0 by omega)]
  split <;> simp

theorem tell_b (n : Int) (w : World) (h1 : -1000000000000000000 ≤ n) (h2 : n ≤ 1000000000000000000) :
    Calls Tryz.prog 175 #[.int .i64 n] w fun e w' => e = .returned (.string ⟨(tellS n).toArray⟩) ∧ Below w.heap.size w w' :=
  tell_any (4 * n.natAbs - n + 1).toNat n w (by omega) h1 h2

set_option maxRecDepth 100000 in
set_option maxHeartbeats 1000000 in
theorem told_any (n d : Int) (w : World) (f : Fit n d) :
    Calls Tryz.prog 157 #[.agg #[.int .i64 n, .int .i64 d]] w fun e w' => e = .returned (.string ⟨(toldS n d).toArray⟩) ∧ Below w.heap.size w w' := by
  obtain ⟨n1, n2, d1, d2⟩ := f
  have l1 := tell_len (n := n) (by omega) (by omega)
  have l2 := tell_len (n := d) (by omega) (by omega)
  by_cases hd : d = 1
  · subst hd
    rw [told_one]
    go_enter Tryz.func157, Tryz.ntmps157
    go_wp2_with fail
    refine (tell_b _ _ (by omega) (by omega)).mono ?_; rintro e w1 ⟨rfl, hb1⟩; obtain ⟨hc1, hf1⟩ := bcell hb1; have hs1 := hb1.size; (try simp at hs1); (try have hz10 : w.heap.size < w1.heap.size := by omega); (try have hz11 : w.heap.size + 1 < w1.heap.size := by omega); (try have hz12 : w.heap.size + 1 + 1 < w1.heap.size := by omega); (try have hz13 : w.heap.size + 1 + 1 + 1 < w1.heap.size := by omega); (try have hz14 : w.heap.size + 1 + 1 + 1 + 1 < w1.heap.size := by omega); (try have hz15 : w.heap.size + 1 + 1 + 1 + 1 + 1 < w1.heap.size := by omega)
    go_wp2
    go_ret
    exact ⟨rfl, by ((repeat' (first | exact Below.refl _ _ | assumption | refine Below.setCell ?_ ?_ _ | refine bdrewN ?_ _ | refine Below.drew ?_ | refine Below.alloc ?_ ?_ _ | refine bbehind ?_ (by assumption) ?_)); all_goals first | (simp; done) | (simp; omega) | omega)⟩
  · have hd' : (d == 1) = false := by simpa using hd
    rw [told_two hd (by omega)]
    clear hd
    go_enter Tryz.func157, Tryz.ntmps157
    go_wp2_with fail
    refine wp_region_quiet_all (fun w' => ∃ x : Lower _, w' = x.val) (by kernel_rfl) (by kernel_rfl) ⟨⟨_, (Below.refl _ _).drew⟩, rfl⟩ ?_
    repeat (go_big_quiet_step ((go_at_call 175; exact calls_lower _ (tell_b _ _ (by omega) (by omega)))))
    refine wpQuiet_nil ?_
    intro w1 hx1
    obtain ⟨x1, hx1⟩ := hx1
    have hb1 := x1.prop
    rw [← hx1] at hb1
    clear hx1 x1
    obtain ⟨hc1, hf1⟩ := bcell hb1
    have hs1 := hb1.size
    try simp at hs1
    try have hz0 : w.heap.size < w1.heap.size := by omega
    try have hz1 : w.heap.size + 1 < w1.heap.size := by omega
    try have hz2 : w.heap.size + 1 + 1 < w1.heap.size := by omega
    try have hz3 : w.heap.size + 1 + 1 + 1 < w1.heap.size := by omega
    try have hz4 : w.heap.size + 1 + 1 + 1 + 1 < w1.heap.size := by omega
    try have hz5 : w.heap.size + 1 + 1 + 1 + 1 + 1 < w1.heap.size := by omega
    go_wp2
    go_ret
    exact ⟨rfl, by ((repeat' (first | exact Below.refl _ _ | assumption | refine Below.setCell ?_ ?_ _ | refine bdrewN ?_ _ | refine Below.drew ?_ | refine Below.alloc ?_ ?_ _ | refine bbehind ?_ (by assumption) ?_)); all_goals first | (simp; done) | (simp; omega) | omega)⟩

end Go.Proofs.YtcgedpfolloinaaGreat

namespace Go.Proofs.YtcgedpfolloinaaGreat
open Go.RowKit Go.BigFrame

/-- the digits before the point, and so many behind it. -/
def nK (f b : List UInt8) (k : Nat) : Int := (valN f : Int) * p10 k + (valN (b.take k) : Int)
theorem nK_zero (f b : List UInt8) : nK f b 0 = (valN f : Int) := by
  unfold nK; rw [p10_zero]; simp [valN]
theorem nK_next (f b : List UInt8) (k : Nat) (h : k < b.length) (hd : isDig b[k] = true) : nK f b (k + 1) = 10 * nK f b k + ((b[k].toNat : Int) - 48) := by
  have hr : 48 ≤ b[k].toNat ∧ b[k].toNat ≤ 57 := by unfold isDig at hd; simpa using hd
  unfold nK
  rw [take_next b k h, valN_snoc, p10_succ]
  have e : (valN f : Int) * (p10 k * 10) = 10 * ((valN f : Int) * p10 k) := by grind
  rw [e]; omega
theorem nK_bd {f b : List UInt8} {k : Nat} (hf : f.all isDig = true) (hf9 : f.length ≤ 9) (hb : (b.take k).all isDig = true) (hk : k ≤ b.length) (hk9 : k ≤ 9) : 0 ≤ nK f b k ∧ nK f b k ≤ 1000000000000000000 := by
  have h1 := valN_bd9 hf hf9
  have h2 := valN_bd9 hb (by simp; omega)
  obtain ⟨p1, p2⟩ := p10_bd k hk9
  have m := mul_bd9 (a := (valN f : Int)) (b := p10 k) (by omega) (by omega) (by omega) (by omega)
  have m0 : 0 ≤ (valN f : Int) * p10 k := Int.mul_nonneg (by omega) (by omega)
  have m1 : (valN f : Int) * p10 k ≤ 999999999 * 1000000000 := by
    have := Int.mul_le_mul (show (valN f : Int) ≤ 999999999 by omega) p2 (by omega) (by omega)
    exact this
  unfold nK
  omega

theorem rdecR_no {f b : List UInt8} {s : Int} (h : ¬ ((countR f 9).2 = true ∧ (digR b 9).2 = true)) : rdecR f b s = (0, 0, 1) := if_neg h
theorem rdecR_yes {f b : List UInt8} {s : Int} (h : (countR f 9).2 = true ∧ (digR b 9).2 = true) : rdecR f b s = lowT (s * nK f b b.length) (p10 b.length) := by
  unfold rdecR nK; rw [if_pos h, List.take_length]

set_option maxRecDepth 100000 in
set_option maxHeartbeats 2000000 in
theorem rparseDecimal_any (f b : List UInt8) (s : Int) (w : World) (hs : s = 1 ∨ s = -1) (hf : f.length ≤ 100000) (hb : b.length ≤ 100000) :
    Calls Tryz.prog 190 #[.string ⟨f.toArray⟩, .string ⟨b.toArray⟩, .int .i64 s] w fun e w' => e = .returned (.tuple #[.agg #[.int .i64 (rdecR f b s).1, .int .i64 (rdecR f b s).2.1], .int .i64 (rdecR f b s).2.2]) ∧ Below w.heap.size w w' := by
  have CF := Lib.hid (fun w => count_any f 9 w hf (by omega))
  have HS := Lib.hid hs; clear hs
  cases hc : (countR f 9).2 with
  | false =>
    rw [rdecR_no (fun h => by rw [hc] at h; cases h.1)]
    rw [hc] at CF
    clear hc
    go_enter Tryz.func190, Tryz.ntmps190
    go_wp2_with fail
    refine (CF.out _).mono ?_; rintro e w' ⟨rfl, rfl⟩
    go_wp2
    refine bodyPost_ret (v := .tuple #[.agg #[.int .i64 0, .int .i64 0], .int .i64 1]) (by simp (maxDischargeDepth := 8) [results, Tryz.results190, go_sem, *]) rfl ?_
    exact ⟨rfl, by ((repeat' (first | exact Below.refl _ _ | assumption | refine Below.setCell ?_ ?_ _ | refine bdrewN ?_ _ | refine Below.drew ?_ | refine Below.alloc ?_ ?_ _ | refine bbehind ?_ (by assumption) ?_)); all_goals first | (simp; done) | (simp; omega) | omega)⟩
  | true =>
    have k := countR_true hc
    have HC := Lib.hid hc
    rw [countR_yes k] at CF
    have HK := Lib.hid k; clear k hc
    by_cases hin : 1 ≤ b.length ∧ (b.length : Int) ≤ 9
    · have hinb : inB (b.length : Int) 1 9 = true := inB_yes (by omega)
      have hb9 : b.length ≤ 9 := by omega
      have hb1 : 1 ≤ b.length := hin.1
      clear hin
      go_enter Tryz.func190, Tryz.ntmps190
      go_wp2_with fail
      refine (CF.out _).mono ?_; rintro e w' ⟨rfl, rfl⟩
      rw [← nK_zero f b]
      go_wp2_with (go_at_call 66; refine (in_any _ _ _ _).mono ?_; rintro e w1 ⟨rfl, rfl⟩)
      go_loop [8, 10] (fun n i => ∃ k : Nat, k ≤ b.length ∧ i = .int .i64 k ∧ n = .int .i64 (nK f b k) ∧ (b.take k).all isDig = true) (fun _ i => b.length - (intOf i).toNat)
      case atStart => exact ⟨0, Nat.zero_le _, rfl, rfl, by simp⟩
      case round =>
        obtain ⟨k, hk, rfl, rfl, ha⟩ := hrel
        have b1 := nK_bd (k := k) HK.out.2 (by have := HK.out.1.1.2; omega) ha hk (by omega)
        by_cases hlt : k < b.length
        · have HT := Lib.hid (take_next b k hlt)
          have HA := Lib.hid ha; clear ha
          have HN := Lib.hid (fun h => nK_next f b k hlt h)
          have HB := Lib.hid (fun h => nK_bd (f := f) (b := b) (k := k + 1) HK.out.2 (by have := HK.out.1.1.2; omega) h (by omega) (by omega))
          obtain ⟨c, hc⟩ : ∃ c, b[k] = c := ⟨_, rfl⟩
          have HX := Lib.hid hc
          have cb : c.toNat < 256 := c.toNat_lt
          cases hd : isDig c with
          | false =>
            have Hno := Lib.hid (rdecR_no (f := f) (b := b) (s := s) (fun h => by
              have := List.all_eq_true.1 (digR_true h.2).2 b[k] (List.getElem_mem _)
              rw [HX.out, hd] at this
              cases this))
            go_wp2_with (go_at_call 117; refine (digit_any _ _).mono ?_; rintro e w1 ⟨rfl, rfl⟩)
            rw [Hno.out]
            refine bodyPost_ret (v := .tuple #[.agg #[.int .i64 0, .int .i64 0], .int .i64 1]) (by simp (maxDischargeDepth := 8) [results, Tryz.results190, go_sem, *]) rfl ?_
            exact ⟨rfl, by ((repeat' (first | exact Below.refl _ _ | assumption | refine Below.setCell ?_ ?_ _ | refine bdrewN ?_ _ | refine Below.drew ?_ | refine Below.alloc ?_ ?_ _ | refine bbehind ?_ (by assumption) ?_)); all_goals first | (simp; done) | (simp; omega) | omega)⟩
          | true =>
            have hr : 48 ≤ c.toNat ∧ c.toNat ≤ 57 := by unfold isDig at hd; simpa using hd
            have hr1 : (48 : Int) ≤ (c.toNat : Int) := by omega
            have hr2 : (c.toNat : Int) ≤ 57 := by omega
            have Hall := Lib.hid (show (b.take (k + 1)).all isDig = true by
              rw [HT.out, List.all_append, HA.out, HX.out]; simp [hd])
            have Hval := Lib.hid (show nK f b (k + 1) = 10 * nK f b k + ((c.toNat : Int) - 48) by rw [HN.out (by rw [HX.out]; exact hd), HX.out])
            have g := HB.out Hall.out
            rw [Hval.out] at g
            clear hr
            go_wp2_with (go_at_call 117; refine (digit_any _ _).mono ?_; rintro e w1 ⟨rfl, rfl⟩)
            go_round
            case rel => exact ⟨k + 1, by omega, by go_num, by rw [Hval.out], Hall.out⟩
            case measure => simp [intOf]; omega
        · have hke : k = b.length := by omega
          subst hke
          rw [List.take_length] at ha
          have Hyes := Lib.hid (rdecR_yes (f := f) (b := b) (s := s) ⟨HC.out, by rw [digR_yes ⟨⟨hb1, by omega⟩, ha⟩]⟩)
          clear ha
          obtain ⟨p1, p2⟩ := p10_bd b.length hb9
          generalize nK f b b.length = N at *
          have m : -1000000000000000000 ≤ s * N ∧ s * N ≤ 1000000000000000000 := by rcases HS.out with h | h <;> rw [h] <;> omega
          have m1 := m.1
          have m2 := m.2
          have hp0 : ¬ p10 b.length = 0 := by omega
          clear m
          have LT := Lib.hid (fun w => rlow_any (s * N) (p10 b.length) w (by omega) (by omega) (by omega) (by omega) hp0)
          clear hp0
          go_wp2_with fail
          refine (ten_any b.length _ hb9).mono ?_; rintro e w' ⟨rfl, rfl⟩
          go_wp2_with fail
          refine (LT.out _).mono ?_; rintro e w1 ⟨rfl, hb1⟩; obtain ⟨hc1, hf1⟩ := bcell hb1; have hs1 := hb1.size; (try simp at hs1); (try have hz10 : w.heap.size < w1.heap.size := by omega); (try have hz11 : w.heap.size + 1 < w1.heap.size := by omega); (try have hz12 : w.heap.size + 1 + 1 < w1.heap.size := by omega); (try have hz13 : w.heap.size + 1 + 1 + 1 < w1.heap.size := by omega); (try have hz14 : w.heap.size + 1 + 1 + 1 + 1 < w1.heap.size := by omega); (try have hz15 : w.heap.size + 1 + 1 + 1 + 1 + 1 < w1.heap.size := by omega)
          go_wp2
          rw [Hyes.out]
          refine bodyPost_ret (v := .tuple #[.agg #[.int .i64 (lowT (s * N) (p10 b.length)).1, .int .i64 (lowT (s * N) (p10 b.length)).2.1], .int .i64 (lowT (s * N) (p10 b.length)).2.2]) (by simp (maxDischargeDepth := 8) [results, Tryz.results190, go_sem, *]) rfl ?_
          exact ⟨rfl, by ((repeat' (first | exact Below.refl _ _ | assumption | refine Below.setCell ?_ ?_ _ | refine bdrewN ?_ _ | refine Below.drew ?_ | refine Below.alloc ?_ ?_ _ | refine bbehind ?_ (by assumption) ?_)); all_goals first | (simp; done) | (simp; omega) | omega)⟩
    · have hinb : inB (b.length : Int) 1 9 = false := inB_no (by omega)
      rw [rdecR_no (fun h => hin (digR_true h.2).1)]
      clear hin
      go_enter Tryz.func190, Tryz.ntmps190
      go_wp2_with fail
      refine (CF.out _).mono ?_; rintro e w' ⟨rfl, rfl⟩
      go_wp2_with (go_at_call 66; refine (in_any _ _ _ _).mono ?_; rintro e w1 ⟨rfl, rfl⟩)
      refine bodyPost_ret (v := .tuple #[.agg #[.int .i64 0, .int .i64 0], .int .i64 1]) (by simp (maxDischargeDepth := 8) [results, Tryz.results190, go_sem, *]) rfl ?_
      exact ⟨rfl, by ((repeat' (first | exact Below.refl _ _ | assumption | refine Below.setCell ?_ ?_ _ | refine bdrewN ?_ _ | refine Below.drew ?_ | refine Below.alloc ?_ ?_ _ | refine bbehind ?_ (by assumption) ?_)); all_goals first | (simp; done) | (simp; omega) | omega)⟩
end Go.Proofs.YtcgedpfolloinaaGreat

namespace Go.Proofs.YtcgedpfolloinaaGreat
open Go.RowKit Go.BigFrame

theorem signed_eq (l : List UInt8) (n : Nat) : signed (isNeg l) n = factorOf l * (n : Int) := by
  unfold signed factorOf
  cases isNeg l <;> simp
theorem factor_is (l : List UInt8) : factorOf l = 1 ∨ factorOf l = -1 := by unfold factorOf; cases isNeg l <;> simp

theorem rparse_point {l : List UInt8} (h : findAt 46 (bodyOf l) < (bodyOf l).length) : rparseT l = rdecR ((bodyOf l).take (findAt 46 (bodyOf l))) ((bodyOf l).drop (findAt 46 (bodyOf l) + 1)) (factorOf l) := if_pos h
theorem rparse_slash {l : List UInt8} (h : ¬ findAt 46 (bodyOf l) < (bodyOf l).length) (k : findAt 47 (bodyOf l) < (bodyOf l).length) :
    rparseT l = rfracR l ((bodyOf l).take (findAt 47 (bodyOf l))) ((bodyOf l).drop (findAt 47 (bodyOf l) + 1)) (factorOf l * (valN ((bodyOf l).take (findAt 47 (bodyOf l))) : Int)) := by
  unfold rparseT; rw [if_neg h, if_pos k, signed_eq]
theorem rparse_whole {l : List UInt8} (h : ¬ findAt 46 (bodyOf l) < (bodyOf l).length) (k : ¬ findAt 47 (bodyOf l) < (bodyOf l).length) :
    rparseT l = rfracR l ((bodyOf l).take (findAt 47 (bodyOf l))) [49] (factorOf l * (valN ((bodyOf l).take (findAt 47 (bodyOf l))) : Int)) := by
  unfold rparseT; rw [if_neg h, if_neg k, signed_eq]

theorem countR_false {l : List UInt8} {m : Int} (h : (countR l m).2 = false) : countR l m = (0, false) := by
  unfold countR at h ⊢
  split at h
  · cases h
  · rename_i k; rw [if_neg k]
theorem count_one : countR [49] 10 = (1, true) := by decide
theorem count_bd {l : List UInt8} (h : (countR l 10).2 = true) : countR l 10 = ((valN l : Int), true) ∧ valN l ≤ 10000000000 := by
  have k := countR_true h
  exact ⟨countR_yes k, valN_bd k.2 (by have := k.1.1.2; omega)⟩

set_option maxRecDepth 100000 in
set_option maxHeartbeats 4000000 in
theorem rparse_any (l : List UInt8) (w : World) (hl : l.length ≤ 100000) :
    Calls Tryz.prog 180 #[.string ⟨l.toArray⟩] w fun e w' => e = .returned (.tuple #[.agg #[.int .i64 (rparseT l).1, .int .i64 (rparseT l).2.1], .int .i64 (rparseT l).2.2]) ∧ Below w.heap.size w w' := by
  have bl := bodyOf_len l
  have F1 := Lib.hid (fun w => find_any (bodyOf l) 46 46 w rfl (by omega))
  have F2 := Lib.hid (fun w => find_any (bodyOf l) 47 47 w rfl (by omega))
  have PT := Lib.hid (@rparse_point l)
  have PS := Lib.hid (@rparse_slash l)
  have PW := Lib.hid (@rparse_whole l)
  have HF := Lib.hid (factor_is l)
  have HL1 := findAt_le 46 (bodyOf l)
  have HL2 := findAt_le 47 (bodyOf l)
  go_enter Tryz.func180, Tryz.ntmps180
  go_upto_region 2 with fail
  go_cut [21] (fun s wx => s = .bool (isNeg l) ∧ wx = w.alloc (.cells #[.int .i64 0, .int .i64 0] 25))
  case first =>
    clear F1 F2 PT PS PW HF HL1 HL2 bl
    cases l with
    | nil =>
      go_wp2_with fail
      go_meet
      case rel => exact ⟨rfl, rfl⟩
    | cons c t =>
      have e1 : (((c.toNat : Int) == 45) : Bool) = (c == 45) := u8_eq c 45 (by omega)
      cases hc : c == 45 with
      | true =>
        have e2 := e1.trans hc
        have HC := Lib.hid (show isNeg (c :: t) = true from hc)
        clear e1 hc
        simp only [List.length_cons] at hl
        go_wp2_with fail
        go_meet
        case rel => exact ⟨by rw [HC.out], rfl⟩
      | false =>
        have e2 := e1.trans hc
        have HC := Lib.hid (show isNeg (c :: t) = false from hc)
        clear e1 hc
        simp only [List.length_cons] at hl
        go_wp2_with fail
        go_meet
        case rel => exact ⟨by rw [HC.out], rfl⟩
  case rest =>
    obtain ⟨rfl, rfl⟩ := hcut
    go_upto_if 21 with fail
    go_cut [4, 5] (fun s t wx => s = .string ⟨(bodyOf l).toArray⟩ ∧ t = .int .i64 (factorOf l) ∧ wx = w.alloc (.cells #[.int .i64 0, .int .i64 0] 25))
    case first =>
      clear F1 F2 PT PS PW HF HL1 HL2 bl
      cases hn : isNeg l with
      | true =>
        have h1 := isNeg_len hn
        have h2 : (1 : Int) ≤ (l.length : Int) := by omega
        have HB := Lib.hid (show bodyOf l = l.drop 1 by unfold bodyOf; rw [hn]; rfl)
        have HF := Lib.hid (show factorOf l = -1 by unfold factorOf; rw [hn]; rfl)
        go_wp2_with fail
        go_meet
        case rel => exact ⟨by rw [HB.out]; simp, by rw [HF.out], rfl⟩
      | false =>
        have HB := Lib.hid (show bodyOf l = l by unfold bodyOf; rw [hn]; rfl)
        have HF := Lib.hid (show factorOf l = 1 by unfold factorOf; rw [hn]; rfl)
        go_wp2_with fail
        go_meet
        case rel => exact ⟨by rw [HB.out], by rw [HF.out], rfl⟩
    case rest =>
      obtain ⟨rfl, rfl, rfl⟩ := hcut
      generalize factorOf l = s at *
      generalize bodyOf l = B at *
      generalize hpt : findAt 46 B = pt at *
      generalize hsl : findAt 47 B = sl at *
      clear hpt hsl
      go_wp2_with fail
      refine (F1.out _).mono ?_; rintro e w' ⟨rfl, rfl⟩
      go_wp2_with fail
      refine (F2.out _).mono ?_; rintro e w' ⟨rfl, rfl⟩
      by_cases hp : pt < B.length
      · have HR := Lib.hid (PT.out hp)
        have D := Lib.hid (fun w => rparseDecimal_any (B.take pt) (B.drop (pt + 1)) s w HF.out (by simp; omega) (by simp; omega))
        generalize rdecR (B.take pt) (B.drop (pt + 1)) s = r at *
        have q1 : IntKind.i64.wrap ((pt : Int) + 1) = (pt : Int) + 1 := IntWalk.i64_in _ (by omega)
        have q2 : (0 : Int) ≤ (pt : Int) + 1 := by omega
        have q3 : ((pt : Int) + 1).toNat = pt + 1 := by omega
        have q4 : (pt : Int) + 1 ≤ (B.length : Int) := by omega
        have q5 : (pt : Int) ≤ (B.length : Int) := by omega
        clear PT PS PW HL2
        go_wp2_with fail
        refine wp_region_quiet_tail (fun w' => ∃ x : Lower _, w' = x.val) 11 (by kernel_rfl) (by kernel_rfl) ⟨⟨_, (Below.refl _ _).drew⟩, rfl⟩ ?_
        simp only [List.take_succ_cons, List.take_zero, List.drop_succ_cons, List.drop_zero]
        repeat (go_big_quiet_step ((go_at_call 190; exact calls_lower _ (D.out _))))
        refine wpQuiet_nil ?_
        intro w1 hx1
        obtain ⟨x1, hx1⟩ := hx1
        have hb1 := x1.prop
        rw [← hx1] at hb1
        clear hx1 x1
        obtain ⟨hc1, hf1⟩ := bcell hb1
        have hs1 := hb1.size
        try simp at hs1
        try have hz0 : w.heap.size < w1.heap.size := by omega
        try have hz1 : w.heap.size + 1 < w1.heap.size := by omega
        try have hz2 : w.heap.size + 1 + 1 < w1.heap.size := by omega
        try have hz3 : w.heap.size + 1 + 1 + 1 < w1.heap.size := by omega
        try have hz4 : w.heap.size + 1 + 1 + 1 + 1 < w1.heap.size := by omega
        try have hz5 : w.heap.size + 1 + 1 + 1 + 1 + 1 < w1.heap.size := by omega
        go_wp2
        rw [HR.out]
        refine bodyPost_ret (v := .tuple #[.agg #[.int .i64 (r).1, .int .i64 (r).2.1], .int .i64 (r).2.2]) (by simp (maxDischargeDepth := 8) [results, Tryz.results180, go_sem, *]) rfl ?_
        exact ⟨rfl, by ((repeat' (first | exact Below.refl _ _ | assumption | refine Below.setCell ?_ ?_ _ | refine bdrewN ?_ _ | refine Below.drew ?_ | refine Below.alloc ?_ ?_ _ | refine bbehind ?_ (by assumption) ?_)); all_goals first | (simp; done) | (simp; omega) | omega)⟩
      · have C1 := Lib.hid (fun w => count_any (B.take sl) 10 w (by simp; omega) (by omega))
        have C2 := Lib.hid (fun w => count_any (B.drop (sl + 1)) 10 w (by simp; omega) (by omega))
        have K : ∃ G, rparseT l = rfracR l (B.take sl) G (s * (valN (B.take sl) : Int)) ∧ (if sl < B.length then G = B.drop (sl + 1) else G = [49]) := by
          by_cases hs : sl < B.length
          · exact ⟨_, PS.out hp hs, by rw [if_pos hs]⟩
          · exact ⟨_, PW.out hp hs, by rw [if_neg hs]⟩
        obtain ⟨G, hG, hG2⟩ := K
        have HR := Lib.hid hG
        have HG := Lib.hid hG2
        clear hG hG2 PT PS PW F1 F2
        go_wp2_with fail
        refine (C1.out _).mono ?_; rintro e w' ⟨rfl, rfl⟩
        go_upto_if 53 with fail
        go_cut [10, 11] (fun s t wx => s = .int .i64 (countR G 10).1 ∧ t = .bool (countR G 10).2 ∧ wx = w.alloc (.cells #[.int .i64 0, .int .i64 0] 25))
        case first =>
          by_cases hs : sl < B.length
          · have HG1 := Lib.hid (show G = B.drop (sl + 1) by have := HG.out; rw [if_pos hs] at this; exact this)
            have q4 : (sl : Int) + 1 ≤ (B.length : Int) := by omega
            go_wp2_with fail
            refine (C2.out _).mono ?_; rintro e w' ⟨rfl, rfl⟩
            go_wp2_with fail
            go_meet
            case rel => exact ⟨by rw [HG1.out], by rw [HG1.out], rfl⟩
          · have HG1 := Lib.hid (show G = [49] by have := HG.out; rw [if_neg hs] at this; exact this)
            go_wp2_with fail
            go_meet
            case rel => exact ⟨by rw [HG1.out, count_one], by rw [HG1.out, count_one], rfl⟩
        case rest =>
          obtain ⟨rfl, rfl, rfl⟩ := hcut
          generalize B.take sl = F at *
          clear HG C1 C2
          cases h1 : (countR F 10).2 with
          | false =>
            have HN := Lib.hid (HR.out.trans (rfracR_no (by rw [h1]; simp)))
            rw [countR_false h1]
            rcases HF.out with rfl | rfl
            all_goals
              go_wp2
              rw [HN.out]
              refine bodyPost_ret (v := .tuple #[.agg #[.int .i64 0, .int .i64 0], .int .i64 1]) (by simp (maxDischargeDepth := 8) [results, Tryz.results180, go_sem, *]) rfl ?_
              exact ⟨rfl, by ((repeat' (first | exact Below.refl _ _ | assumption | refine Below.setCell ?_ ?_ _ | refine bdrewN ?_ _ | refine Below.drew ?_ | refine Below.alloc ?_ ?_ _ | refine bbehind ?_ (by assumption) ?_)); all_goals first | (simp; done) | (simp; omega) | omega)⟩
          | true =>
            obtain ⟨c1, f4⟩ := count_bd h1
            rw [c1]
            cases h2 : (countR G 10).2 with
            | false =>
              have HN := Lib.hid (HR.out.trans (rfracR_no (by rw [h2]; simp)))
              rw [countR_false h2]
              clear c1 h1 h2
              have m : -10000000000 ≤ s * (valN F : Int) ∧ s * (valN F : Int) ≤ 10000000000 := by rcases HF.out with h | h <;> rw [h] <;> omega
              have m1 := m.1
              have m2 := m.2
              clear m
              go_wp2
              rw [HN.out]
              refine bodyPost_ret (v := .tuple #[.agg #[.int .i64 0, .int .i64 0], .int .i64 1]) (by simp (maxDischargeDepth := 8) [results, Tryz.results180, go_sem, *]) rfl ?_
              exact ⟨rfl, by ((repeat' (first | exact Below.refl _ _ | assumption | refine Below.setCell ?_ ?_ _ | refine bdrewN ?_ _ | refine Below.drew ?_ | refine Below.alloc ?_ ?_ _ | refine bbehind ?_ (by assumption) ?_)); all_goals first | (simp; done) | (simp; omega) | omega)⟩
            | true =>
              obtain ⟨c2, f5⟩ := count_bd h2
              rw [c2]
              have m : -10000000000 ≤ s * (valN F : Int) ∧ s * (valN F : Int) ≤ 10000000000 := by rcases HF.out with h | h <;> rw [h] <;> omega
              have m1 := m.1
              have m2 := m.2
              have HY := Lib.hid (fun hc ht => HR.out.trans (rfracR_yes ⟨⟨h1, h2⟩, hc, ht⟩))
              have HN := Lib.hid (fun (hc : ¬ (chk (s * (valN F : Int)) (valN G : Int) = 0 ∧ toldS (s * (valN F : Int)) (valN G : Int) = l)) => HR.out.trans (rfracR_no (fun k => hc k.2)))
              clear m c1 c2 h1 h2 HR
              have hy0 : (0 : Int) ≤ (valN G : Int) := by omega
              generalize hv : s * (valN F : Int) = v at *
              have hv' := Lib.hid hv
              generalize hy : (valN G : Int) = y at *
              clear hy
              generalize hx : (valN F : Int) = x at *
              clear hx hv f4 f5
              have hv2 : s * x = v := hv'.out
              have K := Lib.hid (fun w => rcheck_any v y w)
              by_cases hc : chk v y = 0
              · have T := Lib.hid (fun w => told_any v y w (fit_of_chk hc))
                rw [hc] at K
                by_cases ht : toldS v y = l
                · have HR := Lib.hid (HY.out hc ht)
                  rw [ht] at T
                  have heq2 : (l != l) = false := by simp
                  have heq := (str_ne l l).trans heq2
                  clear hc ht HY HN heq2
                  go_wp2_with fail
                  refine (K.out _).mono ?_; rintro e w1 ⟨rfl, hb1⟩; obtain ⟨hc1, hf1⟩ := bcell hb1; have hs1 := hb1.size; (try simp at hs1); (try have hz10 : w.heap.size < w1.heap.size := by omega); (try have hz11 : w.heap.size + 1 < w1.heap.size := by omega); (try have hz12 : w.heap.size + 1 + 1 < w1.heap.size := by omega); (try have hz13 : w.heap.size + 1 + 1 + 1 < w1.heap.size := by omega); (try have hz14 : w.heap.size + 1 + 1 + 1 + 1 < w1.heap.size := by omega); (try have hz15 : w.heap.size + 1 + 1 + 1 + 1 + 1 < w1.heap.size := by omega)
                  go_wp2_with fail
                  refine (T.out _).mono ?_; rintro e w2 ⟨rfl, hb2⟩; obtain ⟨hc2, hf2⟩ := bcell hb2; have hs2 := hb2.size; (try simp at hs2); (try have hz20 : w.heap.size < w2.heap.size := by omega); (try have hz21 : w.heap.size + 1 < w2.heap.size := by omega); (try have hz22 : w.heap.size + 1 + 1 < w2.heap.size := by omega); (try have hz23 : w.heap.size + 1 + 1 + 1 < w2.heap.size := by omega); (try have hz24 : w.heap.size + 1 + 1 + 1 + 1 < w2.heap.size := by omega); (try have hz25 : w.heap.size + 1 + 1 + 1 + 1 + 1 < w2.heap.size := by omega); (try have hy1_2 : w1.heap.size < w2.heap.size := by omega)
                  go_wp2
                  rw [HR.out]
                  refine bodyPost_ret (v := .tuple #[.agg #[.int .i64 v, .int .i64 y], .int .i64 0]) (by simp (maxDischargeDepth := 8) [results, Tryz.results180, go_sem, *]) rfl ?_
                  exact ⟨rfl, by ((repeat' (first | exact Below.refl _ _ | assumption | refine Below.setCell ?_ ?_ _ | refine bdrewN ?_ _ | refine Below.drew ?_ | refine Below.alloc ?_ ?_ _ | refine bbehind ?_ (by assumption) ?_)); all_goals first | (simp; done) | (simp; omega) | omega)⟩
                · have HR := Lib.hid (HN.out (fun k => ht k.2))
                  have heq2 : (toldS v y == l) = false := by simpa using ht
                  clear hc ht HY HN
                  generalize toldS v y = z at *
                  go_wp2_with fail
                  refine (K.out _).mono ?_; rintro e w1 ⟨rfl, hb1⟩; obtain ⟨hc1, hf1⟩ := bcell hb1; have hs1 := hb1.size; (try simp at hs1); (try have hz10 : w.heap.size < w1.heap.size := by omega); (try have hz11 : w.heap.size + 1 < w1.heap.size := by omega); (try have hz12 : w.heap.size + 1 + 1 < w1.heap.size := by omega); (try have hz13 : w.heap.size + 1 + 1 + 1 < w1.heap.size := by omega); (try have hz14 : w.heap.size + 1 + 1 + 1 + 1 < w1.heap.size := by omega); (try have hz15 : w.heap.size + 1 + 1 + 1 + 1 + 1 < w1.heap.size := by omega)
                  go_wp2_with fail
                  refine (T.out _).mono ?_; rintro e w2 ⟨rfl, hb2⟩; obtain ⟨hc2, hf2⟩ := bcell hb2; have hs2 := hb2.size; (try simp at hs2); (try have hz20 : w.heap.size < w2.heap.size := by omega); (try have hz21 : w.heap.size + 1 < w2.heap.size := by omega); (try have hz22 : w.heap.size + 1 + 1 < w2.heap.size := by omega); (try have hz23 : w.heap.size + 1 + 1 + 1 < w2.heap.size := by omega); (try have hz24 : w.heap.size + 1 + 1 + 1 + 1 < w2.heap.size := by omega); (try have hz25 : w.heap.size + 1 + 1 + 1 + 1 + 1 < w2.heap.size := by omega); (try have hy1_2 : w1.heap.size < w2.heap.size := by omega)
                  go_wp2
                  rw [HR.out]
                  refine bodyPost_ret (v := .tuple #[.agg #[.int .i64 0, .int .i64 0], .int .i64 1]) (by simp (maxDischargeDepth := 8) [results, Tryz.results180, go_sem, *]) rfl ?_
                  exact ⟨rfl, by ((repeat' (first | exact Below.refl _ _ | assumption | refine Below.setCell ?_ ?_ _ | refine bdrewN ?_ _ | refine Below.drew ?_ | refine Below.alloc ?_ ?_ _ | refine bbehind ?_ (by assumption) ?_)); all_goals first | (simp; done) | (simp; omega) | omega)⟩
              · have HR := Lib.hid (HN.out (fun k => hc k.1))
                have hc' : (chk v y != 0) = true := by simpa using hc
                clear hc HY HN
                go_wp2_with fail
                refine (K.out _).mono ?_; rintro e w1 ⟨rfl, hb1⟩; obtain ⟨hc1, hf1⟩ := bcell hb1; have hs1 := hb1.size; (try simp at hs1); (try have hz10 : w.heap.size < w1.heap.size := by omega); (try have hz11 : w.heap.size + 1 < w1.heap.size := by omega); (try have hz12 : w.heap.size + 1 + 1 < w1.heap.size := by omega); (try have hz13 : w.heap.size + 1 + 1 + 1 < w1.heap.size := by omega); (try have hz14 : w.heap.size + 1 + 1 + 1 + 1 < w1.heap.size := by omega); (try have hz15 : w.heap.size + 1 + 1 + 1 + 1 + 1 < w1.heap.size := by omega)
                go_wp2
                rw [HR.out]
                refine bodyPost_ret (v := .tuple #[.agg #[.int .i64 0, .int .i64 0], .int .i64 1]) (by simp (maxDischargeDepth := 8) [results, Tryz.results180, go_sem, *]) rfl ?_
                exact ⟨rfl, by ((repeat' (first | exact Below.refl _ _ | assumption | refine Below.setCell ?_ ?_ _ | refine bdrewN ?_ _ | refine Below.drew ?_ | refine Below.alloc ?_ ?_ _ | refine bbehind ?_ (by assumption) ?_)); all_goals first | (simp; done) | (simp; omega) | omega)⟩
end Go.Proofs.YtcgedpfolloinaaGreat

namespace Go.Proofs.YtcgedpfolloinaaGreat
open Go.RowKit

theorem told_head (n d : Int) : ∃ c t, toldS n d = c :: t ∧ (c.toNat = 45 ∨ digitB c = true) := by
  obtain ⟨c, t, e, hd⟩ := digs_head n.natAbs
  rw [told_rest, e]
  unfold signText
  split
  · exact ⟨45, _, rfl, .inl rfl⟩
  · refine ⟨c, t ++ restS d, rfl, .inr ?_⟩
    unfold isDig at hd
    simp only [Bool.and_eq_true, decide_eq_true_eq] at hd
    simpa [digitB] using hd
end Go.Proofs.YtcgedpfolloinaaGreat
