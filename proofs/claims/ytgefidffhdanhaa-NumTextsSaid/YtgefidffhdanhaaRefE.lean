import Derived.Test.YtgefidffhdanhaaRefD
import Derived.Test.YtgefidffhdanhaaRefC
import Derived.Test.YtgefidffhdanhaaMathF
namespace Go.Proofs.Ytgefidffhdanhaa
open Go.RowKit Go.BigFrame

set_option maxHeartbeats 400000 in
theorem digit_any (c : UInt8) (w : World) : Calls Try.prog 131 #[.int .u8 (c.toNat : Int)] w fun e w' => e = .returned (.bool (isDig c)) ∧ w = w' := by
  have cb : c.toNat < 256 := c.toNat_lt
  by_cases h1 : c.toNat < 48
  · have h1' : (c.toNat : Int) < 48 := by omega
    have H := Lib.hid (show isDig c = false by unfold isDig; first | (simp; done) | (simp; omega))
    clear h1
    go_enter Try.func131, Try.ntmps131
    go_wp2
    go_ret
    exact ⟨ret_bool (by rw [H.out] <;> (first | rfl | (simp; omega))), rfl⟩
  · have h1' : ¬ (c.toNat : Int) < 48 := by omega
    by_cases h2 : 57 < c.toNat
    · have h2' : (57 : Int) < (c.toNat : Int) := by omega
      have H := Lib.hid (show isDig c = false by unfold isDig; first | (simp; done) | (simp; omega))
      clear h1 h2
      go_enter Try.func131, Try.ntmps131
      go_wp2
      go_ret
      exact ⟨ret_bool (by rw [H.out] <;> (first | rfl | (simp; omega))), rfl⟩
    · have h2' : (c.toNat : Int) ≤ 57 := by omega
      have H := Lib.hid (show isDig c = true by unfold isDig; first | (simp; done) | (simp; omega))
      clear h1 h2
      go_enter Try.func131, Try.ntmps131
      go_wp2
      go_ret
      exact ⟨ret_bool (by rw [H.out] <;> (first | rfl | (simp; omega))), rfl⟩

theorem findAt_here {d : UInt8} {l : List UInt8} {k : Nat} (h : k < l.length) (hk : k ≤ findAt d l) (hm : (l[k] == d) = true) : findAt d l = k := by
  have : ¬ k < findAt d l := fun h1 => by
    have := List.not_of_lt_findIdx h1
    simp [hm] at this
  omega
theorem findAt_next {d : UInt8} {l : List UInt8} {k : Nat} (h : k < l.length) (hk : k ≤ findAt d l) (hm : (l[k] == d) = false) : k + 1 ≤ findAt d l := by
  have : k ≠ findAt d l := fun h1 => by
    have h2 : findAt d l < l.length := by omega
    have := List.findIdx_getElem (w := h2)
    unfold findAt at h1
    simp only [← h1] at this
    rw [hm] at this; cases this
  omega

set_option maxHeartbeats 800000 in
theorem find_any (l : List UInt8) (d : UInt8) (c : Int) (w : World) (hc : c = (d.toNat : Int)) (hl : l.length ≤ 100000) :
    Calls Try.prog 117 #[.string ⟨l.toArray⟩, .int .u8 c] w fun e w' => e = .returned (.int .i64 (findAt d l : Int)) ∧ w = w' := by
  have HM := Lib.hid (findAt_le d l)
  have HC := Lib.hid hc; clear hc
  go_enter Try.func117, Try.ntmps117
  go_wp2
  go_loop [5] (fun a => ∃ k : Nat, a = .int .i64 k ∧ k ≤ l.length ∧ k ≤ findAt d l) (fun a => l.length - (intOf a).toNat)
  case atStart => exact ⟨0, rfl, Nat.zero_le _, Nat.zero_le _⟩
  case round =>
    obtain ⟨k, rfl, hk, hf⟩ := hrel
    by_cases hlt : k < l.length
    · have HF := Lib.hid hf; clear hf
      have e1 : (((l[k].toNat : Int) == c) : Bool) = (l[k] == d) := by
        rw [HC.out, u8_eq (l[k]) d.toNat d.toNat_lt]
        simp
      cases he : l[k] == d with
      | true =>
        have e3 := e1.trans he
        have Hm := Lib.hid (findAt_here hlt HF.out he)
        clear e1 he
        go_wp2
        go_ret
        exact ⟨ret_int (by rw [Hm.out]), rfl⟩
      | false =>
        have e3 := e1.trans he
        have Hm := Lib.hid (findAt_next hlt HF.out he)
        clear e1 he
        go_wp2
        go_round
        case rel => exact ⟨k + 1, by go_num, by omega, Hm.out⟩
        case measure => simp [intOf]; omega
    · go_wp2
      go_ret
      exact ⟨ret_int (by have := HM.out; omega), rfl⟩

set_option maxRecDepth 100000 in
set_option maxHeartbeats 1600000 in
theorem count_any (l : List UInt8) (most : Int) (w : World) (hl : l.length ≤ 100000) (hm : most ≤ 10) :
    Calls Try.prog 119 #[.string ⟨l.toArray⟩, .int .i64 most] w fun e w' => e = .returned (.tuple #[.int .i64 (countR l most).1, .bool (countR l most).2]) ∧ w = w' := by
  by_cases hin : 1 ≤ l.length ∧ (l.length : Int) ≤ most
  · have hinb : inB (l.length : Int) 1 most = true := inB_yes (by omega)
    have hlen : 0 < l.length := hin.1
    obtain ⟨z, hz⟩ : ∃ z, l[0] = z := ⟨_, rfl⟩
    have e1 : (((z.toNat : Int) == 48) : Bool) = (z == 48) := u8_eq z 48 (by omega)
    have HZ := Lib.hid hz
    have hg : l.getD 0 0 = z := by rw [List.getD_eq_getElem?_getD, List.getElem?_eq_getElem hlen, Option.getD_some, hz]
    by_cases hzero : 1 < l.length ∧ l.getD 0 0 = 48
    · have e2 : ((z.toNat : Int) == 48) = true := by rw [e1]; rw [← hg, hzero.2]; rfl
      have hlt : (1 : Int) < (l.length : Int) := by omega
      rw [countR_no (fun h => h.1.2 hzero)]
      have HI := Lib.hid hin
      clear hzero hin hg e1
      go_enter Try.func119, Try.ntmps119
      go_wp2_with (go_at_call 64; refine (in_any _ _ _ _).mono ?_; rintro e w1 ⟨rfl, rfl⟩)
      go_ret2
      exact ⟨rfl, rfl⟩
    · have tail : ∀ (_hq : ((1 : Int) < (l.length : Int) ∧ ((z.toNat : Int) == 48) = false) ∨ ¬ (1 : Int) < (l.length : Int)),
          Calls Try.prog 119 #[.string ⟨l.toArray⟩, .int .i64 most] w fun e w' => e = .returned (.tuple #[.int .i64 (countR l most).1, .bool (countR l most).2]) ∧ w = w' := by
        intro hq
        have HZR := Lib.hid hzero
        have HI := Lib.hid hin
        clear hzero hin hg e1
        rcases hq with ⟨hq1, hq2⟩ | hq1
        all_goals
          go_enter Try.func119, Try.ntmps119
          go_wp2_with (go_at_call 64; refine (in_any _ _ _ _).mono ?_; rintro e w1 ⟨rfl, rfl⟩)
          go_loop [6, 7] (fun n i => ∃ k : Nat, k ≤ l.length ∧ i = .int .i64 k ∧ n = .int .i64 (valN (l.take k) : Int) ∧ (l.take k).all isDig = true) (fun _ i => l.length - (intOf i).toNat)
          case atStart => exact ⟨0, Nat.zero_le _, rfl, rfl, by simp⟩
          case round =>
            obtain ⟨k, hk, rfl, rfl, ha⟩ := hrel
            by_cases hlt : k < l.length
            · have b1 := valN_bd ha (by have := HI.out; simp; omega)
              have HT := Lib.hid (take_next l k hlt)
              have HA := Lib.hid ha; clear ha
              obtain ⟨c, hc⟩ : ∃ c, l[k] = c := ⟨_, rfl⟩
              have HX := Lib.hid hc
              have cb : c.toNat < 256 := c.toNat_lt
              cases hd : isDig c with
              | false =>
                have Hno := Lib.hid (countR_no (l := l) (most := most) (fun h => by
                  have := List.all_eq_true.1 h.2 l[k] (List.getElem_mem _)
                  rw [HX.out, hd] at this
                  cases this))
                go_wp2_with (go_at_call 131; refine (digit_any _ _).mono ?_; rintro e w1 ⟨rfl, rfl⟩)
                go_ret2
                exact ⟨by rw [Hno.out]; rfl, rfl⟩
              | true =>
                have hr : 48 ≤ c.toNat ∧ c.toNat ≤ 57 := by unfold isDig at hd; simpa using hd
                have hr1 : (48 : Int) ≤ (c.toNat : Int) := by omega
                have Hval := Lib.hid (show ((valN (l.take (k + 1)) : Nat) : Int) = (valN (l.take k) : Int) * 10 + ((c.toNat : Int) - 48) by
                  rw [HT.out, valN_snoc, HX.out]; omega)
                have Hall := Lib.hid (show (l.take (k + 1)).all isDig = true by
                  rw [HT.out, List.all_append, HA.out, HX.out]; simp [hd])
                go_wp2_with (go_at_call 131; refine (digit_any _ _).mono ?_; rintro e w1 ⟨rfl, rfl⟩)
                go_round
                case rel => exact ⟨k + 1, by omega, by go_num, by rw [Hval.out], Hall.out⟩
                case measure => simp [intOf]; omega
            · have Hke := Lib.hid (show k = l.length by omega)
              have Hyes := Lib.hid (countR_yes (l := l) (most := most) ⟨⟨HI.out, HZR.out⟩, by have := ha; rw [Hke.out, List.take_length] at this; exact this⟩)
              have Hv := Lib.hid (show valN (l.take k) = valN l by rw [Hke.out, List.take_length])
              clear ha
              go_wp2
              go_ret2
              exact ⟨by rw [Hyes.out, ← Hv.out]; rfl, rfl⟩
      by_cases hl1 : 1 < l.length
      · refine tail (.inl ⟨by omega, ?_⟩)
        rw [e1]
        cases h : z == 48 with
        | false => rfl
        | true => exact absurd ⟨hl1, by rw [hg]; simpa using h⟩ hzero
      · exact tail (.inr (by omega))
  · have hinb : inB (l.length : Int) 1 most = false := inB_no (by omega)
    rw [countR_no (fun h => hin h.1.1)]
    clear hin
    go_enter Try.func119, Try.ntmps119
    go_wp2_with (go_at_call 64; refine (in_any _ _ _ _).mono ?_; rintro e w1 ⟨rfl, rfl⟩)
    go_ret2
    exact ⟨rfl, rfl⟩
end Go.Proofs.Ytgefidffhdanhaa
