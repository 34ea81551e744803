import Derived.Test.YtgefidffhdanhaaNumN
import Derived.Test.YtgefidffhdanhaaText2
namespace Go.Proofs.Ytgefidffhdanhaa
open Go.RowKit Go.BigFrame

@[go_sem] theorem ext_front (l : List UInt8) (k : Nat) : (⟨l.toArray⟩ : ByteArray).extract 0 k = ⟨(l.take k).toArray⟩ := by
  apply ByteArray.ext; rw [ByteArray.data_extract]; simp
@[go_sem] theorem ext_rest (l : List UInt8) (k : Nat) : (⟨l.toArray⟩ : ByteArray).extract k l.length = ⟨(l.drop k).toArray⟩ := by
  apply ByteArray.ext; rw [ByteArray.data_extract]; simp; rw [List.take_of_length_le (by simp)]
@[go_sem] theorem str_at (l : List UInt8) (k : Nat) (h : k < (⟨l.toArray⟩ : ByteArray).size) : (⟨l.toArray⟩ : ByteArray)[k] = l[k]'h := rfl

/-- a slash or a point. -/
def isMark (c : UInt8) : Bool := c == 47 || c == 46
/-- where the first one is. -/
def markAt (l : List UInt8) : Nat := l.findIdx isMark
def cutF (l : List UInt8) : List UInt8 := l.take (markAt l)
def cutM (l : List UInt8) : UInt8 := l.getD (markAt l) 0
def cutB (l : List UInt8) : List UInt8 := l.drop (markAt l + 1)

theorem markAt_le (l : List UInt8) : markAt l ≤ l.length := List.findIdx_le_length
theorem markAt_here {l : List UInt8} {k : Nat} (h : k < l.length) (hk : k ≤ markAt l) (hm : isMark l[k] = true) : markAt l = k := by
  have : ¬ k < markAt l := fun h1 => by
    have := List.not_of_lt_findIdx h1
    simp [hm] at this
  omega
theorem markAt_next {l : List UInt8} {k : Nat} (h : k < l.length) (hk : k ≤ markAt l) (hm : isMark l[k] = false) : k + 1 ≤ markAt l := by
  have : k ≠ markAt l := fun h1 => by
    have h2 : markAt l < l.length := by omega
    have := List.findIdx_getElem (w := h2)
    unfold markAt at h1
    simp only [← h1] at this
    rw [hm] at this; cases this
  omega
theorem u8_eq (c : UInt8) (n : Nat) (hn : n < 256) : (((c.toNat : Int) == (n : Int)) : Bool) = (c == UInt8.ofNat n) := by
  rw [Bool.eq_iff_iff]
  simp only [beq_iff_eq]
  constructor
  · intro h; apply UInt8.toNat.inj; rw [UInt8.toNat_ofNat']; omega
  · intro h; subst h; rw [UInt8.toNat_ofNat']; omega

set_option maxHeartbeats 800000 in
theorem cut_any (l : List UInt8) (w : World) (hl : l.length ≤ 100000) :
    Calls Try.prog 114 #[.string ⟨l.toArray⟩] w fun e w' => e = .returned (.tuple #[.string ⟨(cutF l).toArray⟩, .int .u8 (cutM l).toNat, .string ⟨(cutB l).toArray⟩]) ∧ Below w.heap.size w w' := by
  have HM := Lib.hid (markAt_le l)
  go_enter Try.func114, Try.ntmps114
  go_wp2
  go_step3
  go_wp2
  go_step3
  go_wp2
  go_loopw [5, 15] (fun a _ wr => ∃ k : Nat, a = .int .i64 k ∧ k ≤ l.length ∧ k ≤ markAt l ∧ Below w.heap.size w wr) (fun a _ _ => l.length - (intOf a).toNat)
  case atStart => exact ⟨0, rfl, Nat.zero_le _, Nat.zero_le _, Below.refl _ _⟩
  case round =>
    obtain ⟨k, rfl, hk, hf, hb⟩ := hrel
    by_cases hlt : k < l.length
    · have hsz := hb.size
      have HB := Lib.hid hb; clear hb
      have HF := Lib.hid hf; clear hf
      obtain ⟨c, hc⟩ : ∃ c, l[k] = c := ⟨_, rfl⟩
      have HC := Lib.hid hc
      have e0 : ((k : Int) == (l.length : Int)) = false := by simp; omega
      have e1 : (((c.toNat : Int) == 47) : Bool) = (c == 47) := u8_eq c 47 (by omega)
      have e2 : (((c.toNat : Int) == 46) : Bool) = (c == 46) := u8_eq c 46 (by omega)
      have KF := Lib.hid (fun hm : isMark c = true => by
        have hk := markAt_here hlt HF.out (by rw [HC.out]; exact hm)
        show (l.take k, c, l.drop (k + 1)) = (cutF l, cutM l, cutB l)
        unfold cutF cutM cutB
        rw [hk, List.getD_eq_getElem?_getD, List.getElem?_eq_getElem hlt, HC.out]
        rfl)
      cases h47 : c == 47 with
      | true =>
        have e3 := e1.trans h47
        have Hm := Lib.hid (KF.out (by unfold isMark; rw [h47]; rfl))
        clear e1 e2 h47
        go_wp2
        refine wp_region_quiet_all (fun w' => ∃ x : Lower _, w' = x.val) (by kernel_rfl) (by kernel_rfl) ⟨⟨_, (Below.refl _ _).drew⟩, rfl⟩ ?_
        repeat (go_big_quiet_step (fail))
        refine wpQuiet_nil ?_
        intro w1 hx1
        obtain ⟨x1, hx1⟩ := hx1
        have hb1 := x1.prop
        rw [← hx1] at hb1
        clear hx1 x1
        obtain ⟨hc1, hf1⟩ := bcell hb1
        have hs1 := hb1.size
        try simp at hs1
        try have hz0 : w.heap.size < w1.heap.size := by omega
        try have hz1 : w.heap.size + 1 < w1.heap.size := by omega
        try have hz2 : w.heap.size + 1 + 1 < w1.heap.size := by omega
        try have hz3 : w.heap.size + 1 + 1 + 1 < w1.heap.size := by omega
        try have hz4 : w.heap.size + 1 + 1 + 1 + 1 < w1.heap.size := by omega
        try have hz5 : w.heap.size + 1 + 1 + 1 + 1 + 1 < w1.heap.size := by omega
        go_wp2
        rw [Exit.noGoto_ret]
        go_ret3
        have Hm1 := Hm.out
        simp only [Prod.mk.injEq] at Hm1
        exact ⟨by rw [← Hm1.1, ← Hm1.2.1, ← Hm1.2.2]; rfl, bbehind HB.out hb1 hsz⟩
      | false =>
        have e3 := e1.trans h47
        cases h46 : c == 46 with
        | true =>
          have e4 := e2.trans h46
          have Hm := Lib.hid (KF.out (by unfold isMark; rw [h47, h46]; rfl))
          clear e1 e2 h46 h47
          go_wp2
          refine wp_region_quiet_all (fun w' => ∃ x : Lower _, w' = x.val) (by kernel_rfl) (by kernel_rfl) ⟨⟨_, (Below.refl _ _).drew⟩, rfl⟩ ?_
          repeat (go_big_quiet_step (fail))
          refine wpQuiet_nil ?_
          intro w1 hx1
          obtain ⟨x1, hx1⟩ := hx1
          have hb1 := x1.prop
          rw [← hx1] at hb1
          clear hx1 x1
          obtain ⟨hc1, hf1⟩ := bcell hb1
          have hs1 := hb1.size
          try simp at hs1
          try have hz0 : w.heap.size < w1.heap.size := by omega
          try have hz1 : w.heap.size + 1 < w1.heap.size := by omega
          try have hz2 : w.heap.size + 1 + 1 < w1.heap.size := by omega
          try have hz3 : w.heap.size + 1 + 1 + 1 < w1.heap.size := by omega
          try have hz4 : w.heap.size + 1 + 1 + 1 + 1 < w1.heap.size := by omega
          try have hz5 : w.heap.size + 1 + 1 + 1 + 1 + 1 < w1.heap.size := by omega
          go_wp2
          rw [Exit.noGoto_ret]
          go_ret3
          have Hm1 := Hm.out
          simp only [Prod.mk.injEq] at Hm1
          exact ⟨by rw [← Hm1.1, ← Hm1.2.1, ← Hm1.2.2]; rfl, bbehind HB.out hb1 hsz⟩
        | false =>
          have e4 := e2.trans h46
          have Hm := Lib.hid (show isMark c = false by unfold isMark; rw [h47, h46]; rfl)
          clear e1 e2 h46 h47
          go_wp2
          go_roundw
          case rel => exact ⟨k + 1, by go_num, by omega, markAt_next hlt HF.out (by rw [HC.out]; exact Hm.out), HB.out⟩
          case measure => simp [intOf]; omega
    · have hke : k = l.length := by omega
      subst hke
      have Hme := Lib.hid (show markAt l = l.length by have := HM.out; omega)
      go_wp2
      rw [Exit.noGoto_ret]
      go_ret3
      exact ⟨by unfold cutF cutM cutB; rw [Hme.out]; simp, hb⟩

/-- a text as a slice of bytes: new memory. -/
theorem conv_bytes (l : List UInt8) (w : World) : ∃ cap w1, (convert 9 115 (.string ⟨l.toArray⟩)).run Try.prog w = .ok (.slice (some ⟨w.heap.size, 0, none⟩) l.length cap) w1 ∧
    Below w.heap.size w w1 ∧ w.heap.size < w1.heap.size ∧ ∀ i (h : i < l.length), w1.cell? ⟨w.heap.size, i, none⟩ = some (.int .u8 (l[i].toNat : Int)) := by
  refine ⟨_, _, run_bytes_of_string w 9 115 5 ⟨l.toArray⟩ (by kernel_rfl) (by kernel_rfl) (by kernel_rfl), ?_, ?_, ?_⟩
  · exact ((Below.refl _ _).drew).alloc (Nat.le_refl _) _
  · simp
  · intro i h
    generalize grownCap w (⟨l.toArray⟩ : ByteArray).size 0 5 = cap
    exact (World.cell?_alloc_mark w.drew _ _ _ i).trans (by rw [bytesRow_at _ _ _ (by simpa using h)]; simp)

/-- a text of 1 to so many digits: what it says. -/
def digR (l : List UInt8) (most : Int) : Int × Bool := if (1 ≤ l.length ∧ (l.length : Int) ≤ most) ∧ l.all isDig = true then ((valN l : Int), true) else (0, false)
theorem digR_no {l : List UInt8} {most : Int} (h : ¬ ((1 ≤ l.length ∧ (l.length : Int) ≤ most) ∧ l.all isDig = true)) : digR l most = (0, false) := if_neg h
theorem digR_yes {l : List UInt8} {most : Int} (h : (1 ≤ l.length ∧ (l.length : Int) ≤ most) ∧ l.all isDig = true) : digR l most = ((valN l : Int), true) := if_pos h

theorem take_next (l : List UInt8) (k : Nat) (h : k < l.length) : l.take (k + 1) = l.take k ++ [l[k]] := by rw [List.take_succ_eq_append_getElem h]
theorem valN_bd {l : List UInt8} (h : l.all isDig = true) (h10 : l.length ≤ 10) : valN l ≤ 10000000000 := by
  have h1 := valN_lt l h
  have h2 : (10 : Nat) ^ l.length ≤ 10 ^ 10 := Nat.pow_le_pow_right (by omega) h10
  omega

set_option maxRecDepth 100000 in
set_option maxHeartbeats 800000 in
theorem digits_any (l : List UInt8) (most : Int) (w : World) (hl : l.length ≤ 100000) (hm : most ≤ 10) :
    Calls Try.prog 116 #[.string ⟨l.toArray⟩, .int .i64 most] w fun e w' => e = .returned (.tuple #[.int .i64 (digR l most).1, .bool (digR l most).2]) ∧ Below w.heap.size w w' := by
  by_cases h1 : l.length < 1
  · rw [digR_no (by omega)]
    have h1' : (l.length : Int) < 1 := by omega
    clear h1
    go_enter Try.func116, Try.ntmps116
    go_wp2
    go_ret2
    exact ⟨rfl, Below.refl _ _⟩
  · have h1' : ¬ (l.length : Int) < 1 := by omega
    by_cases h2 : most < l.length
    · rw [digR_no (by omega)]
      clear h1
      go_enter Try.func116, Try.ntmps116
      go_wp2
      go_ret2
      exact ⟨rfl, Below.refl _ _⟩
    · obtain ⟨cap, w1, hcv, hb1, hz1, hcell⟩ := conv_bytes l w
      have HC := Lib.hid hcell; clear hcell
      have HB1 := Lib.hid hb1; clear hb1
      go_enter Try.func116, Try.ntmps116
      go_wp2
      go_loopw [4, 20] (fun n i wr => ∃ k : Nat, k ≤ l.length ∧ i = .int .i64 k ∧ n = .int .i64 (valN (l.take k) : Int) ∧ (l.take k).all isDig = true ∧ wr = w1) (fun _ i _ => l.length - (intOf i).toNat)
      case atStart => exact ⟨0, Nat.zero_le _, rfl, rfl, by simp, rfl⟩
      case round =>
        obtain ⟨k, hk, rfl, rfl, ha, rfl⟩ := hrel
        by_cases hlt : k < l.length
        · have hce := HC.out k hlt
          have b1 := valN_bd ha (by simp; omega)
          have b2 := valN_lt (l.take k) ha
          have HT := Lib.hid (take_next l k hlt)
          have HA := Lib.hid ha; clear ha
          obtain ⟨c, hc⟩ : ∃ c, l[k] = c := ⟨_, rfl⟩
          have HX := Lib.hid hc
          rw [hc] at hce
          clear hc
          have cb : c.toNat < 256 := c.toNat_lt
          by_cases hc1 : c.toNat < 48
          · have Hno := Lib.hid (digR_no (l := l) (most := most) (fun h => by
              have := List.all_eq_true.1 h.2 l[k] (List.getElem_mem _)
              rw [HX.out] at this
              simp [isDig] at this
              omega))
            have hc1' : (c.toNat : Int) < 48 := by omega
            clear hc1
            go_wp2
            go_ret2
            exact ⟨by rw [Hno.out]; rfl, HB1.out⟩
          · by_cases hc2 : 57 < c.toNat
            · have Hno := Lib.hid (digR_no (l := l) (most := most) (fun h => by
                have := List.all_eq_true.1 h.2 l[k] (List.getElem_mem _)
                rw [HX.out] at this
                simp [isDig] at this
                omega))
              have hc1' : ¬ (c.toNat : Int) < 48 := by omega
              have hc2' : (57 : Int) < (c.toNat : Int) := by omega
              clear hc1 hc2
              go_wp2
              go_ret2
              exact ⟨by rw [Hno.out]; rfl, HB1.out⟩
            · have hc1' : ¬ (c.toNat : Int) < 48 := by omega
              have hc2' : ¬ (57 : Int) < (c.toNat : Int) := by omega
              have Hval := Lib.hid (show ((valN (l.take (k + 1)) : Nat) : Int) = 10 * (valN (l.take k) : Int) + ((c.toNat : Int) - 48) by
                rw [HT.out, valN_snoc, HX.out]; omega)
              have Hall := Lib.hid (show (l.take (k + 1)).all isDig = true by
                rw [HT.out, List.all_append, HA.out, HX.out]; simp [isDig]; omega)
              clear hc1 hc2
              go_wp2
              go_roundw
              case rel => exact ⟨k + 1, by omega, by go_num, by rw [Hval.out], Hall.out, trivial⟩
              case measure => simp [intOf]; omega
        · have Hke := Lib.hid (show k = l.length by omega)
          have Hyes := Lib.hid (digR_yes (l := l) (most := most) ⟨⟨by omega, by omega⟩, by have := ha; rw [Hke.out, List.take_length] at this; exact this⟩)
          have Hv := Lib.hid (show valN (l.take k) = valN l by rw [Hke.out, List.take_length])
          clear ha
          go_wp2
          go_ret2
          exact ⟨by rw [Hyes.out, ← Hv.out]; rfl, HB1.out⟩
end Go.Proofs.Ytgefidffhdanhaa
