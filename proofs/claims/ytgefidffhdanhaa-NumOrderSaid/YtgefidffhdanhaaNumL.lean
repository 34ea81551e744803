import Derived.Test.YtgefidffhdanhaaNumI
import Derived.Test.YtgefidffhdanhaaText
namespace Go.Proofs.Ytgefidffhdanhaa
open Go.RowKit Go.BigFrame

/-- of what was there, only block b may have turned. -/
structure Only (b : Nat) (w w' : World) : Prop where
  os : w'.os = w.os
  tape : w'.tape = w.tape
  output : w'.output = w.output
  size : w.heap.size ≤ w'.heap.size
  block : ∀ k, k < w.heap.size → k ≠ b → w'.heap[k]? = w.heap[k]?

theorem Only.refl' (b : Nat) (w : World) : Only b w w := ⟨rfl, rfl, rfl, Nat.le_refl _, fun _ _ _ => rfl⟩
theorem only_trans {b : Nat} {w w1 w2 : World} (h : Only b w w1) (k : Only b w1 w2) : Only b w w2 :=
  ⟨k.os.trans h.os, k.tape.trans h.tape, k.output.trans h.output, Nat.le_trans h.size k.size, fun i hi hb => (k.block i (Nat.lt_of_lt_of_le hi h.size) hb).trans (h.block i hi hb)⟩
theorem only_below {b B : Nat} {w w' : World} (h : Only b w w') (hB : B ≤ b) (hw : B ≤ w.heap.size) : Below B w w' :=
  ⟨h.os, h.tape, h.output, h.size, fun i hi => h.block i (by omega) (by omega)⟩
theorem only_of_below {b : Nat} {w w' : World} (h : Below w.heap.size w w') : Only b w w' := ⟨h.os, h.tape, h.output, h.size, fun i hi _ => h.block i hi⟩
theorem only_set {b : Nat} {w w' : World} (h : Only b w w') (i : Nat) (v : Value) : Only b w (w'.setCell ⟨b, i, none⟩ v) :=
  ⟨h.os, h.tape, h.output, by simpa using h.size, fun k hk hb => (Below.heap_setCell w' ⟨b, i, none⟩ v k hb).trans (h.block k hk hb)⟩
theorem only_cell {b : Nat} {w w' : World} (h : Only b w w') {c o : Nat} (hc : c < w.heap.size) (hb : c ≠ b) : w'.cell? ⟨c, o, none⟩ = w.cell? ⟨c, o, none⟩ :=
  World.cell?_of_block (w := w) (a := ⟨c, o, none⟩) (h.block c hc hb)

theorem cs_same {w : World} {a : Addr} {v u : Value} (h : w.cell? a = some u) : (w.setCell a v).cell? a = some v := World.cell?_setCell_same (h := h) ..
theorem cs_other {w : World} {a b : Addr} {v : Value} (h : a ≠ b) : (w.setCell a v).cell? b = w.cell? b := World.cell?_setCell_other (h := h) ..
theorem cs_frozen {w : World} {a b : Addr} {v : Value} : (w.setCell a v).frozen? b = w.frozen? b := World.frozen?_setCell ..

/-- a writer at block b holds a text. -/
structure Wr (w : World) (b : Nat) (l : List UInt8) : Prop where
  lt : b < w.heap.size
  room : l.length ≤ 22
  at_ : w.cell? ⟨b, 22, none⟩ = some (.int .i64 ((22 - l.length : Nat) : Int))
  any : ∀ i, i < 22 → ∃ x, w.cell? ⟨b, i, none⟩ = some (.int .u8 x)
  soft : ∀ i, i ≤ 22 → w.frozen? ⟨b, i, none⟩ = false
  text : ∀ i (h : i < l.length), w.cell? ⟨b, 22 - l.length + i, none⟩ = some (.int .u8 ((l[i]).toNat : Int))

theorem wr_only_other {w w' : World} {b : Nat} {l : List UInt8} (h : Wr w b l) (hw : Below w.heap.size w w') : Wr w' b l := by
  obtain ⟨hc, hf⟩ := bcell hw
  exact ⟨Nat.lt_of_lt_of_le h.lt hw.size, h.room, (hc _ _ h.lt).trans h.at_, fun i hi => let ⟨x, hx⟩ := h.any i hi; ⟨x, (hc _ _ h.lt).trans hx⟩,
    fun i hi => (hf _ _ h.lt).trans (h.soft i hi), fun i hi => (hc _ _ h.lt).trans (h.text i hi)⟩

theorem wr_put {w w1 : World} {b n : Nat} {l : List UInt8} (c : UInt8) (h : Wr w b l) (hn : 22 - l.length = n + 1)
    (hw : Below (w.setCell ⟨b, 22, none⟩ (.int .i64 (n : Int))).heap.size (w.setCell ⟨b, 22, none⟩ (.int .i64 (n : Int))) w1) :
    Wr (w1.setCell ⟨b, n, none⟩ (.int .u8 (c.toNat : Int))) b (c :: l) ∧ Only b w (w1.setCell ⟨b, n, none⟩ (.int .u8 (c.toNat : Int))) := by
  obtain ⟨hc, hf⟩ := bcell hw
  have hs := hw.size
  simp only [World.size_setCell] at hc hf hs
  have c22 : w1.cell? ⟨b, 22, none⟩ = some (.int .i64 (n : Int)) := (hc _ _ h.lt).trans (cs_same h.at_)
  have cold : ∀ i, i < 22 → w1.cell? ⟨b, i, none⟩ = w.cell? ⟨b, i, none⟩ := fun i hi => (hc _ _ h.lt).trans (cs_other (fun e => by simp only [Addr.mk.injEq] at e; omega))
  obtain ⟨x, hx⟩ := h.any n (by omega)
  have cx := (cold n (by omega)).trans hx
  refine ⟨⟨by simp only [World.size_setCell]; exact Nat.lt_of_lt_of_le h.lt hs, by simp only [List.length_cons]; omega, ?_, ?_, ?_, ?_⟩, ?_⟩
  · rw [cs_other (fun e => by simp only [Addr.mk.injEq] at e; omega), c22]
    simp only [List.length_cons]; congr 3; omega
  · intro i hi
    by_cases hi2 : i = n
    · subst hi2; exact ⟨_, cs_same cx⟩
    · obtain ⟨y, hy⟩ := h.any i hi
      exact ⟨y, by rw [cs_other (fun e => by simp only [Addr.mk.injEq] at e; omega), cold i hi]; exact hy⟩
  · intro i hi
    rw [cs_frozen, hf _ _ h.lt, cs_frozen]; exact h.soft i hi
  · intro i hi
    cases i with
    | zero =>
      have e : 22 - (c :: l).length + 0 = n := by simp only [List.length_cons]; omega
      rw [e]; exact cs_same cx
    | succ i =>
      have hi' : i < l.length := by simpa using hi
      have e : 22 - (c :: l).length + (i + 1) = 22 - l.length + i := by simp only [List.length_cons]; omega
      rw [e, cs_other (fun e => by simp only [Addr.mk.injEq] at e; omega), cold _ (by omega)]
      simpa using h.text i hi'
  · have o1 : Only b w (w.setCell ⟨b, 22, none⟩ (.int .i64 (n : Int))) := only_set (Only.refl' b w) 22 _
    exact only_set (only_trans o1 (only_of_below hw)) _ _

set_option maxHeartbeats 800000 in
theorem put_any (b : Nat) (l : List UInt8) (c : UInt8) (w : World) (h : Wr w b l) (hl : l.length < 22) :
    Calls Try.prog 94 #[.pointer (some ⟨b, 0, none⟩), .int .u8 (c.toNat : Int)] w fun e w' => e = .returned (.tuple #[]) ∧ Only b w w' ∧ Wr w' b (c :: l) := by
  obtain ⟨n, hn⟩ : ∃ n, 22 - l.length = n + 1 := ⟨21 - l.length, by omega⟩
  have P := Lib.hid (fun w1 => wr_put (w1 := w1) c h hn)
  have hn22 : n < 22 := by omega
  obtain ⟨x, hx⟩ := h.any n (by omega)
  have h22 := h.at_
  rw [hn, Int.natCast_add, Int.natCast_one] at h22
  have f22 := h.soft 22 (by omega)
  have fx := h.soft n (by omega)
  have hb := h.lt
  clear h hn hl
  have x1 : ¬ n = 22 := by omega
  have x2 : ¬ 22 = n := by omega
  have x3 : (n : Int) < 22 := by omega
  go_enter Try.func94, Try.ntmps94
  go_wp2_with fail
  refine wp_region_quiet_tail (fun w' => ∃ x : Lower _, w' = x.val) 9 (by kernel_rfl) (by kernel_rfl) ⟨⟨_, (Below.refl _ _).drew⟩, rfl⟩ ?_
  simp only [List.take_succ_cons, List.take_zero, List.drop_succ_cons, List.drop_zero]
  repeat (go_big_quiet_step (fail))
  refine wpQuiet_nil ?_
  intro w1 hx1
  obtain ⟨x1, hx1⟩ := hx1
  have hb1 := x1.prop
  rw [← hx1] at hb1
  clear hx1 x1
  obtain ⟨hc1, hf1⟩ := bcell hb1
  have hs1 := hb1.size
  try simp at hs1
  try have hz0 : w.heap.size < w1.heap.size := by omega
  try have hz1 : w.heap.size + 1 < w1.heap.size := by omega
  try have hz2 : w.heap.size + 1 + 1 < w1.heap.size := by omega
  try have hz3 : w.heap.size + 1 + 1 + 1 < w1.heap.size := by omega
  try have hz4 : w.heap.size + 1 + 1 + 1 + 1 < w1.heap.size := by omega
  try have hz5 : w.heap.size + 1 + 1 + 1 + 1 + 1 < w1.heap.size := by omega
  go_wp2
  go_end0
  obtain ⟨p1, p2⟩ := P.out _ hb1
  exact ⟨rfl, p2, p1⟩

/-- n, at least so many digits, in front of the text. -/
def numText (n : Int) (k : Int) (l : List UInt8) : List UInt8 := padS k.toNat n.toNat ++ l

theorem put_int (b : Nat) (l : List UInt8) (d : UInt8) (c : Int) (w : World) (hc : c = (d.toNat : Int)) (h : Wr w b l) (hl : l.length < 22) :
    Calls Try.prog 94 #[.pointer (some ⟨b, 0, none⟩), .int .u8 c] w fun e w' => e = .returned (.tuple #[]) ∧ Only b w w' ∧ Wr w' b (d :: l) := by
  subst hc; exact put_any b l d w h hl

theorem numText_step {m j : Int} {l : List UInt8} (hm : 0 ≤ m) (h : 0 < m ∨ 0 < j) : numText m j l = numText (m / 10) (j - 1) (dig m.toNat :: l) := by
  unfold numText
  rw [padS_pred _ _ (by omega), List.append_assoc]
  have e1 : (j - 1).toNat = j.toNat - 1 := by omega
  have e2 : (m / 10).toNat = m.toNat / 10 := by omega
  rw [e1, e2]; rfl
theorem numText_end {j : Int} {l : List UInt8} (h : j ≤ 0) : numText 0 j l = l := by
  unfold numText
  rw [show j.toNat = 0 by omega]; rfl
theorem numText_room {m j : Int} {l : List UInt8} (hm : 0 ≤ m) (h : 0 < m ∨ 0 < j) (hl : (numText m j l).length ≤ 22) : l.length < 22 := by
  rw [numText_step hm h] at hl
  unfold numText at hl
  simp at hl
  omega
theorem dig_int (m : Int) (hm : 0 ≤ m) : 48 + m % 10 = ((dig m.toNat).toNat : Int) := by rw [dig_nat]; omega

/-- what holds at each round of 'number'. -/
structure NumRel (w : World) (b : Nat) (n k : Int) (l : List UInt8) (m j : Int) (acc : List UInt8) (wr : World) : Prop where
  lo : 0 ≤ m
  hi : m ≤ 9000000000000000000
  left : j = k + l.length - acc.length
  text : numText m j acc = numText n k l
  only : Only b w wr
  wr : Wr wr b acc

set_option maxHeartbeats 800000 in
theorem number_any (b : Nat) (l : List UInt8) (n k : Int) (w : World) (h : Wr w b l) (hn : 0 ≤ n) (hn2 : n ≤ 9000000000000000000) (hk : 0 ≤ k) (hk2 : k ≤ 100) (hl : (numText n k l).length ≤ 22) :
    Calls Try.prog 92 #[.pointer (some ⟨b, 0, none⟩), .int .i64 n, .int .i64 k] w fun e w' => e = .returned (.tuple #[]) ∧ Only b w w' ∧ Wr w' b (numText n k l) := by
  have HW := Lib.hid h; clear h
  have HL := Lib.hid hl; clear hl
  go_enter Try.func92, Try.ntmps92
  go_wp2_with fail
  go_loopw [1, 2] (fun a c wr => ∃ (m j : Int) (acc : List UInt8), a = .int .i64 m ∧ c = .int .i64 j ∧ NumRel w b n k l m j acc wr) (fun a c _ => (intOf a).toNat + (intOf c).toNat)
  case atStart => exact ⟨n, k, l, rfl, rfl, hn, hn2, by omega, rfl, Only.refl' _ _, HW.out⟩
  case round =>
    obtain ⟨m, j, acc, rfl, rfl, R⟩ := hrel
    have h1 := R.lo
    have h2 := R.hi
    have h3 : -22 ≤ j := by have := R.left; have := R.wr.room; omega
    have h4 : j ≤ 122 := by have := R.left; have := HW.out.room; omega
    have HR := Lib.hid R; clear R
    by_cases hc : 0 < m ∨ 0 < j
    · have hr := numText_room h1 hc (by rw [HR.out.text]; exact HL.out)
      have HP := Lib.hid (put_int b acc (dig m.toNat) (48 + m % 10) wr (dig_int m h1) HR.out.wr hr)
      have HT := Lib.hid (numText_step (l := acc) h1 hc)
      have hm0 := Int.emod_nonneg m (by omega : (10 : Int) ≠ 0)
      have hm1 := Int.emod_lt_of_pos m (by omega : (0 : Int) < 10)
      have hdz := Int.ediv_nonneg h1 (by omega : (0 : Int) ≤ 10)
      by_cases hmp : 0 < m
      · clear hc
        go_wp2_with fail
        refine HP.out.mono ?_
        rintro e w1 ⟨rfl, ho, hw⟩
        have Ho := Lib.hid ho; clear ho
        have Hw := Lib.hid hw; clear hw
        go_wp2
        go_roundw
        case rel => exact ⟨m / 10, j - 1, _, rfl, rfl, by omega, by omega, by have := HR.out.left; simp only [List.length_cons]; omega, by rw [← HT.out]; exact HR.out.text, only_trans HR.out.only Ho.out, Hw.out⟩
        case measure => simp [intOf]; omega
      · have hjp : 0 < j := by omega
        clear hc
        go_wp2_with fail
        refine HP.out.mono ?_
        rintro e w1 ⟨rfl, ho, hw⟩
        have Ho := Lib.hid ho; clear ho
        have Hw := Lib.hid hw; clear hw
        go_wp2
        go_roundw
        case rel => exact ⟨m / 10, j - 1, _, rfl, rfl, by omega, by omega, by have := HR.out.left; simp only [List.length_cons]; omega, by rw [← HT.out]; exact HR.out.text, only_trans HR.out.only Ho.out, Hw.out⟩
        case measure => simp [intOf]; omega
    · have hm0 : m = 0 := by omega
      have hj0 : j ≤ 0 := by omega
      subst hm0
      clear hc
      have HE := Lib.hid (numText_end (l := acc) hj0)
      have hT := HR.out.text
      rw [HE.out] at hT
      have Hacc := Lib.hid hT; clear hT
      go_wp2
      go_end0
      exact ⟨rfl, HR.out.only, by rw [← Hacc.out]; exact HR.out.wr⟩

/-- the sign in front of the text. -/
def signText (n : Int) (l : List UInt8) : List UInt8 := if n < 0 then 45 :: l else l

set_option maxHeartbeats 800000 in
theorem sign_any (b : Nat) (l : List UInt8) (n : Int) (w : World) (h : Wr w b l) (hl : l.length < 22) :
    Calls Try.prog 95 #[.pointer (some ⟨b, 0, none⟩), .int .i64 n] w fun e w' => e = .returned (.tuple #[]) ∧ Only b w w' ∧ Wr w' b (signText n l) := by
  unfold signText
  have HP := Lib.hid (put_int b l 45 45 w rfl h hl)
  have HW := Lib.hid h; clear h
  by_cases hn : n < 0
  · rw [if_pos hn]
    go_enter Try.func95, Try.ntmps95
    go_wp2_with fail
    refine HP.out.mono ?_
    rintro e w1 ⟨rfl, ho, hw⟩
    have Ho := Lib.hid ho; clear ho
    have Hw := Lib.hid hw; clear hw
    go_wp2
    go_end0
    exact ⟨rfl, Ho.out, Hw.out⟩
  · rw [if_neg hn]
    go_enter Try.func95, Try.ntmps95
    go_wp2
    go_end0
    exact ⟨rfl, Only.refl' _ _, HW.out⟩

theorem wr_new (w : World) (c : Array Value) (t : TypeId) (hz : ∀ i, i < 22 → c[i]? = some (.int .u8 0)) (h22 : c[22]? = some (.int .i64 22)) : Wr (w.alloc (.cells c t)) w.heap.size [] := by
  refine ⟨by simp, by simp, ?_, fun i hi => ⟨0, ?_⟩, fun i _ => ?_, fun i h => absurd h (by simp)⟩
  · rw [World.cell?_alloc_at (hn := rfl)]; exact h22
  · rw [World.cell?_alloc_at (hn := rfl)]; exact hz i hi
  · exact World.frozen?_alloc_at (hn := rfl) ..

set_option maxHeartbeats 800000 in
theorem newWriter_any (w : World) :
    Calls Try.prog 91 #[] w fun e w' => e = .returned (.pointer (some ⟨w.heap.size, 0, none⟩)) ∧ Below w.heap.size w w' ∧ Wr w' w.heap.size [] := by
  go_enter Try.func91, Try.ntmps91
  go_wp2
  go_ret
  refine ⟨rfl, by ((repeat' (first | exact Below.refl _ _ | assumption | refine Below.setCell ?_ ?_ _ | refine bdrewN ?_ _ | refine Below.drew ?_ | refine Below.alloc ?_ ?_ _ | refine bbehind ?_ (by assumption) ?_)); all_goals first | (simp; done) | (simp; omega) | omega), wr_new _ _ _ (fun i hi => ?_) rfl⟩
  have : i = 0 ∨ i = 1 ∨ i = 2 ∨ i = 3 ∨ i = 4 ∨ i = 5 ∨ i = 6 ∨ i = 7 ∨ i = 8 ∨ i = 9 ∨ i = 10 ∨ i = 11 ∨ i = 12 ∨ i = 13 ∨ i = 14 ∨ i = 15 ∨ i = 16 ∨ i = 17 ∨ i = 18 ∨ i = 19 ∨ i = 20 ∨ i = 21 := by omega
  rcases this with rfl | rfl | rfl | rfl | rfl | rfl | rfl | rfl | rfl | rfl | rfl | rfl | rfl | rfl | rfl | rfl | rfl | rfl | rfl | rfl | rfl | rfl <;> rfl

theorem arr22_len : Program.arrayLen Try.prog 112 = 22 := by kernel_rfl
theorem arr22_elem : Program.elem Try.prog 112 = 5 := by kernel_rfl
theorem arr22_under : (Try.prog).underlying 112 = some (.array (Program.arrayLen Try.prog 112) (Program.elem Try.prog 112)) := by kernel_rfl
theorem size_u8 (w : World) : (sizeOf 5).run Try.prog w = .ok 1 w := by kernel_rfl

/-- where the text lies: as the model says it of a slice that has no room. -/
def textAt (b n : Nat) : Addr := if 22 = n then ⟨b, 0, none⟩ else ⟨b, n, none⟩

theorem run_slice_arr (b n : Nat) (hn : n ≤ 22) (w : World) :
    (Instr.sliceAt 112 (.pointer (some ⟨b, 0, none⟩)) (some (.int .i64 (n : Int))) none none).run Try.prog w = .ok (.slice (some (textAt b n)) (22 - n) (22 - n)) w := by
  rw [run_sliceAt_array_l (ht := arr22_under) (h0 := by omega) (h1 := by rw [arr22_len]; omega), arr22_elem, size_u8, arr22_len]
  simp only [Result.andThen, slicedAt, textAt, Int.toNat_natCast, Nat.mul_one]
  split <;> simp [Addr.add] <;> omega

set_option maxHeartbeats 800000 in
theorem text_any (b : Nat) (l : List UInt8) (w : World) (h : Wr w b l) :
    Calls Try.prog 96 #[.pointer (some ⟨b, 0, none⟩)] w fun e w' => e = .returned (.string ⟨l.toArray⟩) ∧ Below w.heap.size w w' := by
  obtain ⟨n, hn⟩ : ∃ n, 22 - l.length = n := ⟨_, rfl⟩
  have hroom := h.room
  have hll : 22 - n = l.length := by omega
  have h22 := h.at_
  have hb := h.lt
  have hsl : ∀ w, (Instr.sliceAt 112 (.pointer (some ⟨b, 0, none⟩)) (some (.int .i64 (n : Int))) none none).run Try.prog w = .ok (.slice (some (textAt b n)) l.length l.length) w := fun w => by
    rw [run_slice_arr b n (by omega), hll]
  have hcv : ∀ x : Lower w, (convert 115 9 (.slice (some (textAt b n)) l.length l.length)).run Try.prog x.val = .ok (.string ⟨l.toArray⟩) x.val := fun x => by
    refine run_convert_bytes_back x.val _ _ 5 _ _ l (by kernel_rfl) (by kernel_rfl) (by kernel_rfl) fun j hj => ?_
    have e : (textAt b n).add j = ⟨b, 22 - l.length + j, none⟩ := by
      unfold textAt
      rw [if_neg (by omega), hn]
      unfold Addr.add
      split <;> simp_all
    rw [e, Lower.cell x _ _ hb]
    exact h.text j hj
  rw [hn] at h22
  clear h hn hll hroom
  generalize textAt b n = ad at *
  go_enter Try.func96, Try.ntmps96
  go_wp2_with fail
  refine wp_region_quiet_all (fun w' => ∃ x : Lower _, w' = x.val) (by kernel_rfl) (by kernel_rfl) ⟨⟨_, (Below.refl _ _).drew⟩, rfl⟩ ?_
  repeat (go_big_quiet_step (fail))
  refine wpQuiet_nil ?_
  intro w1 hx1
  obtain ⟨x1, hx1⟩ := hx1
  have hb1 := x1.prop
  rw [← hx1] at hb1
  clear hx1 x1
  obtain ⟨hc1, hf1⟩ := bcell hb1
  have hs1 := hb1.size
  try simp at hs1
  try have hz0 : w.heap.size < w1.heap.size := by omega
  try have hz1 : w.heap.size + 1 < w1.heap.size := by omega
  try have hz2 : w.heap.size + 1 + 1 < w1.heap.size := by omega
  try have hz3 : w.heap.size + 1 + 1 + 1 < w1.heap.size := by omega
  try have hz4 : w.heap.size + 1 + 1 + 1 + 1 < w1.heap.size := by omega
  try have hz5 : w.heap.size + 1 + 1 + 1 + 1 + 1 < w1.heap.size := by omega
  go_wp2
  go_ret
  exact ⟨rfl, by ((repeat' (first | exact Below.refl _ _ | assumption | refine Below.setCell ?_ ?_ _ | refine bdrewN ?_ _ | refine Below.drew ?_ | refine Below.alloc ?_ ?_ _ | refine bbehind ?_ (by assumption) ?_)); all_goals first | (simp; done) | (simp; omega) | omega)⟩
end Go.Proofs.Ytgefidffhdanhaa
