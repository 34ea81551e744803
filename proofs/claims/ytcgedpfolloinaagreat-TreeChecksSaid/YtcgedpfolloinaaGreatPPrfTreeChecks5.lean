/- What the proof of PrfTreeChecks rests on, part 5 of 10. -/
import Derived.Shelf.RegionOpenPlain
import Derived.WalkKit
import Derived.Deep.WholeRow
import Derived.Lib.BufferRead
import Derived.Laws.IdiomStrings
import Derived.Test.YtcgedpfolloinaaGreatPPrfTreeChecks4
namespace Go.Proofs.YtcgedpfolloinaaGreat
open Go.RowKit

set_option maxRecDepth 100000 in
set_option maxHeartbeats 4000000 in
theorem element_of (b : Nat) (h : Hd) (ks : Fo) (aa : Option Addr) (ca : Nat) (ak : Option Addr) (ck : Nat) (w0 : World) (hw0 : w0.heap.size ≤ b) (ha : AttrsLie w0 (.slice aa h.ats.length ca) h.ats)
    (hasc : HdAsc h) (l : List UInt8) (w : World) (hw : Below w0.heap.size w0 w) (hr : IsWr b l w) (hlen : (l ++ elemQ h ks).length ≤ 400000000)
    (HF : ∀ (l : List UInt8) (w : World), Below w0.heap.size w0 w → IsWr b l w → (l ++ foQ true ks).length ≤ 400000000 → Calls Tryz.prog 126 #[.pointer (some ⟨b, 0, none⟩), .slice ak ks.len ck] w fun e w' => e = .returned (.tuple #[]) ∧ Wring b (l ++ foQ true ks) w w') :
    Calls Tryz.prog 174 #[.pointer (some ⟨b, 0, none⟩), aggOf h aa ca ak ks.len ck] w fun e w' => e = .returned (.tuple #[]) ∧ Wring b (l ++ elemQ h ks) w w' := by
  have hbw := hr.lt
  have H0 := Lib.hid (Wring.refl hr)
  have HA := Lib.hid ha
  have HFF := Lib.hid HF
  have HASC := Lib.hid hasc
  have HW := Lib.hid hw
  have hlen1 : l.length + h.l.length + (attrsQ h.ats).length ≤ 400000000 := by simp [elemQ] at hlen; omega
  clear ha HF hasc hw hr
  unfold aggOf
  go_enter Tryz.func174, Tryz.ntmps174
  go_wp2_with fail
  have r1 : Wring b l w (w.alloc (.cells #[.int .i64 h.k, .string ⟨h.l.toArray⟩, .slice aa h.ats.length ca, .int .i64 h.n, .int .i64 h.d, .string ⟨h.x.toArray⟩, .slice ak ks.len ck] 43)) := H0.out.alloc _
  have k1 := World.alloc_heap_new w (.cells #[.int .i64 h.k, .string ⟨h.l.toArray⟩, .slice aa h.ats.length ca, .int .i64 h.n, .int .i64 h.d, .string ⟨h.x.toArray⟩, .slice ak ks.len ck] 43)
  have hs1 : (w.alloc (.cells #[.int .i64 h.k, .string ⟨h.l.toArray⟩, .slice aa h.ats.length ca, .int .i64 h.n, .int .i64 h.d, .string ⟨h.x.toArray⟩, .slice ak ks.len ck] 43)).heap.size = w.heap.size + 1 := by simp
  generalize w.alloc (.cells #[.int .i64 h.k, .string ⟨h.l.toArray⟩, .slice aa h.ats.length ca, .int .i64 h.n, .int .i64 h.d, .string ⟨h.x.toArray⟩, .slice ak ks.len ck] 43) = W1 at *
  have d1 : W1.cell? ⟨w.heap.size, 1, none⟩ = some (.string ⟨h.l.toArray⟩) := cell_of_block k1 rfl
  have hR1 : w.heap.size < W1.heap.size := by omega
  refine wp_region_quiet_tail (fun w' => ∃ x : Lower _, w' = x.val) 6 (by kernel_rfl) (by kernel_rfl) ⟨⟨_, (Below.refl _ _).drew⟩, rfl⟩ ?_
  simp only [List.take_succ_cons, List.take_zero, List.drop_succ_cons, List.drop_zero]
  repeat (go_big_quiet_step (fail))
  refine wpQuiet_nil ?_
  intro w2 hx2
  obtain ⟨x2, hx2⟩ := hx2
  have hb2 := x2.prop
  rw [← hx2] at hb2
  clear hx2 x2
  obtain ⟨hc2, hf2⟩ := bcell hb2
  have hs2 := hb2.size
  try simp at hs2
  try have hz20 : w.heap.size < w2.heap.size := by omega
  try have hz21 : w.heap.size + 1 < w2.heap.size := by omega
  try have hz22 : w.heap.size + 1 + 1 < w2.heap.size := by omega
  try have hz23 : w.heap.size + 1 + 1 + 1 < w2.heap.size := by omega
  try have hz24 : w.heap.size + 1 + 1 + 1 + 1 < w2.heap.size := by omega
  try have hz25 : w.heap.size + 1 + 1 + 1 + 1 + 1 < w2.heap.size := by omega
  try have hy1_2 : w1.heap.size < w2.heap.size := by omega
  have r2 := r1.below hb2
  have k2 := (hb2.block _ hR1).trans k1
  clear k1 d1 hb2 hc2 hf2 r1
  go_wp2_with fail
  refine (writeString_any b l h.l w2 r2.wr (by omega)).mono ?_
  rintro e w3 ⟨rfl, hr3⟩
  have r3 := r2.then hr3
  have k3 := kept_cells hr3.2.2 k2 (by decide) (by omega)
  have hs3 := hr3.2.1.size
  clear r2 k2 hr3
  have d2 : w3.cell? ⟨w.heap.size, 2, none⟩ = some (.slice aa h.ats.length ca) := cell_of_block k3 rfl
  go_wp2_with fail
  clear d2
  have hq : h.ats.length = 0 ∨ attrsQ h.ats = atsQ 40 h.ats ++ [41] := by
    unfold attrsQ; split
    · exact .inl (by assumption)
    · exact .inr rfl
  go_loopw [4, 18] (fun m i wr => ∃ j : Nat, i = .int .i64 j ∧ m = .int .u8 ((if j = 0 then 40 else 44 : UInt8).toNat : Int) ∧ j ≤ h.ats.length ∧ Wring b (l ++ h.l ++ atsQ 40 (h.ats.take j)) w wr ∧ wr.heap[w.heap.size]? = some (.cells #[.int .i64 h.k, .string ⟨h.l.toArray⟩, .slice aa h.ats.length ca, .int .i64 h.n, .int .i64 h.d, .string ⟨h.x.toArray⟩, .slice ak ks.len ck] 43 (0, 0))) (fun _ i _ => h.ats.length - (intOf i).toNat)
  case atStart =>
    exact ⟨0, rfl, rfl, Nat.zero_le _, by simpa [atsQ] using r3, k3⟩
  case round =>
    obtain ⟨j, rfl, rfl, hj, rr, kr⟩ := hrel
    have hRr : w.heap.size < wr.heap.size := (Array.getElem?_eq_some_iff.1 kr).1
    by_cases hlt : j < h.ats.length
    · have dj : decide (j < h.ats.length) = true := by simpa using hlt
      obtain ⟨ba, oa, capa, hs, -, hal2, hba, hcells⟩ := attrs_row HA.out (by omega)
      simp only [Value.slice.injEq] at hs
      obtain ⟨rfl, -, rfl⟩ := hs
      obtain ⟨c1, c2⟩ := hcells j hlt
      have hbel : Below w0.heap.size w0 wr := HW.out.trans (rr.bel.mono hw0)
      have c1 := (hbel.cell (p := ⟨ba, oa + j * 2, none⟩) hba).trans c1
      have c2 := (hbel.cell (p := ⟨ba, oa + j * 2 + 1, none⟩) hba).trans c2
      have hbar : ba < wr.heap.size := by omega
      have HTK := Lib.hid (atsQ_take 40 hlt)
      have hv128 : ∀ c ∈ (h.ats.getD j ([], [])).2, c.toNat < 128 := HASC.out.2 _ (by
        rw [List.getD_eq_getElem?_getD, List.getElem?_eq_getElem hlt, Option.getD_some]; exact List.getElem_mem _)
      have hll := congrArg List.length HTK.out
      have hll2 := atsQ_len h.ats (j + 1) 40
      have hatq : attrsQ h.ats = atsQ 40 h.ats ++ [41] := hq.resolve_left (by omega)
      have hll3 : (attrsQ h.ats).length = (atsQ 40 h.ats).length + 1 := by rw [hatq]; simp
      have hq2 := quoQ_len (h.ats.getD j ([], [])).2
      simp only [List.length_append, List.length_cons] at hll
      generalize hnm : (h.ats.getD j ([], [])).1 = nm at *
      generalize hvl : (h.ats.getD j ([], [])).2 = vl at *
      generalize hmm : (if j = 0 then 40 else 44 : UInt8) = mm at *
      have HV := Lib.hid hv128
      obtain ⟨acc, hacc⟩ : ∃ acc, l ++ h.l ++ atsQ 40 (h.ats.take j) = acc := ⟨_, rfl⟩
      have HACC := Lib.hid hacc
      have hal : acc.length = l.length + h.l.length + (atsQ 40 (h.ats.take j)).length := by rw [← hacc]; simp; omega
      rw [hacc] at rr
      clear hacc hcells hv128 hnm hvl hmm hatq hbel hs1 hR1 hs3
      have RR := Lib.hid rr
      have KR := Lib.hid kr
      clear rr kr
      go_wp2_with fail
      have r4 : Wring b acc w (wr.alloc (.cells #[.string ⟨nm.toArray⟩, .string ⟨vl.toArray⟩] 81)) := RR.out.alloc _
      have x4 := World.alloc_heap_new wr (.cells #[.string ⟨nm.toArray⟩, .string ⟨vl.toArray⟩] 81)
      have k4 := (Below.heap_alloc wr (.cells #[.string ⟨nm.toArray⟩, .string ⟨vl.toArray⟩] 81) _ (by omega)).trans KR.out
      have hs4 : (wr.alloc (.cells #[.string ⟨nm.toArray⟩, .string ⟨vl.toArray⟩] 81)).heap.size = wr.heap.size + 1 := by simp
      generalize wr.alloc (.cells #[.string ⟨nm.toArray⟩, .string ⟨vl.toArray⟩] 81) = w4 at *
      clear c1 c2 hbar
      refine (writeByte_any b acc mm w4 r4.wr (by omega)).mono ?_
      rintro e w5 ⟨rfl, hr5⟩
      have r5 := r4.then hr5
      have k5 := kept_cells hr5.2.2 k4 (by decide) (by omega)
      have x5 := kept_cells hr5.2.2 x4 (by decide) (by omega)
      have hs5 := hr5.2.1.size
      clear r4 k4 x4 hr5
      have d5 : w5.cell? ⟨wr.heap.size, 0, none⟩ = some (.string ⟨nm.toArray⟩) := cell_of_block x5 rfl
      have hX5 : wr.heap.size < w5.heap.size := by omega
      go_wp2_with fail
      refine wp_region_quiet_tail (fun w' => ∃ x : Lower _, w' = x.val) 5 (by kernel_rfl) (by kernel_rfl) ⟨⟨_, (Below.refl _ _).drew⟩, rfl⟩ ?_
      simp only [List.take_succ_cons, List.take_zero, List.drop_succ_cons, List.drop_zero]
      repeat (go_big_quiet_step (fail))
      refine wpQuiet_nil ?_
      intro w6 hx6
      obtain ⟨x6, hx6⟩ := hx6
      have hb6 := x6.prop
      rw [← hx6] at hb6
      clear hx6 x6
      obtain ⟨hc6, hf6⟩ := bcell hb6
      have hs6 := hb6.size
      try simp at hs6
      try have hz60 : w.heap.size < w6.heap.size := by omega
      try have hz61 : w.heap.size + 1 < w6.heap.size := by omega
      try have hz62 : w.heap.size + 1 + 1 < w6.heap.size := by omega
      try have hz63 : w.heap.size + 1 + 1 + 1 < w6.heap.size := by omega
      try have hz64 : w.heap.size + 1 + 1 + 1 + 1 < w6.heap.size := by omega
      try have hz65 : w.heap.size + 1 + 1 + 1 + 1 + 1 < w6.heap.size := by omega
      try have hy1_6 : w1.heap.size < w6.heap.size := by omega
      try have hy2_6 : w2.heap.size < w6.heap.size := by omega
      try have hy3_6 : w3.heap.size < w6.heap.size := by omega
      try have hy4_6 : w4.heap.size < w6.heap.size := by omega
      try have hy5_6 : w5.heap.size < w6.heap.size := by omega
      have r6 := r5.below hb6
      have k6 := (hb6.block _ (by omega)).trans k5
      have x6 := (hb6.block _ (by omega)).trans x5
      clear r5 k5 x5 hb6 hc6 hf6 d5
      go_wp2_with fail
      refine (writeString_any b _ nm w6 r6.wr (by simp; omega)).mono ?_
      rintro e w7 ⟨rfl, hr7⟩
      have r7 := r6.then hr7
      have k7 := kept_cells hr7.2.2 k6 (by decide) (by omega)
      have x7 := kept_cells hr7.2.2 x6 (by decide) (by omega)
      have hs7 := hr7.2.1.size
      clear r6 k6 x6 hr7
      go_wp2_with fail
      refine (writeByte_any b _ 61 w7 r7.wr (by simp; omega)).mono ?_
      rintro e w8 ⟨rfl, hr8⟩
      have r8 := r7.then hr8
      have k8 := kept_cells hr8.2.2 k7 (by decide) (by omega)
      have x8 := kept_cells hr8.2.2 x7 (by decide) (by omega)
      have hs8 := hr8.2.1.size
      clear r7 k7 x7 hr8
      have d8 : w8.cell? ⟨wr.heap.size, 1, none⟩ = some (.string ⟨vl.toArray⟩) := cell_of_block x8 rfl
      go_wp2_with fail
      refine (quoted_any b _ vl w8 r8.wr HV.out (by simp; omega)).mono ?_
      rintro e w9 ⟨rfl, hr9⟩
      have r9 := r8.then hr9
      have k9 := kept_cells hr9.2.2 k8 (by decide) (by omega)
      clear r8 k8 x8 hr9 d8
      go_wp2_with fail
      go_roundw
      case rel =>
        refine ⟨j + 1, by go_num, by simp, by omega, ?_, k9⟩
        have e : l ++ h.l ++ atsQ 40 (h.ats.take (j + 1)) = acc ++ [mm] ++ nm ++ [61] ++ quoQ vl := by rw [HTK.out, ← HACC.out]; simp
        rw [e]; exact r9
      case measure => simp [intOf]; omega
    · have dj : decide (j < h.ats.length) = false := by simpa using hlt
      obtain rfl : j = h.ats.length := by omega
      rw [List.take_length] at rr
      have d2 : wr.cell? ⟨w.heap.size, 2, none⟩ = some (.slice aa h.ats.length ca) := cell_of_block kr rfl
      have RR := Lib.hid rr
      have KR := Lib.hid kr
      clear rr kr
      generalize (if h.ats.length = 0 then 40 else 44 : UInt8) = mm at *
      by_cases hn0 : h.ats.length = 0
      · have hnd : decide (0 < h.ats.length) = false := decide_eq_false (by omega)
        have r5 : Wring b (l ++ h.l ++ attrsQ h.ats) w wr := by
          have e : l ++ h.l ++ attrsQ h.ats = l ++ h.l ++ atsQ 40 h.ats := by
            unfold attrsQ; rw [if_pos hn0, List.eq_nil_of_length_eq_zero hn0]; rfl
          rw [e]; exact RR.out
        have R5 := Lib.hid r5
        clear hn0 r5
        have d6 : wr.cell? ⟨w.heap.size, 6, none⟩ = some (.slice ak ks.len ck) := cell_of_block KR.out rfl
        by_cases hk0 : ks.len = 0
        · have hkd : decide (0 < ks.len) = false := by simp; omega
          have HEQ := Lib.hid (show l ++ elemQ h ks = l ++ h.l ++ attrsQ h.ats by unfold elemQ; rw [if_pos hk0]; simp)
          clear hk0
          go_wp2_with fail
          go_end0
          refine ⟨rfl, ?_⟩
          rw [HEQ.out]; exact R5.out
        · have hkd : decide (0 < ks.len) = true := by simp; omega
          have HEQ := Lib.hid (show l ++ elemQ h ks = l ++ h.l ++ attrsQ h.ats ++ [123] ++ foQ true ks ++ [125] by unfold elemQ; rw [if_neg hk0]; simp)
          have hlq := congrArg List.length HEQ.out
          simp only [List.length_append, List.length_cons, List.length_nil] at hlq hlen
          clear hk0
          go_wp2_with fail
          refine (writeByte_any b _ 123 wr (R5.out).wr (by simp; omega)).mono ?_
          rintro e y1 ⟨rfl, hy1⟩
          have q1 := (R5.out).then hy1
          have j1 := kept_cells hy1.2.2 KR.out (by decide) (by omega)
          have hsy1 := hy1.2.1.size
          clear hy1 d6
          have d6 : y1.cell? ⟨w.heap.size, 6, none⟩ = some (.slice ak ks.len ck) := cell_of_block j1 rfl
          go_wp2_with fail
          refine (HFF.out _ y1 (HW.out.trans (q1.bel.mono hw0)) q1.wr (by simp; omega)).mono ?_
          rintro e y2 ⟨rfl, hy2⟩
          have q2 := q1.trans hy2
          clear hy2
          go_wp2_with fail
          refine (writeByte_any b _ 125 y2 q2.wr (by simp; omega)).mono ?_
          rintro e y3 ⟨rfl, hy3⟩
          have q3 := q2.then hy3
          clear hy3
          go_wp2_with fail
          go_end0
          refine ⟨rfl, ?_⟩
          rw [HEQ.out]; exact q3
      · have hnd : decide (0 < h.ats.length) = true := decide_eq_true (by omega)
        have hatq := hq.resolve_left hn0
        have hatl := congrArg List.length hatq
        simp only [List.length_append, List.length_cons, List.length_nil] at hatl
        have HATQ := Lib.hid hatq
        clear hn0 hq hatq
        have hd6 : wr.cell? ⟨w.heap.size, 6, none⟩ = some (.slice ak ks.len ck) := cell_of_block KR.out rfl
        go_wp2_with fail
        refine (writeByte_any b _ 41 wr RR.out.wr (by simp; omega)).mono ?_
        rintro e w5 ⟨rfl, hr5⟩
        have r5 : Wring b (l ++ h.l ++ attrsQ h.ats) w w5 := by
          have e : l ++ h.l ++ attrsQ h.ats = l ++ h.l ++ atsQ 40 h.ats ++ [41] := by rw [HATQ.out]; simp
          rw [e]; exact RR.out.then hr5
        have k5 := kept_cells hr5.2.2 KR.out (by decide) (by omega)
        have hs5 := hr5.2.1.size
        have R5 := Lib.hid r5
        have K5 := Lib.hid k5
        clear hr5 r5 k5 d2 hd6
        have d6 : w5.cell? ⟨w.heap.size, 6, none⟩ = some (.slice ak ks.len ck) := cell_of_block K5.out rfl
        by_cases hk0 : ks.len = 0
        · have hkd : decide (0 < ks.len) = false := by simp; omega
          have HEQ := Lib.hid (show l ++ elemQ h ks = l ++ h.l ++ attrsQ h.ats by unfold elemQ; rw [if_pos hk0]; simp)
          clear hk0
          go_wp2_with fail
          go_end0
          refine ⟨rfl, ?_⟩
          rw [HEQ.out]; exact R5.out
        · have hkd : decide (0 < ks.len) = true := by simp; omega
          have HEQ := Lib.hid (show l ++ elemQ h ks = l ++ h.l ++ attrsQ h.ats ++ [123] ++ foQ true ks ++ [125] by unfold elemQ; rw [if_neg hk0]; simp)
          have hlq := congrArg List.length HEQ.out
          simp only [List.length_append, List.length_cons, List.length_nil] at hlq hlen
          clear hk0
          go_wp2_with fail
          refine (writeByte_any b _ 123 w5 (R5.out).wr (by simp; omega)).mono ?_
          rintro e y1 ⟨rfl, hy1⟩
          have q1 := (R5.out).then hy1
          have j1 := kept_cells hy1.2.2 K5.out (by decide) (by omega)
          have hsy1 := hy1.2.1.size
          clear hy1 d6
          have d6 : y1.cell? ⟨w.heap.size, 6, none⟩ = some (.slice ak ks.len ck) := cell_of_block j1 rfl
          go_wp2_with fail
          refine (HFF.out _ y1 (HW.out.trans (q1.bel.mono hw0)) q1.wr (by simp; omega)).mono ?_
          rintro e y2 ⟨rfl, hy2⟩
          have q2 := q1.trans hy2
          clear hy2
          go_wp2_with fail
          refine (writeByte_any b _ 125 y2 q2.wr (by simp; omega)).mono ?_
          rintro e y3 ⟨rfl, hy3⟩
          have q3 := q2.then hy3
          clear hy3
          go_wp2_with fail
          go_end0
          refine ⟨rfl, ?_⟩
          rw [HEQ.out]; exact q3
end Go.Proofs.YtcgedpfolloinaaGreat

namespace Go.Proofs.YtcgedpfolloinaaGreat
open Go.RowKit

/-- what a writing of so much more means, from a base on. -/
def WrF (w0 : World) (b : Nat) (v : Value) (f : Fo) : Prop :=
  ∀ (l : List UInt8) (w : World), Below w0.heap.size w0 w → IsWr b l w → (l ++ foQ true f).length ≤ 400000000 → Calls Tryz.prog 126 #[.pointer (some ⟨b, 0, none⟩), v] w fun e w' => e = .returned (.tuple #[]) ∧ Wring b (l ++ foQ true f) w w'

set_option maxRecDepth 100000 in
set_option maxHeartbeats 2000000 in
theorem wtree_of (b : Nat) (h : Hd) (ks : Fo) (aa : Option Addr) (ca : Nat) (ak : Option Addr) (ck : Nat) (w0 : World) (hw0 : w0.heap.size ≤ b) (ha : AttrsLie w0 (.slice aa h.ats.length ca) h.ats)
    (hasc : HdAsc h) (l : List UInt8) (w : World) (hw : Below w0.heap.size w0 w) (hr : IsWr b l w) (hlen : (l ++ treeQ h ks).length ≤ 400000000) (HF : WrF w0 b (.slice ak ks.len ck) ks) :
    Calls Tryz.prog 156 #[.pointer (some ⟨b, 0, none⟩), aggOf h aa ca ak ks.len ck] w fun e w' => e = .returned (.tuple #[]) ∧ Wring b (l ++ treeQ h ks) w w' := by
  have hbw := hr.lt
  have H0 := Lib.hid (Wring.refl hr)
  have EL := Lib.hid (fun l w hw hr hlen => element_of b h ks aa ca ak ck w0 hw0 ha hasc l w hw hr hlen HF)
  have HASC := Lib.hid hasc
  have HW := Lib.hid hw
  have HTQ := Lib.hid (show treeQ h ks = if h.k = 1 then printE h.n h.d else if h.k = 2 then quoQ h.x else elemQ h ks from rfl)
  clear ha HF hasc hw hr
  have k1 := World.alloc_heap_new w (.cells #[.int .i64 h.k, .string ⟨h.l.toArray⟩, .slice aa h.ats.length ca, .int .i64 h.n, .int .i64 h.d, .string ⟨h.x.toArray⟩, .slice ak ks.len ck] 43)
  have r1 : Wring b l w (w.alloc (.cells #[.int .i64 h.k, .string ⟨h.l.toArray⟩, .slice aa h.ats.length ca, .int .i64 h.n, .int .i64 h.d, .string ⟨h.x.toArray⟩, .slice ak ks.len ck] 43)) := H0.out.alloc _
  have hs1 : (w.alloc (.cells #[.int .i64 h.k, .string ⟨h.l.toArray⟩, .slice aa h.ats.length ca, .int .i64 h.n, .int .i64 h.d, .string ⟨h.x.toArray⟩, .slice ak ks.len ck] 43)).heap.size = w.heap.size + 1 := by simp
  by_cases h1 : h.k = 1
  · have hk1 : (h.k == 1) = true := by simpa using h1
    have HQ := Lib.hid (HTQ.out.trans (if_pos h1))
    have hq := congrArg List.length HQ.out
    simp only [List.length_append] at hlen
    have HR1 := Lib.hid r1
    clear r1 k1 h1
    unfold aggOf
    go_enter Tryz.func156, Tryz.ntmps156
    go_wp2_with fail
    refine (print_any h.n h.d _).mono ?_
    rintro e w2 ⟨rfl, hb2⟩
    have R2 := Lib.hid (HR1.out.below hb2)
    have hs2 := hb2.size
    clear hb2
    go_wp2_with fail
    refine (writeString_any b l _ w2 R2.out.wr (by omega)).mono ?_
    rintro e w3 ⟨rfl, hr3⟩
    have R3 := Lib.hid (R2.out.then hr3)
    clear hr3
    go_wp2_with fail
    go_end0
    refine ⟨rfl, ?_⟩
    rw [HQ.out]; exact R3.out
  · have hk1 : (h.k == 1) = false := by simpa using h1
    by_cases h2 : h.k = 2
    · have hk2 : (h.k == 2) = true := by simpa using h2
      have HQ := Lib.hid ((HTQ.out.trans (if_neg h1)).trans (if_pos h2))
      have hq := congrArg List.length HQ.out
      have hq2 := quoQ_len h.x
      simp only [List.length_append] at hlen
      have HR1 := Lib.hid r1
      clear r1 k1 h1 h2
      unfold aggOf
      go_enter Tryz.func156, Tryz.ntmps156
      go_wp2_with fail
      refine (quoted_any b l h.x _ HR1.out.wr HASC.out.1 (by omega)).mono ?_
      rintro e w3 ⟨rfl, hr3⟩
      have R3 := Lib.hid (HR1.out.then hr3)
      clear hr3
      go_wp2_with fail
      go_end0
      refine ⟨rfl, ?_⟩
      rw [HQ.out]; exact R3.out
    · have hk2 : (h.k == 2) = false := by simpa using h2
      have HQ := Lib.hid ((HTQ.out.trans (if_neg h1)).trans (if_neg h2))
      rw [HQ.out] at hlen
      have HR1 := Lib.hid r1
      clear r1 k1 h1 h2
      unfold aggOf
      go_enter Tryz.func156, Tryz.ntmps156
      go_wp2_with fail
      refine (EL.out l _ (HW.out.trans (HR1.out.bel.mono hw0)) HR1.out.wr hlen).mono ?_
      rintro e w3 ⟨rfl, hr3⟩
      have R3 := Lib.hid (HR1.out.trans hr3)
      clear hr3
      go_wp2_with fail
      go_end0
      refine ⟨rfl, ?_⟩
      rw [HQ.out]; exact R3.out

theorem foQ_take : ∀ {f : Fo} {k : Nat} {h : Hd} {ks r : Fo} (b : Bool), f.drop k = .cons h ks r → foQ b (f.take (k + 1)) = foQ b (f.take k) ++ ((if (if k = 0 then b else false) = true then [] else [32]) ++ treeQ h ks)
  | .nil, k, h, ks, r, b, e => by rw [Fo.drop_nil] at e; cases e
  | .cons h0 k0 r0, 0, h, ks, r, b, e => by
    simp only [Fo.drop, Fo.cons.injEq] at e
    obtain ⟨rfl, rfl, rfl⟩ := e
    simp [Fo.take, foQ_cons, foQ]
  | .cons h0 k0 r0, k + 1, h, ks, r, b, e => by
    simp only [Fo.drop] at e
    have := foQ_take false e
    simp only [Fo.take, foQ_cons, this]
    simp
theorem foQ_len : ∀ (f : Fo) (k : Nat) (b : Bool), (foQ b (f.take k)).length ≤ (foQ b f).length
  | .nil, k, b => by cases k <;> simp [Fo.take, foQ]
  | .cons h ks r, 0, b => by simp [Fo.take, foQ]
  | .cons h ks r, k + 1, b => by
    have := foQ_len r k false
    simp only [Fo.take, foQ_cons, List.length_append]
    omega
theorem foAsc_drop : ∀ {f : Fo} {k : Nat} {h : Hd} {ks r : Fo}, foAsc f → f.drop k = .cons h ks r → HdAsc h ∧ foAsc ks
  | .nil, k, _, _, _, _, e => by rw [Fo.drop_nil] at e; cases e
  | .cons h0 k0 r0, 0, h, ks, r, ha, e => by
    simp only [Fo.drop, Fo.cons.injEq] at e
    obtain ⟨rfl, rfl, rfl⟩ := e
    exact ⟨ha.1, ha.2.1⟩
  | .cons h0 k0 r0, k + 1, h, ks, r, ha, e => foAsc_drop ha.2.2 e

set_option maxRecDepth 100000 in
set_option maxHeartbeats 2000000 in
theorem wforest_of (b : Nat) (f : Fo) (v : Value) (w0 : World) (hw0 : w0.heap.size ≤ b) (hl : Lies w0 v f)
    (HT : ∀ k h ks, k < f.len → f.drop k = .cons h ks (f.drop (k + 1)) → ∀ aa ca ak ck (l : List UInt8) (w : World), AttrsLie w0 (.slice aa h.ats.length ca) h.ats → Lies w0 (.slice ak ks.len ck) ks → Below w0.heap.size w0 w → IsWr b l w → (l ++ treeQ h ks).length ≤ 400000000 →
      Calls Tryz.prog 156 #[.pointer (some ⟨b, 0, none⟩), aggOf h aa ca ak ks.len ck] w fun e w' => e = .returned (.tuple #[]) ∧ Wring b (l ++ treeQ h ks) w w') : WrF w0 b v f := by
  intro l w hw hr hlen
  have hbw := hr.lt
  have HL := Lib.hid hl
  have H0 := Lib.hid (Wring.refl hr)
  have HTT := Lib.hid HT
  have HW := Lib.hid hw
  have hfl := lies_len hl
  obtain ⟨a, cap, rfl⟩ := lies_form hl
  simp only [List.length_append] at hlen
  clear hl HT hr hw
  go_enter Tryz.func126, Tryz.ntmps126
  go_wp2_with fail
  go_loopw [8] (fun i wr => ∃ k : Nat, i = .int .i64 k ∧ k ≤ f.len ∧ Wring b (l ++ foQ true (f.take k)) w wr) (fun i _ => f.len - (intOf i).toNat)
  case atStart => exact ⟨0, rfl, Nat.zero_le _, by simpa [Fo.take, foQ] using H0.out⟩
  case round =>
    obtain ⟨k, rfl, hk, rr⟩ := hrel
    have hsr := rr.bel.size
    have hbr := rr.lt
    have RR := Lib.hid rr
    clear rr
    by_cases hlt : k < f.len
    · have dk : decide (k < f.len) = true := by simpa using hlt
      obtain ⟨bf, of, cap', hs, -, -, hbf, hrow⟩ := lies_row HL.out (by omega)
      simp only [Value.slice.injEq] at hs
      obtain ⟨rfl, -, rfl⟩ := hs
      obtain ⟨hd, ks, e, ⟨q0, q1, ⟨va, q2, ha'⟩, q3, q4, q5⟩, vk, q6, hlk⟩ := row_get hrow hlt
      obtain ⟨aa, ca, rfl⟩ := attrs_form ha'
      obtain ⟨ak, ck, rfl⟩ := lies_form hlk
      have hbel : Below w0.heap.size w0 wr := HW.out.trans (RR.out.bel.mono hw0)
      have r0 := (hbel.cell (p := ⟨bf, of + k * 7, none⟩) hbf).trans q0
      have r1 := (hbel.cell (p := ⟨bf, of + k * 7 + 1, none⟩) hbf).trans q1
      have r2 := (hbel.cell (p := ⟨bf, of + k * 7 + 2, none⟩) hbf).trans q2
      have r3 := (hbel.cell (p := ⟨bf, of + k * 7 + 3, none⟩) hbf).trans q3
      have r4 := (hbel.cell (p := ⟨bf, of + k * 7 + 4, none⟩) hbf).trans q4
      have r5 := (hbel.cell (p := ⟨bf, of + k * 7 + 5, none⟩) hbf).trans q5
      have r6 := (hbel.cell (p := ⟨bf, of + k * 7 + 6, none⟩) hbf).trans q6
      have hbfr : bf < wr.heap.size := by omega
      have HTK := Lib.hid (foQ_take true e)
      have hll := congrArg List.length HTK.out
      have hll2 := foQ_len f (k + 1) true
      simp only [List.length_append] at hll
      have HCT := Lib.hid (fun l W hW hr hlen => HTT.out k hd ks hlt e aa ca ak ck l W ha' hlk hW hr hlen)
      clear q0 q1 q2 q3 q4 q5 q6 ha' hlk e hrow hbel
      have b1 : Wring b (l ++ foQ true (f.take k)) w (wr.alloc (.cells #[.int .i64 hd.k, .string ⟨hd.l.toArray⟩, .slice aa hd.ats.length ca, .int .i64 hd.n, .int .i64 hd.d, .string ⟨hd.x.toArray⟩, .slice ak ks.len ck] 43)) := RR.out.alloc _
      have x1 := World.alloc_heap_new wr (.cells #[.int .i64 hd.k, .string ⟨hd.l.toArray⟩, .slice aa hd.ats.length ca, .int .i64 hd.n, .int .i64 hd.d, .string ⟨hd.x.toArray⟩, .slice ak ks.len ck] 43)
      have hs1 : (wr.alloc (.cells #[.int .i64 hd.k, .string ⟨hd.l.toArray⟩, .slice aa hd.ats.length ca, .int .i64 hd.n, .int .i64 hd.d, .string ⟨hd.x.toArray⟩, .slice ak ks.len ck] 43)).heap.size = wr.heap.size + 1 := by simp
      have B1 := Lib.hid b1
      have X1 := Lib.hid x1
      clear b1 x1
      by_cases hk0 : k = 0
      · have dk0 : decide (0 < k) = false := decide_eq_false (by omega)
        have HE := Lib.hid (show foQ true (f.take (k + 1)) = foQ true (f.take k) ++ treeQ hd ks by rw [HTK.out, if_pos (show (if k = 0 then true else false) = true by rw [if_pos hk0])]; rfl)
        clear hk0
        go_wp2_with fail
        refine (HCT.out (l ++ foQ true (f.take k)) _ (HW.out.trans (B1.out.bel.mono hw0)) B1.out.wr (by simp only [List.length_append]; omega)).mono ?_
        rintro e w3 ⟨rfl, hr3⟩
        have R3 := Lib.hid (B1.out.trans hr3)
        clear hr3
        go_wp2_with fail
        go_roundw
        case rel =>
          refine ⟨k + 1, by go_num, by omega, ?_⟩
          rw [HE.out, ← List.append_assoc]; exact R3.out
        case measure => simp [intOf]; omega
      · have dk0 : decide (0 < k) = true := decide_eq_true (by omega)
        have HE := Lib.hid (show foQ true (f.take (k + 1)) = foQ true (f.take k) ++ (32 :: treeQ hd ks) by rw [HTK.out, if_neg (show ¬ (if k = 0 then true else false) = true by rw [if_neg hk0]; decide)]; rfl)
        rw [if_neg (show ¬ (if k = 0 then true else false) = true by rw [if_neg hk0]; decide)] at hll
        simp only [List.length_cons, List.length_nil] at hll
        clear hk0
        go_wp2_with fail
        refine (writeByte_any b _ 32 _ B1.out.wr (by simp only [List.length_append]; omega)).mono ?_
        rintro e w2 ⟨rfl, hr2⟩
        have B2 := Lib.hid (B1.out.then hr2)
        have x2 := kept_cells hr2.2.2 X1.out (by decide) (by omega)
        have hs2 := hr2.2.1.size
        clear hr2
        have y0 : w2.cell? ⟨wr.heap.size, 0, none⟩ = some (.int .i64 hd.k) := cell_of_block x2 rfl
        have y1 : w2.cell? ⟨wr.heap.size, 1, none⟩ = some (.string ⟨hd.l.toArray⟩) := cell_of_block x2 rfl
        have y2 : w2.cell? ⟨wr.heap.size, 2, none⟩ = some (.slice aa hd.ats.length ca) := cell_of_block x2 rfl
        have y3 : w2.cell? ⟨wr.heap.size, 3, none⟩ = some (.int .i64 hd.n) := cell_of_block x2 rfl
        have y4 : w2.cell? ⟨wr.heap.size, 4, none⟩ = some (.int .i64 hd.d) := cell_of_block x2 rfl
        have y5 : w2.cell? ⟨wr.heap.size, 5, none⟩ = some (.string ⟨hd.x.toArray⟩) := cell_of_block x2 rfl
        have y6 : w2.cell? ⟨wr.heap.size, 6, none⟩ = some (.slice ak ks.len ck) := cell_of_block x2 rfl
        clear x2
        go_wp2_with fail
        refine (HCT.out (l ++ foQ true (f.take k) ++ [32]) w2 (HW.out.trans (B2.out.bel.mono hw0)) B2.out.wr (by simp only [List.length_append, List.length_cons, List.length_nil]; omega)).mono ?_
        rintro e w3 ⟨rfl, hr3⟩
        have R3 := Lib.hid (B2.out.trans hr3)
        clear hr3
        go_wp2_with fail
        go_roundw
        case rel =>
          refine ⟨k + 1, by go_num, by omega, ?_⟩
          have e : l ++ foQ true (f.take (k + 1)) = l ++ foQ true (f.take k) ++ [32] ++ treeQ hd ks := by rw [HE.out]; simp
          rw [e]; exact R3.out
        case measure => simp [intOf]; omega
    · have dk : decide (k < f.len) = false := by simpa using hlt
      obtain rfl : k = f.len := by omega
      have R9 := RR.out
      rw [Fo.take_len] at R9
      go_wp2_with fail
      go_end0
      exact ⟨rfl, R9⟩

theorem wforest_any (b : Nat) (w0 : World) (hw0 : w0.heap.size ≤ b) : ∀ (N : Nat) (f : Fo) (v : Value), f.size ≤ N → foAsc f → Lies w0 v f → WrF w0 b v f := by
  intro N
  induction N with
  | zero =>
    intro f v hf _ hl
    exact wforest_of b f v w0 hw0 hl (fun k h ks hk => by have := Fo.len_le_size f; omega)
  | succ N ih =>
    intro f v hf ha hl
    refine wforest_of b f v w0 hw0 hl (fun k h ks hk e aa ca ak ck l w hat hkl hw hr hlen => ?_)
    have hasc := foAsc_drop ha e
    refine wtree_of b h ks aa ca ak ck w0 hw0 hat hasc.1 l w hw hr hlen (ih ks _ ?_ hasc.2 hkl)
    have := Fo.size_app (f.take k) (f.drop k)
    rw [Fo.take_app_drop, e] at this
    simp only [Fo.size] at this
    omega
end Go.Proofs.YtcgedpfolloinaaGreat

namespace Go.Proofs.YtcgedpfolloinaaGreat
open Go.RowKit Go.Shelf

theorem u8_cells : (Tryz.prog).cellsOf 5 = 1 := by kernel_rfl

set_option maxRecDepth 100000 in
set_option maxHeartbeats 2000000 in
theorem string_some (b : Nat) (p : Value) (l : List UInt8) (w : World) (h : WrAt b p l w) (h0 : l ≠ []) :
    Calls Tryz.prog 127 #[.pointer (some ⟨b, 0, none⟩)] w fun e w' => e = .returned (.string ⟨l.toArray⟩) ∧ Below b w w' := by
  obtain ⟨v, hbk, hown, hne⟩ := h
  have hl0 : l.length ≠ 0 := by simpa using h0
  obtain ⟨g, cap, cur, rfl, hbg, hg, hnc, hcm, hcs, htake⟩ : ∃ g cap cur, v = .slice (some ⟨g, 0, none⟩) l.length cap ∧ b ≤ g ∧ w.heap[g]? = some (.cells cur 5 (0, 0)) ∧ l.length ≤ cap ∧ cap ≤ maxLen ∧ cur.size = cap * 1 ∧ cur.toList.take (l.length * 1) = Lib.byteCells l := by
    rcases hown.2 with ⟨_, hz⟩ | ⟨g, cap, cur, hv, r⟩
    · exact absurd hz hl0
    · exact ⟨g, cap, cur, hv, r⟩
  have c1 : w.drew.cell? ⟨b, 1, none⟩ = some (.slice (some ⟨g, 0, none⟩) l.length cap) := cell_of_block (w := w.drew) hbk (wr1 _ _)
  have hSD : (Builtin.unsafeSliceData_ #[92] 168 #[.slice (some ⟨g, 0, none⟩) l.length cap]).run Tryz.prog w.drew = .ok (.pointer (some ⟨g, 0, none⟩)) w.drew :=
    Lib.run_unsafeSliceData_row _ _ _ _ _ _ (by omega)
  have hUS : (Builtin.unsafeString_ #[168, 3] 9 #[.pointer (some ⟨g, 0, none⟩), .int .i64 l.length]).run Tryz.prog w.drew = .ok (.string ⟨l.toArray⟩) (w.drew.freeze ⟨g, 0, none⟩ l.length) := by
    refine Lib.run_unsafeString_row w.drew 168 3 9 5 Tryz.underlying168 u8_cells g cur.size (by have hg' : w.drew.heap[g]? = some (.cells cur 5 (0, 0)) := hg; simp [World.shape?, hg']) l h0 (by omega) (by unfold maxLen at hcm; omega) ?_
    intro j x hx
    have := hown.cells (g := g) rfl j (.int .u8 x.toNat) (by simp [Lib.byteCells, hx])
    exact this
  have mixed : (Tryz.prog).follows .mixedOrders = true := by kernel_rfl
  go_enter Tryz.func127, Tryz.ntmps127
  go_wp2
  go_region_o
  all_goals (go_wp2; go_ret; exact ⟨rfl, Lib.below_freeze (Below.drew (Below.refl b w)) (p := ⟨g, 0, none⟩) hbg _⟩)

set_option maxRecDepth 100000 in
set_option maxHeartbeats 2000000 in
theorem string_nil (b : Nat) (p : Value) (w : World) (hbk : w.heap[b]? = some (.cells (#[p, .slice none 0 0] ++ escA) 136 (0, 0))) :
    Calls Tryz.prog 127 #[.pointer (some ⟨b, 0, none⟩)] w fun e w' => e = .returned (.string ⟨#[]⟩) ∧ Below b w w' := by
  have hUS := fun (W : World) (q : Option Addr) => Lib.run_unsafeString_none (P := Tryz.prog) W 168 3 9 q
  have c1 : w.drew.cell? ⟨b, 1, none⟩ = some (.slice none 0 0) := cell_of_block (w := w.drew) hbk (wr1 _ _)
  have hSD : (Builtin.unsafeSliceData_ #[92] 168 #[.slice none 0 0]).run Tryz.prog w.drew = .ok (.pointer none) w.drew := rfl
  have mixed : (Tryz.prog).follows .mixedOrders = true := by kernel_rfl
  go_enter Tryz.func127, Tryz.ntmps127
  go_wp2
  go_region_o
  all_goals (go_wp2; go_ret; exact ⟨rfl, Below.drew (Below.refl b w)⟩)
set_option maxRecDepth 100000 in
set_option maxHeartbeats 2000000 in
theorem string_room (b g cap : Nat) (p : Value) (w : World) (hc0 : cap ≠ 0) (hbk : w.heap[b]? = some (.cells (#[p, .slice (some ⟨g, 0, none⟩) 0 cap] ++ escA) 136 (0, 0))) :
    Calls Tryz.prog 127 #[.pointer (some ⟨b, 0, none⟩)] w fun e w' => e = .returned (.string ⟨#[]⟩) ∧ Below b w w' := by
  have hUS := fun (W : World) (q : Option Addr) => Lib.run_unsafeString_none (P := Tryz.prog) W 168 3 9 q
  have c1 : w.drew.cell? ⟨b, 1, none⟩ = some (.slice (some ⟨g, 0, none⟩) 0 cap) := cell_of_block (w := w.drew) hbk (wr1 _ _)
  have hSD : (Builtin.unsafeSliceData_ #[92] 168 #[.slice (some ⟨g, 0, none⟩) 0 cap]).run Tryz.prog w.drew = .ok (.pointer (some ⟨g, 0, none⟩)) w.drew :=
    Lib.run_unsafeSliceData_row _ _ _ _ _ _ hc0
  clear hc0
  have mixed : (Tryz.prog).follows .mixedOrders = true := by kernel_rfl
  go_enter Tryz.func127, Tryz.ntmps127
  go_wp2
  go_region_o
  all_goals (go_wp2; go_ret; exact ⟨rfl, Below.drew (Below.refl b w)⟩)
set_option maxRecDepth 100000 in
set_option maxHeartbeats 2000000 in
theorem string_noroom (b g : Nat) (p : Value) (cur : Array Value) (w : World) (hBw : b ≤ w.heap.size) (hbk : w.heap[b]? = some (.cells (#[p, .slice (some ⟨g, 0, none⟩) 0 0] ++ escA) 136 (0, 0))) (hg : w.heap[g]? = some (.cells cur 5 (0, 0))) :
    Calls Tryz.prog 127 #[.pointer (some ⟨b, 0, none⟩)] w fun e w' => e = .returned (.string ⟨#[]⟩) ∧ Below b w w' := by
  have hUS := fun (W : World) (q : Option Addr) => Lib.run_unsafeString_none (P := Tryz.prog) W 168 3 9 q
  have hlt : b < w.heap.size := (Array.getElem?_eq_some_iff.1 hbk).1
  have c1 : w.drew.cell? ⟨b, 1, none⟩ = some (.slice (some ⟨g, 0, none⟩) 0 0) := cell_of_block (w := w.drew) hbk (wr1 _ _)
  have hSD : (Builtin.unsafeSliceData_ #[92] 168 #[.slice (some ⟨g, 0, none⟩) 0 0]).run Tryz.prog w.drew = .ok (.pointer (some ⟨w.drew.heap.size, 0, none⟩)) (w.drew.alloc (.view ⟨g, 0, none⟩ 5)) :=
    Lib.run_unsafeSliceData_zero w.drew _ _ 5 Tryz.underlying168 ⟨g, 0, none⟩ 0 (5, cur.size) (by have hg' : w.drew.heap[g]? = some (.cells cur 5 (0, 0)) := hg; simp [World.shape?, hg'])
  have c2 : (w.drew.alloc (.view ⟨g, 0, none⟩ 5)).cell? ⟨b, 1, none⟩ = some (.slice (some ⟨g, 0, none⟩) 0 0) :=
    cell_of_block ((Lib.alloc_old w.drew _ b hlt).trans hbk) (wr1 _ _)
  have c3 : (w.alloc (.view ⟨g, 0, none⟩ 5)).drew.cell? ⟨b, 1, none⟩ = some (.slice (some ⟨g, 0, none⟩) 0 0) := c2
  have c0 : w.cell? ⟨b, 1, none⟩ = some (.slice (some ⟨g, 0, none⟩) 0 0) := c1
  have mixed : (Tryz.prog).follows .mixedOrders = true := by kernel_rfl
  go_enter Tryz.func127, Tryz.ntmps127
  go_wp2
  go_region_o
  all_goals (go_wp2; go_ret; exact ⟨rfl, (Below.drew (Below.refl b w)).alloc hBw _⟩)

theorem string_any (b : Nat) (l : List UInt8) (w : World) (h : IsWr b l w) :
    Calls Tryz.prog 127 #[.pointer (some ⟨b, 0, none⟩)] w fun e w' => e = .returned (.string ⟨l.toArray⟩) ∧ Below b w w' := by
  obtain ⟨p, h⟩ : ∃ p, WrAt b p l w := by
    rcases h with h | h
    · exact ⟨_, h⟩
    · exact ⟨_, h⟩
  cases l with
  | nil =>
    have hlt := h.lt
    obtain ⟨v, hbk, hown, hne⟩ := h
    rcases hown.2 with ⟨rfl, _⟩ | ⟨g, cap, cur, rfl, hbg, hg, _, _, _, _⟩
    · exact string_nil b p w hbk
    · by_cases hc0 : cap = 0
      · subst hc0
        exact string_noroom b g p cur w (by omega) hbk hg
      · exact string_room b g cap p w hc0 hbk
  | cons x r => exact string_some b p (x :: r) w h (by simp)
end Go.Proofs.YtcgedpfolloinaaGreat

namespace Go.Proofs.YtcgedpfolloinaaGreat
open Go.RowKit

theorem esc_zero : escA.toList = ((Tryz.zeroCells130).toList.set 34 (.bool true)).set 92 (.bool true) := by kernel_rfl

set_option maxRecDepth 100000 in
set_option maxHeartbeats 2000000 in
theorem escaped_any (w : World) : Calls Tryz.prog 125 #[] w fun e w' => e = .returned (.agg escA) ∧ Below w.heap.size w w' := by
  have hst : Sem.run Tryz.prog (storeCells ⟨w.heap.size, 0, none⟩ (((Tryz.zeroCells130).toList.set 34 (.bool true)).set 92 (.bool true))) (w.alloc (.cells Tryz.zeroCells130 130)) = .ok () (w.alloc (.cells escA 130)) := by
    rw [← esc_zero]
    exact run_storeCells_new w _ _ escA (by kernel_rfl) (by kernel_rfl) (by kernel_rfl)
  go_enter Tryz.func125, Tryz.ntmps125
  go_wp2_with fail
  have hld := run_loadVar_new (P := Tryz.prog) w 130 escA 128 _ Tryz.underlying130 (by kernel_rfl)
  refine bodyPost_ret (v := .agg escA) (by simp [results, Tryz.results125, asAddr, hld]) rfl ?_
  exact ⟨rfl, (Below.refl _ _).alloc (Nat.le_refl _) _⟩

theorem esc_fold : Array.foldl (fun cs x => cs.setIfInBounds (2 + x.snd) x.fst) Tryz.zeroCells136 escA.zipIdx 0 128 = #[.pointer none, .slice none 0 0] ++ escA := by kernel_rfl

set_option maxRecDepth 100000 in
set_option maxHeartbeats 2000000 in
theorem written_any (f : Fo) (v : Value) (w : World) (hl : Lies w v f) (ha : foAsc f) (hlen : (foQ true f).length ≤ 400000000) :
    Calls Tryz.prog 82 #[v] w fun e w' => e = .returned (.string ⟨(foQ true f).toArray⟩) ∧ Below w.heap.size w w' := by
  have HF := Lib.hid (fun b (hb : w.heap.size ≤ b) => wforest_any b w hb f.size f v (Nat.le_refl _) ha hl)
  obtain ⟨a, cap, rfl⟩ := lies_form hl
  have hes := escA_size
  clear hl ha
  go_enter Tryz.func82, Tryz.ntmps82
  go_wp2_with fail
  refine (escaped_any _).mono ?_
  rintro e w1 ⟨rfl, hb1⟩
  have hs1 := hb1.size
  go_wp2_with fail
  rw [esc_fold]
  have hwr : IsWr w1.heap.size [] (w1.alloc (.cells (#[.pointer none, .slice none 0 0] ++ escA) 136)) :=
    .inl ⟨.slice none 0 0, World.alloc_heap_new _ _, World.ownsRow_nil _ _ _ _, by simp [Value.ownBlock]⟩
  have hB2 : Below w.heap.size w (w1.alloc (.cells (#[.pointer none, .slice none 0 0] ++ escA) 136)) := hb1.alloc hs1 _
  refine (HF.out w1.heap.size hs1 [] _ hB2 hwr (by simpa using hlen)).mono ?_
  rintro e w2 ⟨rfl, r2⟩
  have hB3 := hB2.trans (r2.bel.mono hs1)
  have R2 := Lib.hid r2
  clear hwr hB2 r2
  go_wp2_with fail
  refine (string_any w1.heap.size (foQ true f) w2 (by simpa using R2.out.wr)).mono ?_
  rintro e w3 ⟨rfl, hb3⟩
  go_wp2_with fail
  go_ret
  exact ⟨rfl, hB3.trans (hb3.mono hs1)⟩

/-- what Print gives. -/
def printF (f : Fo) : List UInt8 × Int := if foErr f ≠ 0 then ([], foErr f) else if (foQ true f).length ≤ 20000 then (foQ true f, 0) else ([], 8)

set_option maxRecDepth 100000 in
set_option maxHeartbeats 2000000 in
theorem tprint_all (f : Fo) (v : Value) (w : World) (hl : Lies w v f) (hs : Small f) (ha : foErr f = 0 → foAsc f ∧ (foQ true f).length ≤ 400000000) :
    Calls Tryz.prog 56 #[v] w fun e w' => e = .returned (.tuple #[.string ⟨(printF f).1.toArray⟩, .int .i64 (printF f).2]) ∧ Below w.heap.size w w' := by
  have CH := Lib.hid (tcheck_any f v w hl hs)
  have WR := Lib.hid (fun w1 (hw : Below w.heap.size w w1) (ha : foAsc f ∧ (foQ true f).length ≤ 400000000) => written_any f v w1 (lies_below hl hw) ha.1 ha.2)
  have HAA := Lib.hid ha
  obtain ⟨a, cap, rfl⟩ := lies_form hl
  have HP := Lib.hid (show printF f = if foErr f ≠ 0 then ([], foErr f) else if (foQ true f).length ≤ 20000 then (foQ true f, 0) else ([], 8) from rfl)
  clear hl hs ha
  generalize foErr f = er at *
  by_cases he : er = 0
  · have b0 : (er != 0) = false := by simpa using he
    have HA2 := Lib.hid (HAA.out he)
    have HQ := Lib.hid (HP.out.trans (if_neg (by simpa using he)))
    clear he
    generalize foQ true f = q at *
    go_enter Tryz.func56, Tryz.ntmps56
    go_wp2_with fail
    refine CH.out.mono ?_
    rintro e w1 ⟨rfl, hb1⟩
    go_wp2_with fail
    refine (WR.out w1 hb1 HA2.out).mono ?_
    rintro e w2 ⟨rfl, hb2⟩
    have hB := hb1.trans (hb2.mono hb1.size)
    by_cases hq : q.length ≤ 20000
    · have dq : decide ((20000 : Int) < (q.length : Int)) = false := decide_eq_false (by omega)
      have HR := Lib.hid (HQ.out.trans (if_pos hq))
      clear hq
      go_wp2_with fail
      go_ret2
      rw [HR.out]
      exact ⟨rfl, hB⟩
    · have dq : decide ((20000 : Int) < (q.length : Int)) = true := decide_eq_true (by omega)
      have HR := Lib.hid (HQ.out.trans (if_neg hq))
      clear hq
      go_wp2_with fail
      go_ret2
      rw [HR.out]
      exact ⟨rfl, hB⟩
  · have b0 : (er != 0) = true := by simpa using he
    have HQ := Lib.hid (HP.out.trans (if_pos (by simpa using he)))
    clear he
    go_enter Tryz.func56, Tryz.ntmps56
    go_wp2_with fail
    refine CH.out.mono ?_
    rintro e w1 ⟨rfl, hb1⟩
    go_wp2_with fail
    go_ret2
    rw [HQ.out]
    exact ⟨rfl, hb1⟩
end Go.Proofs.YtcgedpfolloinaaGreat

namespace Go.Proofs.YtcgedpfolloinaaGreat
open Go.RowKit

/-- what reading does to a world. -/
structure Rd (b : Nat) (t : List UInt8) (w w' : World) : Prop where
  rd : RdAt b t w'
  bel : Below b w w'
  oth : ∀ k, k < w.heap.size → k ≠ b → w'.heap[k]? = w.heap[k]?
theorem RdAt.lt {b : Nat} {l : List UInt8} {W : World} (h : RdAt b l W) : b < W.heap.size := (Array.getElem?_eq_some_iff.1 (show W.heap[b]? = _ from h)).1
theorem Rd.refl {b : Nat} {t : List UInt8} {w : World} (h : RdAt b t w) : Rd b t w w := ⟨h, Below.refl _ _, fun _ _ _ => rfl⟩
theorem Rd.trans {b : Nat} {t t' : List UInt8} {u v w : World} (h : Rd b t u v) (k : Rd b t' v w) : Rd b t' u w :=
  ⟨k.rd, h.bel.trans k.bel, fun i hi hn => (k.oth i (Nat.lt_of_lt_of_le hi h.bel.size) hn).trans (h.oth i hi hn)⟩
theorem Rd.set {b : Nat} {t : List UInt8} {u v : World} (h : Rd b t u v) (t' : List UInt8) : Rd b t' u (v.setCell ⟨b, 0, none⟩ (.string ⟨t'.toArray⟩)) :=
  ⟨h.rd.set t', h.bel.setCell (p := ⟨b, 0, none⟩) (Nat.le_refl _) _, fun i hi hn => (Below.heap_setCell _ _ _ _ hn).trans (h.oth i hi hn)⟩
theorem Rd.below {b : Nat} {t : List UInt8} {u v w : World} (h : Rd b t u v) (k : Below v.heap.size v w) : Rd b t u w := by
  have hb := h.rd.lt
  refine ⟨(k.block b hb).trans h.rd, h.bel.trans (k.mono (by omega)), fun i hi hn => (k.block i (Nat.lt_of_lt_of_le hi h.bel.size)).trans (h.oth i hi hn)⟩
end Go.Proofs.YtcgedpfolloinaaGreat

namespace Go.Proofs.YtcgedpfolloinaaGreat
open Go.RowKit Go.BigFrame

/-- a minus sign at the front. -/
def isNeg (l : List UInt8) : Bool := match l with | [] => false | c :: _ => c == 45
def bodyOf (l : List UInt8) : List UInt8 := if isNeg l then l.drop 1 else l
def factorOf (l : List UInt8) : Int := if isNeg l then -1 else 1

set_option maxHeartbeats 400000 in
theorem hasPrefix_any (l : List UInt8) (w : World) (hl : l.length ≤ 100000) :
    Calls Tryz.prog 221 #[.string ⟨l.toArray⟩, .string ⟨#[45]⟩] w fun e w' => e = .returned (.bool (isNeg l)) ∧ w = w' := by
  cases l with
  | nil =>
    go_enter Tryz.func221, Tryz.ntmps221
    go_wp2
    go_ret
    exact ⟨rfl, rfl⟩
  | cons c t =>
    simp only [List.length_cons] at hl
    go_enter Tryz.func221, Tryz.ntmps221
    go_wp2
    go_ret
    exact ⟨rfl, rfl⟩

theorem isNeg_len {l : List UInt8} (h : isNeg l = true) : 1 ≤ l.length := by
  cases l with
  | nil => cases h
  | cons c t => simp

set_option maxHeartbeats 400000 in
theorem cutPrefixLite_any (l : List UInt8) (w : World) (hl : l.length ≤ 100000) :
    Calls Tryz.prog 215 #[.string ⟨l.toArray⟩, .string ⟨#[45]⟩] w fun e w' => e = .returned (.tuple #[.string ⟨(bodyOf l).toArray⟩, .bool (isNeg l)]) ∧ w = w' := by
  unfold bodyOf
  cases h : isNeg l with
  | false =>
    go_enter Tryz.func215, Tryz.ntmps215
    go_wp2_with (go_at_call 221; refine (hasPrefix_any _ _ hl).mono ?_; rintro e w1 ⟨rfl, rfl⟩)
    go_ret2
    exact ⟨rfl, rfl⟩
  | true =>
    have h1 := isNeg_len h
    have h2 : (1 : Int) ≤ (l.length : Int) := by omega
    go_enter Tryz.func215, Tryz.ntmps215
    go_wp2_with (go_at_call 221; refine (hasPrefix_any _ _ hl).mono ?_; rintro e w1 ⟨rfl, rfl⟩)
    go_ret2
    exact ⟨rfl, rfl⟩

set_option maxHeartbeats 400000 in
theorem cutPrefix_any (l : List UInt8) (w : World) (hl : l.length ≤ 100000) :
    Calls Tryz.prog 207 #[.string ⟨l.toArray⟩, .string ⟨#[45]⟩] w fun e w' => e = .returned (.tuple #[.string ⟨(bodyOf l).toArray⟩, .bool (isNeg l)]) ∧ w = w' := by
  go_enter Tryz.func207, Tryz.ntmps207
  go_wp2_with (go_at_call 215; refine (cutPrefixLite_any _ _ hl).mono ?_; rintro e w1 ⟨rfl, rfl⟩)
  go_ret2
  exact ⟨rfl, rfl⟩

/-- what a text before a point, and one behind it, say. -/
def decR (f b : List UInt8) (s : Int) : Int × Int × Int :=
  if ((digR f 9).2 = true ∧ (digR b 9).2 = true) ∧ ¬ (1 < f.length ∧ f.getD 0 0 = 48) then lowT (s * ((valN f : Int) * p10 b.length + (valN b : Int))) (p10 b.length) else (0, 0, 1)

set_option maxHeartbeats 800000 in
theorem pdClo_any (b0 b1 b2 b3 : Nat) (s x k y : Int) (w : World) (hs : s = 1 ∨ s = -1) (hx : 0 ≤ x) (hx2 : x ≤ 999999999) (hk : 1 ≤ k) (hk2 : k ≤ 1000000000) (hy : 0 ≤ y) (hy2 : y ≤ 999999999)
    (c0 : w.cell? ⟨b0, 0, none⟩ = some (.int .i64 s)) (c1 : w.cell? ⟨b1, 0, none⟩ = some (.int .i64 x)) (c2 : w.cell? ⟨b2, 0, none⟩ = some (.int .i64 k)) (c3 : w.cell? ⟨b3, 0, none⟩ = some (.int .i64 y))
    (k0 : b0 < w.heap.size) (k1 : b1 < w.heap.size) (k2 : b2 < w.heap.size) (k3 : b3 < w.heap.size) :
    Calls Tryz.prog 218 #[.pointer (some ⟨b0, 0, none⟩), .pointer (some ⟨b1, 0, none⟩), .pointer (some ⟨b2, 0, none⟩), .pointer (some ⟨b3, 0, none⟩)] w fun e w' => e = lowEnd (s * (x * k + y)) k ∧ Below w.heap.size w w' := by
  have j0 : b0 ≤ w.heap.size := by omega
  have j1 : b1 ≤ w.heap.size := by omega
  have j2 : b2 ≤ w.heap.size := by omega
  have j3 : b3 ≤ w.heap.size := by omega
  have m1 := mul_bd9 (a := x) (b := k) (by omega) (by omega) (by omega) (by omega)
  have m3 : -2000000000000000000 ≤ s * (x * k + y) ∧ s * (x * k + y) ≤ 2000000000000000000 := by rcases hs with h | h <;> subst h <;> omega
  have hk0 : ¬ k = 0 := by omega
  clear hs
  by_cases hok : lowOk (s * (x * k + y)) k = true
  · go_enter Tryz.func218, Tryz.ntmps218
    go_wp2_with (go_at_call 219; refine (lowest_ok _ _ _ (by omega) (by omega) (by omega) (by omega) hk0 hok).mono ?_; rintro e w1 ⟨rfl, hb1⟩; obtain ⟨hc1, hf1⟩ := bcell hb1; have hs1 := hb1.size; (try simp at hs1); (try have hz0 : w.heap.size < w1.heap.size := by omega); (try have hz1 : w.heap.size + 1 < w1.heap.size := by omega); (try have hz2 : w.heap.size + 1 + 1 < w1.heap.size := by omega); (try have hz3 : w.heap.size + 1 + 1 + 1 < w1.heap.size := by omega); (try have hz4 : w.heap.size + 1 + 1 + 1 + 1 < w1.heap.size := by omega); (try have hz5 : w.heap.size + 1 + 1 + 1 + 1 + 1 < w1.heap.size := by omega))
    refine bodyPost_ret (v := .agg #[.int .i64 (lowN (s * (x * k + y)) k), .int .i64 (lowD (s * (x * k + y)) k)]) (by simp (maxDischargeDepth := 8) [results, Tryz.results218, go_sem, *]) rfl ?_
    exact ⟨(lowEnd_yes hok).symm, by ((repeat' (first | exact Below.refl _ _ | assumption | refine Below.setCell ?_ ?_ _ | refine bdrewN ?_ _ | refine Below.drew ?_ | refine Below.alloc ?_ ?_ _ | refine bbehind ?_ (by assumption) ?_)); all_goals first | (simp; done) | (simp; omega) | omega)⟩
  · go_enter Tryz.func218, Tryz.ntmps218
    go_wp2_with (go_at_call 219; refine (lowest_beyond _ _ _ (by omega) (by omega) (by omega) (by omega) hk0 hok).mono ?_; rintro e w1 ⟨rfl, hb1⟩; obtain ⟨hc1, hf1⟩ := bcell hb1; have hs1 := hb1.size; (try simp at hs1); (try have hz0 : w.heap.size < w1.heap.size := by omega); (try have hz1 : w.heap.size + 1 < w1.heap.size := by omega); (try have hz2 : w.heap.size + 1 + 1 < w1.heap.size := by omega); (try have hz3 : w.heap.size + 1 + 1 + 1 < w1.heap.size := by omega); (try have hz4 : w.heap.size + 1 + 1 + 1 + 1 < w1.heap.size := by omega); (try have hz5 : w.heap.size + 1 + 1 + 1 + 1 + 1 < w1.heap.size := by omega))
    exact ⟨rfl, (lowEnd_not hok).symm, by ((repeat' (first | exact Below.refl _ _ | assumption | refine Below.setCell ?_ ?_ _ | refine bdrewN ?_ _ | refine Below.drew ?_ | refine Below.alloc ?_ ?_ _ | refine bbehind ?_ (by assumption) ?_)); all_goals first | (simp; done) | (simp; omega) | omega)⟩

theorem bc_pd (b0 b1 b2 b3 : Nat) (s x k y : Int) (w : World) (hs : s = 1 ∨ s = -1) (hx : 0 ≤ x) (hx2 : x ≤ 999999999) (hk : 1 ≤ k) (hk2 : k ≤ 1000000000) (hy : 0 ≤ y) (hy2 : y ≤ 999999999)
    (c0 : w.cell? ⟨b0, 0, none⟩ = some (.int .i64 s)) (c1 : w.cell? ⟨b1, 0, none⟩ = some (.int .i64 x)) (c2 : w.cell? ⟨b2, 0, none⟩ = some (.int .i64 k)) (c3 : w.cell? ⟨b3, 0, none⟩ = some (.int .i64 y))
    (k0 : b0 < w.heap.size) (k1 : b1 < w.heap.size) (k2 : b2 < w.heap.size) (k3 : b3 < w.heap.size) :
    Calls Tryz.prog 217 #[.func (.func 218) #[] #[.pointer (some ⟨b0, 0, none⟩), .pointer (some ⟨b1, 0, none⟩), .pointer (some ⟨b2, 0, none⟩), .pointer (some ⟨b3, 0, none⟩)]] w fun e w' => e = .returned (.tuple #[.agg #[.int .i64 (lowT (s * (x * k + y)) k).1, .int .i64 (lowT (s * (x * k + y)) k).2.1], .int .i64 (lowT (s * (x * k + y)) k).2.2]) ∧ Below w.heap.size w w' := by
  have hf : ∀ w1, Below w.heap.size w w1 → Calls Tryz.prog 218 #[.pointer (some ⟨b0, 0, none⟩), .pointer (some ⟨b1, 0, none⟩), .pointer (some ⟨b2, 0, none⟩), .pointer (some ⟨b3, 0, none⟩)] w1 fun e w' => e = lowEnd (s * (x * k + y)) k ∧ Below w1.heap.size w1 w' := fun w1 hw => by
    obtain ⟨hc, _⟩ := bcell hw
    have hz := hw.size
    exact pdClo_any b0 b1 b2 b3 s x k y w1 hs hx hx2 hk hk2 hy hy2 ((hc _ _ k0).trans c0) ((hc _ _ k1).trans c1) ((hc _ _ k2).trans c2) ((hc _ _ k3).trans c3) (by omega) (by omega) (by omega) (by omega)
  by_cases hok : lowOk (s * (x * k + y)) k = true
  · rw [lowT_yes hok]
    exact bounded_ret _ _ _ _ w (fun w1 => by kernel_rfl) (fun w1 hw => low_yes hok (hf w1 hw))
  · rw [lowT_not hok]
    exact bounded_beyond _ _ w (fun w1 => by kernel_rfl) (fun w1 hw => low_not hok (hf w1 hw))
end Go.Proofs.YtcgedpfolloinaaGreat

namespace Go.Proofs.YtcgedpfolloinaaGreat
open Go.RowKit Go.BigFrame

theorem digR_true {l : List UInt8} {m : Int} (h : (digR l m).2 = true) : (1 ≤ l.length ∧ (l.length : Int) ≤ m) ∧ l.all isDig = true := by
  unfold digR at h
  split at h
  · assumption
  · cases h
theorem digR_false {l : List UInt8} {m : Int} (h : (digR l m).2 = false) : digR l m = (0, false) := by
  unfold digR at h ⊢
  split at h
  · cases h
  · rename_i k; rw [if_neg k]
theorem valN_bd9 {l : List UInt8} (h : l.all isDig = true) (h9 : l.length ≤ 9) : valN l ≤ 999999999 := by
  have h1 := valN_lt l h
  have h2 : (10 : Nat) ^ l.length ≤ 10 ^ 9 := Nat.pow_le_pow_right (by omega) h9
  omega
theorem decR_no {f b : List UInt8} {s : Int} (h : ¬ (((digR f 9).2 = true ∧ (digR b 9).2 = true) ∧ ¬ (1 < f.length ∧ f.getD 0 0 = 48))) : decR f b s = (0, 0, 1) := if_neg h
theorem decR_yes {f b : List UInt8} {s : Int} (h : ((digR f 9).2 = true ∧ (digR b 9).2 = true) ∧ ¬ (1 < f.length ∧ f.getD 0 0 = 48)) : decR f b s = lowT (s * ((valN f : Int) * p10 b.length + (valN b : Int))) (p10 b.length) := if_pos h

set_option maxHeartbeats 2000000 in
theorem parseDecimal_any (f b : List UInt8) (s : Int) (w : World) (hs : s = 1 ∨ s = -1) (hf : f.length ≤ 100000) (hb : b.length ≤ 100000) :
    Calls Tryz.prog 209 #[.string ⟨f.toArray⟩, .string ⟨b.toArray⟩, .int .i64 s] w fun e w' => e = .returned (.tuple #[.agg #[.int .i64 (decR f b s).1, .int .i64 (decR f b s).2.1], .int .i64 (decR f b s).2.2]) ∧ Below w.heap.size w w' := by
  have hmf : ∀ (fn : Fn) (first cap : Array Value) (w : World), (Instr.makeFunc fn first cap).run Tryz.prog w = .ok (.func fn first cap) w := fun _ _ _ _ => rfl
  have HS := Lib.hid hs; clear hs
  have D1 := Lib.hid (fun w => digits_any f 9 w hf (by omega))
  have D2 := Lib.hid (fun w => digits_any b 9 w hb (by omega))
  cases h1 : (digR f 9).2 with
  | false =>
    rw [digR_false h1] at D1
    rw [decR_no (by rw [h1]; simp)]
    clear h1
    go_enter Tryz.func209, Tryz.ntmps209
    go_wp2_with fail
    refine (D1.out _).mono ?_; rintro e w1 ⟨rfl, hb1⟩; obtain ⟨hc1, hf1⟩ := bcell hb1; have hs1 := hb1.size; (try simp at hs1); (try have hz10 : w.heap.size < w1.heap.size := by omega); (try have hz11 : w.heap.size + 1 < w1.heap.size := by omega); (try have hz12 : w.heap.size + 1 + 1 < w1.heap.size := by omega); (try have hz13 : w.heap.size + 1 + 1 + 1 < w1.heap.size := by omega); (try have hz14 : w.heap.size + 1 + 1 + 1 + 1 < w1.heap.size := by omega); (try have hz15 : w.heap.size + 1 + 1 + 1 + 1 + 1 < w1.heap.size := by omega)
    go_wp2_with fail
    refine (D2.out _).mono ?_; rintro e w2 ⟨rfl, hb2⟩; obtain ⟨hc2, hf2⟩ := bcell hb2; have hs2 := hb2.size; (try simp at hs2); (try have hz20 : w.heap.size < w2.heap.size := by omega); (try have hz21 : w.heap.size + 1 < w2.heap.size := by omega); (try have hz22 : w.heap.size + 1 + 1 < w2.heap.size := by omega); (try have hz23 : w.heap.size + 1 + 1 + 1 < w2.heap.size := by omega); (try have hz24 : w.heap.size + 1 + 1 + 1 + 1 < w2.heap.size := by omega); (try have hz25 : w.heap.size + 1 + 1 + 1 + 1 + 1 < w2.heap.size := by omega)
    go_wp2_with fail
    refine bodyPost_ret (v := .tuple #[.agg #[.int .i64 0, .int .i64 0], .int .i64 1]) (by simp (maxDischargeDepth := 8) [results, Tryz.results209, go_sem, *]) rfl ?_
    exact ⟨rfl, by ((repeat' (first | exact Below.refl _ _ | assumption | refine Below.setCell ?_ ?_ _ | refine bdrewN ?_ _ | refine Below.drew ?_ | refine Below.alloc ?_ ?_ _ | refine bbehind ?_ (by assumption) ?_)); all_goals first | (simp; done) | (simp; omega) | omega)⟩
  | true =>
    obtain ⟨⟨f1, f2⟩, f3⟩ := digR_true h1
    rw [digR_yes ⟨⟨f1, f2⟩, f3⟩] at D1
    have f4 := valN_bd9 f3 (by omega)
    cases h2 : (digR b 9).2 with
    | false =>
      rw [digR_false h2] at D2
      rw [decR_no (by rw [h2]; simp)]
      clear h1 h2
      go_enter Tryz.func209, Tryz.ntmps209
      go_wp2_with fail
      refine (D1.out _).mono ?_; rintro e w1 ⟨rfl, hb1⟩; obtain ⟨hc1, hf1⟩ := bcell hb1; have hs1 := hb1.size; (try simp at hs1); (try have hz10 : w.heap.size < w1.heap.size := by omega); (try have hz11 : w.heap.size + 1 < w1.heap.size := by omega); (try have hz12 : w.heap.size + 1 + 1 < w1.heap.size := by omega); (try have hz13 : w.heap.size + 1 + 1 + 1 < w1.heap.size := by omega); (try have hz14 : w.heap.size + 1 + 1 + 1 + 1 < w1.heap.size := by omega); (try have hz15 : w.heap.size + 1 + 1 + 1 + 1 + 1 < w1.heap.size := by omega)
      go_wp2_with fail
      refine (D2.out _).mono ?_; rintro e w2 ⟨rfl, hb2⟩; obtain ⟨hc2, hf2⟩ := bcell hb2; have hs2 := hb2.size; (try simp at hs2); (try have hz20 : w.heap.size < w2.heap.size := by omega); (try have hz21 : w.heap.size + 1 < w2.heap.size := by omega); (try have hz22 : w.heap.size + 1 + 1 < w2.heap.size := by omega); (try have hz23 : w.heap.size + 1 + 1 + 1 < w2.heap.size := by omega); (try have hz24 : w.heap.size + 1 + 1 + 1 + 1 < w2.heap.size := by omega); (try have hz25 : w.heap.size + 1 + 1 + 1 + 1 + 1 < w2.heap.size := by omega)
      go_wp2_with fail
      refine bodyPost_ret (v := .tuple #[.agg #[.int .i64 0, .int .i64 0], .int .i64 1]) (by simp (maxDischargeDepth := 8) [results, Tryz.results209, go_sem, *]) rfl ?_
      exact ⟨rfl, by ((repeat' (first | exact Below.refl _ _ | assumption | refine Below.setCell ?_ ?_ _ | refine bdrewN ?_ _ | refine Below.drew ?_ | refine Below.alloc ?_ ?_ _ | refine bbehind ?_ (by assumption) ?_)); all_goals first | (simp; done) | (simp; omega) | omega)⟩
    | true =>
      obtain ⟨⟨b1, b2⟩, b3⟩ := digR_true h2
      rw [digR_yes ⟨⟨b1, b2⟩, b3⟩] at D2
      have b4 := valN_bd9 b3 (by omega)
      obtain ⟨c, t, hft⟩ : ∃ c t, f = c :: t := by cases f with | nil => simp at f1 | cons c t => exact ⟨c, t, rfl⟩
      have e1 : (((c.toNat : Int) == 48) : Bool) = (c == 48) := u8_eq c 48 (by omega)
      by_cases hz : 1 < f.length ∧ f.getD 0 0 = 48
      · rw [decR_no (fun h => h.2 hz)]
        have hz1 : (1 : Int) < (f.length : Int) := by omega
        have hz2 : (((c.toNat : Int) == 48) : Bool) = true := by
          rw [e1]; have := hz.2; rw [hft] at this; simpa using this
        have hfl := hz.1
        clear hz e1 h1 h2
        have H0 := Lib.hid (show f[0]'(by omega) = c by subst hft; rfl)
        clear hft
        obtain ⟨hq, hx⟩ : ∃ hq : 0 < f.length, f[0]'hq = c := ⟨by omega, H0.out⟩
        go_enter Tryz.func209, Tryz.ntmps209
        go_wp2_with fail
        refine (D1.out _).mono ?_; rintro e w1 ⟨rfl, hb1⟩; obtain ⟨hc1, hf1⟩ := bcell hb1; have hs1 := hb1.size; (try simp at hs1); (try have hz10 : w.heap.size < w1.heap.size := by omega); (try have hz11 : w.heap.size + 1 < w1.heap.size := by omega); (try have hz12 : w.heap.size + 1 + 1 < w1.heap.size := by omega); (try have hz13 : w.heap.size + 1 + 1 + 1 < w1.heap.size := by omega); (try have hz14 : w.heap.size + 1 + 1 + 1 + 1 < w1.heap.size := by omega); (try have hz15 : w.heap.size + 1 + 1 + 1 + 1 + 1 < w1.heap.size := by omega)
        go_wp2_with fail
        refine (D2.out _).mono ?_; rintro e w2 ⟨rfl, hb2⟩; obtain ⟨hc2, hf2⟩ := bcell hb2; have hs2 := hb2.size; (try simp at hs2); (try have hz20 : w.heap.size < w2.heap.size := by omega); (try have hz21 : w.heap.size + 1 < w2.heap.size := by omega); (try have hz22 : w.heap.size + 1 + 1 < w2.heap.size := by omega); (try have hz23 : w.heap.size + 1 + 1 + 1 < w2.heap.size := by omega); (try have hz24 : w.heap.size + 1 + 1 + 1 + 1 < w2.heap.size := by omega); (try have hz25 : w.heap.size + 1 + 1 + 1 + 1 + 1 < w2.heap.size := by omega)
        go_wp2_with fail
        refine bodyPost_ret (v := .tuple #[.agg #[.int .i64 0, .int .i64 0], .int .i64 1]) (by simp (maxDischargeDepth := 8) [results, Tryz.results209, go_sem, *]) rfl ?_
        exact ⟨rfl, by ((repeat' (first | exact Below.refl _ _ | assumption | refine Below.setCell ?_ ?_ _ | refine bdrewN ?_ _ | refine Below.drew ?_ | refine Below.alloc ?_ ?_ _ | refine bbehind ?_ (by assumption) ?_)); all_goals first | (simp; done) | (simp; omega) | omega)⟩
      · rw [decR_yes ⟨⟨h1, h2⟩, hz⟩]
        have pb := p10_bd b.length (by omega)
        have D3 := Lib.hid (fun b0 b1' b2' b3' w => bc_pd b0 b1' b2' b3' s (valN f : Int) (p10 b.length) (valN b : Int) w HS.out (by omega) (by omega) pb.1 pb.2 (by omega) (by omega))
        have T1 := Lib.hid (fun w => tenTo_any b.length w (by omega))
        have H0 := Lib.hid (show f[0]'(by omega) = c by subst hft; rfl)
        have Hzz := Lib.hid (show ¬ (1 < f.length ∧ c = 48) by intro h; apply hz; rw [hft]; exact ⟨by rw [hft] at h; exact h.1, h.2⟩)
        clear hft hz
        generalize hL : lowT (s * ((valN f : Int) * p10 b.length + (valN b : Int))) (p10 b.length) = L at *
        have HL := Lib.hid hL; clear hL h1 h2
        by_cases hl1 : 1 < f.length
        · have hl1' : (1 : Int) < (f.length : Int) := by omega
          have hz2 : (((c.toNat : Int) == 48) : Bool) = false := by
            rw [e1]; have := Hzz.out; simp at this; simpa using this hl1
          clear e1
          obtain ⟨hq, hx⟩ : ∃ hq : 0 < f.length, f[0]'hq = c := ⟨by omega, H0.out⟩
          go_enter Tryz.func209, Tryz.ntmps209
          go_wp2_with fail
          refine (D1.out _).mono ?_; rintro e w1 ⟨rfl, hb1⟩; obtain ⟨hc1, hf1⟩ := bcell hb1; have hs1 := hb1.size; (try simp at hs1); (try have hz10 : w.heap.size < w1.heap.size := by omega); (try have hz11 : w.heap.size + 1 < w1.heap.size := by omega); (try have hz12 : w.heap.size + 1 + 1 < w1.heap.size := by omega); (try have hz13 : w.heap.size + 1 + 1 + 1 < w1.heap.size := by omega); (try have hz14 : w.heap.size + 1 + 1 + 1 + 1 < w1.heap.size := by omega); (try have hz15 : w.heap.size + 1 + 1 + 1 + 1 + 1 < w1.heap.size := by omega)
          go_wp2_with fail
          refine (D2.out _).mono ?_; rintro e w2 ⟨rfl, hb2⟩; obtain ⟨hc2, hf2⟩ := bcell hb2; have hs2 := hb2.size; (try simp at hs2); (try have hz20 : w.heap.size < w2.heap.size := by omega); (try have hz21 : w.heap.size + 1 < w2.heap.size := by omega); (try have hz22 : w.heap.size + 1 + 1 < w2.heap.size := by omega); (try have hz23 : w.heap.size + 1 + 1 + 1 < w2.heap.size := by omega); (try have hz24 : w.heap.size + 1 + 1 + 1 + 1 < w2.heap.size := by omega); (try have hz25 : w.heap.size + 1 + 1 + 1 + 1 + 1 < w2.heap.size := by omega)
          have hy1 : w1.heap.size < w2.heap.size := by omega
          go_wp2_with fail
          refine (T1.out _).mono ?_
          rintro e w' ⟨rfl, rfl⟩
          go_wp2_with fail
          refine (D3.out _ _ _ _ _ (by simp (maxDischargeDepth := 8) [go_sem, *]) (by simp (maxDischargeDepth := 8) [go_sem, *]) (by simp (maxDischargeDepth := 8) [go_sem, *]) (by simp (maxDischargeDepth := 8) [go_sem, *]) (by first | assumption | (simp; done) | (simp; omega) | omega) (by first | assumption | (simp; done) | (simp; omega) | omega) (by first | assumption | (simp; done) | (simp; omega) | omega) (by first | assumption | (simp; done) | (simp; omega) | omega)).mono ?_
          rintro e w3 ⟨rfl, hb3⟩
          obtain ⟨hc3, hf3⟩ := bcell hb3
          have hs3 := hb3.size
          simp at hs3
          have hz33 : w.heap.size + 1 < w3.heap.size := by omega
          go_wp2
          refine bodyPost_ret (v := .tuple #[.agg #[.int .i64 (L).1, .int .i64 (L).2.1], .int .i64 (L).2.2]) (by simp (maxDischargeDepth := 8) [results, Tryz.results209, go_sem, *]) rfl ?_
          exact ⟨rfl, by ((repeat' (first | exact Below.refl _ _ | assumption | refine Below.setCell ?_ ?_ _ | refine bdrewN ?_ _ | refine Below.drew ?_ | refine Below.alloc ?_ ?_ _ | refine bbehind ?_ (by assumption) ?_)); all_goals first | (simp; done) | (simp; omega) | omega)⟩
        · have hl1' : ¬ (1 : Int) < (f.length : Int) := by omega
          clear hl1 e1
          obtain ⟨hq, hx⟩ : ∃ hq : 0 < f.length, f[0]'hq = c := ⟨by omega, H0.out⟩
          go_enter Tryz.func209, Tryz.ntmps209
          go_wp2_with fail
          refine (D1.out _).mono ?_; rintro e w1 ⟨rfl, hb1⟩; obtain ⟨hc1, hf1⟩ := bcell hb1; have hs1 := hb1.size; (try simp at hs1); (try have hz10 : w.heap.size < w1.heap.size := by omega); (try have hz11 : w.heap.size + 1 < w1.heap.size := by omega); (try have hz12 : w.heap.size + 1 + 1 < w1.heap.size := by omega); (try have hz13 : w.heap.size + 1 + 1 + 1 < w1.heap.size := by omega); (try have hz14 : w.heap.size + 1 + 1 + 1 + 1 < w1.heap.size := by omega); (try have hz15 : w.heap.size + 1 + 1 + 1 + 1 + 1 < w1.heap.size := by omega)
          go_wp2_with fail
          refine (D2.out _).mono ?_; rintro e w2 ⟨rfl, hb2⟩; obtain ⟨hc2, hf2⟩ := bcell hb2; have hs2 := hb2.size; (try simp at hs2); (try have hz20 : w.heap.size < w2.heap.size := by omega); (try have hz21 : w.heap.size + 1 < w2.heap.size := by omega); (try have hz22 : w.heap.size + 1 + 1 < w2.heap.size := by omega); (try have hz23 : w.heap.size + 1 + 1 + 1 < w2.heap.size := by omega); (try have hz24 : w.heap.size + 1 + 1 + 1 + 1 < w2.heap.size := by omega); (try have hz25 : w.heap.size + 1 + 1 + 1 + 1 + 1 < w2.heap.size := by omega)
          have hy1 : w1.heap.size < w2.heap.size := by omega
          go_wp2_with fail
          refine (T1.out _).mono ?_
          rintro e w' ⟨rfl, rfl⟩
          go_wp2_with fail
          refine (D3.out _ _ _ _ _ (by simp (maxDischargeDepth := 8) [go_sem, *]) (by simp (maxDischargeDepth := 8) [go_sem, *]) (by simp (maxDischargeDepth := 8) [go_sem, *]) (by simp (maxDischargeDepth := 8) [go_sem, *]) (by first | assumption | (simp; done) | (simp; omega) | omega) (by first | assumption | (simp; done) | (simp; omega) | omega) (by first | assumption | (simp; done) | (simp; omega) | omega) (by first | assumption | (simp; done) | (simp; omega) | omega)).mono ?_
          rintro e w3 ⟨rfl, hb3⟩
          obtain ⟨hc3, hf3⟩ := bcell hb3
          have hs3 := hb3.size
          simp at hs3
          have hz33 : w.heap.size + 1 < w3.heap.size := by omega
          go_wp2
          refine bodyPost_ret (v := .tuple #[.agg #[.int .i64 (L).1, .int .i64 (L).2.1], .int .i64 (L).2.2]) (by simp (maxDischargeDepth := 8) [results, Tryz.results209, go_sem, *]) rfl ?_
          exact ⟨rfl, by ((repeat' (first | exact Below.refl _ _ | assumption | refine Below.setCell ?_ ?_ _ | refine bdrewN ?_ _ | refine Below.drew ?_ | refine Below.alloc ?_ ?_ _ | refine bbehind ?_ (by assumption) ?_)); all_goals first | (simp; done) | (simp; omega) | omega)⟩
end Go.Proofs.YtcgedpfolloinaaGreat
